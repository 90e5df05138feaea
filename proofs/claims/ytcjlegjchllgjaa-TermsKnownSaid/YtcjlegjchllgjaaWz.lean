/- TermsKnown: for all terms, spans of grades and of staples, and every month the law returns true (whether the bale may be delivered, and what its invoice comes to, or the errors, are those of the reference, and the terms stay), and each argument reads afterwards as before. No condition. -/
import Derived.Test.YtcjlegjchllgjaaW02
import Derived.Test.YtcjlegjchllgjaaChecked
import Derived.Tactics2
import Derived.OpenShut
import Derived.ProofKit
import Derived.Test.YtcjlegjchllgjaaRows
import Derived.WalkKit
import Derived.ChangeOld
import Derived.ShutString
section
set_option linter.unusedVariables false
set_option linter.unusedSimpArgs false
namespace Go.Proofs.Ytcjlegjchllgjaa
open Go Go.Fw
set_option maxRecDepth 10000
theorem falls_iff' : ∀ (l : List Int), falls l ↔ ∀ q a b, l[q]? = some a → l[q + 1]? = some b → b ≤ a
  | [] => by simp [falls]
  | [x] => ⟨fun _ q a b _ h2 => by simp at h2, fun _ => trivial⟩
  | x :: y :: l => by
    have ih := falls_iff' (y :: l)
    show (y ≤ x ∧ falls (y :: l)) ↔ _
    rw [ih]
    constructor
    · rintro ⟨h1, h2⟩ q a b ha hb
      cases q with
      | zero => simp at ha hb; subst ha hb; exact h1
      | succ q => exact h2 q a b (by simpa using ha) (by simpa using hb)
    · intro h
      exact ⟨h 0 x y rfl rfl, fun q a b ha hb => h (q + 1) a b (by simpa using ha) (by simpa using hb)⟩
set_option maxHeartbeats 8000000 in
theorem rterms_spec (T : Tm) (p : Pt) (H : List Row) (hT : TmOk H T p) : Fc Try.prog 66 [.agg (cTm T p).toArray] H (fun v H' => v = .bool (decide (tmOk T)) ∧ H' = H) := by
  have l1 := hT.l1
  have l2 := hT.l2
  have hT1 : ∀ Z : List Row, TmOk (Z ++ H) T p := fun Z => hT.sub (fun _ h => List.mem_append_right _ h)
  obtain ⟨a1, c1, a2, c2⟩ := p
  refine Fc.mk (callable Try.call66) Try.func66 rfl Try.ntmps66 rfl ?_; dsimp only [fr]
  repeat' (first | (refine XO.op rfl ?_; (first | ((first | refine Xo.ng rfl ?_ | (refine Xo.g rfl rfl ?_; with_reducible refine Xw.ff ?_)); (first | (refine Xg.call (EnF.st rfl (Args.cons rfl (Args.cons rfl (Args.cons rfl Args.nil)))) rfl rfl (w4_spec _ _ _ _) ?_; rintro _ H9 ⟨rfl, hH9⟩; subst H9) | (refine Xg.call (EnF.st rfl (Args.cons rfl Args.nil)) rfl rfl (nine_spec T.G a1 c1 _ (hT1 [_]).gr l1) ?_; rintro _ H9 ⟨rfl, hH9⟩; subst H9) | (refine Xg.call (EnF.st rfl (Args.cons rfl Args.nil)) rfl rfl (nine_spec T.S a2 c2 _ (hT1 [_]).st l2) ?_; rintro _ H9 ⟨rfl, hH9⟩; subst H9) | (refine Xg.ev (EvF.move rfl rfl) rfl rfl ?_) | (refine Xg.ev (EvF.assign rfl rfl) rfl rfl ?_) | (refine Xg.ev (EvF.pickT rfl rfl rfl) rfl rfl ?_) | (refine Xg.ev (EvF.pickF rfl rfl rfl) rfl rfl ?_) | (refine Xg.ev (EvF.not rfl rfl) rfl rfl ?_) | (refine Xg.ev (EvF.fieldAddr rfl rfl (te rfl) rfl (te rfl) (by decide)) rfl rfl ?_) | (refine Xg.ev (EvF.loadV rfl rfl (LoadV.own (te rfl) rfl (List.Mem.head _) rfl)) rfl rfl ?_) | (refine Xg.st (StF.boxAgg rfl rfl) rfl rfl ?_; rintro _ _ ⟨bx, rfl, rfl⟩))) | (refine Xo.g rfl rfl ?_; (first | (with_reducible refine Xw.tf rfl rfl ?_) | (with_reducible refine Xw.caseN (fun h => ?_) (fun h => ?_) <;> simp only [h, decide_true, decide_false, Bool.not_true, Bool.not_false, and_self, and_true, true_and, and_false, false_and]))))) | (refine XO.done rfl ?_; refine hK _ _ ?_; clear hK K) | refine X.seq rfl ?_ | refine X.region rfl (fun K hK => ?_) | refine X.block rfl ?_ | refine X.skip rfl ?_ | refine X.ret rfl ?_ | (refine X.ite rfl rfl (fun hc => ?_); (first | (with_reducible refine Xb.t hc ?_) | (with_reducible refine Xb.caseN hc (fun h => ?_) (fun h => ?_))) <;> clear hc))
  any_goals (refine ret_one (by first | exact .inr rfl | exact .inl rfl) Try.results66 rfl (H' := H) (by (repeat (first | exact List.Sublist.refl _ | apply List.Sublist.cons)); done) ?_; simp only [and_true, true_and]; congr 1; symm; exact decide_eq_false (fun q => by have := q.cls; have := q.num; first | omega | exact absurd q.gr (by assumption) | exact absurd q.st (by assumption)))
  have hG : tab T.G := by assumption
  have hS : tab T.S := by assumption
  have hg9 : 1 ≤ T.g ∧ T.g ≤ 9 := by assumption
  have hs9 : 1 ≤ T.s ∧ T.s ≤ 9 := by assumption
  have hpr : 1 ≤ T.price ∧ T.price ≤ 1000000 := by assumption
  have g1 := hG.1
  have g2 := hS.1
  obtain ⟨b1, o1, _, he1, _⟩ := hT.gr.elem (i := 0) (by omega)
  obtain ⟨b2, o2, _, he2, _⟩ := hT.st.elem (i := 0) (by omega)
  simp only at he1 he2
  subst he1 he2
  refine X.lp rfl (fun m F' H' => ∃ k : Nat, m = 9 - k ∧ k < 9 ∧ (∀ j x y, j < k → T.G[j]? = some x → T.G[j + 1]? = some y → y ≤ x) ∧ (∀ j x y, j < k → T.S[j]? = some x → T.S[j + 1]? = some y → x ≤ y) ∧ H' = ⟨bx, 0, cTm T ⟨some ⟨b1, o1, none⟩, c1, some ⟨b2, o2, none⟩, c2⟩, some 28, 11⟩ :: H ∧
      F' = [(1, .pointer (some ⟨bx, 0, none⟩)), (3, .int .i64 (k + 1 : Nat))])
    9 [(1, .pointer (some ⟨bx, 0, none⟩)), (3, .int .i64 (0 + 1 : Nat))] _ (by (repeat (first | exact Sub.nil _ | refine Sub.cons rfl ?_)); done) (List.Sublist.refl _) ⟨0, by omega, by omega, (fun j x y hj => absurd hj (by omega)), (fun j x y hj => absurd hj (by omega)), rfl, rfl⟩ ?_
  rintro _ _ _ ⟨k, rfl, hk, hn, hn2, rfl, rfl⟩
  repeat' (first | (refine XO.op rfl ?_; (first | ((first | refine Xo.ng rfl ?_); (first | (refine Xg.ev (EvF.move rfl rfl) rfl rfl ?_) | (refine Xg.ev (EvF.cmp rfl rfl rfl rfl) rfl rfl ?_) | (refine Xg.ev (EvF.sub64 rfl rfl rfl (by omega) (by omega)) rfl rfl ?_) | (refine Xg.ev (EvF.fieldAddr rfl rfl (te rfl) rfl (te rfl) (by decide)) rfl rfl ?_) | (refine Xg.ev (EvF.indexSlice rfl rfl rfl (te rfl) (te rfl) (by omega) (by omega)) rfl rfl ?_) | (refine Xg.ev (EvF.loadV rfl rfl (LoadV.own (te rfl) rfl (List.Mem.head _) rfl)) rfl rfl ?_))))) | (refine XO.done rfl ?_; refine hK _ _ ?_; clear hK K) | refine X.seq rfl ?_ | refine X.region rfl (fun K hK => ?_) | refine X.block rfl ?_ | (refine X.brk rfl ?_; repeat (first | refine blockX_hit rfl ?_ | refine blockX_miss (by decide) ?_)) | refine X.skip rfl ?_ | (refine X.ite rfl rfl (fun hc => ?_); (first | (with_reducible refine Xb.case hc (fun h => ?_) (fun h => ?_))) <;> clear hc))
  · have hk8 : k + 1 < 9 := by omega
    obtain ⟨x, hx⟩ : ∃ x, T.G[k]? = some x := ⟨_, List.getElem?_eq_getElem (by omega)⟩
    obtain ⟨y, hy⟩ : ∃ x, T.G[k + 1]? = some x := ⟨_, List.getElem?_eq_getElem (by omega)⟩
    obtain ⟨x', hx'⟩ : ∃ x, T.S[k]? = some x := ⟨_, List.getElem?_eq_getElem (by omega)⟩
    obtain ⟨y', hy'⟩ : ∃ x, T.S[k + 1]? = some x := ⟨_, List.getElem?_eq_getElem (by omega)⟩
    have ek : ((k + 1 : Nat) : Int) - 1 = (k : Int) := by omega
    have hgx : T.G[(((k + 1 : Nat) : Int) - 1).toNat]? = some x := by rw [ek]; exact hx
    have hsx : T.S[(((k + 1 : Nat) : Int) - 1).toNat]? = some x' := by rw [ek]; exact hx'
    repeat' (first | (refine XO.op rfl ?_; (first | ((first | refine Xo.ng rfl ?_); (first | (refine Xg.ev (EvF.move rfl rfl) rfl rfl ?_) | (refine Xg.ev (EvF.assign rfl rfl) rfl rfl ?_) | (refine Xg.ev (EvF.add64 rfl rfl rfl (by omega) (by omega)) rfl rfl ?_))))) | (refine XO.done rfl ?_; refine hK _ _ ?_; clear hK K) | (refine XQ.op rfl ?_; (first | ((first | refine Yo.ng rfl ?_ | (refine Yo.g rfl rfl ?_; with_reducible refine Yw.ff ?_)); (first | (refine Yg.ev (EvF.indexSlice rfl rfl rfl (te rfl) (te rfl) (by omega) (by omega)) rfl rfl ?_) | (refine Yg.ev (EvF.loadV rfl rfl (LoadV.el0 (hT1 [_]).gr hgx (te rfl) rfl (fun _ hm => hm) rfl)) rfl rfl ?_) | (refine Yg.ev (EvF.loadV rfl rfl (LoadV.el0 (hT1 [_]).st hsx (te rfl) rfl (fun _ hm => hm) rfl)) rfl rfl ?_) | (refine Yg.ev (EvF.loadV rfl rfl (LoadV.el0 (n := k + 1) (hT1 [_]).gr hy (te rfl) rfl (fun _ h => h) rfl)) rfl rfl ?_) | (refine Yg.ev (EvF.loadV rfl rfl (LoadV.el0 (n := k + 1) (hT1 [_]).st hy' (te rfl) rfl (fun _ h => h) rfl)) rfl rfl ?_) | (refine Yg.ev (EvF.move rfl rfl) rfl rfl ?_) | (refine Yg.ev (EvF.pickT rfl rfl rfl) rfl rfl ?_) | (refine Yg.ev (EvF.pickF rfl rfl rfl) rfl rfl ?_) | (refine Yg.ev (EvF.cmp rfl rfl rfl rfl) rfl rfl ?_) | (refine Yg.ev (EvF.sub64 rfl rfl rfl (by omega) (by omega)) rfl rfl ?_) | (refine Yg.ev (EvF.fieldAddr rfl rfl (te rfl) rfl (te rfl) (by decide)) rfl rfl ?_) | (refine Yg.ev (EvF.loadV rfl rfl (LoadV.own (te rfl) rfl (List.Mem.head _) rfl)) rfl rfl ?_))) | (refine Yo.g rfl rfl ?_; (first | (with_reducible refine Yw.tf rfl rfl ?_) | (with_reducible refine Yw.case (fun h => ?_) (fun h => ?_) <;> simp only [h, decide_true, decide_false, Bool.not_true, Bool.not_false, and_self, and_true, true_and, and_false, false_and]))))) | (refine XQ.done rfl ?_; refine hK _ ?_; clear hK K) | refine X.seq rfl ?_ | refine X.region rfl (fun K hK => ?_) | refine X.regionD rfl mixed (by kernel_rfl) (fun K hK => ?_) | refine X.skip rfl ?_ | refine X.ret rfl ?_ | (refine X.ite rfl rfl (fun hc => ?_); (first | (with_reducible refine Xb.t hc ?_) | (with_reducible refine Xb.case hc (fun h => ?_) (fun h => ?_))) <;> clear hc))
    · refine ret_one (by first | exact .inr rfl | exact .inl rfl) Try.results66 rfl (H' := H) (by (repeat (first | exact List.Sublist.refl _ | apply List.Sublist.cons)); done) ?_; simp only [and_true, true_and]
      congr 1; symm; exact decide_eq_false (fun q => by have := (falls_iff' _).1 q.ord.1 k x y hx hy; omega)
    · refine ret_one (by first | exact .inr rfl | exact .inl rfl) Try.results66 rfl (H' := H) (by (repeat (first | exact List.Sublist.refl _ | apply List.Sublist.cons)); done) ?_; simp only [and_true, true_and]
      congr 1; symm; exact decide_eq_false (fun q => by have := (grows_iff _).1 q.ord.2 k x' y' hx' hy'; omega)
    · refine ⟨_, [(1, .pointer (some ⟨bx, 0, none⟩)), (3, .int .i64 (k + 1 + 1 : Nat))], _, (by (repeat (first | exact Sub.nil _ | refine Sub.cons rfl ?_)); done), List.Sublist.refl _, ⟨k + 1, rfl, by omega, (fun j u v hj hu hv => ?_), (fun j u v hj hu hv => ?_), rfl, rfl⟩, by omega⟩
      · rcases Nat.lt_or_ge j k with h1 | h1
        · exact hn j u v h1 hu hv
        · obtain rfl : j = k := by omega
          rw [hx] at hu; rw [hy] at hv; cases hu; cases hv; omega
      · rcases Nat.lt_or_ge j k with h1 | h1
        · exact hn2 j u v h1 hu hv
        · obtain rfl : j = k := by omega
          rw [hx'] at hu; rw [hy'] at hv; cases hu; cases hv; omega
  · have hG8 : falls T.G := (falls_iff' _).2 (fun q a b ha hb => hn q a b (by have := (List.getElem?_eq_some_iff.1 hb).1; omega) ha hb)
    have hS8 : grows T.S := (grows_iff _).2 (fun q a b ha hb => hn2 q a b (by have := (List.getElem?_eq_some_iff.1 hb).1; omega) ha hb)
    have q1 := at1_get hg9 g1
    have q2 := at1_get hs9 g2
    repeat' (first | (refine XO.op rfl ?_; (first | ((first | refine Xo.ng rfl ?_ | (refine Xo.g rfl rfl ?_; with_reducible refine Xw.ff ?_)); (first | (refine Xg.ev (EvF.indexSlice rfl rfl rfl (te rfl) (te rfl) (by omega) (by omega)) rfl rfl ?_) | (refine Xg.ev (EvF.loadV rfl rfl (LoadV.el0 (hT1 [_]).gr q1 (te rfl) rfl (fun _ hm => hm) rfl)) rfl rfl ?_) | (refine Xg.ev (EvF.loadV rfl rfl (LoadV.el0 (hT1 [_]).st q2 (te rfl) rfl (fun _ hm => hm) rfl)) rfl rfl ?_) | (refine Xg.call (EnF.st rfl (Args.cons rfl (Args.cons rfl (Args.cons rfl Args.nil)))) rfl rfl (w4_spec _ _ _ _) ?_; rintro _ H9 ⟨rfl, hH9⟩; subst H9) | (refine Xg.ev (EvF.build (cs := cCl ⟨T.worst, T.short⟩) rfl (ArgsP.cons rfl (ArgsP.cons rfl ArgsP.nil)) (te rfl) (Places.cons (te rfl) (Places.cons (te rfl) Places.nil)) Try.zeroValue23 rfl) rfl rfl ?_) | (refine Xg.call (EnF.st rfl (Args.cons rfl (Args.cons rfl Args.nil))) rfl rfl (rvalue_spec T _ ⟨T.worst, T.short⟩ _ (hT1 [_]) hG hS (by omega) (show 1 ≤ T.worst ∧ T.worst ≤ 9 by omega) (show 1 ≤ T.short ∧ T.short ≤ 9 by omega)) ?_; rintro _ H9 ⟨rfl, hH9⟩; subst H9) | (refine Xg.ev (EvF.move rfl rfl) rfl rfl ?_) | (refine Xg.ev (EvF.assign rfl rfl) rfl rfl ?_) | (refine Xg.ev (EvF.pickT rfl rfl rfl) rfl rfl ?_) | (refine Xg.ev (EvF.pickF rfl rfl rfl) rfl rfl ?_) | (refine Xg.ev (EvF.cmp rfl rfl rfl rfl) rfl rfl ?_) | (refine Xg.ev (EvF.sub64 rfl rfl rfl (by omega) (by omega)) rfl rfl ?_) | (refine Xg.ev (EvF.not rfl rfl) rfl rfl ?_) | (refine Xg.ev (EvF.fieldAddr rfl rfl (te rfl) rfl (te rfl) (by decide)) rfl rfl ?_) | (refine Xg.ev (EvF.loadV rfl rfl (LoadV.own (te rfl) rfl (List.Mem.head _) rfl)) rfl rfl ?_) | (refine Xg.ev (EvF.loadV rfl rfl (LoadV.whole (te rfl) rfl (List.Mem.head _) rfl)) rfl rfl ?_))) | (refine Xo.g rfl rfl ?_; (first | (with_reducible refine Xw.tf rfl rfl ?_) | (with_reducible refine Xw.caseN (fun h => ?_) (fun h => ?_) <;> simp only [h, decide_true, decide_false, Bool.not_true, Bool.not_false, and_self, and_true, true_and, and_false, false_and]))))) | (refine XO.done rfl ?_; refine hK _ _ ?_; clear hK K) | refine X.seq rfl ?_ | refine X.region rfl (fun K hK => ?_) | refine X.skip rfl ?_ | refine X.ret rfl ?_ | (refine X.ite rfl rfl (fun hc => ?_); (first | (with_reducible refine Xb.t hc ?_) | (with_reducible refine Xb.caseN hc (fun h => ?_) (fun h => ?_))) <;> clear hc))
    all_goals (refine ret_one (by first | exact .inr rfl | exact .inl rfl) Try.results66 rfl (H' := H) (by (repeat (first | exact List.Sublist.refl _ | apply List.Sublist.cons)); done) ?_; simp only [and_true, true_and])
    all_goals first
      | (congr 1; symm; exact decide_eq_false (fun q => by have := q.cls; have := q.num; have := q.zero; omega))
      | (congr 1; exact decide_eq_decide.2 ⟨fun q => ⟨by omega, by omega, hG, hS, ⟨hG8, hS8⟩, ⟨by omega, by omega⟩, q⟩, fun q => q.least⟩)
def clsE (c : Cl) : Int := if 1 ≤ c.g ∧ c.g ≤ 9 then (if 1 ≤ c.s ∧ c.s ≤ 9 then 0 else 42) else 41
end Go.Proofs.Ytcjlegjchllgjaa
end
section
set_option linter.unusedVariables false
set_option linter.unusedSimpArgs false
namespace Go.Proofs.Ytcjlegjchllgjaa
open Go Go.Fw
set_option maxRecDepth 10000
noncomputable instance : DecidableEq Sp := fun _ _ => Classical.propDecidable _
noncomputable instance : DecidableEq Cl := fun _ _ => Classical.propDecidable _
noncomputable instance : DecidableEq Tm := fun _ _ => Classical.propDecidable _
theorem eqI (d : Nat) (a b : Int) (w : World) : (Op.equalIn (d + 1) 3 (.int .i64 a) (.int .i64 b)).run Try.prog w = .ok (decide (a = b)) w := by
  rw [run_equalIn_int w d 3 .i64 .i64 a b (by kernel_rfl)]
  by_cases h : a = b <;> simp [h]
theorem eqSp (d : Nat) (e f : Sp) (w : World) : (Op.equalIn (d + 2) 26 (.agg (cSp e).toArray) (.agg (cSp f).toArray)).run Try.prog w = .ok (decide (e = f)) w := by
  have hS : Try.prog.underlying 26 = some (.struct (Try.prog.fieldsOf 26)) := by kernel_rfl
  rw [run_equalIn_agg w (d + 1) 26 _ _ hS (by kernel_rfl)]
  simp only [Program.fieldsOf, Try.underlying26]
  go_simp
  obtain ⟨e1, e2⟩ := e
  obtain ⟨f1, f2⟩ := f
  by_cases h1 : e1 = f1 <;> by_cases h2 : e2 = f2 <;> simp [cSp, eqI, Result.andThen, h1, h2]
theorem eqCl (d : Nat) (e f : Cl) (w : World) : (Op.equalIn (d + 2) 23 (.agg (cCl e).toArray) (.agg (cCl f).toArray)).run Try.prog w = .ok (decide (e = f)) w := by
  have hS : Try.prog.underlying 23 = some (.struct (Try.prog.fieldsOf 23)) := by kernel_rfl
  rw [run_equalIn_agg w (d + 1) 23 _ _ hS (by kernel_rfl)]
  simp only [Program.fieldsOf, Try.underlying23]
  go_simp
  obtain ⟨e1, e2⟩ := e
  obtain ⟨f1, f2⟩ := f
  by_cases h1 : e1 = f1 <;> by_cases h2 : e2 = f2 <;> simp [cCl, eqI, Result.andThen, h1, h2]
theorem sameInts_spec (l m : List Int) (a a' : Option Addr) (c c' : Nat) (H : List Row) (hl : SlE H a cI 1 l) (hm : SlE H a' cI 1 m) (hb : l.length ≤ 1000000) (hb' : m.length ≤ 1000000) :
    Fc Try.prog 40 [.slice a l.length c, .slice a' m.length c'] H (fun v H' => v = .bool (decide (l = m)) ∧ H' = H) := by
  refine Fc.mk (callable Try.call40) Try.func40 rfl Try.ntmps40 rfl ?_; dsimp only [fr]
  repeat' (first | (refine XO.op rfl ?_; (first | ((first | refine Xo.ng rfl ?_ | (refine Xo.g rfl rfl ?_; with_reducible refine Xw.ff ?_)); (first | (refine Xg.ev (EvF.move rfl rfl) rfl rfl ?_) | (refine Xg.ev (EvF.assign rfl rfl) rfl rfl ?_) | (refine Xg.ev (EvF.pickT rfl rfl rfl) rfl rfl ?_) | (refine Xg.ev (EvF.pickF rfl rfl rfl) rfl rfl ?_) | (refine Xg.ev (EvF.cmp rfl rfl rfl rfl) rfl rfl ?_) | (refine Xg.ev (EvF.fieldAddr rfl rfl (te rfl) rfl (te rfl) (by decide)) rfl rfl ?_) | (refine Xg.ev (EvF.lenSlice rfl rfl (te rfl)) rfl rfl ?_) | (refine Xg.ev (EvF.loadV rfl rfl (LoadV.own (te rfl) rfl (List.Mem.head _) rfl)) rfl rfl ?_) | (refine Xg.st (StF.boxAgg rfl rfl) rfl rfl ?_; rintro _ _ ⟨bx, rfl, rfl⟩))) | (refine Xo.g rfl rfl ?_; (first | (with_reducible refine Xw.tf rfl rfl ?_) | (with_reducible refine Xw.case (fun h => ?_) (fun h => ?_) <;> simp only [h, decide_true, decide_false, Bool.not_true, Bool.not_false, and_self, and_true, true_and, and_false, false_and]))))) | (refine XO.done rfl ?_; refine hK _ _ ?_; clear hK K) | refine X.seq rfl ?_ | refine X.region rfl (fun K hK => ?_) | refine X.block rfl ?_ | refine X.skip rfl ?_ | refine X.ret rfl ?_ | (refine X.ite rfl rfl (fun hc => ?_); (first | (with_reducible refine Xb.caseN hc (fun h => ?_) (fun h => ?_))) <;> clear hc))
  · refine ret_one (by first | exact .inr rfl | exact .inl rfl) Try.results40 rfl (H' := H) (by (repeat (first | exact List.Sublist.refl _ | apply List.Sublist.cons)); done) ?_; simp only [and_true, true_and]
    congr 1; symm; exact decide_eq_false (fun q => by subst q; omega)
  have hlm : l.length = m.length := by omega
  refine X.lp rfl (fun q F' H' => ∃ k : Nat, q = l.length - k ∧ k ≤ l.length ∧ (l = m ↔ l.drop k = m.drop k) ∧ H = H' ∧
      F' = [(0, .slice a l.length c), (1, .slice a' m.length c'), (5, .int .i64 k)])
    l.length [(0, .slice a l.length c), (1, .slice a' m.length c'), (5, .int .i64 (0 : Nat))] _ (by (repeat (first | exact Sub.nil _ | refine Sub.cons rfl ?_)); done) (by (repeat (first | exact List.Sublist.refl _ | apply List.Sublist.cons_cons | apply List.Sublist.cons)); done) ⟨0, by omega, by omega, by simp, rfl, rfl⟩ ?_
  rintro _ _ H2 ⟨k, rfl, hk, hn, hH, rfl⟩
  subst hH
  repeat' (first | (refine XO.op rfl ?_; (first | ((first | refine Xo.ng rfl ?_); (first | (refine Xg.ev (EvF.move rfl rfl) rfl rfl ?_) | (refine Xg.ev (EvF.assign rfl rfl) rfl rfl ?_) | (refine Xg.ev (EvF.cmp rfl rfl rfl rfl) rfl rfl ?_) | (refine Xg.ev (EvF.lenSlice rfl rfl (te rfl)) rfl rfl ?_))))) | (refine XO.done rfl ?_; refine hK _ _ ?_; clear hK K) | refine X.seq rfl ?_ | refine X.region rfl (fun K hK => ?_) | refine X.block rfl ?_ | (refine X.brk rfl ?_; repeat (first | refine blockX_hit rfl ?_ | refine blockX_miss (by decide) ?_)) | refine X.skip rfl ?_ | refine X.ret rfl ?_ | (refine X.ite rfl rfl (fun hc => ?_); (first | (with_reducible refine Xb.case hc (fun h => ?_) (fun h => ?_))) <;> clear hc))
  · obtain ⟨b, off, e, rfl, he⟩ := hl.elem (i := k) (by omega)
    obtain ⟨b2, off2, f, rfl, hf⟩ := hm.elem (i := k) (by omega)
    rw [drop_cons he, drop_cons hf, List.cons.injEq] at hn
    repeat' (first | (refine XO.op rfl ?_; (first | ((first | refine Xo.ng rfl ?_); (first | (refine Xg.ev (EvF.move rfl rfl) rfl rfl ?_) | (refine Xg.ev (EvF.assign rfl rfl) rfl rfl ?_) | (refine Xg.ev (EvF.add64 rfl rfl rfl (by omega) (by omega)) rfl rfl ?_))))) | (refine XO.done rfl ?_; refine hK _ _ ?_; clear hK K) | (refine XQ.op rfl ?_; (first | ((first | refine Yo.ng rfl ?_); (first | (refine Yg.ev (EvF.indexSlice rfl rfl rfl (te rfl) (te rfl) (by omega) (by omega)) rfl rfl ?_) | (refine Yg.ev (EvF.loadV rfl rfl (LoadV.el0 hl he (te rfl) rfl (fun _ hm => hm) rfl)) rfl rfl ?_) | (refine Yg.ev (EvF.loadV rfl rfl (LoadV.el0 hm hf (te rfl) rfl (fun _ hm => hm) rfl)) rfl rfl ?_) | (refine Yg.ev (EvF.move rfl rfl) rfl rfl ?_) | (refine Yg.ev (EvF.cmp rfl rfl rfl rfl) rfl rfl ?_))))) | (refine XQ.done rfl ?_; refine hK _ ?_; clear hK K) | refine X.seq rfl ?_ | refine X.region rfl (fun K hK => ?_) | refine X.regionD rfl mixed (by kernel_rfl) (fun K hK => ?_) | refine X.skip rfl ?_ | refine X.ret rfl ?_ | (refine X.ite rfl rfl (fun hc => ?_); (first | (with_reducible refine Xb.caseN hc (fun h => ?_) (fun h => ?_))) <;> clear hc))
    all_goals first
      | (refine ret_one (by first | exact .inr rfl | exact .inl rfl) Try.results40 rfl (H' := H) (by (repeat (first | exact List.Sublist.refl _ | apply List.Sublist.cons)); done) ?_; simp only [and_true, true_and]; congr 1; symm; exact decide_eq_false (fun q => absurd (hn.1 q).1 (by assumption)))
      | (refine ⟨_, _, _, (by (repeat (first | exact Sub.nil _ | refine Sub.cons rfl ?_)); done), (by (repeat (first | exact List.Sublist.refl _ | apply List.Sublist.cons_cons | apply List.Sublist.cons)); done), ⟨k + 1, rfl, by omega, hn.trans (and_iff_right (by assumption)), rfl, rfl⟩, by omega⟩)
  · rw [List.drop_eq_nil_of_le (by omega), List.drop_eq_nil_of_le (by omega)] at hn
    refine ret_one (by first | exact .inr rfl | exact .inl rfl) Try.results40 rfl (H' := H) (by (repeat (first | exact List.Sublist.refl _ | apply List.Sublist.cons)); done) ?_; simp only [and_true, true_and]
    congr 1; symm; exact decide_eq_true (hn.2 rfl)
theorem Tm.ext' {R S : Tm} (h1 : R.g = S.g) (h2 : R.s = S.s) (h3 : R.price = S.price) (h4 : R.worst = S.worst) (h5 : R.short = S.short) (h6 : R.G = S.G) (h7 : R.S = S.S) (h8 : R.dl = S.dl) (h9 : R.dh = S.dh) (h10 : R.bales = S.bales) (h11 : R.fee = S.fee) : R = S := by
  cases R; cases S; simp_all
set_option maxHeartbeats 4000000 in
theorem sameT_spec (T U : Tm) (p q : Pt) (H : List Row) (hT : TmOk H T p) (hU : TmOk H U q) : Fc Try.prog 18 [.agg (cTm T p).toArray, .agg (cTm U q).toArray] H (fun v H' => v = .bool (decide (T = U)) ∧ H' = H) := by
  have hT2 : ∀ Z : List Row, TmOk (Z ++ H) T p := fun Z => hT.sub (fun _ h => List.mem_append_right _ h)
  have hU2 : ∀ Z : List Row, TmOk (Z ++ H) U q := fun Z => hU.sub (fun _ h => List.mem_append_right _ h)
  refine Fc.mk (callable Try.call18) Try.func18 rfl Try.ntmps18 rfl ?_; dsimp only [fr]
  repeat' (first | (refine XO.op rfl ?_; (first | ((first | refine Xo.ng rfl ?_ | (refine Xo.g rfl rfl ?_; with_reducible refine Xw.tt ?_)); (first | (refine Xg.ev (EvF.loadV rfl rfl (LoadV.ownAgg (vs := cCl ⟨T.g, T.s⟩) (te rfl) rfl (List.Mem.tail _ (List.Mem.head _)) rfl rfl)) rfl rfl ?_) | (refine Xg.ev (EvF.loadV rfl rfl (LoadV.ownAgg (vs := cCl ⟨U.g, U.s⟩) (te rfl) rfl (List.Mem.head _) rfl rfl)) rfl rfl ?_) | (refine Xg.ev (EvF.loadV rfl rfl (LoadV.ownAgg (vs := cSp ⟨T.dl, T.dh⟩) (te rfl) rfl (List.Mem.tail _ (List.Mem.head _)) rfl rfl)) rfl rfl ?_) | (refine Xg.ev (EvF.loadV rfl rfl (LoadV.ownAgg (vs := cSp ⟨U.dl, U.dh⟩) (te rfl) rfl (List.Mem.head _) rfl rfl)) rfl rfl ?_) | (refine Xg.ev (EvF.eqSt rfl rfl rfl (by kernel_rfl) (fun w => eqCl 9998 ⟨T.g, T.s⟩ ⟨U.g, U.s⟩ w) rfl) rfl rfl ?_) | (refine Xg.ev (EvF.eqSt rfl rfl rfl (by kernel_rfl) (fun w => eqSp 9998 ⟨T.dl, T.dh⟩ ⟨U.dl, U.dh⟩ w) rfl) rfl rfl ?_) | (refine Xg.call (EnF.st rfl (Args.cons rfl (Args.cons rfl Args.nil))) rfl rfl (sameInts_spec T.G U.G p.a1 q.a1 p.c1 q.c1 _ (hT2 [_, _]).gr (hU2 [_, _]).gr hT.l1 hU.l1) ?_; rintro _ H9 ⟨rfl, hH9⟩; subst H9) | (refine Xg.call (EnF.st rfl (Args.cons rfl (Args.cons rfl Args.nil))) rfl rfl (sameInts_spec T.S U.S p.a2 q.a2 p.c2 q.c2 _ (hT2 [_, _]).st (hU2 [_, _]).st hT.l2 hU.l2) ?_; rintro _ H9 ⟨rfl, hH9⟩; subst H9) | (refine Xg.ev (EvF.move rfl rfl) rfl rfl ?_) | (refine Xg.ev (EvF.assign rfl rfl) rfl rfl ?_) | (refine Xg.ev (EvF.pickT rfl rfl rfl) rfl rfl ?_) | (refine Xg.ev (EvF.pickF rfl rfl rfl) rfl rfl ?_) | (refine Xg.ev (EvF.cmp rfl rfl rfl rfl) rfl rfl ?_) | (refine Xg.ev (EvF.fieldAddr rfl rfl (te rfl) rfl (te rfl) (by decide)) rfl rfl ?_) | (refine Xg.ev (EvF.loadV rfl rfl (LoadV.own (te rfl) rfl (List.Mem.head _) rfl)) rfl rfl ?_) | (refine Xg.ev (EvF.loadV rfl rfl (LoadV.own (te rfl) rfl (List.Mem.tail _ (List.Mem.head _)) rfl)) rfl rfl ?_) | (refine Xg.st (StF.boxAgg rfl rfl) rfl rfl ?_; rintro _ _ ⟨bx, rfl, rfl⟩))) | (refine Xo.g rfl rfl ?_; (first | (with_reducible refine Xw.ft rfl rfl ?_) | (with_reducible refine Xw.case (fun h => ?_) (fun h => ?_) <;> simp only [h, decide_true, decide_false, Bool.not_true, Bool.not_false, and_self, and_true, true_and, and_false, false_and]))))) | (refine XO.done rfl ?_; refine hK _ _ ?_; clear hK K) | refine X.seq rfl ?_ | refine X.region rfl (fun K hK => ?_) | refine X.ret rfl ?_)
  all_goals (refine ret_one (by first | exact .inr rfl | exact .inl rfl) Try.results18 rfl (H' := H) (by (repeat (first | exact List.Sublist.refl _ | apply List.Sublist.cons)); done) ?_; simp only [and_true, true_and])
  all_goals (congr 1; (try simp only [Cl.mk.injEq, Sp.mk.injEq] at *))
  all_goals first
    | (symm; exact decide_eq_false (fun q => by subst q; simp_all; done))
    | (exact decide_eq_decide.2 ⟨fun q => Tm.ext' (by omega) (by omega) (by omega) (by omega) (by omega) (by assumption) (by assumption) (by omega) (by omega) (by omega) (by omega), fun q => by subst q; rfl⟩)
theorem great_spec (T : Tm) (p : Pt) (H : List Row) : Fc Try.prog 10 [.agg (cTm T p).toArray] H (fun v H' => v = .bool (decide (T.G.length > 30 ∨ T.S.length > 30)) ∧ H' = H) := by
  refine Fc.mk (callable Try.call10) Try.func10 rfl Try.ntmps10 rfl ?_; dsimp only [fr]
  repeat' (first | (refine XO.op rfl ?_; (first | ((first | refine Xo.ng rfl ?_ | (refine Xo.g rfl rfl ?_; with_reducible refine Xw.ff ?_)); (first | (refine Xg.ev (EvF.move rfl rfl) rfl rfl ?_) | (refine Xg.ev (EvF.assign rfl rfl) rfl rfl ?_) | (refine Xg.ev (EvF.pickT rfl rfl rfl) rfl rfl ?_) | (refine Xg.ev (EvF.pickF rfl rfl rfl) rfl rfl ?_) | (refine Xg.ev (EvF.cmp rfl rfl rfl rfl) rfl rfl ?_) | (refine Xg.ev (EvF.fieldAddr rfl rfl (te rfl) rfl (te rfl) (by decide)) rfl rfl ?_) | (refine Xg.ev (EvF.lenSlice rfl rfl (te rfl)) rfl rfl ?_) | (refine Xg.ev (EvF.loadV rfl rfl (LoadV.own (te rfl) rfl (List.Mem.head _) rfl)) rfl rfl ?_) | (refine Xg.st (StF.boxAgg rfl rfl) rfl rfl ?_; rintro _ _ ⟨bx, rfl, rfl⟩))) | (refine Xo.g rfl rfl ?_; (first | (with_reducible refine Xw.tf rfl rfl ?_) | (with_reducible refine Xw.case (fun h => ?_) (fun h => ?_) <;> simp only [h, decide_true, decide_false, Bool.not_true, Bool.not_false, and_self, and_true, true_and, and_false, false_and]))))) | (refine XO.done rfl ?_; refine hK _ _ ?_; clear hK K) | refine X.seq rfl ?_ | refine X.region rfl (fun K hK => ?_) | refine X.block rfl ?_ | refine X.skip rfl ?_ | refine X.ret rfl ?_ | (refine X.ite rfl rfl (fun hc => ?_); (first | (with_reducible refine Xb.caseN hc (fun h => ?_) (fun h => ?_))) <;> clear hc))
  all_goals (refine ret_one (by first | exact .inr rfl | exact .inl rfl) Try.results10 rfl (H' := H) (by (repeat (first | exact List.Sublist.refl _ | apply List.Sublist.cons)); done) ?_; simp only [and_true, true_and])
  all_goals (congr 1; simp only [decide_eq_decide, eq_comm (a := true), decide_eq_true_eq]; omega)
end Go.Proofs.Ytcjlegjchllgjaa
end
section
set_option linter.unusedVariables false
set_option linter.unusedSimpArgs false
namespace Go.Proofs.Ytcjlegjchllgjaa
open Go Go.Fw
set_option maxRecDepth 10000
def tsTw : List TOp := [⟨some 3, [], [], []⟩, ⟨some 4, [], [], []⟩, ⟨some 5, [1], [1], []⟩, ⟨some 6, [0, 1, 2], [0, 2], [0]⟩, ⟨some 7, [], [], []⟩, ⟨some 8, [], [], []⟩, ⟨some 9, [5], [5], []⟩, ⟨some 10, [0, 1, 2, 3, 4, 5, 6], [4, 6], [4]⟩, ⟨some 11, [0, 1, 2, 3, 5, 6], [], []⟩, ⟨none, [0, 1, 2, 3, 4, 5, 6, 7, 8], [8, 3], [12]⟩, ⟨some 12, [0, 1, 2, 3, 4, 5, 6, 7, 8, 9], [], []⟩, ⟨none, [0, 1, 2, 3, 4, 5, 6, 7, 8, 9, 10], [10, 7], [9]⟩, ⟨none, [], [], []⟩]
def valTw (b1 b2 : Nat) (T : Tm) (p : Pt) (k : Nat) (env : Env) : Value :=
  match k with
  | 0 => .slice (some ⟨(env 0).1, 0, none⟩) 0 0
  | 1 => .pointer (some ⟨b1, 5, none⟩)
  | 2 => .slice p.a1 T.G.length p.c1
  | 3 => .slice (some ⟨(env 3).1, 0, none⟩) T.G.length (env 3).2
  | 4 => .slice (some ⟨(env 4).1, 0, none⟩) 0 0
  | 5 => .pointer (some ⟨b1, 6, none⟩)
  | 6 => .slice p.a2 T.S.length p.c2
  | 7 => .slice (some ⟨(env 7).1, 0, none⟩) T.S.length (env 7).2
  | 8 => .pointer (some ⟨b1, 5, none⟩)
  | 9 => undef
  | 10 => .pointer (some ⟨b1, 6, none⟩)
  | 11 => undef
  | _ => undef
def rowsTw (b1 b2 : Nat) (T : Tm) (p : Pt) (k : Nat) (env : Env) : List Row :=
  match k with
  | 0 => [⟨(env 0).1, 0, [], some 3, 0 * 1⟩]
  | 3 => [⟨(env 3).1, 0, T.G.flatMap cI, some 3, (env 3).2 * 1⟩]
  | 4 => [⟨(env 4).1, 0, [], some 3, 0 * 1⟩]
  | 7 => [⟨(env 7).1, 0, T.S.flatMap cI, some 3, (env 7).2 * 1⟩]
  | 9 => [⟨b1, 0, cTm T ⟨some ⟨(env 3).1, 0, none⟩, (env 3).2, p.a2, p.c2⟩, some 28, 11⟩]
  | 11 => [⟨b1, 0, cTm T ⟨some ⟨(env 3).1, 0, none⟩, (env 3).2, some ⟨(env 7).1, 0, none⟩, (env 7).2⟩, some 28, 11⟩]
  | 12 => [⟨b1, 0, cTm T p, some 28, 11⟩]
  | _ => []
theorem locTw (b1 b2 : Nat) (T : Tm) (p : Pt) : ∀ k env i q9, i ≠ k → (tAt tsTw k).sup.contains i = false → valTw b1 b2 T p k (upd env i q9) = valTw b1 b2 T p k env ∧ rowsTw b1 b2 T p k (upd env i q9) = rowsTw b1 b2 T p k env := by
  intro k env i q hk hs
  have hu : ∀ j, j ≠ i → upd env i q j = env j := fun j hj => by unfold upd; rw [if_neg hj]
  match k, hk, hs with
  | 0, hk, hs => exact ⟨by simp only [valTw, hu 0 (fun e => hk e.symm)], by simp only [rowsTw, hu 0 (fun e => hk e.symm)]⟩
  | 1, _, _ => exact ⟨rfl, rfl⟩
  | 2, _, _ => exact ⟨rfl, rfl⟩
  | 3, hk, hs => exact ⟨by simp only [valTw, hu 3 (fun e => hk e.symm)], by simp only [rowsTw, hu 3 (fun e => hk e.symm)]⟩
  | 4, hk, hs => exact ⟨by simp only [valTw, hu 4 (fun e => hk e.symm)], by simp only [rowsTw, hu 4 (fun e => hk e.symm)]⟩
  | 5, _, _ => exact ⟨rfl, rfl⟩
  | 6, _, _ => exact ⟨rfl, rfl⟩
  | 7, hk, hs => exact ⟨by simp only [valTw, hu 7 (fun e => hk e.symm)], by simp only [rowsTw, hu 7 (fun e => hk e.symm)]⟩
  | 8, _, _ => exact ⟨rfl, rfl⟩
  | 9, hk, hs => exact ⟨by simp only [valTw, hu 3 (by rintro rfl; cases hs)], by simp only [rowsTw, hu 3 (by rintro rfl; cases hs)]⟩
  | 10, _, _ => exact ⟨rfl, rfl⟩
  | 11, hk, hs => exact ⟨by simp only [valTw, hu 3 (by rintro rfl; cases hs), hu 7 (by rintro rfl; cases hs)], by simp only [rowsTw, hu 3 (by rintro rfl; cases hs), hu 7 (by rintro rfl; cases hs)]⟩
  | 12, _, _ => exact ⟨rfl, rfl⟩
  | _ + 13, _, _ => exact ⟨rfl, rfl⟩
def rdTw (k : Nat) : List Nat := match k with
  | 2 => [12]
  | 6 => [12]
  | _ => []
set_option maxHeartbeats 4000000 in
theorem twin_spec (T : Tm) (p : Pt) (H : List Row) (hT : TmOk H T p) : Fc Try.prog 11 [.agg (cTm T p).toArray] H (fun v H' => ∃ t1 k1 t2 k2, v = .agg (cTm T ⟨some ⟨t1, 0, none⟩, k1, some ⟨t2, 0, none⟩, k2⟩).toArray ∧ H' = ⟨t1, 0, T.G.flatMap cI, some 3, k1 * 1⟩ :: ⟨t2, 0, T.S.flatMap cI, some 3, k2 * 1⟩ :: H) := by
  have l1 := hT.l1
  have l2 := hT.l2
  refine Fc.mk (callable Try.call11) Try.func11 rfl Try.ntmps11 rfl ?_; dsimp only [fr]
  refine X.seq rfl ?_; refine X.region rfl (fun K hK => ?_); repeat' (first | (refine XO.op rfl ?_; (first | ((first | refine Xo.ng rfl ?_); (first | (refine Xg.st (StF.boxAgg rfl rfl) rfl rfl ?_; rintro _ _ ⟨bx, rfl, rfl⟩) | (refine Xg.st (StF.alloc rfl Try.zeroValue28 rfl) rfl rfl ?_; rintro _ _ ⟨bx, rfl, rfl⟩))))) | (refine XO.done rfl ?_; refine hK _ _ ?_; clear hK K))
  rename_i b1; rename Nat => b2
  refine X.seq rfl ?_
  refine X.permH (H' := ⟨b1, 0, cTm T p, some 28, 11⟩ :: ⟨b2, 0, cTm Tz pz, some 28, 11⟩ :: H) (List.Perm.swap _ _ _) ?_
  refine X.regionRd tsTw rdTw [1, 2] [(1, .pointer (some ⟨b1, 0, none⟩)), (2, .pointer (some ⟨b2, 0, none⟩))] (valTw b1 b2 T p) (rowsTw b1 b2 T p) (fun _ => (0, 0)) (⟨b2, 0, cTm Tz pz, some 28, 11⟩ :: H) rfl mixed (by (repeat (first | exact Sub.nil _ | refine Sub.cons rfl ?_)); done) rfl (by kernel_rfl) (by kernel_rfl) (locTw b1 b2 T p) (List.Sublist.refl _) ?_ ?_
  · have hs : ∀ (S Z : List Row), (∀ r ∈ ⟨b2, 0, cTm Tz pz, some 28, 11⟩ :: H, r ∈ S) → TmOk (Z ++ S) T p := fun S Z hS => hT.sub (fun r hr => List.mem_append_right _ (hS r (List.mem_cons_of_mem _ hr)))
    repeat' (first | exact AllF.done rfl | (refine AllF.step rfl ?_ ?_; · (first | exact (Ob.ng rfl (ObK.pure (fun env R hR => by exact ⟨_, EvF.fieldAddr rfl rfl (te rfl) rfl (te rfl) (by decide), rfl⟩) rfl (fun _ => rfl))).toR | (refine ObR.ng rfl ?_; (first | (exact fun env S hS hrd => (StF.buildNil rfl elI).op.mono (fun v H' ⟨b, hv, hH⟩ => ⟨(b, 0), fun _ => hv, by rw [hH]; exact List.Perm.refl _⟩)) | (exact fun env S hS hrd => (StF.ofEv (EvF.loadV rfl rfl (LoadV.own (te rfl) rfl (hrd 12 (List.Mem.head _) _ (List.Mem.head _)) rfl))).op.mono (fun v H' ⟨hv, hH⟩ => ⟨(0, 0), fun _ => hv, by rw [hH]; exact List.Perm.refl _⟩)) | (exact fun env S hS hrd => (StF.appendSl (i := 0) rfl elI rfl rfl rfl (hs S [_] hS).gr (fun e _ => one_i e) rfl (by decide) (by omega)).op.mono (fun v H' ⟨b, c, hv, hH⟩ => ⟨(b, c), fun _ => by rw [hv, Nat.zero_add]; rfl, by rw [hH]; exact List.Perm.refl _⟩)) | (exact fun env S hS hrd => (StF.appendSl (i := 0) rfl elI rfl rfl rfl (hs S [_] hS).st (fun e _ => one_i e) rfl (by decide) (by omega)).op.mono (fun v H' ⟨b, c, hv, hH⟩ => ⟨(b, c), fun _ => by rw [hv, Nat.zero_add]; rfl, by rw [hH]; exact List.Perm.refl _⟩)) | (exact fun env S hS hrd => (StF.storeOne (i := 0) (cs := cTm T p) rfl rfl rfl rfl (te rfl) rfl rfl (Nat.le_of_ble_eq_true rfl)).op.mono (fun v H' ⟨hv, hH⟩ => ⟨(0, 0), fun h => absurd rfl h, by rw [hH]; exact List.Perm.refl _⟩)) | (exact fun env S hS hrd => (StF.storeOne (i := 0) (cs := cTm T ⟨some ⟨(env 3).1, 0, none⟩, (env 3).2, p.a2, p.c2⟩) rfl rfl rfl rfl (te rfl) rfl rfl (Nat.le_of_ble_eq_true rfl)).op.mono (fun v H' ⟨hv, hH⟩ => ⟨(0, 0), fun h => absurd rfl h, by rw [hH]; exact List.Perm.refl _⟩)))))))
  · intro env t ha hv
    refine ⟨_, ha, ?_⟩
    show X _ _ _ _ (⟨(env 3).1, 0, T.G.flatMap cI, some 3, (env 3).2 * 1⟩ :: ⟨(env 7).1, 0, T.S.flatMap cI, some 3, (env 7).2 * 1⟩ :: ⟨b1, 0, cTm T ⟨some ⟨(env 3).1, 0, none⟩, (env 3).2, some ⟨(env 7).1, 0, none⟩, (env 7).2⟩, some 28, 11⟩ :: ⟨b2, 0, cTm Tz pz, some 28, 11⟩ :: H) _
    repeat' (first | (refine XO.op rfl ?_; (first | ((first | refine Xo.ng rfl ?_); (first | (refine Xg.ev (EvF.loadV rfl rfl (LoadV.whole (te rfl) rfl (List.Mem.tail _ (List.Mem.tail _ (List.Mem.head _))) rfl)) rfl rfl ?_) | (refine Xg.st0 (StF.storeAll (i := 3) rfl rfl rfl (te rfl) rfl rfl rfl rfl) rfl ?_; rintro _ _ ⟨rfl, rfl⟩; dsimp only [List.set]))))) | (refine XO.done rfl ?_; refine hK _ _ ?_; clear hK K) | refine X.seq rfl ?_ | refine X.region rfl (fun K hK => ?_) | refine X.ret rfl ?_)
    exact ret_one (by first | exact .inr rfl | exact .inl rfl) Try.results11 ⟨_, rfl, LoadV.whole (te rfl) rfl (List.Mem.tail _ (List.Mem.tail _ (List.Mem.tail _ (List.Mem.head _)))) rfl⟩ (H' := ⟨(env 3).1, 0, T.G.flatMap cI, some 3, (env 3).2 * 1⟩ :: ⟨(env 7).1, 0, T.S.flatMap cI, some 3, (env 7).2 * 1⟩ :: H) (by (repeat (first | exact List.Sublist.refl _ | apply List.Sublist.cons_cons | apply List.Sublist.cons)); done) ⟨_, _, _, _, rfl, rfl⟩
end Go.Proofs.Ytcjlegjchllgjaa
end
section
set_option linter.unusedVariables false
set_option linter.unusedSimpArgs false
namespace Go.Fw
open Go
theorem EvF.eqSelf {P : Program} {n : Nat} {H : List Row} {F : FS} {o : Oper} {T T' : TypeId} {x y : Operand} {k : IntKind} {p : Int} (h : o.op = .binOp .eql T x y T') (hx : evF F x = some (.int k p)) (hy : evF F y = some (.int k p)) : EvF P n H F o (.bool true) := by
  have := EvF.cmp (P := P) (n := n) (H := H) h hx hy rfl
  rwa [decide_eq_true rfl] at this
end Go.Fw
namespace Go.Proofs.Ytcjlegjchllgjaa
open Go Go.Fw
set_option maxRecDepth 10000
theorem sameT_self (T : Tm) (p q : Pt) (H : List Row) (hT : TmOk H T p) (hU : TmOk H T q) : Fc Try.prog 18 [.agg (cTm T p).toArray, .agg (cTm T q).toArray] H (fun v H' => v = .bool true ∧ H' = H) :=
  (sameT_spec T T p q H hT hU).mono (fun v H' ⟨h1, h2⟩ => ⟨by rw [h1, decide_eq_true rfl], h2⟩)
theorem greatT (T : Tm) (p : Pt) (h : T.G.length > 30 ∨ T.S.length > 30) (H : List Row) : Fc Try.prog 10 [.agg (cTm T p).toArray] H (fun v H' => v = .bool true ∧ H' = H) := by
  have := great_spec T p H
  rwa [decide_eq_true h] at this
theorem greatF (T : Tm) (p : Pt) (h : ¬ (T.G.length > 30 ∨ T.S.length > 30)) (H : List Row) : Fc Try.prog 10 [.agg (cTm T p).toArray] H (fun v H' => v = .bool false ∧ H' = H) := by
  have := great_spec T p H
  rwa [decide_eq_false h] at this
theorem ownT (T : Tm) (t1 k1 t2 k2 : Nat) (H : List Row) (l1 : T.G.length ≤ 1000000) (l2 : T.S.length ≤ 1000000) (m1 : (⟨t1, 0, T.G.flatMap cI, some 3, k1 * 1⟩ : Row) ∈ H) (m2 : (⟨t2, 0, T.S.flatMap cI, some 3, k2 * 1⟩ : Row) ∈ H) : TmOk H T ⟨some ⟨t1, 0, none⟩, k1, some ⟨t2, 0, none⟩, k2⟩ :=
  ⟨SlE.ofRow m1 (fun _ _ => rfl), SlE.ofRow m2 (fun _ _ => rfl), l1, l2⟩
end Go.Proofs.Ytcjlegjchllgjaa
end
section
set_option linter.unusedVariables false
namespace Go.Proofs.Ytcjlegjchllgjaa
open Go Go.Fw Go.ChangeShapes Go.WideShapes Go.ChangeAt Go.RowKit
set_option linter.unusedVariables false
set_option maxRecDepth 100000
instance : Inhabited Sp := ⟨⟨0, 0⟩⟩
instance : Inhabited Cl := ⟨⟨0, 0⟩⟩
section
variable {H : Type} {enc : TypeId × Value → H} {w : World} {base : Nat} {spare : Nat → Bool} {held : Bool} {fuel : Nat} {cs : List Value} {x : DataW H × List MemPlace}
theorem open_i (h : DataW.trod enc Try.prog w base spare held fuel 3 cs = some x) : ∃ q : Int, cs = cI q ∧ True := by
  obtain ⟨q, h1, _⟩ := trod_i (te rfl) h
  exact ⟨q, h1, trivial⟩
theorem open_sp (h : DataW.trod enc Try.prog w base spare held fuel 26 cs = some x) : ∃ q : Sp, cs = cSp q ∧ True := by
  obtain ⟨hl, hf⟩ := trod_st (te rfl) h
  obtain ⟨n0, y0, h0⟩ := hf 0 0 3 _ rfl (te rfl)
  obtain ⟨n1, y1, h1⟩ := hf 1 1 3 _ rfl (te rfl)
  match cs, hl with
  | [a, b], _ =>
    obtain ⟨lo, e0, w0⟩ := open_i h0
    obtain ⟨hi, e1, w1⟩ := open_i h1
    simp [cI] at e0 e1
    subst e0 e1
    exact ⟨⟨lo, hi⟩, rfl, trivial⟩
theorem open_cl (h : DataW.trod enc Try.prog w base spare held fuel 23 cs = some x) : ∃ q : Cl, cs = cCl q ∧ True := by
  obtain ⟨hl, hf⟩ := trod_st (te rfl) h
  obtain ⟨n0, y0, h0⟩ := hf 0 0 3 _ rfl (te rfl)
  obtain ⟨n1, y1, h1⟩ := hf 1 1 3 _ rfl (te rfl)
  match cs, hl with
  | [a, b], _ =>
    obtain ⟨lo, e0, w0⟩ := open_i h0
    obtain ⟨hi, e1, w1⟩ := open_i h1
    simp [cI] at e0 e1
    subst e0 e1
    exact ⟨⟨lo, hi⟩, rfl, trivial⟩
end
structure InTm (w : World) (T : Tm) (p : Pt) : Prop where
  gr : InSl w p.a1 cI 1 T.G
  st : InSl w p.a2 cI 1 T.S
def rowsTm (T : Tm) (p : Pt) : List Row := rowsOf p.a1 cI T.G ++ rowsOf p.a2 cI T.S
theorem InTm.ok {w : World} {T : Tm} {p : Pt} {N : Nat} (h : InTm w T p) : ∀ r ∈ rowsTm T p, r.own = none ∧ r.ok N w := by
  intro r hr
  rcases List.mem_append.1 hr with hr | hr
  · exact h.gr.ok r hr
  · exact h.st.ok r hr
theorem InTm.g {w : World} {T : Tm} {p : Pt} (h : InTm w T p) {H : List Row} (hs : ∀ r ∈ rowsTm T p, r ∈ H) : SlE H p.a1 cI 1 T.G := h.gr.sl (fun r hr => hs r (List.mem_append_left _ hr))
theorem InTm.s {w : World} {T : Tm} {p : Pt} (h : InTm w T p) {H : List Row} (hs : ∀ r ∈ rowsTm T p, r ∈ H) : SlE H p.a2 cI 1 T.S := h.st.sl (fun r hr => hs r (List.mem_append_right _ hr))
section
variable {H : Type} {enc : TypeId × Value → H} {w : World} {base : Nat} {spare : Nat → Bool} {held : Bool} {v : Value} {d : DataW H} {p : List MemPlace} {r : Reach} {b0 : Nat}
theorem open_terms (hv : Value.okWide Try.prog w r b0 28 v) (h : DataW.Trod enc Try.prog w base spare held 28 v d p) : ∃ T pl, v = .agg (cTm T pl).toArray ∧ InTm w T pl := by
  obtain ⟨fa, hu, _⟩ := ti_struct (te (T := 28) rfl)
  obtain ⟨⟨cs⟩, rfl, _⟩ := okWide_struct hu hv
  obtain ⟨fuel, hf⟩ := h
  obtain ⟨hl, hf⟩ := trod_st (te rfl) hf
  obtain ⟨n0, y0, h0⟩ := hf 0 0 23 _ rfl (te rfl)
  obtain ⟨n1, y1, h1⟩ := hf 1 2 3 _ rfl (te rfl)
  obtain ⟨n2, y2, h2⟩ := hf 2 3 3 _ rfl (te rfl)
  obtain ⟨n3, y3, h3⟩ := hf 3 4 3 _ rfl (te rfl)
  obtain ⟨n4, y4, h4⟩ := hf 4 5 24 _ rfl (te rfl)
  obtain ⟨n5, y5, h5⟩ := hf 5 6 24 _ rfl (te rfl)
  obtain ⟨n6, y6, h6⟩ := hf 6 7 26 _ rfl (te rfl)
  obtain ⟨n7, y7, h7⟩ := hf 7 9 3 _ rfl (te rfl)
  obtain ⟨n8, y8, h8⟩ := hf 8 10 3 _ rfl (te rfl)
  match cs, hl with
  | [a, b, c, d, e, f, g, i, j, k, l], _ =>
    obtain ⟨q0, e0, w0⟩ := open_cl h0
    obtain ⟨q1, e1, w1⟩ := open_i h1
    obtain ⟨q2, e2, w2⟩ := open_i h2
    obtain ⟨q3, e3, w3⟩ := open_i h3
    obtain ⟨q6, e6, w6⟩ := open_sp h6
    obtain ⟨q7, e7, w7⟩ := open_i h7
    obtain ⟨q8, e8, w8⟩ := open_i h8
    simp [cI, cSp, cCl, Value.cells] at e0 e1 e2 e3 e6 e7 e8
    obtain ⟨l4, a4, c4, e4, i4, _, k4⟩ := open_sl (te rfl) (te rfl) rfl (by decide) (fun _ _ _ => open_i) (fun _ => rfl) h4
    obtain ⟨l5, a5, c5, e5, i5, _, k5⟩ := open_sl (te rfl) (te rfl) rfl (by decide) (fun _ _ _ => open_i) (fun _ => rfl) h5
    obtain ⟨e01, e02⟩ := e0
    obtain ⟨e61, e62⟩ := e6
    subst e01 e02 e1 e2 e3 e4 e5 e61 e62 e7 e8
    exact ⟨⟨q0.g, q0.s, q1, q2, q3, l4, l5, q6.lo, q6.hi, q7, q8⟩, ⟨a4, c4, a5, c5⟩, rfl, i4, i5⟩
theorem open_span (hv : Value.okWide Try.prog w r b0 26 v) (h : DataW.Trod enc Try.prog w base spare held 26 v d p) : ∃ q : Sp, v = .agg (cSp q).toArray := by
  obtain ⟨fa, hu, _⟩ := ti_struct (te (T := 26) rfl)
  obtain ⟨⟨cs⟩, rfl, _⟩ := okWide_struct hu hv
  obtain ⟨fuel, hf⟩ := h
  obtain ⟨q, rfl, _⟩ := open_sp hf
  exact ⟨q, rfl⟩
theorem open_int (hv : Value.okWide Try.prog w r b0 3 v) : ∃ q : Int, v = .int .i64 q := okWide_int Try.underlying3 hv
end
theorem ownK : ownKnob Try.prog.godebug = none := by kernel_rfl
theorem laidO : laidOutB Try.prog = true := by kernel_rfl
end Go.Proofs.Ytcjlegjchllgjaa
end
section
set_option linter.unusedVariables false
set_option linter.unusedSimpArgs false
namespace Go.Proofs.Ytcjlegjchllgjaa
open Go Go.Fw
set_option maxRecDepth 10000
/-- the first class that is none -/
def cErr : List Cl → Int
  | [] => 0
  | c :: l => if clsE c = 0 then cErr l else clsE c
/-- what some classes come to -/
def sumV (T : Tm) : List Cl → Int
  | [] => 0
  | c :: l => (if may T c = true then val T c.g c.s else 0) + sumV T l
/-- which may not be delivered -/
def refsA (T : Tm) : Nat → List Cl → List Int
  | _, [] => []
  | k, c :: l => if may T c = true then refsA T (k + 1) l else (k : Int) :: refsA T (k + 1) l
noncomputable def totE (T : Tm) (m : Int) (l : List Cl) : Int := if tmOk T then (if T.dl ≤ m ∧ m ≤ T.dh then (if (l.length : Int) ≤ T.bales then cErr l else 4) else 44) else 40
noncomputable def totS (T : Tm) (m : Int) (l : List Cl) : Int := if totE T m l = 0 then sumV T l else 0
noncomputable def totI (T : Tm) (m : Int) (l : List Cl) : List Int := if totE T m l = 0 then refsA T 0 l else []
/-- a list of numbers of one's own, or none -/
def OutI (k : List Int) (v : Value) (Z : List Row) : Prop := (k = [] ∧ v = .slice none 0 0 ∧ Z = []) ∨ ∃ b q, v = .slice (some ⟨b, 0, none⟩) k.length q ∧ Z = [⟨b, 0, k.flatMap cI, some 3, q * 1⟩]
theorem OutI.nil : OutI [] (.slice none 0 0) [] := .inl ⟨rfl, rfl, rfl⟩
theorem HI0 {d : List Dy} {l : List Lo} {m : List Int} : HI ⟨d, l, m, []⟩ := fun _ _ l hl => absurd hl List.not_mem_nil
theorem OutI.zero {T : Tm} {m : Int} {l : List Cl} (h : totE T m l ≠ 0) : totS T m l = 0 ∧ totI T m l = [] := by
  unfold totS totI
  rw [if_neg h, if_neg h]
  exact ⟨rfl, rfl⟩
end Go.Proofs.Ytcjlegjchllgjaa
end
section
set_option linter.unusedVariables false
set_option linter.unusedSimpArgs false
namespace Go.Proofs.Ytcjlegjchllgjaa
open Go Go.Fw
set_option maxRecDepth 10000
/-- the least, the greatest of some numbers -/
def minL : List Int → Int
  | [] => 0
  | x :: l => l.foldl min x
theorem minL_snoc : ∀ {l : List Int} (x : Int), 0 < l.length → minL (l ++ [x]) = min (minL l) x
  | y :: l, x, _ => by
    show (l ++ [x]).foldl min y = min (l.foldl min y) x
    rw [List.foldl_append]; rfl
def maxL : List Int → Int
  | [] => 0
  | x :: l => l.foldl max x
theorem maxL_snoc : ∀ {l : List Int} (x : Int), 0 < l.length → maxL (l ++ [x]) = max (maxL l) x
  | y :: l, x, _ => by
    show (l ++ [x]).foldl max y = max (l.foldl max y) x
    rw [List.foldl_append]; rfl
theorem minI_spec (l : List Int) (a : Option Addr) (c : Nat) (H : List Row) (hl : SlE H a cI 1 l) (hb : l.length ≤ 1000000) (h0 : 0 < l.length) :
    Fc Try.prog 78 [.slice a l.length c] H (fun v H' => v = .int .i64 (minL l) ∧ H' = H) := by
  obtain ⟨b, off, x, rfl, hx⟩ := hl.elem (i := 0) (by omega)
  refine Fc.mk (callable Try.call78) Try.func78 rfl Try.ntmps78 rfl ?_; dsimp only [fr]
  repeat' (first | (refine XO.op rfl ?_; (first | ((first | refine Xo.ng rfl ?_); (first | (refine Xg.ev (EvF.indexSlice rfl rfl rfl (te rfl) (te rfl) (by omega) (by omega)) rfl rfl ?_) | (refine Xg.ev (EvF.loadV rfl rfl (LoadV.el1 hl hx (te rfl) rfl (fun _ hm => hm) rfl)) rfl rfl ?_) | (refine Xg.ev (EvF.move rfl rfl) rfl rfl ?_) | (refine Xg.ev (EvF.assign rfl rfl) rfl rfl ?_) | (refine Xg.ev (EvF.cmp rfl rfl rfl rfl) rfl rfl ?_) | (refine Xg.ev (EvF.lenSlice rfl rfl (te rfl)) rfl rfl ?_))))) | (refine XO.done rfl ?_; refine hK _ _ ?_; clear hK K) | refine X.seq rfl ?_ | refine X.region rfl (fun K hK => ?_) | refine X.block rfl ?_ | refine X.skip rfl ?_ | (refine X.ite rfl rfl (fun hc => ?_); (first | (with_reducible refine Xb.case hc (fun h => ?_) (fun h => ?_))) <;> clear hc))
  all_goals try (exfalso; omega)
  have h1 : minL (l.take 1) = x := by rw [show (1 : Nat) = 0 + 1 from rfl, take_snoc hx]; rfl
  refine X.lp rfl (fun q F' H' => ∃ k : Nat, q = l.length - k ∧ 1 ≤ k ∧ k ≤ l.length ∧ H = H' ∧
      F' = [(0, .slice (some ⟨b, off, none⟩) l.length c), (3, .int .i64 (minL (l.take k))), (4, .int .i64 k)])
    (l.length - 1) [(0, .slice (some ⟨b, off, none⟩) l.length c), (3, .int .i64 (minL (l.take 1))), (4, .int .i64 (1 : Nat))] _ (by rw [h1]; exact (by (repeat (first | exact Sub.nil _ | refine Sub.cons rfl ?_)); done)) (by (repeat (first | exact List.Sublist.refl _ | apply List.Sublist.cons_cons | apply List.Sublist.cons)); done) ⟨1, rfl, by omega, by omega, rfl, rfl⟩ ?_
  rintro _ _ H2 ⟨k, rfl, hk1, hk, hH, rfl⟩
  subst hH
  repeat' (first | (refine XO.op rfl ?_; (first | ((first | refine Xo.ng rfl ?_); (first | (refine Xg.ev (EvF.move rfl rfl) rfl rfl ?_) | (refine Xg.ev (EvF.assign rfl rfl) rfl rfl ?_) | (refine Xg.ev (EvF.cmp rfl rfl rfl rfl) rfl rfl ?_) | (refine Xg.ev (EvF.lenSlice rfl rfl (te rfl)) rfl rfl ?_) | (refine Xg.ev (EvF.indexSlice rfl rfl rfl (te rfl) (te rfl) (by omega) (by omega)) rfl rfl ?_))))) | (refine XO.done rfl ?_; refine hK _ _ ?_; clear hK K) | refine X.seq rfl ?_ | refine X.region rfl (fun K hK => ?_) | refine X.block rfl ?_ | (refine X.brk rfl ?_; repeat (first | refine blockX_hit rfl ?_ | refine blockX_miss (by decide) ?_)) | refine X.skip rfl ?_ | refine X.ret rfl ?_ | (refine X.ite rfl rfl (fun hc => ?_); (first | (with_reducible refine Xb.case hc (fun h => ?_) (fun h => ?_))) <;> clear hc))
  · obtain ⟨y, hy⟩ : ∃ y, l[k]? = some y := ⟨_, List.getElem?_eq_getElem (by omega)⟩
    repeat' (first | (refine XO.op rfl ?_; (first | ((first | refine Xo.ng rfl ?_); (first | (refine Xg.ev (EvF.loadV rfl rfl (LoadV.el0 hl hy (te rfl) rfl (fun _ hm => hm) rfl)) rfl rfl ?_) | (refine Xg.ev (EvF.move rfl rfl) rfl rfl ?_) | (refine Xg.ev (EvF.assign rfl rfl) rfl rfl ?_) | (refine Xg.ev (EvF.add64 rfl rfl rfl (by omega) (by omega)) rfl rfl ?_) | (refine Xg.ev (EvF.min64 rfl rfl rfl) rfl rfl ?_))))) | (refine XO.done rfl ?_; refine hK _ _ ?_; clear hK K) | refine X.region rfl (fun K hK => ?_))
    refine ⟨_, _, _, (by rw [take_snoc hy, minL_snoc y (by rw [List.length_take]; omega)]; exact (by (repeat (first | exact Sub.nil _ | refine Sub.cons rfl ?_)); done)), (by (repeat (first | exact List.Sublist.refl _ | apply List.Sublist.cons_cons | apply List.Sublist.cons)); done), ⟨k + 1, rfl, by omega, by omega, rfl, rfl⟩, by omega⟩
  · obtain rfl : k = l.length := by omega
    rw [List.take_length]
    refine ret_one (by first | exact .inr rfl | exact .inl rfl) Try.results78 rfl (H' := H) (by (repeat (first | exact List.Sublist.refl _ | apply List.Sublist.cons)); done) ?_; simp only [and_true, true_and]
theorem maxI_spec (l : List Int) (a : Option Addr) (c : Nat) (H : List Row) (hl : SlE H a cI 1 l) (hb : l.length ≤ 1000000) (h0 : 0 < l.length) :
    Fc Try.prog 79 [.slice a l.length c] H (fun v H' => v = .int .i64 (maxL l) ∧ H' = H) := by
  obtain ⟨b, off, x, rfl, hx⟩ := hl.elem (i := 0) (by omega)
  refine Fc.mk (callable Try.call79) Try.func79 rfl Try.ntmps79 rfl ?_; dsimp only [fr]
  repeat' (first | (refine XO.op rfl ?_; (first | ((first | refine Xo.ng rfl ?_); (first | (refine Xg.ev (EvF.indexSlice rfl rfl rfl (te rfl) (te rfl) (by omega) (by omega)) rfl rfl ?_) | (refine Xg.ev (EvF.loadV rfl rfl (LoadV.el1 hl hx (te rfl) rfl (fun _ hm => hm) rfl)) rfl rfl ?_) | (refine Xg.ev (EvF.move rfl rfl) rfl rfl ?_) | (refine Xg.ev (EvF.assign rfl rfl) rfl rfl ?_) | (refine Xg.ev (EvF.cmp rfl rfl rfl rfl) rfl rfl ?_) | (refine Xg.ev (EvF.lenSlice rfl rfl (te rfl)) rfl rfl ?_))))) | (refine XO.done rfl ?_; refine hK _ _ ?_; clear hK K) | refine X.seq rfl ?_ | refine X.region rfl (fun K hK => ?_) | refine X.block rfl ?_ | refine X.skip rfl ?_ | (refine X.ite rfl rfl (fun hc => ?_); (first | (with_reducible refine Xb.case hc (fun h => ?_) (fun h => ?_))) <;> clear hc))
  all_goals try (exfalso; omega)
  have h1 : maxL (l.take 1) = x := by rw [show (1 : Nat) = 0 + 1 from rfl, take_snoc hx]; rfl
  refine X.lp rfl (fun q F' H' => ∃ k : Nat, q = l.length - k ∧ 1 ≤ k ∧ k ≤ l.length ∧ H = H' ∧
      F' = [(0, .slice (some ⟨b, off, none⟩) l.length c), (3, .int .i64 (maxL (l.take k))), (4, .int .i64 k)])
    (l.length - 1) [(0, .slice (some ⟨b, off, none⟩) l.length c), (3, .int .i64 (maxL (l.take 1))), (4, .int .i64 (1 : Nat))] _ (by rw [h1]; exact (by (repeat (first | exact Sub.nil _ | refine Sub.cons rfl ?_)); done)) (by (repeat (first | exact List.Sublist.refl _ | apply List.Sublist.cons_cons | apply List.Sublist.cons)); done) ⟨1, rfl, by omega, by omega, rfl, rfl⟩ ?_
  rintro _ _ H2 ⟨k, rfl, hk1, hk, hH, rfl⟩
  subst hH
  repeat' (first | (refine XO.op rfl ?_; (first | ((first | refine Xo.ng rfl ?_); (first | (refine Xg.ev (EvF.move rfl rfl) rfl rfl ?_) | (refine Xg.ev (EvF.assign rfl rfl) rfl rfl ?_) | (refine Xg.ev (EvF.cmp rfl rfl rfl rfl) rfl rfl ?_) | (refine Xg.ev (EvF.lenSlice rfl rfl (te rfl)) rfl rfl ?_) | (refine Xg.ev (EvF.indexSlice rfl rfl rfl (te rfl) (te rfl) (by omega) (by omega)) rfl rfl ?_))))) | (refine XO.done rfl ?_; refine hK _ _ ?_; clear hK K) | refine X.seq rfl ?_ | refine X.region rfl (fun K hK => ?_) | refine X.block rfl ?_ | (refine X.brk rfl ?_; repeat (first | refine blockX_hit rfl ?_ | refine blockX_miss (by decide) ?_)) | refine X.skip rfl ?_ | refine X.ret rfl ?_ | (refine X.ite rfl rfl (fun hc => ?_); (first | (with_reducible refine Xb.case hc (fun h => ?_) (fun h => ?_))) <;> clear hc))
  · obtain ⟨y, hy⟩ : ∃ y, l[k]? = some y := ⟨_, List.getElem?_eq_getElem (by omega)⟩
    repeat' (first | (refine XO.op rfl ?_; (first | ((first | refine Xo.ng rfl ?_); (first | (refine Xg.ev (EvF.loadV rfl rfl (LoadV.el0 hl hy (te rfl) rfl (fun _ hm => hm) rfl)) rfl rfl ?_) | (refine Xg.ev (EvF.move rfl rfl) rfl rfl ?_) | (refine Xg.ev (EvF.assign rfl rfl) rfl rfl ?_) | (refine Xg.ev (EvF.add64 rfl rfl rfl (by omega) (by omega)) rfl rfl ?_) | (refine Xg.ev (EvF.max64 rfl rfl rfl) rfl rfl ?_))))) | (refine XO.done rfl ?_; refine hK _ _ ?_; clear hK K) | refine X.region rfl (fun K hK => ?_))
    refine ⟨_, _, _, (by rw [take_snoc hy, maxL_snoc y (by rw [List.length_take]; omega)]; exact (by (repeat (first | exact Sub.nil _ | refine Sub.cons rfl ?_)); done)), (by (repeat (first | exact List.Sublist.refl _ | apply List.Sublist.cons_cons | apply List.Sublist.cons)); done), ⟨k + 1, rfl, by omega, by omega, rfl, rfl⟩, by omega⟩
  · obtain rfl : k = l.length := by omega
    rw [List.take_length]
    refine ret_one (by first | exact .inr rfl | exact .inl rfl) Try.results79 rfl (H' := H) (by (repeat (first | exact List.Sublist.refl _ | apply List.Sublist.cons)); done) ?_; simp only [and_true, true_and]
/-- a list of classes of one's own, or none -/
def OutC (k : List Cl) (v : Value) (Z : List Row) : Prop := (k = [] ∧ v = .slice none 0 0 ∧ Z = []) ∨ ∃ b q, v = .slice (some ⟨b, 0, none⟩) k.length q ∧ Z = [⟨b, 0, k.flatMap cCl, some 23, q * 2⟩]
theorem OutC.nil : OutC [] (.slice none 0 0) [] := .inl ⟨rfl, rfl, rfl⟩
theorem lenCl (l : List Cl) : (l.flatMap cCl).length = l.length * 2 := flat_len (fun _ _ => rfl)
set_option maxHeartbeats 4000000 in
theorem appendSeq_spec (f : Nat) (cap : List Value) (E : List Row) (xs : List Cl) (hI : Itf Try.prog f cap E xs (fun c => [.agg (cCl c).toArray])) (hb : xs.length ≤ 1000000) :
    Fc Try.prog 114 [.slice none 0 0, .func (.func f) #[] cap.toArray] E (fun v H' => ∃ Z, OutC xs v Z ∧ H' = Z ++ E) := by
  refine Fc.mkT (callable Try.call114) Try.func114 rfl Try.ntmps114 rfl ?_
  dsimp only [fr]
  refine XT.seq rfl (XT.of0 ?_)
  repeat' (first | (refine XO.op rfl ?_; (first | ((first | refine Xo.ng rfl ?_); (first | (refine Xg.ev (EvF.move rfl rfl) rfl rfl ?_) | (refine Xg.ev (EvF.assign rfl rfl) rfl rfl ?_) | (refine Xg.ev (EvF.lenSlice rfl rfl (te rfl)) rfl rfl ?_) | (refine Xg.ev (EvF.loadV rfl rfl (LoadV.own (te rfl) rfl (List.Mem.head _) rfl)) rfl rfl ?_) | (refine Xg.ev (EvF.loadV rfl rfl (LoadV.own (te rfl) rfl (List.Mem.tail _ (List.Mem.head _)) rfl)) rfl rfl ?_) | (refine Xg.st (StF.boxOne rfl rfl rfl) rfl rfl ?_; rintro _ _ ⟨bx, rfl, rfl⟩) | (refine Xg.st (StF.alloc rfl Try.zeroValue26 rfl) rfl rfl ?_; rintro _ _ ⟨bx, rfl, rfl⟩) | (refine Xg.st0 (StF.storeAll (i := 0) rfl rfl rfl (te rfl) rfl rfl rfl rfl) rfl ?_; rintro _ _ ⟨rfl, rfl⟩; dsimp only [List.set]))))) | (refine XO.done rfl ?_; refine hK _ _ ?_; clear hK K) | refine X.seq rfl ?_ | refine X.region rfl (fun K hK => ?_) | refine X.block rfl ?_ | refine X.ret rfl ?_)
  refine XT.seq rfl (XT.seq rfl (XT.of0 ?_))
  repeat' (first | (refine XO.op rfl ?_; (first | ((first | refine Xo.ng rfl ?_); (first | (refine Xg.ev (EvF.move rfl rfl) rfl rfl ?_) | (refine Xg.ev (EvF.assign rfl rfl) rfl rfl ?_) | (refine Xg.ev (EvF.lenSlice rfl rfl (te rfl)) rfl rfl ?_) | (refine Xg.ev (EvF.loadV rfl rfl (LoadV.own (te rfl) rfl (List.Mem.head _) rfl)) rfl rfl ?_) | (refine Xg.ev (EvF.loadV rfl rfl (LoadV.own (te rfl) rfl (List.Mem.tail _ (List.Mem.head _)) rfl)) rfl rfl ?_) | (refine Xg.st (StF.boxOne rfl rfl rfl) rfl rfl ?_; rintro _ _ ⟨bx, rfl, rfl⟩) | (refine Xg.st (StF.alloc rfl Try.zeroValue26 rfl) rfl rfl ?_; rintro _ _ ⟨bx, rfl, rfl⟩) | (refine Xg.st0 (StF.storeAll (i := 0) rfl rfl rfl (te rfl) rfl rfl rfl rfl) rfl ?_; rintro _ _ ⟨rfl, rfl⟩; dsimp only [List.set]))))) | (refine XO.done rfl ?_; refine hK _ _ ?_; clear hK K) | refine X.seq rfl ?_ | refine X.region rfl (fun K hK => ?_) | refine X.block rfl ?_ | refine X.ret rfl ?_)
  refine XT.block rfl ?_
  refine XT.weak (F' := [(2, .pointer (some ⟨bx, 0, none⟩)), (6, .func (.func f) #[] cap.toArray)]) (H' := ⟨bx, 0, [.slice none 0 0], some 82, 1⟩ :: E) (by (repeat (first | exact Sub.nil _ | refine Sub.cons rfl ?_)); done) (by (repeat (first | exact List.Sublist.refl _ | apply List.Sublist.cons_cons | apply List.Sublist.cons)); done) ?_
  refine XT.range (ps := [7]) rfl rfl hI rfl (fun _ => rfl) (fun pre Hb => ∃ out Z, OutC pre out Z ∧ Hb = Z ++ [⟨bx, 0, [out], some 82, 1⟩]) (fun _ _ => False) [⟨bx, 0, [.slice none 0 0], some 82, 1⟩] rfl ⟨_, [], OutC.nil, rfl⟩ ?_ ?_ (fun _ _ h => h.elim) (fun _ _ _ h => h.elim) (fun _ _ h => h.elim)
  · rintro pre x _ hpre ⟨out, Z0, ⟨rfl, rfl, rfl⟩ | ⟨bo, qo, rfl, rfl⟩, rfl⟩ Z
    · simp only [List.cons_append, List.nil_append]
      repeat' (first | (refine XO.op rfl ?_; (first | ((first | refine Xo.ng rfl ?_); (first | (refine Xg.ev (EvF.move rfl rfl) rfl rfl ?_) | (refine Xg.ev (EvF.assign rfl rfl) rfl rfl ?_) | (refine Xg.ev (EvF.lenSlice rfl rfl (te rfl)) rfl rfl ?_) | (refine Xg.ev (EvF.loadV rfl rfl (LoadV.own (te rfl) rfl (List.Mem.head _) rfl)) rfl rfl ?_) | (refine Xg.ev (EvF.loadV rfl rfl (LoadV.own (te rfl) rfl (List.Mem.tail _ (List.Mem.head _)) rfl)) rfl rfl ?_) | (refine Xg.st (StF.boxOne rfl rfl rfl) rfl rfl ?_; rintro _ _ ⟨bx, rfl, rfl⟩) | (refine Xg.st (StF.alloc rfl Try.zeroValue26 rfl) rfl rfl ?_; rintro _ _ ⟨bx, rfl, rfl⟩) | (refine Xg.st0 (StF.storeAll (i := 0) rfl rfl rfl (te rfl) rfl rfl rfl rfl) rfl ?_; rintro _ _ ⟨rfl, rfl⟩; dsimp only [List.set]))))) | (refine XO.done rfl ?_; refine hK _ _ ?_; clear hK K) | refine X.seq rfl ?_ | refine X.region rfl (fun K hK => ?_) | refine X.block rfl ?_ | refine X.ret rfl ?_)
      refine ⟨rfl, [_, _], List.Sublist.refl _, fun Z' => ?_⟩
      simp only [List.cons_append, List.nil_append]
      repeat' (first | (refine XO.op rfl ?_; (first | ((first | refine Xo.ng rfl ?_); (first | (refine Xg.st (StF.buildOne rfl elCl rfl rfl rfl (by decide) (by decide)) rfl rfl ?_; rintro _ _ ⟨bs, rfl, rfl⟩) | (refine Xg.st (StF.appendNew rfl elCl rfl rfl (by decide) rfl (Rd.own (List.Mem.head _)) (by decide)) rfl rfl ?_; rintro _ _ ⟨bn, kn, rfl, rfl⟩) | (refine Xg.ev (EvF.loadV rfl rfl (LoadV.own (te rfl) rfl (List.Mem.tail _ (List.Mem.head _)) rfl)) rfl rfl ?_) | (refine Xg.ev (EvF.loadV rfl rfl (LoadV.whole (te rfl) rfl (List.Mem.head _) rfl)) rfl rfl ?_) | (refine Xg.st0 (StF.storeOne (i := 3) rfl rfl rfl rfl (te rfl) rfl rfl (Nat.le_of_ble_eq_true rfl)) rfl ?_; rintro _ _ ⟨rfl, rfl⟩; dsimp only [List.set]))))) | (refine XO.done rfl ?_; refine hK _ _ ?_; clear hK K) | refine X.region rfl (fun K hK => ?_) | refine X.block rfl ?_)
      exact ⟨[⟨bn, 0, cCl x, some 23, kn * 2⟩, _], List.Sublist.cons_cons _ (List.Sublist.cons _ (List.Sublist.cons _ (List.Sublist.refl _))), _, [⟨bn, 0, cCl x, some 23, kn * 2⟩], .inr ⟨bn, kn, rfl, rfl⟩, rfl⟩
    · have hlen := pre_len hpre
      have hlc := lenCl pre
      simp only [List.cons_append, List.nil_append]
      repeat' (first | (refine XO.op rfl ?_; (first | ((first | refine Xo.ng rfl ?_); (first | (refine Xg.ev (EvF.move rfl rfl) rfl rfl ?_) | (refine Xg.ev (EvF.assign rfl rfl) rfl rfl ?_) | (refine Xg.ev (EvF.lenSlice rfl rfl (te rfl)) rfl rfl ?_) | (refine Xg.ev (EvF.loadV rfl rfl (LoadV.own (te rfl) rfl (List.Mem.head _) rfl)) rfl rfl ?_) | (refine Xg.ev (EvF.loadV rfl rfl (LoadV.own (te rfl) rfl (List.Mem.tail _ (List.Mem.head _)) rfl)) rfl rfl ?_) | (refine Xg.st (StF.boxOne rfl rfl rfl) rfl rfl ?_; rintro _ _ ⟨bx, rfl, rfl⟩) | (refine Xg.st (StF.alloc rfl Try.zeroValue26 rfl) rfl rfl ?_; rintro _ _ ⟨bx, rfl, rfl⟩) | (refine Xg.st0 (StF.storeAll (i := 0) rfl rfl rfl (te rfl) rfl rfl rfl rfl) rfl ?_; rintro _ _ ⟨rfl, rfl⟩; dsimp only [List.set]))))) | (refine XO.done rfl ?_; refine hK _ _ ?_; clear hK K) | refine X.seq rfl ?_ | refine X.region rfl (fun K hK => ?_) | refine X.block rfl ?_ | refine X.ret rfl ?_)
      refine ⟨rfl, [_, _, _], List.Sublist.refl _, fun Z' => ?_⟩
      simp only [List.cons_append, List.nil_append]
      repeat' (first | (refine XO.op rfl ?_; (first | ((first | refine Xo.ng rfl ?_); (first | (refine Xg.st (StF.buildOne rfl elCl rfl rfl rfl (by decide) (by decide)) rfl rfl ?_; rintro _ _ ⟨bs, rfl, rfl⟩) | (refine Xg.st (StF.appendOwn (i := 2) rfl elCl rfl rfl rfl hlc rfl (Rd.own (List.Mem.head _)) rfl (by omega)) rfl rfl ?_; rintro _ _ ⟨bn, kn, rfl, rfl⟩; dsimp only [List.eraseIdx]) | (refine Xg.ev (EvF.loadV rfl rfl (LoadV.own (te rfl) rfl (List.Mem.tail _ (List.Mem.tail _ (List.Mem.head _))) rfl)) rfl rfl ?_) | (refine Xg.ev (EvF.loadV rfl rfl (LoadV.whole (te rfl) rfl (List.Mem.head _) rfl)) rfl rfl ?_) | (refine Xg.st0 (StF.storeOne (i := 3) rfl rfl rfl rfl (te rfl) rfl rfl (Nat.le_of_ble_eq_true rfl)) rfl ?_; rintro _ _ ⟨rfl, rfl⟩; dsimp only [List.set]))))) | (refine XO.done rfl ?_; refine hK _ _ ?_; clear hK K) | refine X.region rfl (fun K hK => ?_) | refine X.block rfl ?_)
      exact ⟨[⟨bn, 0, pre.flatMap cCl ++ cCl x, some 23, kn * 2⟩, _], List.Sublist.cons_cons _ (List.Sublist.cons _ (List.Sublist.cons _ (List.Sublist.refl _))), _, [⟨bn, 0, pre.flatMap cCl ++ cCl x, some 23, kn * 2⟩], .inr ⟨bn, kn, by rw [List.length_append]; rfl, by rw [List.flatMap_append]; rfl⟩, rfl⟩
  · rintro D _ ⟨out, Z0, ⟨rfl, rfl, rfl⟩ | ⟨bo, qo, rfl, rfl⟩, rfl⟩
    · refine XT.seq rfl (XT.of1 ?_)
      simp only [List.cons_append, List.nil_append]
      repeat' (first | (refine XO.op rfl ?_; (first | ((first | refine Xo.ng rfl ?_); (first | (refine Xg.ev (EvF.move rfl rfl) rfl rfl ?_) | (refine Xg.ev (EvF.assign rfl rfl) rfl rfl ?_) | (refine Xg.ev (EvF.lenSlice rfl rfl (te rfl)) rfl rfl ?_) | (refine Xg.ev (EvF.loadV rfl rfl (LoadV.own (te rfl) rfl (List.Mem.head _) rfl)) rfl rfl ?_) | (refine Xg.ev (EvF.loadV rfl rfl (LoadV.own (te rfl) rfl (List.Mem.tail _ (List.Mem.head _)) rfl)) rfl rfl ?_) | (refine Xg.st (StF.boxOne rfl rfl rfl) rfl rfl ?_; rintro _ _ ⟨bx, rfl, rfl⟩) | (refine Xg.st (StF.alloc rfl Try.zeroValue26 rfl) rfl rfl ?_; rintro _ _ ⟨bx, rfl, rfl⟩) | (refine Xg.st0 (StF.storeAll (i := 0) rfl rfl rfl (te rfl) rfl rfl rfl rfl) rfl ?_; rintro _ _ ⟨rfl, rfl⟩; dsimp only [List.set]))))) | (refine XO.done rfl ?_; refine hK _ _ ?_; clear hK K) | refine X.seq rfl ?_ | refine X.region rfl (fun K hK => ?_) | refine X.block rfl ?_ | refine X.ret rfl ?_)
      refine ⟨⟨bx, 0, [.slice none 0 0], some 82, 1⟩ :: E, List.Sublist.refl _, XT.of1 ?_⟩
      repeat' (first | (refine XO.op rfl ?_; (first | ((first | refine Xo.ng rfl ?_); (first | (refine Xg.ev (EvF.move rfl rfl) rfl rfl ?_) | (refine Xg.ev (EvF.assign rfl rfl) rfl rfl ?_) | (refine Xg.ev (EvF.lenSlice rfl rfl (te rfl)) rfl rfl ?_) | (refine Xg.ev (EvF.loadV rfl rfl (LoadV.own (te rfl) rfl (List.Mem.head _) rfl)) rfl rfl ?_) | (refine Xg.ev (EvF.loadV rfl rfl (LoadV.own (te rfl) rfl (List.Mem.tail _ (List.Mem.head _)) rfl)) rfl rfl ?_) | (refine Xg.st (StF.boxOne rfl rfl rfl) rfl rfl ?_; rintro _ _ ⟨bx, rfl, rfl⟩) | (refine Xg.st (StF.alloc rfl Try.zeroValue26 rfl) rfl rfl ?_; rintro _ _ ⟨bx, rfl, rfl⟩) | (refine Xg.st0 (StF.storeAll (i := 0) rfl rfl rfl (te rfl) rfl rfl rfl rfl) rfl ?_; rintro _ _ ⟨rfl, rfl⟩; dsimp only [List.set]))))) | (refine XO.done rfl ?_; refine hK _ _ ?_; clear hK K) | refine X.seq rfl ?_ | refine X.region rfl (fun K hK => ?_) | refine X.block rfl ?_ | refine X.ret rfl ?_)
      exact ⟨E, (by (repeat (first | exact List.Sublist.refl _ | apply List.Sublist.cons_cons | apply List.Sublist.cons)); done), retT_one (by first | exact .inr rfl | exact .inl rfl) Try.results114 rfl (List.Sublist.refl _) ⟨[], OutC.nil, rfl⟩⟩
    · refine XT.seq rfl (XT.of1 ?_)
      simp only [List.cons_append, List.nil_append]
      repeat' (first | (refine XO.op rfl ?_; (first | ((first | refine Xo.ng rfl ?_); (first | (refine Xg.ev (EvF.move rfl rfl) rfl rfl ?_) | (refine Xg.ev (EvF.assign rfl rfl) rfl rfl ?_) | (refine Xg.ev (EvF.lenSlice rfl rfl (te rfl)) rfl rfl ?_) | (refine Xg.ev (EvF.loadV rfl rfl (LoadV.own (te rfl) rfl (List.Mem.head _) rfl)) rfl rfl ?_) | (refine Xg.ev (EvF.loadV rfl rfl (LoadV.own (te rfl) rfl (List.Mem.tail _ (List.Mem.head _)) rfl)) rfl rfl ?_) | (refine Xg.st (StF.boxOne rfl rfl rfl) rfl rfl ?_; rintro _ _ ⟨bx, rfl, rfl⟩) | (refine Xg.st (StF.alloc rfl Try.zeroValue26 rfl) rfl rfl ?_; rintro _ _ ⟨bx, rfl, rfl⟩) | (refine Xg.st0 (StF.storeAll (i := 0) rfl rfl rfl (te rfl) rfl rfl rfl rfl) rfl ?_; rintro _ _ ⟨rfl, rfl⟩; dsimp only [List.set]))))) | (refine XO.done rfl ?_; refine hK _ _ ?_; clear hK K) | refine X.seq rfl ?_ | refine X.region rfl (fun K hK => ?_) | refine X.block rfl ?_ | refine X.ret rfl ?_)
      refine ⟨⟨bo, 0, xs.flatMap cCl, some 23, qo * 2⟩ :: ⟨bx, 0, [.slice (some ⟨bo, 0, none⟩) xs.length qo], some 82, 1⟩ :: E, List.Sublist.refl _, XT.of1 ?_⟩
      repeat' (first | (refine XO.op rfl ?_; (first | ((first | refine Xo.ng rfl ?_); (first | (refine Xg.ev (EvF.move rfl rfl) rfl rfl ?_) | (refine Xg.ev (EvF.assign rfl rfl) rfl rfl ?_) | (refine Xg.ev (EvF.lenSlice rfl rfl (te rfl)) rfl rfl ?_) | (refine Xg.ev (EvF.loadV rfl rfl (LoadV.own (te rfl) rfl (List.Mem.head _) rfl)) rfl rfl ?_) | (refine Xg.ev (EvF.loadV rfl rfl (LoadV.own (te rfl) rfl (List.Mem.tail _ (List.Mem.head _)) rfl)) rfl rfl ?_) | (refine Xg.st (StF.boxOne rfl rfl rfl) rfl rfl ?_; rintro _ _ ⟨bx, rfl, rfl⟩) | (refine Xg.st (StF.alloc rfl Try.zeroValue26 rfl) rfl rfl ?_; rintro _ _ ⟨bx, rfl, rfl⟩) | (refine Xg.st0 (StF.storeAll (i := 0) rfl rfl rfl (te rfl) rfl rfl rfl rfl) rfl ?_; rintro _ _ ⟨rfl, rfl⟩; dsimp only [List.set]))))) | (refine XO.done rfl ?_; refine hK _ _ ?_; clear hK K) | refine X.seq rfl ?_ | refine X.region rfl (fun K hK => ?_) | refine X.block rfl ?_ | refine X.ret rfl ?_)
      exact ⟨⟨bo, 0, xs.flatMap cCl, some 23, qo * 2⟩ :: E, (by (repeat (first | exact List.Sublist.refl _ | apply List.Sublist.cons_cons | apply List.Sublist.cons)); done), retT_one (by first | exact .inr rfl | exact .inl rfl) Try.results114 rfl (List.Sublist.refl _) ⟨[⟨bo, 0, xs.flatMap cCl, some 23, qo * 2⟩], .inr ⟨bo, qo, rfl, rfl⟩, rfl⟩⟩
theorem collect_spec (f : Nat) (cap : List Value) (E : List Row) (xs : List Cl) (hI : Itf Try.prog f cap E xs (fun c => [.agg (cCl c).toArray])) (hb : xs.length ≤ 1000000) :
    Fc Try.prog 76 [.func (.func f) #[] cap.toArray] E (fun v H' => ∃ Z, OutC xs v Z ∧ H' = Z ++ E) := by
  refine Fc.mk (callable Try.call76) Try.func76 rfl Try.ntmps76 rfl ?_; dsimp only [fr]
  repeat' (first | (refine XO.op rfl ?_; (first | ((first | refine Xo.ng rfl ?_); (first | (refine Xg.call (EnF.st rfl (Args.cons rfl (Args.cons rfl Args.nil))) rfl rfl (appendSeq_spec f cap E xs hI hb) ?_; rintro v _ ⟨Z, hO, rfl⟩) | (refine Xg.ev (EvF.move rfl rfl) rfl rfl ?_) | (refine Xg.ev (EvF.assign rfl rfl) rfl rfl ?_))))) | (refine XO.done rfl ?_; refine hK _ _ ?_; clear hK K) | refine X.seq rfl ?_ | refine X.region rfl (fun K hK => ?_) | refine X.ret rfl ?_)
  exact ret_one (by first | exact .inr rfl | exact .inl rfl) Try.results76 rfl (List.Sublist.refl _) ⟨Z, hO, rfl⟩
theorem numbersCl_spec (g : Nat) (first cap : List Value) (f : Cl → Int) (l : List Cl) (a : Option Addr) (c : Nat) (H : List Row) (hl : SlE H a cCl 2 l) (hb : l.length ≤ 1000000) (h0 : 0 < l.length) (hg : ∀ e ∈ l, ∀ Z : List Row, Fc Try.prog g (first ++ [.agg (cCl e).toArray] ++ cap) (Z ++ H) (fun v H' => v = .int .i64 (f e) ∧ H' = Z ++ H)) :
    Fc Try.prog 75 [.slice a l.length c, .func (.func g) first.toArray cap.toArray] H (fun v H' => ∃ b k, v = .slice (some ⟨b, 0, none⟩) l.length k ∧ H' = ⟨b, 0, (l.map f).flatMap cI, some 3, k * 1⟩ :: H) := by
  refine Fc.mk (callable Try.call75) Try.func75 rfl Try.ntmps75 rfl ?_; dsimp only [fr]
  repeat' (first | (refine XO.op rfl ?_; (first | ((first | refine Xo.ng rfl ?_); (first | (refine Xg.ev (EvF.move rfl rfl) rfl rfl ?_) | (refine Xg.ev (EvF.assign rfl rfl) rfl rfl ?_) | (refine Xg.ev (EvF.lenSlice rfl rfl (te rfl)) rfl rfl ?_) | (refine Xg.ev (EvF.loadV rfl rfl (LoadV.own (te rfl) rfl (List.Mem.head _) rfl)) rfl rfl ?_) | (refine Xg.ev (EvF.loadV rfl rfl (LoadV.own (te rfl) rfl (List.Mem.tail _ (List.Mem.head _)) rfl)) rfl rfl ?_) | (refine Xg.st (StF.boxOne rfl rfl rfl) rfl rfl ?_; rintro _ _ ⟨bx, rfl, rfl⟩) | (refine Xg.st (StF.alloc rfl Try.zeroValue26 rfl) rfl rfl ?_; rintro _ _ ⟨bx, rfl, rfl⟩) | (refine Xg.st0 (StF.storeAll (i := 0) rfl rfl rfl (te rfl) rfl rfl rfl rfl) rfl ?_; rintro _ _ ⟨rfl, rfl⟩; dsimp only [List.set]))))) | (refine XO.done rfl ?_; refine hK _ _ ?_; clear hK K) | refine X.seq rfl ?_ | refine X.region rfl (fun K hK => ?_) | refine X.block rfl ?_ | refine X.ret rfl ?_)
  refine X.lp rfl (fun q F' H' => ∃ (k : Nat) (out : Value) (Z : List Row), q = l.length - k ∧ k ≤ l.length ∧ ((k = 0 ∧ out = .slice none 0 0 ∧ Z = []) ∨ ∃ b q, out = .slice (some ⟨b, 0, none⟩) k q ∧ Z = [⟨b, 0, ((l.take k).map f).flatMap cI, some 3, q * 1⟩]) ∧ Z ++ H = H' ∧
      F' = [(1, .func (.func g) first.toArray cap.toArray), (5, out), (8, .slice a l.length c), (9, .int .i64 l.length), (10, .int .i64 k)])
    l.length [(1, .func (.func g) first.toArray cap.toArray), (5, .slice none 0 0), (8, .slice a l.length c), (9, .int .i64 l.length), (10, .int .i64 (0 : Nat))] _ (by (repeat (first | exact Sub.nil _ | refine Sub.cons rfl ?_)); done) (by (repeat (first | exact List.Sublist.refl _ | apply List.Sublist.cons_cons | apply List.Sublist.cons)); done) ⟨0, _, [], by omega, by omega, .inl ⟨rfl, rfl, rfl⟩, rfl, rfl⟩ ?_
  rintro _ _ H2 ⟨k, out, Z, rfl, hk, ⟨rfl, rfl, rfl⟩ | ⟨b0, q0, rfl, rfl⟩, hH, rfl⟩
  · rw [List.nil_append] at hH
    subst hH
    repeat' (first | (refine XO.op rfl ?_; (first | ((first | refine Xo.ng rfl ?_); (first | (refine Xg.ev (EvF.move rfl rfl) rfl rfl ?_) | (refine Xg.ev (EvF.assign rfl rfl) rfl rfl ?_) | (refine Xg.ev (EvF.cmp rfl rfl rfl rfl) rfl rfl ?_))))) | (refine XO.done rfl ?_; refine hK _ _ ?_; clear hK K) | refine X.seq rfl ?_ | refine X.region rfl (fun K hK => ?_) | refine X.block rfl ?_ | (refine X.brk rfl ?_; repeat (first | refine blockX_hit rfl ?_ | refine blockX_miss (by decide) ?_)) | refine X.skip rfl ?_ | refine X.ret rfl ?_ | (refine X.ite rfl rfl (fun hc => ?_); (first | (with_reducible refine Xb.case hc (fun h => ?_) (fun h => ?_))) <;> clear hc))
    · obtain ⟨b, off, e, rfl, he⟩ := hl.elem (i := 0) (by omega)
      have hge : ∀ r, Fc Try.prog g (first ++ [.agg (cCl e).toArray] ++ cap) (r :: H) (fun v H' => v = .int .i64 (f e) ∧ H' = r :: H) := fun r => hg e (List.mem_of_getElem? he) [r]
      repeat' (first | (refine XO.op rfl ?_; (first | ((first | refine Xo.ng rfl ?_); (first | (refine Xg.ev (EvF.loadV rfl rfl (LoadV.elA0 hl he (te rfl) rfl (fun _ hm => hm) rfl)) rfl rfl ?_) | (refine Xg.call (EnF.dyn (first := first) rfl rfl (Args.cons rfl Args.nil)) rfl rfl (hge _) ?_; rintro _ H9 ⟨rfl, hH9⟩; subst H9) | (refine Xg.st (StF.buildOne rfl elI rfl rfl rfl (by decide) (by decide)) rfl rfl ?_; rintro _ _ ⟨bs, rfl, rfl⟩) | (refine Xg.st (StF.appendNew rfl elI rfl rfl (by decide) rfl (Rd.own (List.Mem.head _)) (by decide)) rfl rfl ?_; rintro _ _ ⟨bn, kn, rfl, rfl⟩) | (refine Xg.ev (EvF.move rfl rfl) rfl rfl ?_) | (refine Xg.ev (EvF.assign rfl rfl) rfl rfl ?_) | (refine Xg.ev (EvF.add64 rfl rfl rfl (by omega) (by omega)) rfl rfl ?_) | (refine Xg.ev (EvF.indexSlice rfl rfl rfl (te rfl) (te rfl) (by omega) (by omega)) rfl rfl ?_) | (refine Xg.ev (EvF.loadV rfl rfl (LoadV.whole (te rfl) rfl (List.Mem.head _) rfl)) rfl rfl ?_) | (refine Xg.st (StF.alloc rfl Try.zeroValue26 rfl) rfl rfl ?_; rintro _ _ ⟨bx, rfl, rfl⟩) | (refine Xg.st0 (StF.storeAll (i := 0) rfl rfl rfl (te rfl) rfl rfl rfl rfl) rfl ?_; rintro _ _ ⟨rfl, rfl⟩; dsimp only [List.set]))))) | (refine XO.done rfl ?_; refine hK _ _ ?_; clear hK K) | refine X.region rfl (fun K hK => ?_))
      refine ⟨_, _, _, (by (repeat (first | exact Sub.nil _ | refine Sub.cons rfl ?_)); done), ?_, ⟨0 + 1, _, [⟨bn, 0, ((l.take (0 + 1)).map f).flatMap cI, some 3, kn * 1⟩], rfl, by omega, .inr ⟨_, _, rfl, rfl⟩, rfl, rfl⟩, by omega⟩
      rw [take_snoc he]
      exact (by (repeat (first | exact List.Sublist.refl _ | apply List.Sublist.cons_cons | apply List.Sublist.cons)); done)
    · exfalso; omega
  · have hlen : (((l.take k).map f).flatMap cI).length = k * 1 := by rw [lenI, List.length_map, List.length_take]; omega
    simp only [List.cons_append, List.nil_append] at hH
    subst hH
    repeat' (first | (refine XO.op rfl ?_; (first | ((first | refine Xo.ng rfl ?_); (first | (refine Xg.ev (EvF.move rfl rfl) rfl rfl ?_) | (refine Xg.ev (EvF.assign rfl rfl) rfl rfl ?_) | (refine Xg.ev (EvF.cmp rfl rfl rfl rfl) rfl rfl ?_))))) | (refine XO.done rfl ?_; refine hK _ _ ?_; clear hK K) | refine X.seq rfl ?_ | refine X.region rfl (fun K hK => ?_) | refine X.block rfl ?_ | (refine X.brk rfl ?_; repeat (first | refine blockX_hit rfl ?_ | refine blockX_miss (by decide) ?_)) | refine X.skip rfl ?_ | refine X.ret rfl ?_ | (refine X.ite rfl rfl (fun hc => ?_); (first | (with_reducible refine Xb.case hc (fun h => ?_) (fun h => ?_))) <;> clear hc))
    · obtain ⟨b, off, e, rfl, he⟩ := hl.elem (i := k) (by omega)
      have hl1 : ∀ r, SlE (r :: H) (some ⟨b, off, none⟩) cCl 2 l := fun r => hl.sub (fun _ h => List.mem_cons_of_mem _ h)
      have hge : ∀ r r', Fc Try.prog g (first ++ [.agg (cCl e).toArray] ++ cap) (r :: r' :: H) (fun v H' => v = .int .i64 (f e) ∧ H' = r :: r' :: H) := fun r r' => hg e (List.mem_of_getElem? he) [r, r']
      repeat' (first | (refine XO.op rfl ?_; (first | ((first | refine Xo.ng rfl ?_); (first | (refine Xg.ev (EvF.loadV rfl rfl (LoadV.elA0 (hl1 _) he (te rfl) rfl (fun _ hm => hm) rfl)) rfl rfl ?_) | (refine Xg.call (EnF.dyn (first := first) rfl rfl (Args.cons rfl Args.nil)) rfl rfl (hge _ _) ?_; rintro _ H9 ⟨rfl, hH9⟩; subst H9) | (refine Xg.st (StF.buildOne rfl elI rfl rfl rfl (by decide) (by decide)) rfl rfl ?_; rintro _ _ ⟨bs, rfl, rfl⟩) | (refine Xg.st (StF.appendOwn (i := 2) rfl elI rfl rfl rfl hlen rfl (Rd.own (List.Mem.head _)) rfl (by omega)) rfl rfl ?_; rintro _ _ ⟨bn, kn, rfl, rfl⟩; dsimp only [List.eraseIdx]) | (refine Xg.ev (EvF.move rfl rfl) rfl rfl ?_) | (refine Xg.ev (EvF.assign rfl rfl) rfl rfl ?_) | (refine Xg.ev (EvF.add64 rfl rfl rfl (by omega) (by omega)) rfl rfl ?_) | (refine Xg.ev (EvF.indexSlice rfl rfl rfl (te rfl) (te rfl) (by omega) (by omega)) rfl rfl ?_) | (refine Xg.ev (EvF.loadV rfl rfl (LoadV.whole (te rfl) rfl (List.Mem.head _) rfl)) rfl rfl ?_) | (refine Xg.st (StF.alloc rfl Try.zeroValue26 rfl) rfl rfl ?_; rintro _ _ ⟨bx, rfl, rfl⟩) | (refine Xg.st0 (StF.storeAll (i := 0) rfl rfl rfl (te rfl) rfl rfl rfl rfl) rfl ?_; rintro _ _ ⟨rfl, rfl⟩; dsimp only [List.set]))))) | (refine XO.done rfl ?_; refine hK _ _ ?_; clear hK K) | refine X.region rfl (fun K hK => ?_))
      refine ⟨_, _, _, (by (repeat (first | exact Sub.nil _ | refine Sub.cons rfl ?_)); done), ?_, ⟨k + 1, _, [⟨bn, 0, ((l.take (k + 1)).map f).flatMap cI, some 3, kn * 1⟩], rfl, by omega, .inr ⟨_, _, rfl, rfl⟩, rfl, rfl⟩, by omega⟩
      rw [take_snoc he, List.map_append, List.flatMap_append]
      exact (by (repeat (first | exact List.Sublist.refl _ | apply List.Sublist.cons_cons | apply List.Sublist.cons)); done)
    · obtain rfl : k = l.length := by omega
      rw [List.take_length]
      exact ret_one (by first | exact .inr rfl | exact .inl rfl) Try.results75 rfl (H' := ⟨b0, 0, (l.map f).flatMap cI, some 3, q0 * 1⟩ :: H) (by (repeat (first | exact List.Sublist.refl _ | apply List.Sublist.cons_cons | apply List.Sublist.cons)); done) ⟨b0, q0, rfl, rfl⟩
end Go.Proofs.Ytcjlegjchllgjaa
end
section
set_option linter.unusedVariables false
set_option linter.unusedSimpArgs false
namespace Go.Proofs.Ytcjlegjchllgjaa
open Go Go.Fw
set_option maxRecDepth 10000
theorem OutI.sl {k : List Int} {v : Value} {Z H : List Row} (h : OutI k v Z) (hs : ∀ r ∈ Z, r ∈ H) : ∃ a c, v = .slice a k.length c ∧ SlE H a cI 1 k := by
  rcases h with ⟨rfl, rfl, rfl⟩ | ⟨b, q, rfl, rfl⟩
  · exact ⟨_, _, rfl, sleNil⟩
  · exact ⟨_, _, rfl, SlE.ofRow (hs _ (List.Mem.head _)) (fun _ _ => rfl)⟩
theorem OutI.len {k : List Int} {v : Value} {Z : List Row} (h : OutI k v Z) : ∃ a c, v = .slice a k.length c := by
  rcases h with ⟨rfl, rfl, rfl⟩ | ⟨b, q, rfl, rfl⟩ <;> exact ⟨_, _, rfl⟩
end Go.Proofs.Ytcjlegjchllgjaa
end
section
set_option linter.unusedVariables false
set_option linter.unusedSimpArgs false
namespace Go.Proofs.Ytcjlegjchllgjaa
open Go Go.Fw
set_option maxRecDepth 10000
/-- where tables of one's own lie -/
def plT (t1 k1 t2 k2 : Nat) : Pt := ⟨some ⟨t1, 0, none⟩, k1, some ⟨t2, 0, none⟩, k2⟩
def rI (l : List Int) (b k : Nat) : Row := ⟨b, 0, l.flatMap cI, some 3, k * 1⟩
/-- terms with tables of their own, or none -/
def OwnTm (Z : List Row) (T : Tm) (p : Pt) : Prop := (T = Tz ∧ p = pz ∧ Z = []) ∨ ∃ t1 k1 t2 k2, p = plT t1 k1 t2 k2 ∧ Z.Perm [rI T.G t1 k1, rI T.S t2 k2]
theorem OwnTm.zero : OwnTm [] Tz pz := .inl ⟨rfl, rfl, rfl⟩
theorem OwnTm.two (T : Tm) (t1 k1 t2 k2 : Nat) : OwnTm [rI T.G t1 k1, rI T.S t2 k2] T (plT t1 k1 t2 k2) := .inr ⟨t1, k1, t2, k2, rfl, List.Perm.refl _⟩
theorem TmOk.zero (H : List Row) : TmOk H Tz pz := ⟨sleNil, sleNil, Nat.zero_le _, Nat.zero_le _⟩
theorem OwnTm.ok {Z : List Row} {T : Tm} {p : Pt} (h : OwnTm Z T p) (h1 : T.G.length ≤ 1000000) (h2 : T.S.length ≤ 1000000) : TmOk Z T p := by
  rcases h with ⟨rfl, rfl, rfl⟩ | ⟨t1, k1, t2, k2, rfl, hp⟩
  · exact TmOk.zero _
  · exact ⟨SlE.ofRow (hp.mem_iff.2 (List.Mem.head _)) (fun _ _ => rfl), SlE.ofRow (hp.mem_iff.2 (List.Mem.tail _ (List.Mem.head _))) (fun _ _ => rfl), h1, h2⟩
end Go.Proofs.Ytcjlegjchllgjaa
end
section
set_option linter.unusedVariables false
set_option linter.unusedSimpArgs false
namespace Go.Proofs.Ytcjlegjchllgjaa
open Go Go.Fw
set_option maxRecDepth 10000
def knw (so no : Bool) : Int := if no = false then 2 else if so = false then 0 else 1
theorem lknown_spec (so no : Bool) (H : List Row) : Fc Try.prog 70 [.bool so, .bool no] H (fun v H' => v = .int .u8 (knw so no) ∧ H' = H) := by
  cases so <;> cases no
  all_goals (refine Fc.mk (callable Try.call70) Try.func70 rfl Try.ntmps70 rfl ?_; dsimp only [fr])
  all_goals repeat' (first | (refine XO.op rfl ?_; (first | ((first | refine Xo.ng rfl ?_); (first | (refine Xg.ev (EvF.move rfl rfl) rfl rfl ?_) | (refine Xg.ev (EvF.assign rfl rfl) rfl rfl ?_) | (refine Xg.ev (EvF.not rfl rfl) rfl rfl ?_))))) | (refine XO.done rfl ?_; refine hK _ _ ?_; clear hK K) | refine X.seq rfl ?_ | refine X.region rfl (fun K hK => ?_) | refine X.block rfl ?_ | refine X.skip rfl ?_ | refine X.ret rfl ?_ | (refine X.ite rfl rfl (fun hc => ?_); (first | (with_reducible refine Xb.caseB hc (fun h => ?_) (fun h => ?_))) <;> clear hc))
  all_goals (refine ret_one (by first | exact .inr rfl | exact .inl rfl) Try.results70 rfl (H' := H) (by (repeat (first | exact List.Sublist.refl _ | apply List.Sublist.cons)); done) ?_; simp only [and_true, true_and])
  all_goals first | (exfalso; contradiction) | rfl
def sizeL (l : Lo) : Int := (l.g2 - l.g1 + 1) * (l.s2 - l.s1 + 1)
def cntM (T : Tm) (l : Lo) (m : Int) : Int := if T.dl ≤ m ∧ m ≤ T.dh then ((cls T l).length : Int) else 0
def knoV (T : Tm) (l : Lo) (m : Int) : Int := knw (decide (cntM T l m > 0)) (decide (cntM T l m < sizeL l))
theorem known1_spec (T : Tm) (p : Pt) (l : Lo) (m : Int) (bm bl capm capl : Nat) (owm owl : Option Kd) (H : List Row) (hm : ⟨bm, 0, [.int .i64 m], owm, capm⟩ ∈ H) (hl : ⟨bl, 0, cLo l, owl, capl⟩ ∈ H) (hin : inb l) (h1 : l.g1 ≤ l.g2) (h2 : l.s1 ≤ l.s2) :
    Fc Try.prog 68 ([.agg (cTm T p).toArray] ++ [.pointer (some ⟨bm, 0, none⟩), .pointer (some ⟨bl, 0, none⟩)]) H (fun v H' => v = .int .u8 (knoV T l m) ∧ H' = H) := by
  show Fc Try.prog 68 [.agg (cTm T p).toArray, .pointer (some ⟨bm, 0, none⟩), .pointer (some ⟨bl, 0, none⟩)] H _
  have hc := cls_len T hin
  have hi := hin
  unfold inb at hi
  have hq := fun H => size_spec l H (by omega) h1 h2
  unfold knoV cntM
  refine Fc.mk (callable Try.call68) Try.func68 rfl Try.ntmps68 rfl ?_; dsimp only [fr]
  repeat' (first | (refine XO.op rfl ?_; (first | ((first | refine Xo.ng rfl ?_); (first | (refine Xg.ev (EvF.loadV rfl rfl (LoadV.ownAgg (vs := cSp ⟨T.dl, T.dh⟩) (te rfl) rfl (List.Mem.head _) rfl rfl)) rfl rfl ?_) | (refine Xg.ev (EvF.loadV rfl rfl (LoadV.own (te rfl) rfl (List.Mem.tail _ hm) rfl)) rfl rfl ?_) | (refine Xg.ev (EvF.loadV rfl rfl (LoadV.whole (te rfl) rfl (List.Mem.tail _ (List.Mem.tail _ hl)) rfl)) rfl rfl ?_) | (refine Xg.st (StF.buildOne rfl elI rfl rfl rfl (by decide) (by decide)) rfl rfl ?_; rintro _ _ ⟨bs, rfl, rfl⟩) | (refine Xg.call (EnF.st rfl (Args.cons rfl (Args.cons rfl Args.nil))) rfl rfl (within1_spec ⟨T.dl, T.dh⟩ m _ _ _ _ _ (List.Mem.head _)) ?_; rintro _ H9 ⟨rfl, hH9⟩; subst H9) | (refine Xg.call (EnF.st rfl (Args.cons rfl (Args.cons rfl Args.nil))) rfl rfl (count_spec T p l _ hin (by omega)) ?_; rintro _ H9 ⟨rfl, hH9⟩; subst H9) | (refine Xg.call (EnF.st rfl (Args.cons rfl Args.nil)) rfl rfl (hq _) ?_; rintro _ H9 ⟨rfl, hH9⟩; subst H9) | (refine Xg.call (EnF.st rfl (Args.cons rfl (Args.cons rfl Args.nil))) rfl rfl (lknown_spec _ _ _) ?_; rintro _ H9 ⟨rfl, hH9⟩; subst H9) | (refine Xg.ev (EvF.move rfl rfl) rfl rfl ?_) | (refine Xg.ev (EvF.assign rfl rfl) rfl rfl ?_) | (refine Xg.ev (EvF.cmp rfl rfl rfl rfl) rfl rfl ?_) | (refine Xg.ev (EvF.fieldAddr rfl rfl (te rfl) rfl (te rfl) (by decide)) rfl rfl ?_) | (refine Xg.ev (EvF.loadV rfl rfl (LoadV.whole (te rfl) rfl (List.Mem.tail _ (List.Mem.head _)) rfl)) rfl rfl ?_) | (refine Xg.st (StF.boxAgg rfl rfl) rfl rfl ?_; rintro _ _ ⟨bx, rfl, rfl⟩))))) | (refine XO.done rfl ?_; refine hK _ _ ?_; clear hK K) | refine X.seq rfl ?_ | refine X.region rfl (fun K hK => ?_) | refine X.skip rfl ?_ | refine X.ret rfl ?_ | (refine X.ite rfl rfl (fun hc => ?_); (first | (with_reducible refine Xb.case hc (fun h => ?_) (fun h => ?_))) <;> clear hc))
  all_goals (refine ret_one (by first | exact .inr rfl | exact .inl rfl) Try.results68 rfl (H' := H) (by (repeat (first | exact List.Sublist.refl _ | apply List.Sublist.cons)); done) ?_; simp only [and_true, true_and])
  · rw [if_pos (by assumption)]; rfl
  · rw [if_neg (by assumption)]; rfl
def vals (T : Tm) (l : Lo) : List Int := (cls T l).map (fun c => val T c.g c.s)
def rng (T : Tm) (l : Lo) : Sp := ⟨minL (vals T l), maxL (vals T l)⟩
theorem cls_in {T : Tm} {l : Lo} (h : inb l) {c : Cl} (hc : c ∈ cls T l) : (1 ≤ c.g ∧ c.g ≤ 9) ∧ (1 ≤ c.s ∧ c.s ≤ 9) := by
  unfold inb at h
  unfold cls clsI rowC at hc
  obtain ⟨g, hg, hc⟩ := List.mem_flatMap.1 hc
  obtain ⟨s, hs, rfl⟩ := List.mem_map.1 (List.mem_filter.1 hc).1
  unfold ir at hg hs
  obtain ⟨i, hi, rfl⟩ := List.mem_map.1 hg
  obtain ⟨j, hj, rfl⟩ := List.mem_map.1 hs
  rw [List.mem_range] at hi hj
  dsimp only
  omega
theorem OutC.pos {k : List Cl} {v : Value} {Z : List Row} (h : OutC k v Z) (h0 : 0 < k.length) : ∃ b q, v = .slice (some ⟨b, 0, none⟩) k.length q ∧ Z = [⟨b, 0, k.flatMap cCl, some 23, q * 2⟩] := by
  rcases h with ⟨e0, _, _⟩ | h
  · rw [e0] at h0; exact absurd h0 (Nat.lt_irrefl _)
  · exact h
def tsRn : List TOp := [⟨some 5, [], [], []⟩, ⟨some 6, [], [], []⟩, ⟨some 7, [0, 1], [0, 1], []⟩, ⟨some 8, [0, 1, 2], [2], [2]⟩, ⟨some 9, [], [], []⟩, ⟨some 10, [4], [4], []⟩, ⟨some 11, [0, 1, 2, 3, 4, 5], [3, 5], [3]⟩, ⟨some 4, [0, 1, 2, 3, 4, 5, 6], [6], []⟩]
def valRn (b1 b2 b3 : Nat) (T : Tm) (p : Pt) (l : Lo) (k : Nat) (env : Env) : Value :=
  match k with
  | 0 => .agg (cTm T p).toArray
  | 1 => .agg (cLo l).toArray
  | 2 => .func (.func 115) #[] #[.pointer (some ⟨(env 2).1, 0, none⟩), .pointer (some ⟨(env 2).2, 0, none⟩)]
  | 3 => .slice (some ⟨(env 3).1, 0, none⟩) (cls T l).length (env 3).2
  | 4 => .agg (cTm T p).toArray
  | 5 => .func (.func 60) #[.agg (cTm T p).toArray] #[]
  | 6 => .slice (some ⟨(env 6).1, 0, none⟩) (cls T l).length (env 6).2
  | 7 => .slice (some ⟨(env 6).1, 0, none⟩) (cls T l).length (env 6).2
  | _ => undef
def rowsRn (b1 b2 b3 : Nat) (T : Tm) (p : Pt) (l : Lo) (k : Nat) (env : Env) : List Row :=
  match k with
  | 2 => [⟨(env 2).1, 0, cLo l, some 105, 4⟩, ⟨(env 2).2, 0, cTm T p, some 111, 11⟩]
  | 3 => [⟨(env 3).1, 0, (cls T l).flatMap cCl, some 23, (env 3).2 * 2⟩, ⟨(env 2).1, 0, cLo l, some 105, 4⟩, ⟨(env 2).2, 0, cTm T p, some 111, 11⟩]
  | 6 => [rI (vals T l) (env 6).1 (env 6).2, ⟨(env 3).1, 0, (cls T l).flatMap cCl, some 23, (env 3).2 * 2⟩, ⟨(env 2).1, 0, cLo l, some 105, 4⟩, ⟨(env 2).2, 0, cTm T p, some 111, 11⟩]
  | _ => []
theorem locRn (b1 b2 b3 : Nat) (T : Tm) (p : Pt) (l : Lo) : ∀ k env i q9, i ≠ k → (tAt tsRn k).sup.contains i = false → valRn b1 b2 b3 T p l k (upd env i q9) = valRn b1 b2 b3 T p l k env ∧ rowsRn b1 b2 b3 T p l k (upd env i q9) = rowsRn b1 b2 b3 T p l k env := by
  intro k env i q hk hs
  have hu : ∀ j, j ≠ i → upd env i q j = env j := fun j hj => by unfold upd; rw [if_neg hj]
  match k, hk, hs with
  | 0, _, _ => exact ⟨rfl, rfl⟩
  | 1, _, _ => exact ⟨rfl, rfl⟩
  | 2, hk, hs => exact ⟨by simp only [valRn, hu 2 (fun e => hk e.symm)], by simp only [rowsRn, hu 2 (fun e => hk e.symm)]⟩
  | 3, hk, hs => exact ⟨by simp only [valRn, hu 2 (by rintro rfl; cases hs), hu 3 (fun e => hk e.symm)], by simp only [rowsRn, hu 2 (by rintro rfl; cases hs), hu 3 (fun e => hk e.symm)]⟩
  | 4, _, _ => exact ⟨rfl, rfl⟩
  | 5, _, _ => exact ⟨rfl, rfl⟩
  | 6, hk, hs => exact ⟨by simp only [valRn, hu 2 (by rintro rfl; cases hs), hu 3 (by rintro rfl; cases hs), hu 6 (fun e => hk e.symm)], by simp only [rowsRn, hu 2 (by rintro rfl; cases hs), hu 3 (by rintro rfl; cases hs), hu 6 (fun e => hk e.symm)]⟩
  | 7, hk, hs => exact ⟨by simp only [valRn, hu 6 (by rintro rfl; cases hs)], by simp only [rowsRn, hu 6 (by rintro rfl; cases hs)]⟩
  | _ + 8, _, _ => exact ⟨rfl, rfl⟩
set_option maxHeartbeats 8000000 in
theorem range1_spec (T : Tm) (p : Pt) (l : Lo) (bl cap : Nat) (ow : Option Kd) (H : List Row) (hl : ⟨bl, 0, cLo l, ow, cap⟩ ∈ H) (hT : TmOk H T p) (hok : tmOk T) (h : inb l) (h0 : 0 < (cls T l).length) :
    Fc Try.prog 74 ([.agg (cTm T p).toArray] ++ [.pointer (some ⟨bl, 0, none⟩)]) H (fun v H' => v = .agg (cSp (rng T l)).toArray ∧ H' = H) := by
  show Fc Try.prog 74 [.agg (cTm T p).toArray, .pointer (some ⟨bl, 0, none⟩)] H _
  have hc := cls_len T h
  have hi := h
  unfold inb at hi
  have hp := hok.num.1
  have hvl : (vals T l).length = (cls T l).length := by unfold vals; rw [List.length_map]
  refine Fc.mk (callable Try.call74) Try.func74 rfl Try.ntmps74 rfl ?_; dsimp only [fr]
  refine X.seq rfl ?_; refine X.region rfl (fun K hK => ?_); repeat' (first | (refine XO.op rfl ?_; (first | ((first | refine Xo.ng rfl ?_); (first | (refine Xg.st (StF.boxAgg rfl rfl) rfl rfl ?_; rintro _ _ ⟨bx, rfl, rfl⟩) | (refine Xg.st (StF.alloc rfl Try.zeroValue26 rfl) rfl rfl ?_; rintro _ _ ⟨bx, rfl, rfl⟩))))) | (refine XO.done rfl ?_; refine hK _ _ ?_; clear hK K))
  rename_i b2; rename Nat => b3
  refine X.seq rfl ?_
  refine X.regionOb tsRn [1, 2, 3] [(1, .pointer (some ⟨bl, 0, none⟩)), (2, .pointer (some ⟨b2, 0, none⟩)), (3, .pointer (some ⟨b3, 0, none⟩))] (valRn bl b2 b3 T p l) (rowsRn bl b2 b3 T p l) (fun _ => (0, 0)) (⟨b3, 0, cSp ⟨0, 0⟩, some 26, 2⟩ :: ⟨b2, 0, cTm T p, some 111, 11⟩ :: H) rfl mixed (by (repeat (first | exact Sub.nil _ | refine Sub.cons rfl ?_)); done) rfl (by kernel_rfl) (locRn bl b2 b3 T p l) (List.Sublist.refl _) ?_ ?_
  · have hs : ∀ (S Z : List Row), (∀ r ∈ ⟨b3, 0, cSp ⟨0, 0⟩, some 26, 2⟩ :: ⟨b2, 0, cTm T p, some 111, 11⟩ :: H, r ∈ S) → TmOk (Z ++ S) T p := fun S Z hS => hT.sub (fun r hr => List.mem_append_right _ (hS r (List.mem_append_right [_, _] hr)))
    repeat' (first | exact AllF.done rfl | (refine AllF.step rfl ?_ ?_; · (first | fail | ((first | refine Ob.ng rfl ?_); (first | exact ObK.pure (fun env R hR => by exact ⟨_, EvF.assign rfl rfl, rfl⟩) rfl (fun _ => rfl) | exact ObK.pure (fun env R hR => by exact ⟨_, EvF.loadV rfl rfl (LoadV.whole (te rfl) rfl (hR _ (List.Mem.tail _ (List.Mem.head _))) rfl), rfl⟩) rfl (fun _ => rfl) | (exact ObK.pure (fun env S hS => ⟨_, EvF.loadV rfl rfl (LoadV.whole (te rfl) rfl (hS _ (List.mem_append_right [_, _] hl)) rfl), rfl⟩) rfl (fun _ => rfl)) | (exact ObK.pure (fun env S hS => ⟨_, EvF.makeFunc (fl := [_]) rfl (Args.cons rfl Args.nil) Args.nil, rfl⟩) rfl (fun _ => rfl)) | (exact fun env S hS => (OpF.call (EnF.st rfl (Args.cons rfl (Args.cons rfl Args.nil))) (classes_spec T p l _)).mono (fun v H' ⟨x, y, hv, hH⟩ => ⟨(x, y), fun _ => hv, by rw [hH]; exact List.Perm.refl _⟩)) | (exact fun env S hS => (OpF.call (EnF.st rfl (Args.cons rfl Args.nil)) (collect_spec 115 [.pointer (some ⟨(env 2).1, 0, none⟩), .pointer (some ⟨(env 2).2, 0, none⟩)] (⟨(env 2).1, 0, cLo l, some 105, 4⟩ :: ⟨(env 2).2, 0, cTm T p, some 111, 11⟩ :: S) (cls T l) (classes1_it T p l _ _ _ _ _ _ _ (List.Mem.head _) (List.Mem.tail _ (List.Mem.head _)) (by omega)) (by omega))).mono (fun v H' ⟨Z, hO, hH⟩ => by obtain ⟨b, q, hv, hZ⟩ := hO.pos h0; exact ⟨(b, q), fun _ => hv, by rw [hH, hZ]; exact List.Perm.refl _⟩)) | (exact fun env S hS => (OpF.call (EnF.st rfl (Args.cons rfl (Args.cons rfl Args.nil))) (numbersCl_spec 60 [.agg (cTm T p).toArray] [] (fun c => val T c.g c.s) (cls T l) (some ⟨(env 3).1, 0, none⟩) (env 3).2 (⟨(env 3).1, 0, (cls T l).flatMap cCl, some 23, (env 3).2 * 2⟩ :: ⟨(env 2).1, 0, cLo l, some 105, 4⟩ :: ⟨(env 2).2, 0, cTm T p, some 111, 11⟩ :: S) (SlE.ofRow (List.Mem.head _) (fun _ _ => rfl)) (by omega) h0 (fun e he Z => value_spec T p e _ (hT.sub (fun r hr => List.mem_append_right _ (List.mem_append_right [_, _, _] (hS r (List.mem_append_right [_, _] hr))))) hok.gr hok.st (by omega) (cls_in h he).1 (cls_in h he).2))).mono (fun v H' ⟨b, q, hv, hH⟩ => ⟨(b, q), fun _ => hv, by rw [hH]; exact List.Perm.refl _⟩)))))))
  · intro env t ha hv
    refine ⟨_, ha.cons (hv 7 4 (Nat.le_of_ble_eq_true rfl) rfl), ?_⟩
    clear hv ha
    show X _ _ _ ((4, .slice (some ⟨(env 6).1, 0, none⟩) (cls T l).length (env 6).2) :: _) (rI (vals T l) (env 6).1 (env 6).2 :: ⟨(env 3).1, 0, (cls T l).flatMap cCl, some 23, (env 3).2 * 2⟩ :: ⟨(env 2).1, 0, cLo l, some 105, 4⟩ :: ⟨(env 2).2, 0, cTm T p, some 111, 11⟩ :: ⟨b3, 0, cSp ⟨0, 0⟩, some 26, 2⟩ :: ⟨b2, 0, cTm T p, some 111, 11⟩ :: H) _
    rw [← hvl]
    have hv1 : ∀ Z : List Row, SlE (rI (vals T l) (env 6).1 (env 6).2 :: Z) (some ⟨(env 6).1, 0, none⟩) cI 1 (vals T l) := fun Z => SlE.ofRow (List.Mem.head _) (fun _ _ => rfl)
    repeat' (first | (refine XO.op rfl ?_; (first | ((first | refine Xo.ng rfl ?_); (first | (refine Xg.call (EnF.st rfl (Args.cons rfl Args.nil)) rfl rfl (minI_spec (vals T l) _ _ _ (hv1 _) (by omega) (by omega)) ?_; rintro _ H9 ⟨rfl, hH9⟩; subst H9) | (refine Xg.call (EnF.st rfl (Args.cons rfl Args.nil)) rfl rfl (maxI_spec (vals T l) _ _ _ (hv1 _) (by omega) (by omega)) ?_; rintro _ H9 ⟨rfl, hH9⟩; subst H9) | (refine Xg.ev (EvF.build (cs := cSp (rng T l)) rfl (ArgsP.cons rfl (ArgsP.cons rfl ArgsP.nil)) (te rfl) (Places.cons (te rfl) (Places.cons (te rfl) Places.nil)) Try.zeroValue26 rfl) rfl rfl ?_) | (refine Xg.ev (EvF.move rfl rfl) rfl rfl ?_) | (refine Xg.st0 (StF.storeAll (i := 4) rfl rfl rfl (te rfl) rfl rfl rfl rfl) rfl ?_; rintro _ _ ⟨rfl, rfl⟩; dsimp only [List.set]))))) | (refine XO.done rfl ?_; refine hK _ _ ?_; clear hK K) | refine X.seq rfl ?_ | refine X.region rfl (fun K hK => ?_) | refine X.ret rfl ?_)
    exact ret_one (v := .agg (cSp (rng T l)).toArray) (by first | exact .inr rfl | exact .inl rfl) Try.results74 ⟨_, rfl, LoadV.whole (te rfl) rfl (List.Mem.tail _ (List.Mem.tail _ (List.Mem.tail _ (List.Mem.tail _ (List.Mem.head _))))) rfl⟩ (H' := H) (by (repeat (first | exact List.Sublist.refl _ | apply List.Sublist.cons)); done) ⟨rfl, rfl⟩
theorem ltoldS_spec (T : Tm) (p : Pt) (e : Int) (f : Nat) (cap : List Value) (r : Sp) (H : List Row)
    (ht : e = 0 → ∀ Z : List Row, Fc Try.prog f ([.agg (cTm T p).toArray] ++ cap) (Z ++ H) (fun v H' => v = .agg (cSp r).toArray ∧ H' = Z ++ H)) :
    Fc Try.prog 113 [.agg (cTm T p).toArray, .int .i64 e, .func (.func f) #[] cap.toArray] H (fun v H' => v = .tuple #[.agg (cSp (if e = 0 then r else ⟨0, 0⟩)).toArray, .int .i64 e] ∧ H' = H) := by
  by_cases h0 : e = 0
  · subst h0
    rw [if_pos rfl]
    have ht2 : ∀ a b : Row, Fc Try.prog f ([.agg (cTm T p).toArray] ++ cap) (a :: b :: H) (fun v H' => v = .agg (cSp r).toArray ∧ H' = a :: b :: H) := fun a b => ht rfl [a, b]
    refine Fc.mk (callable Try.call113) Try.func113 rfl Try.ntmps113 rfl ?_; dsimp only [fr]
    repeat' (first | (refine XO.op rfl ?_; (first | ((first | refine Xo.ng rfl ?_); (first | (refine Xg.call (EnF.dyn0 rfl rfl (by (repeat (first | exact Args.nil | refine Args.cons rfl ?_)); done)) rfl rfl (ht2 _ _) ?_; rintro _ H9 ⟨rfl, hH9⟩; subst H9) | (refine Xg.ev (EvF.move rfl rfl) rfl rfl ?_) | (refine Xg.ev (EvF.assign rfl rfl) rfl rfl ?_) | (refine Xg.ev (EvF.cmp rfl rfl rfl rfl) rfl rfl ?_) | (refine Xg.ev (EvF.loadV rfl rfl (LoadV.whole (te rfl) rfl (List.Mem.head _) rfl)) rfl rfl ?_) | (refine Xg.ev (EvF.loadV rfl rfl (LoadV.whole (te rfl) rfl (List.Mem.tail _ (List.Mem.head _)) rfl)) rfl rfl ?_) | (refine Xg.st (StF.boxAgg rfl rfl) rfl rfl ?_; rintro _ _ ⟨bx, rfl, rfl⟩) | (refine Xg.st (StF.alloc rfl Try.zeroValue26 rfl) rfl rfl ?_; rintro _ _ ⟨bx, rfl, rfl⟩) | (refine Xg.st0 (StF.storeAll (i := 0) rfl rfl rfl (te rfl) rfl rfl rfl rfl) rfl ?_; rintro _ _ ⟨rfl, rfl⟩; dsimp only [List.set]) | (refine Xg.st0 (StF.storeAll (i := 1) rfl rfl rfl (te rfl) rfl rfl rfl rfl) rfl ?_; rintro _ _ ⟨rfl, rfl⟩; dsimp only [List.set]))))) | (refine XO.done rfl ?_; refine hK _ _ ?_; clear hK K) | refine X.seq rfl ?_ | refine X.region rfl (fun K hK => ?_) | refine X.skip rfl ?_ | refine X.ret rfl ?_ | (refine X.ite rfl rfl (fun hc => ?_); (first | (with_reducible refine Xb.caseN hc (fun h => ?_) (fun h => ?_))) <;> clear hc))
    all_goals try (exfalso; contradiction)
    exact ret_two (v := .agg (cSp r).toArray) (by first | exact .inr rfl | exact .inl rfl) Try.results113 ⟨_, rfl, LoadV.whole (te rfl) rfl (List.Mem.head _) rfl⟩ rfl (H' := H) (by (repeat (first | exact List.Sublist.refl _ | apply List.Sublist.cons)); done) ⟨rfl, rfl⟩
  · rw [if_neg h0]
    refine Fc.mk (callable Try.call113) Try.func113 rfl Try.ntmps113 rfl ?_; dsimp only [fr]
    repeat' (first | (refine XO.op rfl ?_; (first | ((first | refine Xo.ng rfl ?_); (first | (refine Xg.ev (EvF.cmp (b := true) rfl rfl rfl (congrArg some (by simp [h0]))) rfl rfl ?_) | (refine Xg.ev (EvF.move rfl rfl) rfl rfl ?_) | (refine Xg.ev (EvF.assign rfl rfl) rfl rfl ?_) | (refine Xg.ev (EvF.loadV rfl rfl (LoadV.whole (te rfl) rfl (List.Mem.head _) rfl)) rfl rfl ?_) | (refine Xg.st (StF.boxAgg rfl rfl) rfl rfl ?_; rintro _ _ ⟨bx, rfl, rfl⟩) | (refine Xg.st (StF.alloc rfl Try.zeroValue26 rfl) rfl rfl ?_; rintro _ _ ⟨bx, rfl, rfl⟩) | (refine Xg.st0 (StF.storeAll (i := 1) rfl rfl rfl (te rfl) rfl rfl rfl rfl) rfl ?_; rintro _ _ ⟨rfl, rfl⟩; dsimp only [List.set]))))) | (refine XO.done rfl ?_; refine hK _ _ ?_; clear hK K) | refine X.seq rfl ?_ | refine X.region rfl (fun K hK => ?_) | refine X.ret rfl ?_ | (refine X.ite rfl rfl (fun hc => ?_); (first | (with_reducible refine Xb.t hc ?_)) <;> clear hc))
    all_goals try (exfalso; contradiction)
    exact ret_two (v := .agg (cSp ⟨0, 0⟩).toArray) (by first | exact .inr rfl | exact .inl rfl) Try.results113 ⟨_, rfl, LoadV.whole (te rfl) rfl (List.Mem.tail _ (List.Mem.head _)) rfl⟩ rfl (H' := H) (by (repeat (first | exact List.Sublist.refl _ | apply List.Sublist.cons)); done) ⟨rfl, rfl⟩
set_option maxHeartbeats 4000000 in
theorem toldS_spec (T : Tm) (p : Pt) (A : Ab) (q : Pa) (f : Nat) (cap : List Value) (r : Sp) (H : List Row) (hT : TmOk H T p) (hA : AbOk H A q) (hd : HD A) (hi : HI A)
    (ht : openE T A = 0 → ∀ Z : List Row, Fc Try.prog f ([.agg (cTm T p).toArray] ++ cap) (Z ++ H) (fun v H' => v = .agg (cSp r).toArray ∧ H' = Z ++ H)) :
    Fc Try.prog 73 [.agg (cTm T p).toArray, .agg (cAb A q).toArray, .func (.func f) #[] cap.toArray] H (fun v H' => v = .tuple #[.agg (cSp (if openE T A = 0 then r else ⟨0, 0⟩)).toArray, .int .i64 (openE T A)] ∧ H' = H) := by
  have hT4 : ∀ Z : List Row, TmOk (Z ++ H) T p := fun Z => hT.sub (fun _ h => List.mem_append_right _ h)
  have hA4 : ∀ Z : List Row, AbOk (Z ++ H) A q := fun Z => hA.sub (fun _ h => List.mem_append_right _ h)
  obtain ⟨TX, pX, hTX, hop⟩ := open_fn T p A hd hi
  have hl : ∀ Z : List Row, Fc Try.prog 113 [.agg (cTm TX pX).toArray, .int .i64 (openE T A), .func (.func f) #[] cap.toArray] (Z ++ H) (fun v H' => v = .tuple #[.agg (cSp (if openE T A = 0 then r else ⟨0, 0⟩)).toArray, .int .i64 (openE T A)] ∧ H' = Z ++ H) := fun Z => ltoldS_spec TX pX _ f cap r _ (fun h0 Z' => by obtain ⟨rfl, rfl⟩ := hTX h0; rw [← List.append_assoc]; exact ht h0 _)
  obtain ⟨er, her⟩ : ∃ e, openE T A = e := ⟨_, rfl⟩
  obtain ⟨rr, hrr⟩ : ∃ x, (if openE T A = 0 then r else (⟨0, 0⟩ : Sp)) = x := ⟨_, rfl⟩
  rw [hrr, her] at hl
  rw [hrr, her]
  rw [her] at hop
  have hl4 : ∀ a b c d : Row, Fc Try.prog 113 [.agg (cTm TX pX).toArray, .int .i64 er, .func (.func f) #[] cap.toArray] (a :: b :: c :: d :: H) (fun v H' => v = .tuple #[.agg (cSp rr).toArray, .int .i64 er] ∧ H' = a :: b :: c :: d :: H) := fun a b c d => hl [a, b, c, d]
  refine Fc.mk (callable Try.call73) Try.func73 rfl Try.ntmps73 rfl ?_; dsimp only [fr]
  repeat' (first | (refine XO.op rfl ?_; (first | ((first | refine Xo.ng rfl ?_); (first | (refine Xg.call (EnF.st rfl (Args.cons rfl (Args.cons rfl Args.nil))) rfl rfl (hop q _ (hT4 [_, _, _]) (hA4 [_, _, _])) ?_; rintro _ H9 ⟨rfl, hH9⟩; subst H9) | (refine Xg.call (EnF.st rfl (Args.cons rfl (Args.cons rfl (Args.cons rfl Args.nil)))) rfl rfl (hl4 _ _ _ _) ?_; rintro _ H9 ⟨rfl, hH9⟩; subst H9) | (refine Xg.ev (EvF.move rfl rfl) rfl rfl ?_) | (refine Xg.ev (EvF.assign rfl rfl) rfl rfl ?_) | (refine Xg.ev (EvF.loadV rfl rfl (LoadV.whole (te rfl) rfl (List.Mem.head _) rfl)) rfl rfl ?_) | (refine Xg.ev (EvF.loadV rfl rfl (LoadV.whole (te rfl) rfl (List.Mem.tail _ (List.Mem.head _)) rfl)) rfl rfl ?_) | (refine Xg.ev (EvF.loadV rfl rfl (LoadV.whole (te rfl) rfl (List.Mem.tail _ (List.Mem.tail _ (List.Mem.head _))) rfl)) rfl rfl ?_) | (refine Xg.ev (EvF.extract rfl rfl rfl) rfl rfl ?_) | (refine Xg.st (StF.boxAgg rfl rfl) rfl rfl ?_; rintro _ _ ⟨bx, rfl, rfl⟩) | (refine Xg.st (StF.alloc rfl Try.zeroValue26 rfl) rfl rfl ?_; rintro _ _ ⟨bx, rfl, rfl⟩) | (refine Xg.st (StF.alloc rfl Try.zeroValue28 rfl) rfl rfl ?_; rintro _ _ ⟨bx, rfl, rfl⟩) | (refine Xg.st0 (StF.storeAll (i := 0) rfl rfl rfl (te rfl) rfl rfl rfl rfl) rfl ?_; rintro _ _ ⟨rfl, rfl⟩; dsimp only [List.set]) | (refine Xg.st0 (StF.storeAll (i := 1) rfl rfl rfl (te rfl) rfl rfl rfl rfl) rfl ?_; rintro _ _ ⟨rfl, rfl⟩; dsimp only [List.set]))))) | (refine XO.done rfl ?_; refine hK _ _ ?_; clear hK K) | refine X.seq rfl ?_ | refine X.region rfl (fun K hK => ?_) | refine X.ret rfl ?_)
  exact ret_two (v := .agg (cSp rr).toArray) (by first | exact .inr rfl | exact .inl rfl) Try.results73 ⟨_, rfl, LoadV.whole (te rfl) rfl (List.Mem.tail _ (List.Mem.head _)) rfl⟩ rfl (H' := H) (by (repeat (first | exact List.Sublist.refl _ | apply List.Sublist.cons)); done) ⟨rfl, rfl⟩
def lotOf (g s : Sp) : Lo := ⟨g.lo, g.hi, s.lo, s.hi⟩
def abK (l : Lo) (m : Int) : Ab := ⟨[], [l], [m], []⟩
def abR (l : Lo) : Ab := ⟨[], [l], [], [l]⟩
theorem inb_of {l : Lo} (h1 : partOk l.g1 l.g2) (h2 : partOk l.s1 l.s2) : inb l := ⟨h1.2.1, h1.2.2, h2.2.1, h2.2.2⟩
theorem HIR {l : Lo} : HI (abR l) := by
  intro hG hS x hx
  simp only [abR, List.mem_cons, List.not_mem_nil, or_false] at hx
  subst hx
  exact inb_of (hG _ (by simp [abR])) (hS _ (by simp [abR]))
theorem openK (T : Tm) (l : Lo) (m : Int) : openE T (abK l m) = if tmOk T then (if partOk l.g1 l.g2 then (if partOk l.s1 l.s2 then (if 0 ≤ m ∧ m ≤ 60 then 0 else 44) else 42) else 41) else 40 := by
  unfold openE
  have h1 : askD (abK l m) := fun d hd => absurd hd List.not_mem_nil
  have h2 : askG (abK l m) ↔ partOk l.g1 l.g2 := by simp [askG, abK]
  have h3 : askS (abK l m) ↔ partOk l.s1 l.s2 := by simp [askS, abK]
  have h4 : askM (abK l m) ↔ 0 ≤ m ∧ m ≤ 60 := by simp [askM, abK]
  have h5 : askN T (abK l m) := fun d hd => absurd hd List.not_mem_nil
  simp only [h1, h2, h3, h4, h5, if_true]
theorem openR (T : Tm) (l : Lo) : openE T (abR l) = if tmOk T then (if partOk l.g1 l.g2 then (if partOk l.s1 l.s2 then (if (cls T l).length = 0 then 6 else 0) else 42) else 41) else 40 := by
  unfold openE
  have h1 : askD (abR l) := fun d hd => absurd hd List.not_mem_nil
  have h2 : askG (abR l) ↔ partOk l.g1 l.g2 := by simp [askG, abR]
  have h3 : askS (abR l) ↔ partOk l.s1 l.s2 := by simp [askS, abR]
  have h4 : askM (abR l) := fun d hd => absurd hd List.not_mem_nil
  have h5 : askN T (abR l) ↔ ¬ (cls T l).length = 0 := by simp [askN, abR]
  by_cases h6 : (cls T l).length = 0
  · simp only [h1, h2, h3, h4, h5, h6, if_true, not_true_eq_false, if_false]
  · simp only [h1, h2, h3, h4, h5, h6, if_true, not_false_eq_true, if_false]
noncomputable def knoR (T : Tm) (l : Lo) (m : Int) : Int := if openE T (abK l m) = 0 then knoV T l m else 0
noncomputable def rngR (T : Tm) (l : Lo) : Sp := if openE T (abR l) = 0 then rng T l else ⟨0, 0⟩
set_option maxHeartbeats 4000000 in
theorem kknown_spec (T : Tm) (p : Pt) (g s : Sp) (m : Int) (H : List Row) (hT : TmOk H T p) :
    Fc Try.prog 19 [.agg (cTm T p).toArray, .agg (cSp g).toArray, .agg (cSp s).toArray, .int .i64 m] H (fun v H' => v = .tuple #[.int .u8 (knoR T (lotOf g s) m), .int .i64 (openE T (abK (lotOf g s) m))] ∧ H' = H) := by
  have hT3 : ∀ Z : List Row, TmOk (Z ++ H) T p := fun Z => hT.sub (fun _ h => List.mem_append_right _ h)
  refine Fc.mk (callable Try.call19) Try.func19 rfl Try.ntmps19 rfl ?_; dsimp only [fr]
  repeat' (first | (refine XO.op rfl ?_; (first | ((first | refine Xo.ng rfl ?_); (first | (refine Xg.ev (EvF.build (cs := cLo (lotOf g s)) rfl (ArgsP.cons rfl (ArgsP.cons rfl ArgsP.nil)) (te rfl) (Places.cons (te rfl) (Places.cons (te rfl) Places.nil)) Try.zeroValue105 rfl) rfl rfl ?_) | (refine Xg.st (StF.buildOne rfl elLo rfl rfl rfl (by decide) (by decide)) rfl rfl ?_; rintro _ _ ⟨bs, rfl, rfl⟩) | (refine Xg.st (StF.buildOne rfl elI rfl rfl rfl (by decide) (by decide)) rfl rfl ?_; rintro _ _ ⟨bt, rfl, rfl⟩) | (refine Xg.ev (EvF.build (cs := cAb (abK (lotOf g s) m) ⟨none, 0, some ⟨bs, 0, none⟩, 1, some ⟨bt, 0, none⟩, 1, none, 0⟩) rfl (ArgsP.cons rfl (ArgsP.cons rfl ArgsP.nil)) (te rfl) (Places.cons (te rfl) (Places.cons (te rfl) (Places.cons (te rfl) (Places.cons (te rfl) Places.nil)))) Try.zeroValue109 rfl) rfl rfl ?_) | (refine Xg.ev (EvF.makeFunc rfl Args.nil (Args.cons rfl (Args.cons rfl Args.nil))) rfl rfl ?_) | (refine Xg.call (EnF.st rfl (Args.cons rfl (Args.cons rfl (Args.cons rfl Args.nil)))) rfl rfl (toldU_spec T p (abK (lotOf g s) m) ⟨none, 0, some ⟨bs, 0, none⟩, 1, some ⟨bt, 0, none⟩, 1, none, 0⟩ _ [_, _] (knoV T (lotOf g s) m) _ (hT3 [_, _, _, _, _, _, _]) ⟨sleNil, SlE.ofRow (List.Mem.tail _ (List.Mem.head _)) (fun _ _ => rfl), SlE.ofRow (List.Mem.head _) (fun _ _ => rfl), sleNil, (fun d hd => absurd hd List.not_mem_nil), Nat.zero_le _, Nat.le_of_ble_eq_true rfl, Nat.le_of_ble_eq_true rfl, Nat.zero_le _⟩ HD0 HI0 (fun hE Z => known1_spec T p (lotOf g s) m _ _ _ _ _ _ _ (List.mem_append_right _ (List.Mem.tail _ (List.Mem.tail _ (List.Mem.tail _ (List.Mem.head _))))) (List.mem_append_right _ (List.Mem.tail _ (List.Mem.tail _ (List.Mem.head _)))) (inb_of ((openE_zero hE).2.2.1 _ (List.mem_cons_self ..)) ((openE_zero hE).2.2.2.1 _ (List.mem_cons_self ..))) ((openE_zero hE).2.2.1 (lotOf g s) (List.mem_cons_self ..)).1 ((openE_zero hE).2.2.2.1 (lotOf g s) (List.mem_cons_self ..)).1)) ?_; rintro _ H9 ⟨rfl, hH9⟩; subst H9) | (refine Xg.ev (EvF.assign rfl rfl) rfl rfl ?_) | (refine Xg.ev (EvF.loadV rfl rfl (LoadV.own (te rfl) rfl (List.Mem.tail _ (List.Mem.tail _ (List.Mem.head _))) rfl)) rfl rfl ?_) | (refine Xg.ev (EvF.loadV rfl rfl (LoadV.whole (te rfl) rfl (List.Mem.head _) rfl)) rfl rfl ?_) | (refine Xg.ev (EvF.loadV rfl rfl (LoadV.whole (te rfl) rfl (List.Mem.tail _ (List.Mem.head _)) rfl)) rfl rfl ?_) | (refine Xg.ev (EvF.loadV rfl rfl (LoadV.whole (te rfl) rfl (List.Mem.tail _ (List.Mem.tail _ (List.Mem.head _))) rfl)) rfl rfl ?_) | (refine Xg.ev (EvF.loadV rfl rfl (LoadV.whole (te rfl) rfl (List.Mem.tail _ (List.Mem.tail _ (List.Mem.tail _ (List.Mem.tail _ (List.Mem.head _))))) rfl)) rfl rfl ?_) | (refine Xg.ev (EvF.extract rfl rfl rfl) rfl rfl ?_) | (refine Xg.st (StF.boxAgg rfl rfl) rfl rfl ?_; rintro _ _ ⟨bx, rfl, rfl⟩) | (refine Xg.st (StF.boxOne rfl rfl rfl) rfl rfl ?_; rintro _ _ ⟨bx, rfl, rfl⟩) | (refine Xg.st (StF.alloc rfl Try.zeroValue105 rfl) rfl rfl ?_; rintro _ _ ⟨bx, rfl, rfl⟩) | (refine Xg.st0 (StF.storeAll (i := 0) rfl rfl rfl (te rfl) rfl rfl rfl rfl) rfl ?_; rintro _ _ ⟨rfl, rfl⟩; dsimp only [List.set]))))) | (refine XO.done rfl ?_; refine hK _ _ ?_; clear hK K) | refine X.seq rfl ?_ | refine X.region rfl (fun K hK => ?_) | refine X.ret rfl ?_)
  exact ret_two (by first | exact .inr rfl | exact .inl rfl) Try.results19 rfl rfl (H' := H) (by (repeat (first | exact List.Sublist.refl _ | apply List.Sublist.cons)); done) ⟨rfl, rfl⟩
set_option maxHeartbeats 4000000 in
theorem krange_spec (T : Tm) (p : Pt) (g s : Sp) (H : List Row) (hT : TmOk H T p) :
    Fc Try.prog 21 [.agg (cTm T p).toArray, .agg (cSp g).toArray, .agg (cSp s).toArray] H (fun v H' => v = .tuple #[.agg (cSp (rngR T (lotOf g s))).toArray, .int .i64 (openE T (abR (lotOf g s)))] ∧ H' = H) := by
  have hT3 : ∀ Z : List Row, TmOk (Z ++ H) T p := fun Z => hT.sub (fun _ h => List.mem_append_right _ h)
  have hT7 : ∀ Y Z : List Row, TmOk (Y ++ (Z ++ H)) T p := fun Y Z => hT.sub (fun _ h => List.mem_append_right _ (List.mem_append_right _ h))
  have hpos : openE T (abR (lotOf g s)) = 0 → 0 < (cls T (lotOf g s)).length := fun hE => by
    have := (openE_zero hE).2.2.2.2.2 (lotOf g s) (List.mem_cons_self ..)
    exact Nat.pos_of_ne_zero (fun e => this (by first | exact e | exact List.length_eq_zero_iff.1 e))
  refine Fc.mk (callable Try.call21) Try.func21 rfl Try.ntmps21 rfl ?_; dsimp only [fr]
  repeat' (first | (refine XO.op rfl ?_; (first | ((first | refine Xo.ng rfl ?_); (first | (refine Xg.ev (EvF.build (cs := cLo (lotOf g s)) rfl (ArgsP.cons rfl (ArgsP.cons rfl ArgsP.nil)) (te rfl) (Places.cons (te rfl) (Places.cons (te rfl) Places.nil)) Try.zeroValue105 rfl) rfl rfl ?_) | (refine Xg.st (StF.buildOne rfl elLo rfl rfl rfl (by decide) (by decide)) rfl rfl ?_; rintro _ _ ⟨bs, rfl, rfl⟩) | (refine Xg.ev (EvF.assign rfl rfl) rfl rfl ?_) | (refine Xg.ev (EvF.loadV rfl rfl (LoadV.whole (te rfl) rfl (List.Mem.head _) rfl)) rfl rfl ?_) | (refine Xg.ev (EvF.loadV rfl rfl (LoadV.whole (te rfl) rfl (List.Mem.tail _ (List.Mem.head _)) rfl)) rfl rfl ?_) | (refine Xg.ev (EvF.loadV rfl rfl (LoadV.whole (te rfl) rfl (List.Mem.tail _ (List.Mem.tail _ (List.Mem.head _))) rfl)) rfl rfl ?_) | (refine Xg.ev (EvF.loadV rfl rfl (LoadV.whole (te rfl) rfl (List.Mem.tail _ (List.Mem.tail _ (List.Mem.tail _ (List.Mem.tail _ (List.Mem.head _))))) rfl)) rfl rfl ?_) | (refine Xg.st (StF.boxAgg rfl rfl) rfl rfl ?_; rintro _ _ ⟨bx, rfl, rfl⟩) | (refine Xg.st (StF.alloc rfl Try.zeroValue26 rfl) rfl rfl ?_; rintro _ _ ⟨bx, rfl, rfl⟩) | (refine Xg.st (StF.alloc rfl Try.zeroValue105 rfl) rfl rfl ?_; rintro _ _ ⟨bx, rfl, rfl⟩) | (refine Xg.st0 (StF.storeAll (i := 0) rfl rfl rfl (te rfl) rfl rfl rfl rfl) rfl ?_; rintro _ _ ⟨rfl, rfl⟩; dsimp only [List.set]))))) | (refine XO.done rfl ?_; refine hK _ _ ?_; clear hK K) | refine X.seq rfl ?_ | refine X.region rfl (fun K hK => ?_))
  rename_i b3 b4 b5 b6 b14
  repeat' (first | (refine XO.op rfl ?_; (first | ((first | refine Xo.ng rfl ?_); (first | (refine Xg.ev (EvF.build (cs := cAb (abR (lotOf g s)) ⟨none, 0, some ⟨b14, 0, none⟩, 1, none, 0, some ⟨bs, 0, none⟩, 1⟩) rfl (ArgsP.cons rfl (ArgsP.cons rfl ArgsP.nil)) (te rfl) (Places.cons (te rfl) (Places.cons (te rfl) (Places.cons (te rfl) (Places.cons (te rfl) Places.nil)))) Try.zeroValue109 rfl) rfl rfl ?_) | (refine Xg.ev (EvF.makeFunc rfl Args.nil (Args.cons rfl Args.nil)) rfl rfl ?_) | (refine Xg.call (EnF.st rfl (Args.cons rfl (Args.cons rfl (Args.cons rfl Args.nil)))) rfl rfl (toldS_spec T p (abR (lotOf g s)) ⟨none, 0, some ⟨b14, 0, none⟩, 1, none, 0, some ⟨bs, 0, none⟩, 1⟩ _ [_] (rng T (lotOf g s)) _ (hT3 [_, _, _, _, _, _, _]) ⟨sleNil, SlE.ofRow (List.Mem.tail _ (List.Mem.head _)) (fun _ _ => rfl), sleNil, SlE.ofRow (List.Mem.head _) (fun _ _ => rfl), (fun d hd => absurd hd List.not_mem_nil), Nat.zero_le _, Nat.le_of_ble_eq_true rfl, Nat.zero_le _, Nat.le_of_ble_eq_true rfl⟩ HD0 HIR (fun hE Z => range1_spec T p (lotOf g s) _ _ _ _ (List.mem_append_right _ (List.Mem.tail _ (List.Mem.tail _ (List.Mem.head _)))) (hT7 _ [_, _, _, _, _, _, _]) (openE_zero hE).1 (inb_of ((openE_zero hE).2.2.1 _ (List.mem_cons_self ..)) ((openE_zero hE).2.2.2.1 _ (List.mem_cons_self ..))) (hpos hE))) ?_; rintro _ H9 ⟨rfl, hH9⟩; subst H9) | (refine Xg.ev (EvF.assign rfl rfl) rfl rfl ?_) | (refine Xg.ev (EvF.extract rfl rfl rfl) rfl rfl ?_) | (refine Xg.st0 (StF.storeAll (i := 3) rfl rfl rfl (te rfl) rfl rfl rfl rfl) rfl ?_; rintro _ _ ⟨rfl, rfl⟩; dsimp only [List.set]))))) | (refine XO.done rfl ?_; refine hK _ _ ?_; clear hK K) | refine X.ret rfl ?_)
  exact ret_two (v := .agg (cSp (rngR T (lotOf g s))).toArray) (by first | exact .inr rfl | exact .inl rfl) Try.results21 ⟨_, rfl, LoadV.whole (te rfl) rfl (List.Mem.tail _ (List.Mem.tail _ (List.Mem.tail _ (List.Mem.head _)))) rfl⟩ rfl (H' := H) (by (repeat (first | exact List.Sublist.refl _ | apply List.Sublist.cons)); done) ⟨rfl, rfl⟩
end Go.Proofs.Ytcjlegjchllgjaa
end
section
set_option linter.unusedVariables false
set_option linter.unusedSimpArgs false
namespace Go.Proofs.Ytcjlegjchllgjaa
open Go Go.Fw
set_option maxRecDepth 10000
theorem spanned_spec (s : Sp) (H : List Row) : Fc Try.prog 86 [.agg (cSp s).toArray] H (fun v H' => v = .bool (decide (partOk s.lo s.hi)) ∧ H' = H) := by
  refine Fc.mk (callable Try.call86) Try.func86 rfl Try.ntmps86 rfl ?_; dsimp only [fr]
  repeat' (first | (refine XO.op rfl ?_; (first | ((first | refine Xo.ng rfl ?_ | (refine Xo.g rfl rfl ?_; with_reducible refine Xw.tt ?_)); (first | (refine Xg.call (EnF.st rfl (Args.cons rfl (Args.cons rfl (Args.cons rfl Args.nil)))) rfl rfl (w4_spec _ _ _ _) ?_; rintro _ H9 ⟨rfl, hH9⟩; subst H9) | (refine Xg.ev (EvF.move rfl rfl) rfl rfl ?_) | (refine Xg.ev (EvF.assign rfl rfl) rfl rfl ?_) | (refine Xg.ev (EvF.pickT rfl rfl rfl) rfl rfl ?_) | (refine Xg.ev (EvF.pickF rfl rfl rfl) rfl rfl ?_) | (refine Xg.ev (EvF.fieldAddr rfl rfl (te rfl) rfl (te rfl) (by decide)) rfl rfl ?_) | (refine Xg.ev (EvF.loadV rfl rfl (LoadV.own (te rfl) rfl (List.Mem.head _) rfl)) rfl rfl ?_) | (refine Xg.st (StF.boxAgg rfl rfl) rfl rfl ?_; rintro _ _ ⟨bx, rfl, rfl⟩))) | (refine Xo.g rfl rfl ?_; (first | (with_reducible refine Xw.ft rfl rfl ?_) | (with_reducible refine Xw.case (fun h => ?_) (fun h => ?_) <;> simp only [h, decide_true, decide_false, Bool.not_true, Bool.not_false, and_self, and_true, true_and, and_false, false_and]))))) | (refine XO.done rfl ?_; refine hK _ _ ?_; clear hK K) | refine X.seq rfl ?_ | refine X.region rfl (fun K hK => ?_) | refine X.ret rfl ?_)
  all_goals (refine ret_one (by first | exact .inr rfl | exact .inl rfl) Try.results86 rfl (H' := H) (by (repeat (first | exact List.Sublist.refl _ | apply List.Sublist.cons)); done) ?_; simp only [and_true, true_and])
  · congr 1; refine decide_eq_decide.2 ?_; unfold partOk; omega
  · congr 1; symm; refine decide_eq_false ?_; unfold partOk; omega
noncomputable def spanE (T : Tm) (g s : Sp) : Int := if tmOk T then (if partOk g.lo g.hi then (if partOk s.lo s.hi then 0 else 42) else 41) else 40
theorem spans_spec (T : Tm) (p : Pt) (g s : Sp) (H : List Row) (hT : TmOk H T p) : Fc Try.prog 72 [.agg (cTm T p).toArray, .agg (cSp g).toArray, .agg (cSp s).toArray] H (fun v H' => v = .int .i64 (spanE T g s) ∧ H' = H) := by
  have hT3 : ∀ Z : List Row, TmOk (Z ++ H) T p := fun Z => hT.sub (fun _ h => List.mem_append_right _ h)
  unfold spanE
  refine Fc.mk (callable Try.call72) Try.func72 rfl Try.ntmps72 rfl ?_; dsimp only [fr]
  repeat' (first | (refine XO.op rfl ?_; (first | ((first | refine Xo.ng rfl ?_); (first | (refine Xg.call (EnF.st rfl (Args.cons rfl Args.nil)) rfl rfl (rterms_spec T p _ (hT3 [_, _, _])) ?_; rintro _ H9 ⟨rfl, hH9⟩; subst H9) | (refine Xg.call (EnF.st rfl (Args.cons rfl Args.nil)) rfl rfl (spanned_spec _ _) ?_; rintro _ H9 ⟨rfl, hH9⟩; subst H9) | (refine Xg.ev (EvF.assign rfl rfl) rfl rfl ?_) | (refine Xg.ev (EvF.not rfl rfl) rfl rfl ?_) | (refine Xg.ev (EvF.loadV rfl rfl (LoadV.whole (te rfl) rfl (List.Mem.head _) rfl)) rfl rfl ?_) | (refine Xg.ev (EvF.loadV rfl rfl (LoadV.whole (te rfl) rfl (List.Mem.tail _ (List.Mem.head _)) rfl)) rfl rfl ?_) | (refine Xg.ev (EvF.loadV rfl rfl (LoadV.whole (te rfl) rfl (List.Mem.tail _ (List.Mem.tail _ (List.Mem.head _))) rfl)) rfl rfl ?_) | (refine Xg.st (StF.boxAgg rfl rfl) rfl rfl ?_; rintro _ _ ⟨bx, rfl, rfl⟩))))) | (refine XO.done rfl ?_; refine hK _ _ ?_; clear hK K) | refine X.seq rfl ?_ | refine X.region rfl (fun K hK => ?_) | refine X.skip rfl ?_ | refine X.ret rfl ?_ | (refine X.ite rfl rfl (fun hc => ?_); (first | (with_reducible refine Xb.caseN hc (fun h => ?_) (fun h => ?_))) <;> clear hc))
  all_goals (refine ret_one (by first | exact .inr rfl | exact .inl rfl) Try.results72 rfl (H' := H) (by (repeat (first | exact List.Sublist.refl _ | apply List.Sublist.cons)); done) ?_; simp only [and_true, true_and])
  all_goals simp [*]
def rowA (g : Int) (l : List Int) : List Cl := l.map (fun s => (⟨g, s⟩ : Cl))
def allI (l : Lo) (gs : List Int) : List Cl := gs.flatMap (fun g => rowA g (ir l.s1 l.s2))
/-- all classes of a lot -/
def allC (l : Lo) : List Cl := allI l (ir l.g1 l.g2)
theorem filter_flatMap' {α β : Type} (f : α → List β) (q : β → Bool) : ∀ l : List α, (l.flatMap f).filter q = l.flatMap (fun x => (f x).filter q)
  | [] => rfl
  | x :: l => by rw [List.flatMap_cons, List.filter_append, filter_flatMap' f q l, List.flatMap_cons]
theorem cls_all (T : Tm) (l : Lo) : cls T l = (allC l).filter (may T) := by
  unfold cls clsI allC allI
  rw [filter_flatMap']; rfl
theorem flatMap_len {α β : Type} (f : α → List β) (n : Nat) (h : ∀ x, (f x).length = n) : ∀ l : List α, (l.flatMap f).length = l.length * n
  | [] => by simp
  | x :: l => by rw [List.flatMap_cons, List.length_append, h, flatMap_len f n h l, List.length_cons, Nat.succ_mul]; omega
theorem allC_len (l : Lo) : (allC l).length = (l.g2 - l.g1 + 1).toNat * (l.s2 - l.s1 + 1).toNat := by
  unfold allC allI
  rw [flatMap_len _ (l.s2 - l.s1 + 1).toNat (fun x => by unfold rowA; rw [List.length_map, ir_len]), ir_len]
theorem allC_size {l : Lo} (h1 : l.g1 ≤ l.g2) (h2 : l.s1 ≤ l.s2) : ((allC l).length : Int) = sizeL l ∧ 0 < (allC l).length := by
  rw [allC_len]
  unfold sizeL
  constructor
  · rw [Int.natCast_mul, Int.toNat_of_nonneg (by omega), Int.toNat_of_nonneg (by omega)]
  · exact Nat.mul_pos (by omega) (by omega)
def qM (T : Tm) (m : Int) (c : Cl) : Bool := may T c && dueB T m
theorem knoV_all {T : Tm} {l : Lo} {m : Int} (h1 : l.g1 ≤ l.g2) (h2 : l.s1 ≤ l.s2) : knoV T l m = if (allC l).all (qM T m) = true then 2 else if (allC l).any (qM T m) = true then 1 else 0 := by
  obtain ⟨hs, h0⟩ := allC_size h1 h2
  unfold knoV cntM
  rw [← hs, cls_all]
  obtain ⟨L, hL⟩ : ∃ L, allC l = L := ⟨_, rfl⟩
  rw [hL] at h0 ⊢
  by_cases hd : T.dl ≤ m ∧ m ≤ T.dh
  · have hb : dueB T m = true := decide_eq_true hd
    have hq : qM T m = may T := by funext c; unfold qM; rw [hb, Bool.and_true]
    rw [if_pos hd, hq]
    have hle := List.length_filter_le (may T) L
    by_cases ha : L.all (may T) = true
    · rw [if_pos ha]
      have : (L.filter (may T)).length = L.length := by
        rw [List.filter_eq_self.2 (List.all_eq_true.1 ha)]
      rw [this, decide_eq_false (by omega : ¬ ((L.length : Int) < L.length))]
      rfl
    · rw [if_neg ha]
      have hlt : (L.filter (may T)).length < L.length := by
        rcases Nat.lt_or_ge (L.filter (may T)).length L.length with h | h
        · exact h
        · exact absurd (List.all_eq_true.2 (List.length_filter_eq_length_iff.1 (Nat.le_antisymm hle h))) ha
      rw [decide_eq_true (by omega : ((L.filter (may T)).length : Int) < L.length)]
      by_cases hn : L.any (may T) = true
      · rw [if_pos hn]
        obtain ⟨c, hc, hcm⟩ := List.any_eq_true.1 hn
        have := List.length_pos_of_mem (List.mem_filter.2 ⟨hc, hcm⟩)
        rw [decide_eq_true (by omega : ((L.filter (may T)).length : Int) > 0)]
        rfl
      · rw [if_neg hn]
        have : L.filter (may T) = [] := List.filter_eq_nil_iff.2 (fun c hc hm => hn (List.any_eq_true.2 ⟨c, hc, hm⟩))
        rw [this]
        rfl
  · have hb : dueB T m = false := decide_eq_false hd
    have hq : qM T m = fun _ => false := by funext c; unfold qM; rw [hb, Bool.and_false]
    rw [if_neg hd, hq, decide_eq_true (by omega : (0 : Int) < L.length)]
    rw [if_neg (by cases L <;> simp_all), if_neg (by simp)]
    rfl
theorem any_snoc {α : Type} (l : List α) (x : α) (q : α → Bool) : (l ++ [x]).any q = (l.any q || q x) := by simp
theorem all_snoc {α : Type} (l : List α) (x : α) (q : α → Bool) : (l ++ [x]).all q = (l.all q && q x) := by simp
theorem rowA_snoc (g : Int) (l : Lo) {j : Nat} (h : (j : Int) < l.s2 - l.s1 + 1) : rowA g ((ir l.s1 l.s2).take (j + 1)) = rowA g ((ir l.s1 l.s2).take j) ++ [⟨g, l.s1 + j⟩] := by
  rw [take_snoc (ir_get h)]
  unfold rowA
  rw [List.map_append]; rfl
theorem allI_snoc (l : Lo) {k : Nat} (h : (k : Int) < l.g2 - l.g1 + 1) : allI l ((ir l.g1 l.g2).take (k + 1)) = allI l ((ir l.g1 l.g2).take k) ++ rowA (l.g1 + k) (ir l.s1 l.s2) := by
  rw [take_snoc (ir_get h)]
  unfold allI
  rw [List.flatMap_append]; simp
theorem openK_span (T : Tm) (g s : Sp) (m : Int) : openE T (abK (lotOf g s) m) = if spanE T g s = 0 then (if 0 ≤ m ∧ m ≤ 60 then 0 else 44) else spanE T g s := by
  rw [openK]; unfold spanE lotOf
  by_cases h1 : tmOk T <;> by_cases h2 : partOk g.lo g.hi <;> by_cases h3 : partOk s.lo s.hi <;> simp [h1, h2, h3]
theorem openR_span (T : Tm) (g s : Sp) : openE T (abR (lotOf g s)) = if spanE T g s = 0 then (if (cls T (lotOf g s)).length = 0 then 6 else 0) else spanE T g s := by
  rw [openR]; unfold spanE lotOf
  by_cases h1 : tmOk T <;> by_cases h2 : partOk g.lo g.hi <;> by_cases h3 : partOk s.lo s.hi <;> simp [h1, h2, h3]
theorem spanE_zero {T : Tm} {g s : Sp} (h : spanE T g s = 0) : tmOk T ∧ partOk g.lo g.hi ∧ partOk s.lo s.hi := by
  unfold spanE at h
  by_cases h1 : tmOk T
  · by_cases h2 : partOk g.lo g.hi
    · by_cases h3 : partOk s.lo s.hi
      · exact ⟨h1, h2, h3⟩
      · simp [h1, h2, h3] at h
    · simp [h1, h2] at h
  · simp [h1] at h
set_option maxHeartbeats 8000000 in
theorem rknown_spec (T : Tm) (p : Pt) (g s : Sp) (m : Int) (H : List Row) (hT : TmOk H T p) :
    Fc Try.prog 20 [.agg (cTm T p).toArray, .agg (cSp g).toArray, .agg (cSp s).toArray, .int .i64 m] H (fun v H' => v = .tuple #[.int .u8 (knoR T (lotOf g s) m), .int .i64 (openE T (abK (lotOf g s) m))] ∧ H' = H) := by
  have hT3 : ∀ Z : List Row, TmOk (Z ++ H) T p := fun Z => hT.sub (fun _ h => List.mem_append_right _ h)
  unfold knoR
  rw [openK_span]
  obtain ⟨er, her⟩ : ∃ e, spanE T g s = e := ⟨_, rfl⟩
  have hsp := fun H (h : TmOk H T p) => spans_spec T p g s H h
  rw [her] at hsp ⊢
  by_cases h0 : er = 0
  · subst h0
    obtain ⟨hok, hg, hs⟩ := spanE_zero her
    rw [if_pos rfl]
    by_cases hm : 0 ≤ m ∧ m ≤ 60
    · rw [if_pos hm, if_pos rfl, knoV_all (l := lotOf g s) hg.1 hs.1]
      have hgi := hg.2
      have hsi := hs.2
      unfold partOk at hg hs
      obtain ⟨l, hl⟩ : ∃ l, lotOf g s = l := ⟨_, rfl⟩
      rw [hl]
      have e1 : g.lo = l.g1 := by rw [← hl]; rfl
      have e2 : g.hi = l.g2 := by rw [← hl]; rfl
      have e3 : s.lo = l.s1 := by rw [← hl]; rfl
      have e4 : s.hi = l.s2 := by rw [← hl]; rfl
      obtain ⟨g1, g2⟩ := g
      obtain ⟨s1, s2⟩ := s
      dsimp only at e1 e2 e3 e4 hg hs hgi hsi
      subst e1 e2 e3 e4
      obtain ⟨q, hq⟩ : ∃ q, qM T m = q := ⟨_, rfl⟩
      rw [hq]
      refine Fc.mk (callable Try.call20) Try.func20 rfl Try.ntmps20 rfl ?_; dsimp only [fr]
      repeat' (first | (refine XO.op rfl ?_; (first | ((first | refine Xo.ng rfl ?_); (first | (refine Xg.call (EnF.st rfl (Args.cons rfl (Args.cons rfl (Args.cons rfl Args.nil)))) rfl rfl (hsp _ (hT3 [_, _, _])) ?_; rintro _ H9 ⟨rfl, hH9⟩; subst H9) | (refine Xg.call (EnF.st rfl (Args.cons rfl (Args.cons rfl (Args.cons rfl Args.nil)))) rfl rfl (w4_spec _ _ _ _) ?_; rintro _ H9 ⟨rfl, hH9⟩; subst H9) | (refine Xg.ev (EvF.move rfl rfl) rfl rfl ?_) | (refine Xg.ev (EvF.assign rfl rfl) rfl rfl ?_) | (refine Xg.ev (EvF.cmp rfl rfl rfl rfl) rfl rfl ?_) | (refine Xg.ev (EvF.not rfl rfl) rfl rfl ?_) | (refine Xg.ev (EvF.fieldAddr rfl rfl (te rfl) rfl (te rfl) (by decide)) rfl rfl ?_) | (refine Xg.ev (EvF.loadV rfl rfl (LoadV.own (te rfl) rfl (List.Mem.tail _ (List.Mem.head _)) rfl)) rfl rfl ?_) | (refine Xg.ev (EvF.loadV rfl rfl (LoadV.whole (te rfl) rfl (List.Mem.head _) rfl)) rfl rfl ?_) | (refine Xg.ev (EvF.loadV rfl rfl (LoadV.whole (te rfl) rfl (List.Mem.tail _ (List.Mem.head _)) rfl)) rfl rfl ?_) | (refine Xg.ev (EvF.loadV rfl rfl (LoadV.whole (te rfl) rfl (List.Mem.tail _ (List.Mem.tail _ (List.Mem.head _))) rfl)) rfl rfl ?_) | (refine Xg.st (StF.boxAgg rfl rfl) rfl rfl ?_; rintro _ _ ⟨bx, rfl, rfl⟩))))) | (refine XO.done rfl ?_; refine hK _ _ ?_; clear hK K) | refine X.seq rfl ?_ | refine X.region rfl (fun K hK => ?_) | refine X.block rfl ?_ | refine X.skip rfl ?_ | refine X.ret rfl ?_ | (refine X.ite rfl rfl (fun hc => ?_); (first | (with_reducible refine Xb.caseN hc (fun h => ?_) (fun h => ?_))) <;> clear hc))
      all_goals try (exfalso; first | contradiction | omega)
      rename_i b4 b5 h00
      clear h00
      obtain ⟨b6, hb6⟩ : ∃ b, b = bx := ⟨_, rfl⟩
      rw [← hb6]
      clear hb6
      obtain ⟨d, hd⟩ : ∃ d, dueB T m = d := ⟨_, rfl⟩
      have hw : ∀ H, Fc Try.prog 56 [.int .i64 m, .int .i64 T.dl, .int .i64 T.dh] H (fun v H' => v = .bool d ∧ H' = H) := fun H => by
        have := w4_spec m T.dl T.dh H
        rw [show decide (T.dl ≤ m ∧ m ≤ T.dh) = d from hd] at this
        exact this
      obtain ⟨HH, hHH⟩ : ∃ HH : List Row, HH = ⟨b6, 0, cSp ⟨l.s1, l.s2⟩, some 26, 2⟩ :: ⟨b5, 0, cSp ⟨l.g1, l.g2⟩, some 26, 2⟩ :: ⟨b4, 0, cTm T p, some 28, 11⟩ :: H := ⟨_, rfl⟩
      have m6 : ⟨b6, 0, cSp ⟨l.s1, l.s2⟩, some 26, 2⟩ ∈ HH := by rw [hHH]; exact (List.Mem.head _)
      have m5 : ⟨b5, 0, cSp ⟨l.g1, l.g2⟩, some 26, 2⟩ ∈ HH := by rw [hHH]; exact (List.Mem.tail _ (List.Mem.head _))
      have m4 : ⟨b4, 0, cTm T p, some 28, 11⟩ ∈ HH := by rw [hHH]; exact (List.Mem.tail _ (List.Mem.tail _ (List.Mem.head _)))
      have hsH : H.Sublist HH := by rw [hHH]; exact List.Sublist.cons _ (List.Sublist.cons _ (List.Sublist.cons _ (List.Sublist.refl _)))
      refine X.weakR (H' := HH) (by rw [hHH]; exact (by (repeat (first | exact List.Sublist.refl _ | apply List.Sublist.cons_cons | apply List.Sublist.cons)); done)) ?_
      clear hHH
      refine X.lp rfl (fun w F' H' => ∃ (k : Nat) (a b : Bool), w = (l.g2 - l.g1 + 1).toNat - k ∧ k ≤ (l.g2 - l.g1 + 1).toNat ∧ (allI l ((ir l.g1 l.g2).take k)).any q = a ∧ (allI l ((ir l.g1 l.g2).take k)).all q = b ∧ HH = H' ∧
          F' = [(3, .int .i64 m), (4, .pointer (some ⟨b4, 0, none⟩)), (5, .pointer (some ⟨b5, 0, none⟩)), (6, .pointer (some ⟨b6, 0, none⟩)), (11, .bool a), (12, .bool b), (13, .int .i64 (l.g1 + k))])
        _ [(3, .int .i64 m), (4, .pointer (some ⟨b4, 0, none⟩)), (5, .pointer (some ⟨b5, 0, none⟩)), (6, .pointer (some ⟨b6, 0, none⟩)), (11, .bool false), (12, .bool true), (13, .int .i64 (l.g1 + (0 : Nat)))] _ (by rw [show l.g1 + ((0 : Nat) : Int) = l.g1 by omega]; exact (by (repeat (first | exact Sub.nil _ | refine Sub.cons rfl ?_)); done)) (List.Sublist.refl _) ⟨0, _, _, rfl, by omega, rfl, rfl, rfl, rfl⟩ ?_
      rintro _ _ _ ⟨k, a, b, rfl, hk, ha, hb, rfl, rfl⟩
      repeat' (first | (refine XO.op rfl ?_; (first | ((first | refine Xo.ng rfl ?_); (first | (refine Xg.ev (EvF.loadV rfl rfl (LoadV.own (te rfl) rfl m5 rfl)) rfl rfl ?_) | (refine Xg.ev (EvF.move rfl rfl) rfl rfl ?_) | (refine Xg.ev (EvF.assign rfl rfl) rfl rfl ?_) | (refine Xg.ev (EvF.cmp rfl rfl rfl rfl) rfl rfl ?_) | (refine Xg.ev (EvF.fieldAddr rfl rfl (te rfl) rfl (te rfl) (by decide)) rfl rfl ?_))))) | (refine XO.done rfl ?_; refine hK _ _ ?_; clear hK K) | refine X.seq rfl ?_ | refine X.region rfl (fun K hK => ?_) | refine X.block rfl ?_ | (refine X.brk rfl ?_; repeat (first | refine blockX_hit rfl ?_ | refine blockX_miss (by decide) ?_)) | refine X.skip rfl ?_ | refine X.ret rfl ?_ | (refine X.ite rfl rfl (fun hc => ?_); (first | (with_reducible refine Xb.case hc (fun h => ?_) (fun h => ?_)) | (with_reducible refine Xb.caseB hc (fun h => ?_) (fun h => ?_))) <;> clear hc))
      · have hk1 : (k : Int) < l.g2 - l.g1 + 1 := by (try dsimp only at *); omega
        repeat' (first | (refine XO.op rfl ?_; (first | ((first | refine Xo.ng rfl ?_); (first | (refine Xg.ev (EvF.loadV rfl rfl (LoadV.own (te rfl) rfl m6 rfl)) rfl rfl ?_) | (refine Xg.ev (EvF.assign rfl rfl) rfl rfl ?_))))) | (refine XO.done rfl ?_; refine hK _ _ ?_; clear hK K) | refine X.block rfl ?_)
        refine X.lp rfl (fun w F' H' => ∃ (j : Nat) (a b : Bool), w = (l.s2 - l.s1 + 1).toNat - j ∧ j ≤ (l.s2 - l.s1 + 1).toNat ∧ (allI l ((ir l.g1 l.g2).take k) ++ rowA (l.g1 + k) ((ir l.s1 l.s2).take j)).any q = a ∧ (allI l ((ir l.g1 l.g2).take k) ++ rowA (l.g1 + k) ((ir l.s1 l.s2).take j)).all q = b ∧ HH = H' ∧
            F' = [(3, .int .i64 m), (4, .pointer (some ⟨b4, 0, none⟩)), (5, .pointer (some ⟨b5, 0, none⟩)), (6, .pointer (some ⟨b6, 0, none⟩)), (11, .bool a), (12, .bool b), (13, .int .i64 (l.g1 + k)), (14, .int .i64 (l.s1 + j))])
          _ [(3, .int .i64 m), (4, .pointer (some ⟨b4, 0, none⟩)), (5, .pointer (some ⟨b5, 0, none⟩)), (6, .pointer (some ⟨b6, 0, none⟩)), (11, .bool a), (12, .bool b), (13, .int .i64 (l.g1 + k)), (14, .int .i64 (l.s1 + (0 : Nat)))] _ (by rw [show l.s1 + ((0 : Nat) : Int) = l.s1 by omega]; exact (by (repeat (first | exact Sub.nil _ | refine Sub.cons rfl ?_)); done)) (List.Sublist.refl _) ⟨0, a, b, rfl, by omega, by simpa [rowA] using ha, by simpa [rowA] using hb, rfl, rfl⟩ ?_
        clear ha hb a b
        rintro _ _ _ ⟨j, a, b, rfl, hj, ha, hb, rfl, rfl⟩
        repeat' (first | (refine XO.op rfl ?_; (first | ((first | refine Xo.ng rfl ?_); (first | (refine Xg.ev (EvF.loadV rfl rfl (LoadV.own (te rfl) rfl m6 rfl)) rfl rfl ?_) | (refine Xg.ev (EvF.move rfl rfl) rfl rfl ?_) | (refine Xg.ev (EvF.assign rfl rfl) rfl rfl ?_) | (refine Xg.ev (EvF.cmp rfl rfl rfl rfl) rfl rfl ?_) | (refine Xg.ev (EvF.add64 rfl rfl rfl (by omega) (by omega)) rfl rfl ?_) | (refine Xg.ev (EvF.fieldAddr rfl rfl (te rfl) rfl (te rfl) (by decide)) rfl rfl ?_))))) | (refine XO.done rfl ?_; refine hK _ _ ?_; clear hK K) | refine X.seq rfl ?_ | refine X.region rfl (fun K hK => ?_) | refine X.block rfl ?_ | (refine X.brk rfl ?_; repeat (first | refine blockX_hit rfl ?_ | refine blockX_miss (by decide) ?_)) | refine X.skip rfl ?_ | (refine X.ite rfl rfl (fun hc => ?_); (first | (with_reducible refine Xb.case hc (fun h => ?_) (fun h => ?_))) <;> clear hc))
        · have hj1 : (j : Int) < l.s2 - l.s1 + 1 := by (try dsimp only at *); omega
          have hsn := rowA_snoc (l.g1 + k) l hj1
          obtain ⟨y, hy⟩ : ∃ y, may T ⟨l.g1 + k, l.s1 + j⟩ = y := ⟨_, rfl⟩
          have hqc : q ⟨l.g1 + k, l.s1 + j⟩ = (y && d) := by rw [← hq, ← hy, ← hd]; rfl
          have hmy : ∀ H, Fc Try.prog 57 [.agg (cTm T p).toArray, .agg (cCl ⟨l.g1 + k, l.s1 + j⟩).toArray] H (fun v H' => v = .bool y ∧ H' = H) := fun H => by
            have := rmay_spec T p ⟨l.g1 + k, l.s1 + j⟩ H
            rwa [hy] at this
          have ha2 : (allI l ((ir l.g1 l.g2).take k) ++ rowA (l.g1 + k) ((ir l.s1 l.s2).take (j + 1))).any q = (a || (y && d)) := by rw [hsn, ← List.append_assoc, any_snoc, ha, hqc]
          have hb2 : (allI l ((ir l.g1 l.g2).take k) ++ rowA (l.g1 + k) ((ir l.s1 l.s2).take (j + 1))).all q = (b && (y && d)) := by rw [hsn, ← List.append_assoc, all_snoc, hb, hqc]
          clear hsn ha hb hqc hy
          cases a <;> cases b <;> cases y <;> cases d
          all_goals repeat' (first | (refine XO.op rfl ?_; (first | ((first | refine Xo.ng rfl ?_ | (refine Xo.g rfl rfl ?_; with_reducible refine Xw.tt ?_) | (refine Xo.g rfl rfl ?_; with_reducible refine Xw.ff ?_)); (first | (refine Xg.ev (EvF.loadV rfl rfl (LoadV.whole (te rfl) rfl m4 rfl)) rfl rfl ?_) | (refine Xg.ev (EvF.loadV rfl rfl (LoadV.own (te rfl) rfl m4 rfl)) rfl rfl ?_) | (refine Xg.ev (EvF.build (cs := cCl ⟨l.g1 + k, l.s1 + j⟩) rfl (ArgsP.cons rfl (ArgsP.cons rfl ArgsP.nil)) (te rfl) (Places.cons (te rfl) (Places.cons (te rfl) Places.nil)) Try.zeroValue23 rfl) rfl rfl ?_) | (refine Xg.call (EnF.st rfl (Args.cons rfl (Args.cons rfl Args.nil))) rfl rfl (hmy _) ?_; rintro _ H9 ⟨rfl, hH9⟩; subst H9) | (refine Xg.call (EnF.st rfl (Args.cons rfl (Args.cons rfl (Args.cons rfl Args.nil)))) rfl rfl (hw _) ?_; rintro _ H9 ⟨rfl, hH9⟩; subst H9) | (refine Xg.ev (EvF.move rfl rfl) rfl rfl ?_) | (refine Xg.ev (EvF.assign rfl rfl) rfl rfl ?_) | (refine Xg.ev (EvF.pickT rfl rfl rfl) rfl rfl ?_) | (refine Xg.ev (EvF.pickF rfl rfl rfl) rfl rfl ?_) | (refine Xg.ev (EvF.add64 rfl rfl rfl (by omega) (by omega)) rfl rfl ?_) | (refine Xg.ev (EvF.fieldAddr rfl rfl (te rfl) rfl (te rfl) (by decide)) rfl rfl ?_))) | (refine Xo.g rfl rfl ?_; (first | (with_reducible refine Xw.tf rfl rfl ?_) | (with_reducible refine Xw.ft rfl rfl ?_))))) | (refine XO.done rfl ?_; refine hK _ _ ?_; clear hK K) | refine X.seq rfl ?_ | refine X.region rfl (fun K hK => ?_))
          all_goals (refine ⟨_, [(3, .int .i64 m), (4, .pointer (some ⟨b4, 0, none⟩)), (5, .pointer (some ⟨b5, 0, none⟩)), (6, .pointer (some ⟨b6, 0, none⟩)), (11, .bool _), (12, .bool _), (13, .int .i64 (l.g1 + k)), (14, .int .i64 (l.s1 + (j + 1 : Nat)))], _, (by rw [show l.s1 + ((j + 1 : Nat) : Int) = l.s1 + j + 1 by omega]; exact (by (repeat (first | exact Sub.nil _ | refine Sub.cons rfl ?_)); done)), List.Sublist.refl _, ⟨j + 1, _, _, rfl, by omega, ha2, hb2, rfl, rfl⟩, by omega⟩)
        · rw [List.take_of_length_le (i := j) (by rw [ir_len]; (try dsimp only at *); omega), ← allI_snoc l hk1] at ha hb
          repeat' (first | fail)
          refine ⟨_, [(3, .int .i64 m), (4, .pointer (some ⟨b4, 0, none⟩)), (5, .pointer (some ⟨b5, 0, none⟩)), (6, .pointer (some ⟨b6, 0, none⟩)), (11, .bool a), (12, .bool b), (13, .int .i64 (l.g1 + (k + 1 : Nat)))], _, (by rw [show l.g1 + ((k + 1 : Nat) : Int) = l.g1 + k + 1 by omega]; exact (by (repeat (first | exact Sub.nil _ | refine Sub.cons rfl ?_)); done)), List.Sublist.refl _, ⟨k + 1, a, b, rfl, by omega, ha, hb, rfl, rfl⟩, by omega⟩
      all_goals (
        rw [List.take_of_length_le (i := k) (by rw [ir_len]; (try dsimp only at *); omega)] at ha hb
        have ha' : (allC l).any q = a := ha
        have hb' : (allC l).all q = b := hb
        rw [ha', hb']
        exact ret_two (by first | exact .inr rfl | exact .inl rfl) Try.results20 rfl rfl (H' := H) hsH ⟨by simp [*], rfl⟩)
    · rw [if_neg hm]
      refine Fc.mk (callable Try.call20) Try.func20 rfl Try.ntmps20 rfl ?_; dsimp only [fr]
      repeat' (first | (refine XO.op rfl ?_; (first | ((first | refine Xo.ng rfl ?_); (first | (refine Xg.call (EnF.st rfl (Args.cons rfl (Args.cons rfl (Args.cons rfl Args.nil)))) rfl rfl (hsp _ (hT3 [_, _, _])) ?_; rintro _ H9 ⟨rfl, hH9⟩; subst H9) | (refine Xg.call (EnF.st rfl (Args.cons rfl (Args.cons rfl (Args.cons rfl Args.nil)))) rfl rfl (w4_spec _ _ _ _) ?_; rintro _ H9 ⟨rfl, hH9⟩; subst H9) | (refine Xg.ev (EvF.move rfl rfl) rfl rfl ?_) | (refine Xg.ev (EvF.assign rfl rfl) rfl rfl ?_) | (refine Xg.ev (EvF.cmp rfl rfl rfl rfl) rfl rfl ?_) | (refine Xg.ev (EvF.not rfl rfl) rfl rfl ?_) | (refine Xg.ev (EvF.fieldAddr rfl rfl (te rfl) rfl (te rfl) (by decide)) rfl rfl ?_) | (refine Xg.ev (EvF.loadV rfl rfl (LoadV.own (te rfl) rfl (List.Mem.tail _ (List.Mem.head _)) rfl)) rfl rfl ?_) | (refine Xg.ev (EvF.loadV rfl rfl (LoadV.whole (te rfl) rfl (List.Mem.head _) rfl)) rfl rfl ?_) | (refine Xg.ev (EvF.loadV rfl rfl (LoadV.whole (te rfl) rfl (List.Mem.tail _ (List.Mem.head _)) rfl)) rfl rfl ?_) | (refine Xg.ev (EvF.loadV rfl rfl (LoadV.whole (te rfl) rfl (List.Mem.tail _ (List.Mem.tail _ (List.Mem.head _))) rfl)) rfl rfl ?_) | (refine Xg.st (StF.boxAgg rfl rfl) rfl rfl ?_; rintro _ _ ⟨bx, rfl, rfl⟩))))) | (refine XO.done rfl ?_; refine hK _ _ ?_; clear hK K) | refine X.seq rfl ?_ | refine X.region rfl (fun K hK => ?_) | refine X.block rfl ?_ | refine X.skip rfl ?_ | refine X.ret rfl ?_ | (refine X.ite rfl rfl (fun hc => ?_); (first | (with_reducible refine Xb.caseN hc (fun h => ?_) (fun h => ?_))) <;> clear hc))
      all_goals try (exfalso; first | contradiction | omega)
      refine ret_two (by first | exact .inr rfl | exact .inl rfl) Try.results20 rfl rfl (H' := H) (by (repeat (first | exact List.Sublist.refl _ | apply List.Sublist.cons)); done) ?_; simp only [and_true, true_and]
      simp
  · rw [if_neg h0]
    refine Fc.mk (callable Try.call20) Try.func20 rfl Try.ntmps20 rfl ?_; dsimp only [fr]
    repeat' (first | (refine XO.op rfl ?_; (first | ((first | refine Xo.ng rfl ?_); (first | (refine Xg.call (EnF.st rfl (Args.cons rfl (Args.cons rfl (Args.cons rfl Args.nil)))) rfl rfl (hsp _ (hT3 [_, _, _])) ?_; rintro _ H9 ⟨rfl, hH9⟩; subst H9) | (refine Xg.ev (EvF.move rfl rfl) rfl rfl ?_) | (refine Xg.ev (EvF.assign rfl rfl) rfl rfl ?_) | (refine Xg.ev (EvF.cmp rfl rfl rfl rfl) rfl rfl ?_) | (refine Xg.ev (EvF.loadV rfl rfl (LoadV.whole (te rfl) rfl (List.Mem.head _) rfl)) rfl rfl ?_) | (refine Xg.ev (EvF.loadV rfl rfl (LoadV.whole (te rfl) rfl (List.Mem.tail _ (List.Mem.head _)) rfl)) rfl rfl ?_) | (refine Xg.ev (EvF.loadV rfl rfl (LoadV.whole (te rfl) rfl (List.Mem.tail _ (List.Mem.tail _ (List.Mem.head _))) rfl)) rfl rfl ?_) | (refine Xg.st (StF.boxAgg rfl rfl) rfl rfl ?_; rintro _ _ ⟨bx, rfl, rfl⟩))))) | (refine XO.done rfl ?_; refine hK _ _ ?_; clear hK K) | refine X.seq rfl ?_ | refine X.region rfl (fun K hK => ?_) | refine X.skip rfl ?_ | refine X.ret rfl ?_ | (refine X.ite rfl rfl (fun hc => ?_); (first | (with_reducible refine Xb.caseN hc (fun h => ?_) (fun h => ?_))) <;> clear hc))
    all_goals try (exfalso; exact h0 (by assumption))
    refine ret_two (by first | exact .inr rfl | exact .inl rfl) Try.results20 rfl rfl (H' := H) (by (repeat (first | exact List.Sublist.refl _ | apply List.Sublist.cons)); done) ?_; simp only [and_true, true_and]
    simp [h0]
end Go.Proofs.Ytcjlegjchllgjaa
end
section
set_option linter.unusedVariables false
set_option linter.unusedSimpArgs false
namespace Go.Proofs.Ytcjlegjchllgjaa
open Go Go.Fw
set_option maxRecDepth 10000
def fnd : List Cl → Bool
  | [] => false
  | _ :: _ => true
theorem fnd_snoc (l : List Cl) (c : Cl) : fnd (l ++ [c]) = true := by cases l <;> rfl
theorem fnd_false {l : List Cl} (h : fnd l = false) : l = [] := by cases l with | nil => rfl | cons => cases h
theorem fnd_true {l : List Cl} (h : fnd l = true) : 0 < l.length := by cases l with | nil => cases h | cons => exact Nat.succ_pos _
def rgE (T : Tm) (E : List Cl) : Sp := ⟨minL (E.map (fun c => val T c.g c.s)), maxL (E.map (fun c => val T c.g c.s))⟩
theorem rgE_snoc {T : Tm} {E : List Cl} {c : Cl} {o : Sp} (h : fnd E = true) (ho : rgE T E = o) : rgE T (E ++ [c]) = ⟨min o.lo (val T c.g c.s), max o.hi (val T c.g c.s)⟩ := by
  have h0 := fnd_true h
  rw [← ho]
  unfold rgE
  rw [List.map_append, List.map_cons, List.map_nil, minL_snoc _ (by rw [List.length_map]; exact h0), maxL_snoc _ (by rw [List.length_map]; exact h0)]
theorem rgE_one {T : Tm} {E : List Cl} {c : Cl} (h : fnd E = false) : rgE T (E ++ [c]) = ⟨min (val T c.g c.s) (val T c.g c.s), max (val T c.g c.s) (val T c.g c.s)⟩ := by
  rw [fnd_false h]
  show (⟨val T c.g c.s, val T c.g c.s⟩ : Sp) = _
  rw [Sp.mk.injEq]; omega
theorem filt_snoc (D : List Cl) (c : Cl) (q : Cl → Bool) : (D ++ [c]).filter q = D.filter q ++ (if q c = true then [c] else []) := by
  rw [List.filter_append]
  congr 1
  rw [List.filter_cons, List.filter_nil]
set_option maxHeartbeats 8000000 in
theorem rrange_spec (T : Tm) (p : Pt) (g s : Sp) (H : List Row) (hT : TmOk H T p) :
    Fc Try.prog 22 [.agg (cTm T p).toArray, .agg (cSp g).toArray, .agg (cSp s).toArray] H (fun v H' => v = .tuple #[.agg (cSp (rngR T (lotOf g s))).toArray, .int .i64 (openE T (abR (lotOf g s)))] ∧ H' = H) := by
  have hT3 : ∀ Z : List Row, TmOk (Z ++ H) T p := fun Z => hT.sub (fun _ h => List.mem_append_right _ h)
  unfold rngR
  rw [openR_span]
  obtain ⟨er, her⟩ : ∃ e, spanE T g s = e := ⟨_, rfl⟩
  have hsp := fun H (h : TmOk H T p) => spans_spec T p g s H h
  rw [her] at hsp ⊢
  by_cases h0 : er = 0
  · subst h0
    obtain ⟨hok, hg, hs⟩ := spanE_zero her
    rw [if_pos rfl]
    have hp := hok.num.1
    unfold partOk at hg hs
    obtain ⟨l, hl⟩ : ∃ l, lotOf g s = l := ⟨_, rfl⟩
    rw [hl]
    have e1 : g.lo = l.g1 := by rw [← hl]; rfl
    have e2 : g.hi = l.g2 := by rw [← hl]; rfl
    have e3 : s.lo = l.s1 := by rw [← hl]; rfl
    have e4 : s.hi = l.s2 := by rw [← hl]; rfl
    obtain ⟨g1, g2⟩ := g
    obtain ⟨s1, s2⟩ := s
    dsimp only at e1 e2 e3 e4 hg hs
    subst e1 e2 e3 e4
    refine Fc.mk (callable Try.call22) Try.func22 rfl Try.ntmps22 rfl ?_; dsimp only [fr]
    repeat' (first | (refine XO.op rfl ?_; (first | ((first | refine Xo.ng rfl ?_); (first | (refine Xg.call (EnF.st rfl (Args.cons rfl (Args.cons rfl (Args.cons rfl Args.nil)))) rfl rfl (hsp _ (hT3 [_, _, _, _])) ?_; rintro _ H9 ⟨rfl, hH9⟩; subst H9) | (refine Xg.ev (EvF.move rfl rfl) rfl rfl ?_) | (refine Xg.ev (EvF.assign rfl rfl) rfl rfl ?_) | (refine Xg.ev (EvF.cmp rfl rfl rfl rfl) rfl rfl ?_) | (refine Xg.ev (EvF.fieldAddr rfl rfl (te rfl) rfl (te rfl) (by decide)) rfl rfl ?_) | (refine Xg.ev (EvF.loadV rfl rfl (LoadV.own (te rfl) rfl (List.Mem.tail _ (List.Mem.tail _ (List.Mem.tail _ (List.Mem.head _)))) rfl)) rfl rfl ?_) | (refine Xg.ev (EvF.loadV rfl rfl (LoadV.whole (te rfl) rfl (List.Mem.tail _ (List.Mem.head _)) rfl)) rfl rfl ?_) | (refine Xg.ev (EvF.loadV rfl rfl (LoadV.whole (te rfl) rfl (List.Mem.tail _ (List.Mem.tail _ (List.Mem.head _))) rfl)) rfl rfl ?_) | (refine Xg.ev (EvF.loadV rfl rfl (LoadV.whole (te rfl) rfl (List.Mem.tail _ (List.Mem.tail _ (List.Mem.tail _ (List.Mem.head _)))) rfl)) rfl rfl ?_) | (refine Xg.st (StF.boxAgg rfl rfl) rfl rfl ?_; rintro _ _ ⟨bx, rfl, rfl⟩) | (refine Xg.st (StF.alloc rfl Try.zeroValue26 rfl) rfl rfl ?_; rintro _ _ ⟨bx, rfl, rfl⟩))))) | (refine XO.done rfl ?_; refine hK _ _ ?_; clear hK K) | refine X.seq rfl ?_ | refine X.region rfl (fun K hK => ?_) | refine X.block rfl ?_ | refine X.skip rfl ?_ | (refine X.ite rfl rfl (fun hc => ?_); (first | (with_reducible refine Xb.caseN hc (fun h => ?_) (fun h => ?_))) <;> clear hc))
    all_goals try (exfalso; first | contradiction | omega)
    rename_i b3 b4 b5 b6
    obtain ⟨b9, hb9⟩ : ∃ b, b = bx := ⟨_, rfl⟩
    rw [← hb9]
    clear hb9
    obtain ⟨HH, hHH⟩ : ∃ HH : List Row, HH = ⟨b6, 0, cSp ⟨0, 0⟩, some 26, 2⟩ :: ⟨b5, 0, cSp ⟨l.s1, l.s2⟩, some 26, 2⟩ :: ⟨b4, 0, cSp ⟨l.g1, l.g2⟩, some 26, 2⟩ :: ⟨b3, 0, cTm T p, some 28, 11⟩ :: H := ⟨_, rfl⟩
    have m5 : ∀ Z : List Row, ⟨b5, 0, cSp ⟨l.s1, l.s2⟩, some 26, 2⟩ ∈ Z ++ HH := fun Z => List.mem_append_right _ (by rw [hHH]; exact (List.Mem.tail _ (List.Mem.head _)))
    have m4 : ∀ Z : List Row, ⟨b4, 0, cSp ⟨l.g1, l.g2⟩, some 26, 2⟩ ∈ Z ++ HH := fun Z => List.mem_append_right _ (by rw [hHH]; exact (List.Mem.tail _ (List.Mem.tail _ (List.Mem.head _))))
    have m3 : ∀ Z : List Row, ⟨b3, 0, cTm T p, some 28, 11⟩ ∈ Z ++ HH := fun Z => List.mem_append_right _ (by rw [hHH]; exact (List.Mem.tail _ (List.Mem.tail _ (List.Mem.tail _ (List.Mem.head _)))))
    have hTT : ∀ Z : List Row, TmOk (Z ++ HH) T p := fun Z => hT.sub (fun r hr => List.mem_append_right _ (by rw [hHH]; exact List.mem_append_right [_, _, _, _] hr))
    refine X.weakR (H' := ⟨b9, 0, cSp ⟨0, 0⟩, some 26, 2⟩ :: HH) (by rw [hHH]; exact (by (repeat (first | exact List.Sublist.refl _ | apply List.Sublist.cons_cons | apply List.Sublist.cons)); done)) ?_
    refine X.lp rfl (fun w F' H' => ∃ (k : Nat) (E : List Cl), w = (l.g2 - l.g1 + 1).toNat - k ∧ k ≤ (l.g2 - l.g1 + 1).toNat ∧ (allI l ((ir l.g1 l.g2).take k)).filter (may T) = E ∧ H' = ⟨b9, 0, cSp (rgE T E), some 26, 2⟩ :: HH ∧
        F' = [(3, .pointer (some ⟨b3, 0, none⟩)), (4, .pointer (some ⟨b4, 0, none⟩)), (5, .pointer (some ⟨b5, 0, none⟩)), (6, .pointer (some ⟨b6, 0, none⟩)), (9, .pointer (some ⟨b9, 0, none⟩)), (10, .bool (fnd E)), (11, .int .i64 (l.g1 + k))])
      _ [(3, .pointer (some ⟨b3, 0, none⟩)), (4, .pointer (some ⟨b4, 0, none⟩)), (5, .pointer (some ⟨b5, 0, none⟩)), (6, .pointer (some ⟨b6, 0, none⟩)), (9, .pointer (some ⟨b9, 0, none⟩)), (10, .bool (fnd [])), (11, .int .i64 (l.g1 + (0 : Nat)))] _ (by rw [show l.g1 + ((0 : Nat) : Int) = l.g1 by omega]; exact (by (repeat (first | exact Sub.nil _ | refine Sub.cons rfl ?_)); done)) (List.Sublist.refl _) ⟨0, [], rfl, by omega, rfl, rfl, rfl⟩ ?_
    rintro _ _ _ ⟨k, E, rfl, hk, hE, rfl, rfl⟩
    repeat' (first | (refine XO.op rfl ?_; (first | ((first | refine Xo.ng rfl ?_); (first | (refine Xg.ev (EvF.loadV rfl rfl (LoadV.own (te rfl) rfl (m4 [_]) rfl)) rfl rfl ?_) | (refine Xg.ev (EvF.move rfl rfl) rfl rfl ?_) | (refine Xg.ev (EvF.cmp rfl rfl rfl rfl) rfl rfl ?_) | (refine Xg.ev (EvF.not rfl rfl) rfl rfl ?_) | (refine Xg.ev (EvF.fieldAddr rfl rfl (te rfl) rfl (te rfl) (by decide)) rfl rfl ?_) | (refine Xg.ev (EvF.loadV rfl rfl (LoadV.whole (te rfl) rfl (List.Mem.head _) rfl)) rfl rfl ?_))))) | (refine XO.done rfl ?_; refine hK _ _ ?_; clear hK K) | refine X.seq rfl ?_ | refine X.region rfl (fun K hK => ?_) | refine X.block rfl ?_ | (refine X.brk rfl ?_; repeat (first | refine blockX_hit rfl ?_ | refine blockX_miss (by decide) ?_)) | refine X.skip rfl ?_ | (refine X.ite rfl rfl (fun hc => ?_); (first | (with_reducible refine Xb.case hc (fun h => ?_) (fun h => ?_)) | (with_reducible refine Xb.caseB hc (fun h => ?_) (fun h => ?_))) <;> clear hc))
    · have hk1 : (k : Int) < l.g2 - l.g1 + 1 := by (try dsimp only at *); omega
      repeat' (first | (refine XO.op rfl ?_; (first | ((first | refine Xo.ng rfl ?_); (first | (refine Xg.ev (EvF.loadV rfl rfl (LoadV.own (te rfl) rfl (m5 [_]) rfl)) rfl rfl ?_) | (refine Xg.ev (EvF.assign rfl rfl) rfl rfl ?_))))) | (refine XO.done rfl ?_; refine hK _ _ ?_; clear hK K) | refine X.block rfl ?_)
      refine X.lp rfl (fun w F' H' => ∃ (j : Nat) (E : List Cl), w = (l.s2 - l.s1 + 1).toNat - j ∧ j ≤ (l.s2 - l.s1 + 1).toNat ∧ (allI l ((ir l.g1 l.g2).take k) ++ rowA (l.g1 + k) ((ir l.s1 l.s2).take j)).filter (may T) = E ∧ H' = ⟨b9, 0, cSp (rgE T E), some 26, 2⟩ :: HH ∧
          F' = [(3, .pointer (some ⟨b3, 0, none⟩)), (4, .pointer (some ⟨b4, 0, none⟩)), (5, .pointer (some ⟨b5, 0, none⟩)), (6, .pointer (some ⟨b6, 0, none⟩)), (9, .pointer (some ⟨b9, 0, none⟩)), (10, .bool (fnd E)), (11, .int .i64 (l.g1 + k)), (12, .int .i64 (l.s1 + j))])
        _ [(3, .pointer (some ⟨b3, 0, none⟩)), (4, .pointer (some ⟨b4, 0, none⟩)), (5, .pointer (some ⟨b5, 0, none⟩)), (6, .pointer (some ⟨b6, 0, none⟩)), (9, .pointer (some ⟨b9, 0, none⟩)), (10, .bool (fnd E)), (11, .int .i64 (l.g1 + k)), (12, .int .i64 (l.s1 + (0 : Nat)))] _ (by rw [show l.s1 + ((0 : Nat) : Int) = l.s1 by omega]; exact (by (repeat (first | exact Sub.nil _ | refine Sub.cons rfl ?_)); done)) (List.Sublist.refl _) ⟨0, E, rfl, by omega, by simpa [rowA] using hE, rfl, rfl⟩ ?_
      clear hE E
      rintro _ _ _ ⟨j, E, rfl, hj, hE, rfl, rfl⟩
      repeat' (first | (refine XO.op rfl ?_; (first | ((first | refine Xo.ng rfl ?_); (first | (refine Xg.ev (EvF.loadV rfl rfl (LoadV.own (te rfl) rfl (m5 [_]) rfl)) rfl rfl ?_) | (refine Xg.ev (EvF.move rfl rfl) rfl rfl ?_) | (refine Xg.ev (EvF.assign rfl rfl) rfl rfl ?_) | (refine Xg.ev (EvF.cmp rfl rfl rfl rfl) rfl rfl ?_) | (refine Xg.ev (EvF.add64 rfl rfl rfl (by omega) (by omega)) rfl rfl ?_) | (refine Xg.ev (EvF.fieldAddr rfl rfl (te rfl) rfl (te rfl) (by decide)) rfl rfl ?_))))) | (refine XO.done rfl ?_; refine hK _ _ ?_; clear hK K) | refine X.seq rfl ?_ | refine X.region rfl (fun K hK => ?_) | refine X.block rfl ?_ | (refine X.brk rfl ?_; repeat (first | refine blockX_hit rfl ?_ | refine blockX_miss (by decide) ?_)) | refine X.skip rfl ?_ | (refine X.ite rfl rfl (fun hc => ?_); (first | (with_reducible refine Xb.case hc (fun h => ?_) (fun h => ?_))) <;> clear hc))
      · have hj1 : (j : Int) < l.s2 - l.s1 + 1 := by (try dsimp only at *); omega
        have hsn := rowA_snoc (l.g1 + k) l hj1
        obtain ⟨y, hy⟩ : ∃ y, may T ⟨l.g1 + k, l.s1 + j⟩ = y := ⟨_, rfl⟩
        have hmy : ∀ H, Fc Try.prog 57 [.agg (cTm T p).toArray, .agg (cCl ⟨l.g1 + k, l.s1 + j⟩).toArray] H (fun v H' => v = .bool y ∧ H' = H) := fun H => by
          have := rmay_spec T p ⟨l.g1 + k, l.s1 + j⟩ H
          rwa [hy] at this
        have hE2 : (allI l ((ir l.g1 l.g2).take k) ++ rowA (l.g1 + k) ((ir l.s1 l.s2).take (j + 1))).filter (may T) = E ++ (if y = true then [⟨l.g1 + k, l.s1 + j⟩] else []) := by rw [hsn, ← List.append_assoc, filt_snoc, hE, hy]
        have hvl := fun H h => rvalue_spec T p ⟨l.g1 + k, l.s1 + j⟩ H h hok.gr hok.st (by omega) (by dsimp only; omega) (by dsimp only; omega)
        dsimp only at hvl
        obtain ⟨n, hn⟩ : ∃ n, val T (l.g1 + k) (l.s1 + j) = n := ⟨_, rfl⟩
        rw [hn] at hvl
        clear hsn hE hy
        cases y
        · rw [if_neg (by decide), List.append_nil] at hE2
          repeat' (first | (refine XO.op rfl ?_; (first | ((first | refine Xo.ng rfl ?_); (first | (refine Xg.ev (EvF.loadV rfl rfl (LoadV.whole (te rfl) rfl (m3 [_, _]) rfl)) rfl rfl ?_) | (refine Xg.ev (EvF.build (cs := cCl ⟨l.g1 + k, l.s1 + j⟩) rfl (ArgsP.cons rfl (ArgsP.cons rfl ArgsP.nil)) (te rfl) (Places.cons (te rfl) (Places.cons (te rfl) Places.nil)) Try.zeroValue23 rfl) rfl rfl ?_) | (refine Xg.call (EnF.st rfl (Args.cons rfl (Args.cons rfl Args.nil))) rfl rfl (hmy _) ?_; rintro _ H9 ⟨rfl, hH9⟩; subst H9) | (refine Xg.ev (EvF.move rfl rfl) rfl rfl ?_) | (refine Xg.ev (EvF.assign rfl rfl) rfl rfl ?_) | (refine Xg.ev (EvF.add64 rfl rfl rfl (by omega) (by omega)) rfl rfl ?_) | (refine Xg.ev (EvF.not rfl rfl) rfl rfl ?_) | (refine Xg.ev (EvF.loadV rfl rfl (LoadV.whole (te rfl) rfl (List.Mem.head _) rfl)) rfl rfl ?_) | (refine Xg.st (StF.alloc rfl Try.zeroValue26 rfl) rfl rfl ?_; rintro _ _ ⟨bx, rfl, rfl⟩) | (refine Xg.st0 (StF.storeAll (i := 0) rfl rfl rfl (te rfl) rfl rfl rfl rfl) rfl ?_; rintro _ _ ⟨rfl, rfl⟩; dsimp only [List.set]))))) | (refine XO.done rfl ?_; refine hK _ _ ?_; clear hK K) | refine X.seq rfl ?_ | refine X.region rfl (fun K hK => ?_) | (refine X.brk rfl ?_; repeat (first | refine blockX_hit rfl ?_ | refine blockX_miss (by decide) ?_)) | refine X.skip rfl ?_ | (refine X.ite rfl rfl (fun hc => ?_); (first | (with_reducible refine Xb.caseB hc (fun h => ?_) (fun h => ?_))) <;> clear hc))
          all_goals try (exfalso; contradiction)
          refine ⟨_, [(3, .pointer (some ⟨b3, 0, none⟩)), (4, .pointer (some ⟨b4, 0, none⟩)), (5, .pointer (some ⟨b5, 0, none⟩)), (6, .pointer (some ⟨b6, 0, none⟩)), (9, .pointer (some ⟨b9, 0, none⟩)), (10, .bool (fnd E)), (11, .int .i64 (l.g1 + k)), (12, .int .i64 (l.s1 + (j + 1 : Nat)))], _, (by rw [show l.s1 + ((j + 1 : Nat) : Int) = l.s1 + j + 1 by omega]; exact (by (repeat (first | exact Sub.nil _ | refine Sub.cons rfl ?_)); done)), (by (repeat (first | exact List.Sublist.refl _ | apply List.Sublist.cons_cons | apply List.Sublist.cons)); done), ⟨j + 1, E, rfl, by omega, hE2, rfl, rfl⟩, by omega⟩
        · rw [if_pos rfl] at hE2
          obtain ⟨f, hf⟩ : ∃ f, fnd E = f := ⟨_, rfl⟩
          obtain ⟨o, ho⟩ : ∃ o, rgE T E = o := ⟨_, rfl⟩
          rw [hf, ho]
          have hr2 : f = true → rgE T (E ++ [⟨l.g1 + k, l.s1 + j⟩]) = ⟨min o.lo n, max o.hi n⟩ := fun q => by rw [rgE_snoc (hf.trans q) ho, hn]
          have hr1 : f = false → rgE T (E ++ [⟨l.g1 + k, l.s1 + j⟩]) = ⟨min n n, max n n⟩ := fun q => by rw [rgE_one (hf.trans q), hn]
          have hf2 := fnd_snoc E ⟨l.g1 + k, l.s1 + j⟩
          obtain ⟨E2, hE2'⟩ : ∃ E2, E ++ [⟨l.g1 + k, l.s1 + j⟩] = E2 := ⟨_, rfl⟩
          rw [hE2'] at hE2 hr1 hr2 hf2
          clear hE2' hf ho
          cases f
          · have hr := hr1 rfl
            repeat' (first | (refine XO.op rfl ?_; (first | ((first | refine Xo.ng rfl ?_); (first | (refine Xg.ev (EvF.loadV rfl rfl (LoadV.whole (te rfl) rfl (m3 [_, _]) rfl)) rfl rfl ?_) | (refine Xg.ev (EvF.build (cs := cCl ⟨l.g1 + k, l.s1 + j⟩) rfl (ArgsP.cons rfl (ArgsP.cons rfl ArgsP.nil)) (te rfl) (Places.cons (te rfl) (Places.cons (te rfl) Places.nil)) Try.zeroValue23 rfl) rfl rfl ?_) | (refine Xg.call (EnF.st rfl (Args.cons rfl (Args.cons rfl Args.nil))) rfl rfl (hmy _) ?_; rintro _ H9 ⟨rfl, hH9⟩; subst H9) | (refine Xg.call (EnF.st rfl (Args.cons rfl (Args.cons rfl Args.nil))) rfl rfl (hvl _ (hTT [_, _])) ?_; rintro _ H9 ⟨rfl, hH9⟩; subst H9) | (refine Xg.ev (EvF.build (cs := cSp ⟨n, n⟩) rfl (ArgsP.cons rfl (ArgsP.cons rfl ArgsP.nil)) (te rfl) (Places.cons (te rfl) (Places.cons (te rfl) Places.nil)) Try.zeroValue26 rfl) rfl rfl ?_) | (refine Xg.ev (EvF.build (cs := cSp ⟨min n n, max n n⟩) rfl (ArgsP.cons rfl (ArgsP.cons rfl ArgsP.nil)) (te rfl) (Places.cons (te rfl) (Places.cons (te rfl) Places.nil)) Try.zeroValue26 rfl) rfl rfl ?_) | (refine Xg.ev (EvF.move rfl rfl) rfl rfl ?_) | (refine Xg.ev (EvF.assign rfl rfl) rfl rfl ?_) | (refine Xg.ev (EvF.add64 rfl rfl rfl (by omega) (by omega)) rfl rfl ?_) | (refine Xg.ev (EvF.not rfl rfl) rfl rfl ?_) | (refine Xg.ev (EvF.fieldAddr rfl rfl (te rfl) rfl (te rfl) (by decide)) rfl rfl ?_) | (refine Xg.ev (EvF.loadV rfl rfl (LoadV.own (te rfl) rfl (List.Mem.tail _ (List.Mem.head _)) rfl)) rfl rfl ?_) | (refine Xg.ev (EvF.loadV rfl rfl (LoadV.whole (te rfl) rfl (List.Mem.head _) rfl)) rfl rfl ?_) | (refine Xg.ev (EvF.min64 rfl rfl rfl) rfl rfl ?_) | (refine Xg.ev (EvF.max64 rfl rfl rfl) rfl rfl ?_) | (refine Xg.st (StF.alloc rfl Try.zeroValue26 rfl) rfl rfl ?_; rintro _ _ ⟨bx, rfl, rfl⟩) | (refine Xg.st0 (StF.storeAll (i := 0) rfl rfl rfl (te rfl) rfl rfl rfl rfl) rfl ?_; rintro _ _ ⟨rfl, rfl⟩; dsimp only [List.set]) | (refine Xg.st0 (StF.storeAll (i := 1) rfl rfl rfl (te rfl) rfl rfl rfl rfl) rfl ?_; rintro _ _ ⟨rfl, rfl⟩; dsimp only [List.set]))))) | (refine XO.done rfl ?_; refine hK _ _ ?_; clear hK K) | refine X.seq rfl ?_ | refine X.region rfl (fun K hK => ?_) | (refine X.brk rfl ?_; repeat (first | refine blockX_hit rfl ?_ | refine blockX_miss (by decide) ?_)) | refine X.skip rfl ?_ | (refine X.ite rfl rfl (fun hc => ?_); (first | (with_reducible refine Xb.caseB hc (fun h => ?_) (fun h => ?_))) <;> clear hc))
            all_goals try (exfalso; contradiction)
            refine ⟨_, [(3, .pointer (some ⟨b3, 0, none⟩)), (4, .pointer (some ⟨b4, 0, none⟩)), (5, .pointer (some ⟨b5, 0, none⟩)), (6, .pointer (some ⟨b6, 0, none⟩)), (9, .pointer (some ⟨b9, 0, none⟩)), (10, .bool true), (11, .int .i64 (l.g1 + k)), (12, .int .i64 (l.s1 + (j + 1 : Nat)))], ⟨b9, 0, cSp ⟨min n n, max n n⟩, some 26, 2⟩ :: HH, (by rw [show l.s1 + ((j + 1 : Nat) : Int) = l.s1 + j + 1 by omega]; exact (by (repeat (first | exact Sub.nil _ | refine Sub.cons rfl ?_)); done)), (by (repeat (first | exact List.Sublist.refl _ | apply List.Sublist.cons_cons | apply List.Sublist.cons)); done), ⟨j + 1, E2, rfl, by omega, hE2, by rw [hr], by rw [hf2]⟩, by omega⟩
          · have hr := hr2 rfl
            repeat' (first | (refine XO.op rfl ?_; (first | ((first | refine Xo.ng rfl ?_); (first | (refine Xg.ev (EvF.loadV rfl rfl (LoadV.whole (te rfl) rfl (m3 [_, _]) rfl)) rfl rfl ?_) | (refine Xg.ev (EvF.build (cs := cCl ⟨l.g1 + k, l.s1 + j⟩) rfl (ArgsP.cons rfl (ArgsP.cons rfl ArgsP.nil)) (te rfl) (Places.cons (te rfl) (Places.cons (te rfl) Places.nil)) Try.zeroValue23 rfl) rfl rfl ?_) | (refine Xg.call (EnF.st rfl (Args.cons rfl (Args.cons rfl Args.nil))) rfl rfl (hmy _) ?_; rintro _ H9 ⟨rfl, hH9⟩; subst H9) | (refine Xg.call (EnF.st rfl (Args.cons rfl (Args.cons rfl Args.nil))) rfl rfl (hvl _ (hTT [_, _])) ?_; rintro _ H9 ⟨rfl, hH9⟩; subst H9) | (refine Xg.ev (EvF.build (cs := cSp ⟨min o.lo n, max o.hi n⟩) rfl (ArgsP.cons rfl (ArgsP.cons rfl ArgsP.nil)) (te rfl) (Places.cons (te rfl) (Places.cons (te rfl) Places.nil)) Try.zeroValue26 rfl) rfl rfl ?_) | (refine Xg.ev (EvF.move rfl rfl) rfl rfl ?_) | (refine Xg.ev (EvF.assign rfl rfl) rfl rfl ?_) | (refine Xg.ev (EvF.add64 rfl rfl rfl (by omega) (by omega)) rfl rfl ?_) | (refine Xg.ev (EvF.not rfl rfl) rfl rfl ?_) | (refine Xg.ev (EvF.fieldAddr rfl rfl (te rfl) rfl (te rfl) (by decide)) rfl rfl ?_) | (refine Xg.ev (EvF.loadV rfl rfl (LoadV.own (te rfl) rfl (List.Mem.tail _ (List.Mem.head _)) rfl)) rfl rfl ?_) | (refine Xg.ev (EvF.loadV rfl rfl (LoadV.whole (te rfl) rfl (List.Mem.head _) rfl)) rfl rfl ?_) | (refine Xg.ev (EvF.min64 rfl rfl rfl) rfl rfl ?_) | (refine Xg.ev (EvF.max64 rfl rfl rfl) rfl rfl ?_) | (refine Xg.st (StF.alloc rfl Try.zeroValue26 rfl) rfl rfl ?_; rintro _ _ ⟨bx, rfl, rfl⟩) | (refine Xg.st0 (StF.storeAll (i := 0) rfl rfl rfl (te rfl) rfl rfl rfl rfl) rfl ?_; rintro _ _ ⟨rfl, rfl⟩; dsimp only [List.set]) | (refine Xg.st0 (StF.storeAll (i := 1) rfl rfl rfl (te rfl) rfl rfl rfl rfl) rfl ?_; rintro _ _ ⟨rfl, rfl⟩; dsimp only [List.set]))))) | (refine XO.done rfl ?_; refine hK _ _ ?_; clear hK K) | refine X.seq rfl ?_ | refine X.region rfl (fun K hK => ?_) | (refine X.brk rfl ?_; repeat (first | refine blockX_hit rfl ?_ | refine blockX_miss (by decide) ?_)) | refine X.skip rfl ?_ | (refine X.ite rfl rfl (fun hc => ?_); (first | (with_reducible refine Xb.caseB hc (fun h => ?_) (fun h => ?_))) <;> clear hc))
            all_goals try (exfalso; contradiction)
            refine ⟨_, [(3, .pointer (some ⟨b3, 0, none⟩)), (4, .pointer (some ⟨b4, 0, none⟩)), (5, .pointer (some ⟨b5, 0, none⟩)), (6, .pointer (some ⟨b6, 0, none⟩)), (9, .pointer (some ⟨b9, 0, none⟩)), (10, .bool true), (11, .int .i64 (l.g1 + k)), (12, .int .i64 (l.s1 + (j + 1 : Nat)))], ⟨b9, 0, cSp ⟨min o.lo n, max o.hi n⟩, some 26, 2⟩ :: HH, (by rw [show l.s1 + ((j + 1 : Nat) : Int) = l.s1 + j + 1 by omega]; exact (by (repeat (first | exact Sub.nil _ | refine Sub.cons rfl ?_)); done)), (by (repeat (first | exact List.Sublist.refl _ | apply List.Sublist.cons_cons | apply List.Sublist.cons)); done), ⟨j + 1, E2, rfl, by omega, hE2, by rw [hr], by rw [hf2]⟩, by omega⟩
      · rw [List.take_of_length_le (i := j) (by rw [ir_len]; (try dsimp only at *); omega), ← allI_snoc l hk1] at hE
        repeat' (first | fail)
        refine ⟨_, [(3, .pointer (some ⟨b3, 0, none⟩)), (4, .pointer (some ⟨b4, 0, none⟩)), (5, .pointer (some ⟨b5, 0, none⟩)), (6, .pointer (some ⟨b6, 0, none⟩)), (9, .pointer (some ⟨b9, 0, none⟩)), (10, .bool (fnd E)), (11, .int .i64 (l.g1 + (k + 1 : Nat)))], _, (by rw [show l.g1 + ((k + 1 : Nat) : Int) = l.g1 + k + 1 by omega]; exact (by (repeat (first | exact Sub.nil _ | refine Sub.cons rfl ?_)); done)), List.Sublist.refl _, ⟨k + 1, E, rfl, by omega, hE, rfl, rfl⟩, by omega⟩
    all_goals (
      rw [List.take_of_length_le (i := k) (by rw [ir_len]; (try dsimp only at *); omega)] at hE
      have hE' : cls T l = E := (cls_all T l).trans hE
      have hrg : rng T l = rgE T E := by rw [← hE']; rfl
      clear hTT m3 m4 m5
      subst hHH)
    · have hf : fnd E = false := by simpa using h
      repeat' (first | (refine XO.op rfl ?_; (first | ((first | refine Xo.ng rfl ?_); (first | (refine Xg.ev (EvF.build (cs := cSp ⟨0, 0⟩) rfl ArgsP.nil (te rfl) (Places.cons (te rfl) (Places.cons (te rfl) Places.nil)) Try.zeroValue26 rfl) rfl rfl ?_) | (refine Xg.ev (EvF.assign rfl rfl) rfl rfl ?_) | (refine Xg.st0 (StF.storeAll (i := 1) rfl rfl rfl (te rfl) rfl rfl rfl rfl) rfl ?_; rintro _ _ ⟨rfl, rfl⟩; dsimp only [List.set]))))) | (refine XO.done rfl ?_; refine hK _ _ ?_; clear hK K) | refine X.ret rfl ?_)
      exact ret_two (v := .agg (cSp ⟨0, 0⟩).toArray) (by first | exact .inr rfl | exact .inl rfl) Try.results22 ⟨_, rfl, LoadV.whole (te rfl) rfl (List.Mem.tail _ (List.Mem.head _)) rfl⟩ rfl (H' := H) (by (repeat (first | exact List.Sublist.refl _ | apply List.Sublist.cons)); done) ⟨by rw [hE', fnd_false hf]; rfl, rfl⟩
    · have hf : fnd E = true := by simpa using h
      have hne : ¬ E.length = 0 := by have := fnd_true hf; omega
      repeat' (first | (refine XO.op rfl ?_; (first | ((first | refine Xo.ng rfl ?_); (first | (refine Xg.ev (EvF.assign rfl rfl) rfl rfl ?_) | (refine Xg.st0 (StF.storeAll (i := 1) rfl rfl rfl (te rfl) rfl rfl rfl rfl) rfl ?_; rintro _ _ ⟨rfl, rfl⟩; dsimp only [List.set]))))) | (refine XO.done rfl ?_; refine hK _ _ ?_; clear hK K) | refine X.ret rfl ?_)
      exact ret_two (v := .agg (cSp (rgE T E)).toArray) (by first | exact .inr rfl | exact .inl rfl) Try.results22 ⟨_, rfl, LoadV.whole (te rfl) rfl (List.Mem.tail _ (List.Mem.head _)) rfl⟩ rfl (H' := H) (by (repeat (first | exact List.Sublist.refl _ | apply List.Sublist.cons)); done) ⟨by rw [hE', hrg, if_neg hne, if_pos rfl], rfl⟩
  · rw [if_neg h0]
    refine Fc.mk (callable Try.call22) Try.func22 rfl Try.ntmps22 rfl ?_; dsimp only [fr]
    repeat' (first | (refine XO.op rfl ?_; (first | ((first | refine Xo.ng rfl ?_); (first | (refine Xg.call (EnF.st rfl (Args.cons rfl (Args.cons rfl (Args.cons rfl Args.nil)))) rfl rfl (hsp _ (hT3 [_, _, _, _])) ?_; rintro _ H9 ⟨rfl, hH9⟩; subst H9) | (refine Xg.ev (EvF.build (cs := cSp ⟨0, 0⟩) rfl ArgsP.nil (te rfl) (Places.cons (te rfl) (Places.cons (te rfl) Places.nil)) Try.zeroValue26 rfl) rfl rfl ?_) | (refine Xg.ev (EvF.move rfl rfl) rfl rfl ?_) | (refine Xg.ev (EvF.assign rfl rfl) rfl rfl ?_) | (refine Xg.ev (EvF.cmp rfl rfl rfl rfl) rfl rfl ?_) | (refine Xg.ev (EvF.fieldAddr rfl rfl (te rfl) rfl (te rfl) (by decide)) rfl rfl ?_) | (refine Xg.ev (EvF.loadV rfl rfl (LoadV.own (te rfl) rfl (List.Mem.tail _ (List.Mem.tail _ (List.Mem.tail _ (List.Mem.head _)))) rfl)) rfl rfl ?_) | (refine Xg.ev (EvF.loadV rfl rfl (LoadV.whole (te rfl) rfl (List.Mem.tail _ (List.Mem.head _)) rfl)) rfl rfl ?_) | (refine Xg.ev (EvF.loadV rfl rfl (LoadV.whole (te rfl) rfl (List.Mem.tail _ (List.Mem.tail _ (List.Mem.head _))) rfl)) rfl rfl ?_) | (refine Xg.ev (EvF.loadV rfl rfl (LoadV.whole (te rfl) rfl (List.Mem.tail _ (List.Mem.tail _ (List.Mem.tail _ (List.Mem.head _)))) rfl)) rfl rfl ?_) | (refine Xg.st (StF.boxAgg rfl rfl) rfl rfl ?_; rintro _ _ ⟨bx, rfl, rfl⟩) | (refine Xg.st (StF.alloc rfl Try.zeroValue26 rfl) rfl rfl ?_; rintro _ _ ⟨bx, rfl, rfl⟩) | (refine Xg.st0 (StF.storeAll (i := 0) rfl rfl rfl (te rfl) rfl rfl rfl rfl) rfl ?_; rintro _ _ ⟨rfl, rfl⟩; dsimp only [List.set]))))) | (refine XO.done rfl ?_; refine hK _ _ ?_; clear hK K) | refine X.seq rfl ?_ | refine X.region rfl (fun K hK => ?_) | refine X.block rfl ?_ | refine X.skip rfl ?_ | refine X.ret rfl ?_ | (refine X.ite rfl rfl (fun hc => ?_); (first | (with_reducible refine Xb.caseN hc (fun h => ?_) (fun h => ?_))) <;> clear hc))
    all_goals try (exfalso; exact h0 (by assumption))
    rw [if_neg h0]
    exact ret_two (v := .agg (cSp ⟨0, 0⟩).toArray) (by first | exact .inr rfl | exact .inl rfl) Try.results22 ⟨_, rfl, LoadV.whole (te rfl) rfl (List.Mem.head _) rfl⟩ rfl (H' := H) (by (repeat (first | exact List.Sublist.refl _ | apply List.Sublist.cons)); done) ⟨rfl, rfl⟩
end Go.Proofs.Ytcjlegjchllgjaa
end
section
set_option linter.unusedVariables false
set_option linter.unusedSimpArgs false
namespace Go.Proofs.Ytcjlegjchllgjaa
open Go Go.Fw
set_option maxRecDepth 10000
set_option maxHeartbeats 8000000 in
theorem termsKnown_spec (T : Tm) (p : Pt) (g s : Sp) (m : Int) (H : List Row) (hg : SlE H p.a1 cI 1 T.G) (hs : SlE H p.a2 cI 1 T.S) :
    Fc Try.prog 4 [.agg (cTm T p).toArray, .agg (cSp g).toArray, .agg (cSp s).toArray, .int .i64 m] H (fun v _ => v = .bool true) := by
  by_cases hgr : T.G.length > 30 ∨ T.S.length > 30
  · have hG := greatT T p hgr
    refine Fc.mk (callable Try.call4) Try.func4 rfl Try.ntmps4 rfl ?_; dsimp only [fr]
    repeat' (first | (refine XO.op rfl ?_; (first | ((first | refine Xo.ng rfl ?_); (first | (refine Xg.call (EnF.st rfl (Args.cons rfl Args.nil)) rfl rfl (hG _) ?_; rintro _ H9 ⟨rfl, hH9⟩; subst H9) | (refine Xg.ev (EvF.assign rfl rfl) rfl rfl ?_) | (refine Xg.ev (EvF.loadV rfl rfl (LoadV.whole (te rfl) rfl (List.Mem.tail _ (List.Mem.tail _ (List.Mem.head _))) rfl)) rfl rfl ?_) | (refine Xg.st (StF.boxAgg rfl rfl) rfl rfl ?_; rintro _ _ ⟨bx, rfl, rfl⟩))))) | (refine XO.done rfl ?_; refine hK _ _ ?_; clear hK K) | refine X.seq rfl ?_ | refine X.region rfl (fun K hK => ?_) | refine X.ret rfl ?_ | (refine X.ite rfl rfl (fun hc => ?_); (first | (with_reducible refine Xb.t hc ?_)) <;> clear hc))
    all_goals try (exfalso; contradiction)
    exact ret_one (by first | exact .inr rfl | exact .inl rfl) Try.results4 rfl (H' := _) (List.Sublist.refl _) rfl
  · have hG := greatF T p hgr
    have hT : TmOk H T p := ⟨hg, hs, by omega, by omega⟩
    obtain ⟨nv, hnv⟩ : ∃ n, knoR T (lotOf g s) m = n := ⟨_, rfl⟩
    obtain ⟨ne, hne⟩ : ∃ n, openE T (abK (lotOf g s) m) = n := ⟨_, rfl⟩
    obtain ⟨rv, hrv⟩ : ∃ n, rngR T (lotOf g s) = n := ⟨_, rfl⟩
    obtain ⟨re, hre⟩ : ∃ n, openE T (abR (lotOf g s)) = n := ⟨_, rfl⟩
    have kk := fun p H (h : TmOk H T p) => kknown_spec T p g s m H h
    have rk := fun p H (h : TmOk H T p) => rknown_spec T p g s m H h
    have kr := fun p H (h : TmOk H T p) => krange_spec T p g s H h
    have rr := fun p H (h : TmOk H T p) => rrange_spec T p g s H h
    rw [hnv, hne] at kk rk
    rw [hrv, hre] at kr rr
    clear hnv hne hrv hre
    refine Fc.mk (callable Try.call4) Try.func4 rfl Try.ntmps4 rfl ?_; dsimp only [fr]
    repeat' (first | (refine XO.op rfl ?_; (first | ((first | refine Xo.ng rfl ?_); (first | (refine Xg.call (EnF.st rfl (Args.cons rfl Args.nil)) rfl rfl (hG _) ?_; rintro _ H9 ⟨rfl, hH9⟩; subst H9) | (refine Xg.call (EnF.st rfl (by (repeat (first | exact Args.nil | refine Args.cons rfl ?_)); done)) rfl rfl (twin_spec T p _ (hT.sub (fun _ hm => List.Mem.tail _ (List.Mem.tail _ (List.Mem.tail _ hm))))) ?_; rintro _ _ ⟨t1, k1, t2, k2, rfl, rfl⟩) | (refine Xg.ev (EvF.move rfl rfl) rfl rfl ?_) | (refine Xg.ev (EvF.assign rfl rfl) rfl rfl ?_) | (refine Xg.ev (EvF.loadV rfl rfl (LoadV.whole (te rfl) rfl (List.Mem.head _) rfl)) rfl rfl ?_) | (refine Xg.ev (EvF.loadV rfl rfl (LoadV.whole (te rfl) rfl (List.Mem.tail _ (List.Mem.tail _ (List.Mem.head _))) rfl)) rfl rfl ?_) | (refine Xg.ev (EvF.loadV rfl rfl (LoadV.whole (te rfl) rfl (List.Mem.tail _ (List.Mem.tail _ (List.Mem.tail _ (List.Mem.head _)))) rfl)) rfl rfl ?_) | (refine Xg.ev (EvF.loadV rfl rfl (LoadV.whole (te rfl) rfl (List.Mem.tail _ (List.Mem.tail _ (List.Mem.tail _ (List.Mem.tail _ (List.Mem.head _))))) rfl)) rfl rfl ?_) | (refine Xg.st (StF.boxAgg rfl rfl) rfl rfl ?_; rintro _ _ ⟨bx, rfl, rfl⟩) | (refine Xg.st (StF.alloc rfl Try.zeroValue28 rfl) rfl rfl ?_; rintro _ _ ⟨bx, rfl, rfl⟩) | (refine Xg.st0 (StF.storeAll (i := 0) rfl rfl rfl (te rfl) rfl rfl rfl rfl) rfl ?_; rintro _ _ ⟨rfl, rfl⟩; dsimp only [List.set]))))) | (refine XO.done rfl ?_; refine hK _ _ ?_; clear hK K) | refine X.seq rfl ?_ | refine X.region rfl (fun K hK => ?_) | refine X.skip rfl ?_ | (refine X.ite rfl rfl (fun hc => ?_); (first | (with_reducible refine Xb.f hc ?_)) <;> clear hc))
    all_goals try (exfalso; contradiction)
    obtain ⟨b9, hb9⟩ : ∃ b, b = bx := ⟨_, rfl⟩
    rw [← hb9]
    clear hb9
    rename_i b4 b5 b6
    obtain ⟨HH, hHH⟩ : ∃ HH : List Row, HH = (⟨b9, 0, cTm T (plT t1 k1 t2 k2), some 28, 11⟩ :: rI T.G t1 k1 :: rI T.S t2 k2 :: ⟨b6, 0, cSp s, some 26, 2⟩ :: ⟨b5, 0, cSp g, some 26, 2⟩ :: ⟨b4, 0, cTm T p, some 28, 11⟩ :: H) := ⟨_, rfl⟩
    have m9 : ∀ Z : List Row, ⟨b9, 0, cTm T (plT t1 k1 t2 k2), some 28, 11⟩ ∈ Z ++ HH := fun Z => List.mem_append_right _ (by rw [hHH]; exact (List.Mem.head _))
    have m6 : ∀ Z : List Row, ⟨b6, 0, cSp s, some 26, 2⟩ ∈ Z ++ HH := fun Z => List.mem_append_right _ (by rw [hHH]; exact (List.Mem.tail _ (List.Mem.tail _ (List.Mem.tail _ (List.Mem.head _)))))
    have m5 : ∀ Z : List Row, ⟨b5, 0, cSp g, some 26, 2⟩ ∈ Z ++ HH := fun Z => List.mem_append_right _ (by rw [hHH]; exact (List.Mem.tail _ (List.Mem.tail _ (List.Mem.tail _ (List.Mem.tail _ (List.Mem.head _))))))
    have m4 : ∀ Z : List Row, ⟨b4, 0, cTm T p, some 28, 11⟩ ∈ Z ++ HH := fun Z => List.mem_append_right _ (by rw [hHH]; exact (List.Mem.tail _ (List.Mem.tail _ (List.Mem.tail _ (List.Mem.tail _ (List.Mem.tail _ (List.Mem.head _)))))))
    have hO : ∀ Z : List Row, TmOk (Z ++ HH) T (plT t1 k1 t2 k2) := fun Z => ownT T t1 k1 t2 k2 _ (by omega) (by omega) (List.mem_append_right _ (by rw [hHH]; exact (List.Mem.tail _ (List.Mem.head _)))) (List.mem_append_right _ (by rw [hHH]; exact (List.Mem.tail _ (List.Mem.tail _ (List.Mem.head _)))))
    have hI : ∀ Z : List Row, TmOk (Z ++ HH) T p := fun Z => hT.sub (fun r hr => List.mem_append_right _ (by rw [hHH]; exact List.mem_append_right [_, _, _, _, _, _] hr))
    show XO _ _ _ _ _ (⟨b9, 0, cTm T (plT t1 k1 t2 k2), some 28, 11⟩ :: rI T.G t1 k1 :: rI T.S t2 k2 :: ⟨b6, 0, cSp s, some 26, 2⟩ :: ⟨b5, 0, cSp g, some 26, 2⟩ :: ⟨b4, 0, cTm T p, some 28, 11⟩ :: H) _
    rw [← hHH]
    clear hHH hT hg hs
    repeat' (first | (refine XO.op rfl ?_; (first | ((first | refine Xo.ng rfl ?_); (first | (refine Xg.ev (EvF.loadV rfl rfl (LoadV.whole (te rfl) rfl (m9 []) rfl)) rfl rfl ?_) | (refine Xg.ev (EvF.loadV rfl rfl (LoadV.whole (te rfl) rfl (m6 []) rfl)) rfl rfl ?_) | (refine Xg.ev (EvF.loadV rfl rfl (LoadV.whole (te rfl) rfl (m5 []) rfl)) rfl rfl ?_) | (refine Xg.ev (EvF.loadV rfl rfl (LoadV.whole (te rfl) rfl (m4 []) rfl)) rfl rfl ?_) | (refine Xg.call (EnF.st rfl (by (repeat (first | exact Args.nil | refine Args.cons rfl ?_)); done)) rfl rfl (kk _ _ (hO [])) ?_; rintro _ H9 ⟨rfl, hH9⟩; subst H9) | (refine Xg.call (EnF.st rfl (by (repeat (first | exact Args.nil | refine Args.cons rfl ?_)); done)) rfl rfl (rk _ _ (hI [])) ?_; rintro _ H9 ⟨rfl, hH9⟩; subst H9) | (refine Xg.call (EnF.st rfl (Args.cons rfl (Args.cons rfl (Args.cons rfl Args.nil)))) rfl rfl (kr _ _ (hO [])) ?_; rintro _ H9 ⟨rfl, hH9⟩; subst H9) | (refine Xg.ev (EvF.move rfl rfl) rfl rfl ?_) | (refine Xg.ev (EvF.assign rfl rfl) rfl rfl ?_) | (refine Xg.ev (EvF.extract rfl rfl rfl) rfl rfl ?_) | (refine Xg.st (StF.alloc rfl Try.zeroValue26 rfl) rfl rfl ?_; rintro _ _ ⟨bx, rfl, rfl⟩) | (refine Xg.st0 (StF.storeAll (i := 0) rfl rfl rfl (te rfl) rfl rfl rfl rfl) rfl ?_; rintro _ _ ⟨rfl, rfl⟩; dsimp only [List.set]))))) | (refine XO.done rfl ?_; refine hK _ _ ?_; clear hK K) | refine X.seq rfl ?_ | refine X.region rfl (fun K hK => ?_))
    repeat' (first | (refine XO.op rfl ?_; (first | ((first | refine Xo.ng rfl ?_ | (refine Xo.g rfl rfl ?_; with_reducible refine Xw.tt ?_)); (first | (refine Xg.ev (EvF.loadV rfl rfl (LoadV.whole (te rfl) rfl (m6 [_]) rfl)) rfl rfl ?_) | (refine Xg.ev (EvF.loadV rfl rfl (LoadV.whole (te rfl) rfl (m5 [_]) rfl)) rfl rfl ?_) | (refine Xg.ev (EvF.loadV rfl rfl (LoadV.whole (te rfl) rfl (m4 [_]) rfl)) rfl rfl ?_) | (refine Xg.call (EnF.st rfl (Args.cons rfl (Args.cons rfl (Args.cons rfl Args.nil)))) rfl rfl (rr _ _ (hI [_])) ?_; rintro _ H9 ⟨rfl, hH9⟩; subst H9) | (refine Xg.ev (EvF.eqSelf rfl rfl rfl) rfl rfl ?_) | (refine Xg.ev (EvF.eqSt rfl rfl rfl (by kernel_rfl) (fun w => eqSp 9998 rv rv w) rfl) rfl rfl ?_) | (refine Xg.ev (EvF.move rfl rfl) rfl rfl ?_) | (refine Xg.ev (EvF.assign rfl rfl) rfl rfl ?_) | (refine Xg.ev (EvF.pickT rfl rfl rfl) rfl rfl ?_) | (refine Xg.ev (EvF.loadV rfl rfl (LoadV.whole (te rfl) rfl (List.Mem.head _) rfl)) rfl rfl ?_) | (refine Xg.ev (EvF.loadV rfl rfl (LoadV.whole (te rfl) rfl (List.Mem.tail _ (List.Mem.head _)) rfl)) rfl rfl ?_) | (refine Xg.ev (EvF.extract rfl rfl rfl) rfl rfl ?_) | (refine Xg.st (StF.alloc rfl Try.zeroValue26 rfl) rfl rfl ?_; rintro _ _ ⟨bx, rfl, rfl⟩) | (refine Xg.st0 (StF.storeAll (i := 0) rfl rfl rfl (te rfl) rfl rfl rfl rfl) rfl ?_; rintro _ _ ⟨rfl, rfl⟩; dsimp only [List.set]))) | (refine Xo.g rfl rfl ?_; (first | (with_reducible refine Xw.case (fun h => ?_) (fun h => ?_) <;> simp only [h, decide_true, decide_false, Bool.not_true, Bool.not_false, and_self, and_true, true_and, and_false, false_and]))))) | (refine XO.done rfl ?_; refine hK _ _ ?_; clear hK K) | refine X.seq rfl ?_ | refine X.region rfl (fun K hK => ?_))
    repeat' (first | (refine XO.op rfl ?_; (first | ((first | refine Xo.ng rfl ?_ | (refine Xo.g rfl rfl ?_; with_reducible refine Xw.tt ?_)); (first | (refine Xg.ev (EvF.loadV rfl rfl (LoadV.whole (te rfl) rfl (m9 [_, _]) rfl)) rfl rfl ?_) | (refine Xg.ev (EvF.loadV rfl rfl (LoadV.whole (te rfl) rfl (m4 [_, _]) rfl)) rfl rfl ?_) | (refine Xg.call (EnF.st rfl (Args.cons rfl (Args.cons rfl Args.nil))) rfl rfl (sameT_self T _ p _ (hO [_, _]) (hI [_, _])) ?_; rintro _ H9 ⟨rfl, hH9⟩; subst H9) | (refine Xg.ev (EvF.assign rfl rfl) rfl rfl ?_) | (refine Xg.ev (EvF.pickT rfl rfl rfl) rfl rfl ?_))))) | (refine XO.done rfl ?_; refine hK _ _ ?_; clear hK K) | refine X.ret rfl ?_)
    all_goals try (exfalso; exact absurd rfl (by assumption : ¬ rv = rv))
    exact ret_one (by first | exact .inr rfl | exact .inl rfl) Try.results4 rfl (H' := _) (List.Sublist.refl _) rfl
end Go.Proofs.Ytcjlegjchllgjaa
end
section
set_option linter.unusedVariables false
namespace Go.Proofs.Ytcjlegjchllgjaa
open Go Go.Fw Go.ChangeShapes Go.WideShapes Go.ChangeAt Go.RowKit
set_option linter.unusedVariables false
set_option maxRecDepth 100000
theorem termsKnown_run (T : Tm) (pT : Pt) (g : Sp) (s : Sp) (m : Int) (w : World) (hT : InTm w T pT) :
    Calls Try.prog 4 #[.agg (cTm T pT).toArray, .agg (cSp g).toArray, .agg (cSp s).toArray, .int .i64 m] w fun e w' => e = .returned (.bool true) ∧ Below w.heap.size w w' :=
  Fc.calls (H := rowsTm T pT) (termsKnown_spec T pT g s m _ (hT.g (fun _ h => h)) (hT.s (fun _ h => h))) (fun r hr => by
    exact hT.ok r hr
  )
theorem lifted (os : Os) (started : os.Started) (H : Type) (enc : TypeId × Value → H) :
    ReturnsInHanded {} Try.checked os 4 .any (Rows.termsKnownSpec.pre6 enc Try.prog Try.f4 Rows.termsKnownRow.domain false) (Rows.termsKnownSpec.post enc Try.prog Try.f4 false true false false) := by
  refine returnsInHanded_of_change (C := Try.checked) ownK started (by kernel_rfl) Try.func4
    (ChangeSpec.witness6 (enc := enc) (C := Try.checked) false ⟨#[], #[.agg (cTm Tz pz).toArray, .agg (cSp ⟨0, 0⟩).toArray, .agg (cSp ⟨0, 0⟩).toArray, .int .i64 0], []⟩ 8 (by kernel_rfl) (by kernel_rfl) (by kernel_rfl) (by kernel_rfl)) ?_
  intro W base args ds gs before hval0 hW hcnd _
  have hval : ∀ (j : Nat) t v, Try.f4.params[j]? = some t → args[j]? = some v → Value.okWide Try.prog W .any base t v := hval0
  have hW' := hW
  obtain ⟨p, q, hA0, hV, rfl, hfz, hnd⟩ := hW
  have hA : DataW.TrodAll enc Try.prog W 0 (fun _ => true) true Try.f4.params.toList args.toList ds p := hA0
  rw [Try.params4] at hA hval
  obtain ⟨v0, vs0, d0, ds0, p0, q0, hargs, rfl, rfl, h0, r0⟩ := trodAll_cons hA
  obtain ⟨v1, vs1, d1, ds1, p1, q1, rfl, rfl, rfl, h1, r1⟩ := trodAll_cons r0
  obtain ⟨v2, vs2, d2, ds2, p2, q2, rfl, rfl, rfl, h2, r2⟩ := trodAll_cons r1
  obtain ⟨v3, vs3, d3, ds3, p3, q3, rfl, rfl, rfl, h3, r3⟩ := trodAll_cons r2
  obtain ⟨rfl, rfl, rfl⟩ := trodAll_nil r3
  obtain rfl : args = #[v0, v1, v2, v3] := by cases args; simp_all
  obtain ⟨rfl, rfl⟩ := trodVars_none hV
  have lt : ∀ {t v d ps}, DataW.Trod enc Try.prog W 0 (fun _ => true) true t v d ps → ∀ x ∈ ps, x.block < W.heap.size := fun h => by obtain ⟨m, hm⟩ := h; exact DataW.trod_lt m _ _ _ hm
  obtain ⟨T, pT, rfl, hT⟩ := open_terms (hval 0 _ v0 rfl rfl) h0
  obtain ⟨g, rfl⟩ := open_span (hval 1 _ v1 rfl rfl) h1
  obtain ⟨s, rfl⟩ := open_span (hval 2 _ v2 rfl rfl) h2
  obtain ⟨m, rfl⟩ := open_int (hval 3 _ v3 rfl rfl)
  clear hA0 hval0
  refine (termsKnown_run T pT g s m W hT).mono fun e W' ⟨he, bel⟩ => ?_
  subst he
  exact ⟨_, rfl, _, _, _, [], _, [], hW', trodAll_mk1 (shut_bool Try.underlying4 _), (trodAll_cons_mk (Below.trod laidO (by kernel_rfl) (of_decide_eq_true (by kernel_rfl)) h0 bel (lt h0)) (trodAll_cons_mk (Below.trod laidO (by kernel_rfl) (of_decide_eq_true (by kernel_rfl)) h1 bel (lt h1)) (trodAll_cons_mk (Below.trod laidO (by kernel_rfl) (of_decide_eq_true (by kernel_rfl)) h2 bel (lt h2)) (trodAll_cons_mk (Below.trod laidO (by kernel_rfl) (of_decide_eq_true (by kernel_rfl)) h3 bel (lt h3)) trodAll_mk0)))), rfl, bel.frame _, fun h => by cases h⟩
theorem over : Rows.termsKnownRow.holds Try.pinned (OpenSpec.ofChange Rows.termsKnownSpec) :=
  OpenClaim.holds_of_wide 4 Try.f4 rfl rfl rfl rfl rfl rfl rfl ⟨rfl, rfl, rfl, rfl, rfl⟩ rfl rfl rfl rfl rfl (by kernel_rfl) Try.func4 (by kernel_rfl)
    (of_decide_eq_true (by kernel_rfl)) (by unfold Func.isWrapper; first | (rw [if_pos (by decide +kernel)]; kernel_rfl) | (rw [if_neg (by decide +kernel)]; exact ⟨rfl, rfl⟩))
    (fun os started H enc _ => lifted os started H enc)
theorem termsKnown_proved : Rows.TermsKnownSaid := over
#print axioms termsKnown_proved
end Go.Proofs.Ytcjlegjchllgjaa
end
