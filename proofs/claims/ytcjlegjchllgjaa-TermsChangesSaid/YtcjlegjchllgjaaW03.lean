/- Own work: contracts of functions, from rows of what is known of the memory; contracts of functions, from rows of what is known of the memory; contracts of functions, from rows of what is known of the memory; contracts of functions, from rows of what is known of the memory; contracts of functions, from rows of what is known of the memory; contracts of functions, from rows of what is known of the memory; contracts of functions, from rows of what is known of the memory; contracts of functions, from rows of what is known of the memory; contracts of functions, from rows of what is known of the memory; contracts of functions, from rows of what is known of the memory; contracts of functions, from rows of what is known of the memory; contracts of functions, from rows of what is known of the memory; contract -/
import Derived.Test.YtcjlegjchllgjaaW02
import Derived.Test.YtcjlegjchllgjaaChecked
import Derived.Tactics2
import Derived.OpenShut
import Derived.ProofKit
import Derived.Test.YtcjlegjchllgjaaRows
import Derived.WalkKit
import Derived.ChangeOld
import Derived.ShutString
import Derived.ChangeKeysEq
section
set_option linter.unusedVariables false
set_option linter.unusedSimpArgs false
namespace Go.Proofs.Ytcjlegjchllgjaa
open Go Go.Fw
set_option maxRecDepth 10000
noncomputable instance : DecidableEq Sp := fun _ _ => Classical.propDecidable _
noncomputable instance : DecidableEq Cl := fun _ _ => Classical.propDecidable _
noncomputable instance : DecidableEq Tm := fun _ _ => Classical.propDecidable _
theorem eqI (d : Nat) (a b : Int) (w : World) : (Op.equalIn (d + 1) 3 (.int .i64 a) (.int .i64 b)).run Try.prog w = .ok (decide (a = b)) w := by
  rw [run_equalIn_int w d 3 .i64 .i64 a b (by kernel_rfl)]
  by_cases h : a = b <;> simp [h]
theorem eqSp (d : Nat) (e f : Sp) (w : World) : (Op.equalIn (d + 2) 26 (.agg (cSp e).toArray) (.agg (cSp f).toArray)).run Try.prog w = .ok (decide (e = f)) w := by
  have hS : Try.prog.underlying 26 = some (.struct (Try.prog.fieldsOf 26)) := by kernel_rfl
  rw [run_equalIn_agg w (d + 1) 26 _ _ hS (by kernel_rfl)]
  simp only [Program.fieldsOf, Try.underlying26]
  go_simp
  obtain ⟨e1, e2⟩ := e
  obtain ⟨f1, f2⟩ := f
  by_cases h1 : e1 = f1 <;> by_cases h2 : e2 = f2 <;> simp [cSp, eqI, Result.andThen, h1, h2]
theorem eqCl (d : Nat) (e f : Cl) (w : World) : (Op.equalIn (d + 2) 23 (.agg (cCl e).toArray) (.agg (cCl f).toArray)).run Try.prog w = .ok (decide (e = f)) w := by
  have hS : Try.prog.underlying 23 = some (.struct (Try.prog.fieldsOf 23)) := by kernel_rfl
  rw [run_equalIn_agg w (d + 1) 23 _ _ hS (by kernel_rfl)]
  simp only [Program.fieldsOf, Try.underlying23]
  go_simp
  obtain ⟨e1, e2⟩ := e
  obtain ⟨f1, f2⟩ := f
  by_cases h1 : e1 = f1 <;> by_cases h2 : e2 = f2 <;> simp [cCl, eqI, Result.andThen, h1, h2]
theorem sameInts_spec (l m : List Int) (a a' : Option Addr) (c c' : Nat) (H : List Row) (hl : SlE H a cI 1 l) (hm : SlE H a' cI 1 m) (hb : l.length ≤ 1000000) (hb' : m.length ≤ 1000000) :
    Fc Try.prog 40 [.slice a l.length c, .slice a' m.length c'] H (fun v H' => v = .bool (decide (l = m)) ∧ H' = H) := by
  refine Fc.mk (callable Try.call40) Try.func40 rfl Try.ntmps40 rfl ?_; dsimp only [fr]
  repeat' (first | (refine XO.op rfl ?_; (first | ((first | refine Xo.ng rfl ?_ | (refine Xo.g rfl rfl ?_; with_reducible refine Xw.ff ?_)); (first | (refine Xg.ev (EvF.move rfl rfl) rfl rfl ?_) | (refine Xg.ev (EvF.assign rfl rfl) rfl rfl ?_) | (refine Xg.ev (EvF.pickT rfl rfl rfl) rfl rfl ?_) | (refine Xg.ev (EvF.pickF rfl rfl rfl) rfl rfl ?_) | (refine Xg.ev (EvF.cmp rfl rfl rfl rfl) rfl rfl ?_) | (refine Xg.ev (EvF.fieldAddr rfl rfl (te rfl) rfl (te rfl) (by decide)) rfl rfl ?_) | (refine Xg.ev (EvF.lenSlice rfl rfl (te rfl)) rfl rfl ?_) | (refine Xg.ev (EvF.loadV rfl rfl (LoadV.own (te rfl) rfl (List.Mem.head _) rfl)) rfl rfl ?_) | (refine Xg.st (StF.boxAgg rfl rfl) rfl rfl ?_; rintro _ _ ⟨bx, rfl, rfl⟩))) | (refine Xo.g rfl rfl ?_; (first | (with_reducible refine Xw.tf rfl rfl ?_) | (with_reducible refine Xw.case (fun h => ?_) (fun h => ?_) <;> simp only [h, decide_true, decide_false, Bool.not_true, Bool.not_false, and_self, and_true, true_and, and_false, false_and]))))) | (refine XO.done rfl ?_; refine hK _ _ ?_; clear hK K) | refine X.seq rfl ?_ | refine X.region rfl (fun K hK => ?_) | refine X.block rfl ?_ | refine X.skip rfl ?_ | refine X.ret rfl ?_ | (refine X.ite rfl rfl (fun hc => ?_); (first | (with_reducible refine Xb.caseN hc (fun h => ?_) (fun h => ?_))) <;> clear hc))
  · refine ret_one (by first | exact .inr rfl | exact .inl rfl) Try.results40 rfl (H' := H) (by (repeat (first | exact List.Sublist.refl _ | apply List.Sublist.cons)); done) ?_; simp only [and_true, true_and]
    congr 1; symm; exact decide_eq_false (fun q => by subst q; omega)
  have hlm : l.length = m.length := by omega
  refine X.lp rfl (fun q F' H' => ∃ k : Nat, q = l.length - k ∧ k ≤ l.length ∧ (l = m ↔ l.drop k = m.drop k) ∧ H = H' ∧
      F' = [(0, .slice a l.length c), (1, .slice a' m.length c'), (5, .int .i64 k)])
    l.length [(0, .slice a l.length c), (1, .slice a' m.length c'), (5, .int .i64 (0 : Nat))] _ (by (repeat (first | exact Sub.nil _ | refine Sub.cons rfl ?_)); done) (by (repeat (first | exact List.Sublist.refl _ | apply List.Sublist.cons_cons | apply List.Sublist.cons)); done) ⟨0, by omega, by omega, by simp, rfl, rfl⟩ ?_
  rintro _ _ H2 ⟨k, rfl, hk, hn, hH, rfl⟩
  subst hH
  repeat' (first | (refine XO.op rfl ?_; (first | ((first | refine Xo.ng rfl ?_); (first | (refine Xg.ev (EvF.move rfl rfl) rfl rfl ?_) | (refine Xg.ev (EvF.assign rfl rfl) rfl rfl ?_) | (refine Xg.ev (EvF.cmp rfl rfl rfl rfl) rfl rfl ?_) | (refine Xg.ev (EvF.lenSlice rfl rfl (te rfl)) rfl rfl ?_))))) | (refine XO.done rfl ?_; refine hK _ _ ?_; clear hK K) | refine X.seq rfl ?_ | refine X.region rfl (fun K hK => ?_) | refine X.block rfl ?_ | (refine X.brk rfl ?_; repeat (first | refine blockX_hit rfl ?_ | refine blockX_miss (by decide) ?_)) | refine X.skip rfl ?_ | refine X.ret rfl ?_ | (refine X.ite rfl rfl (fun hc => ?_); (first | (with_reducible refine Xb.case hc (fun h => ?_) (fun h => ?_))) <;> clear hc))
  · obtain ⟨b, off, e, rfl, he⟩ := hl.elem (i := k) (by omega)
    obtain ⟨b2, off2, f, rfl, hf⟩ := hm.elem (i := k) (by omega)
    rw [drop_cons he, drop_cons hf, List.cons.injEq] at hn
    repeat' (first | (refine XO.op rfl ?_; (first | ((first | refine Xo.ng rfl ?_); (first | (refine Xg.ev (EvF.move rfl rfl) rfl rfl ?_) | (refine Xg.ev (EvF.assign rfl rfl) rfl rfl ?_) | (refine Xg.ev (EvF.add64 rfl rfl rfl (by omega) (by omega)) rfl rfl ?_))))) | (refine XO.done rfl ?_; refine hK _ _ ?_; clear hK K) | (refine XQ.op rfl ?_; (first | ((first | refine Yo.ng rfl ?_); (first | (refine Yg.ev (EvF.indexSlice rfl rfl rfl (te rfl) (te rfl) (by omega) (by omega)) rfl rfl ?_) | (refine Yg.ev (EvF.loadV rfl rfl (LoadV.el0 hl he (te rfl) rfl (fun _ hm => hm) rfl)) rfl rfl ?_) | (refine Yg.ev (EvF.loadV rfl rfl (LoadV.el0 hm hf (te rfl) rfl (fun _ hm => hm) rfl)) rfl rfl ?_) | (refine Yg.ev (EvF.move rfl rfl) rfl rfl ?_) | (refine Yg.ev (EvF.cmp rfl rfl rfl rfl) rfl rfl ?_))))) | (refine XQ.done rfl ?_; refine hK _ ?_; clear hK K) | refine X.seq rfl ?_ | refine X.region rfl (fun K hK => ?_) | refine X.regionD rfl mixed (by kernel_rfl) (fun K hK => ?_) | refine X.skip rfl ?_ | refine X.ret rfl ?_ | (refine X.ite rfl rfl (fun hc => ?_); (first | (with_reducible refine Xb.caseN hc (fun h => ?_) (fun h => ?_))) <;> clear hc))
    all_goals first
      | (refine ret_one (by first | exact .inr rfl | exact .inl rfl) Try.results40 rfl (H' := H) (by (repeat (first | exact List.Sublist.refl _ | apply List.Sublist.cons)); done) ?_; simp only [and_true, true_and]; congr 1; symm; exact decide_eq_false (fun q => absurd (hn.1 q).1 (by assumption)))
      | (refine ⟨_, _, _, (by (repeat (first | exact Sub.nil _ | refine Sub.cons rfl ?_)); done), (by (repeat (first | exact List.Sublist.refl _ | apply List.Sublist.cons_cons | apply List.Sublist.cons)); done), ⟨k + 1, rfl, by omega, hn.trans (and_iff_right (by assumption)), rfl, rfl⟩, by omega⟩)
  · rw [List.drop_eq_nil_of_le (by omega), List.drop_eq_nil_of_le (by omega)] at hn
    refine ret_one (by first | exact .inr rfl | exact .inl rfl) Try.results40 rfl (H' := H) (by (repeat (first | exact List.Sublist.refl _ | apply List.Sublist.cons)); done) ?_; simp only [and_true, true_and]
    congr 1; symm; exact decide_eq_true (hn.2 rfl)
theorem Tm.ext' {R S : Tm} (h1 : R.g = S.g) (h2 : R.s = S.s) (h3 : R.price = S.price) (h4 : R.worst = S.worst) (h5 : R.short = S.short) (h6 : R.G = S.G) (h7 : R.S = S.S) (h8 : R.dl = S.dl) (h9 : R.dh = S.dh) (h10 : R.bales = S.bales) (h11 : R.fee = S.fee) : R = S := by
  cases R; cases S; simp_all
set_option maxHeartbeats 4000000 in
theorem sameT_spec (T U : Tm) (p q : Pt) (H : List Row) (hT : TmOk H T p) (hU : TmOk H U q) : Fc Try.prog 18 [.agg (cTm T p).toArray, .agg (cTm U q).toArray] H (fun v H' => v = .bool (decide (T = U)) ∧ H' = H) := by
  have hT2 : ∀ Z : List Row, TmOk (Z ++ H) T p := fun Z => hT.sub (fun _ h => List.mem_append_right _ h)
  have hU2 : ∀ Z : List Row, TmOk (Z ++ H) U q := fun Z => hU.sub (fun _ h => List.mem_append_right _ h)
  refine Fc.mk (callable Try.call18) Try.func18 rfl Try.ntmps18 rfl ?_; dsimp only [fr]
  repeat' (first | (refine XO.op rfl ?_; (first | ((first | refine Xo.ng rfl ?_ | (refine Xo.g rfl rfl ?_; with_reducible refine Xw.tt ?_)); (first | (refine Xg.ev (EvF.loadV rfl rfl (LoadV.ownAgg (vs := cCl ⟨T.g, T.s⟩) (te rfl) rfl (List.Mem.tail _ (List.Mem.head _)) rfl rfl)) rfl rfl ?_) | (refine Xg.ev (EvF.loadV rfl rfl (LoadV.ownAgg (vs := cCl ⟨U.g, U.s⟩) (te rfl) rfl (List.Mem.head _) rfl rfl)) rfl rfl ?_) | (refine Xg.ev (EvF.loadV rfl rfl (LoadV.ownAgg (vs := cSp ⟨T.dl, T.dh⟩) (te rfl) rfl (List.Mem.tail _ (List.Mem.head _)) rfl rfl)) rfl rfl ?_) | (refine Xg.ev (EvF.loadV rfl rfl (LoadV.ownAgg (vs := cSp ⟨U.dl, U.dh⟩) (te rfl) rfl (List.Mem.head _) rfl rfl)) rfl rfl ?_) | (refine Xg.ev (EvF.eqSt rfl rfl rfl (by kernel_rfl) (fun w => eqCl 9998 ⟨T.g, T.s⟩ ⟨U.g, U.s⟩ w) rfl) rfl rfl ?_) | (refine Xg.ev (EvF.eqSt rfl rfl rfl (by kernel_rfl) (fun w => eqSp 9998 ⟨T.dl, T.dh⟩ ⟨U.dl, U.dh⟩ w) rfl) rfl rfl ?_) | (refine Xg.call (EnF.st rfl (Args.cons rfl (Args.cons rfl Args.nil))) rfl rfl (sameInts_spec T.G U.G p.a1 q.a1 p.c1 q.c1 _ (hT2 [_, _]).gr (hU2 [_, _]).gr hT.l1 hU.l1) ?_; rintro _ H9 ⟨rfl, hH9⟩; subst H9) | (refine Xg.call (EnF.st rfl (Args.cons rfl (Args.cons rfl Args.nil))) rfl rfl (sameInts_spec T.S U.S p.a2 q.a2 p.c2 q.c2 _ (hT2 [_, _]).st (hU2 [_, _]).st hT.l2 hU.l2) ?_; rintro _ H9 ⟨rfl, hH9⟩; subst H9) | (refine Xg.ev (EvF.move rfl rfl) rfl rfl ?_) | (refine Xg.ev (EvF.assign rfl rfl) rfl rfl ?_) | (refine Xg.ev (EvF.pickT rfl rfl rfl) rfl rfl ?_) | (refine Xg.ev (EvF.pickF rfl rfl rfl) rfl rfl ?_) | (refine Xg.ev (EvF.cmp rfl rfl rfl rfl) rfl rfl ?_) | (refine Xg.ev (EvF.fieldAddr rfl rfl (te rfl) rfl (te rfl) (by decide)) rfl rfl ?_) | (refine Xg.ev (EvF.loadV rfl rfl (LoadV.own (te rfl) rfl (List.Mem.head _) rfl)) rfl rfl ?_) | (refine Xg.ev (EvF.loadV rfl rfl (LoadV.own (te rfl) rfl (List.Mem.tail _ (List.Mem.head _)) rfl)) rfl rfl ?_) | (refine Xg.st (StF.boxAgg rfl rfl) rfl rfl ?_; rintro _ _ ⟨bx, rfl, rfl⟩))) | (refine Xo.g rfl rfl ?_; (first | (with_reducible refine Xw.ft rfl rfl ?_) | (with_reducible refine Xw.case (fun h => ?_) (fun h => ?_) <;> simp only [h, decide_true, decide_false, Bool.not_true, Bool.not_false, and_self, and_true, true_and, and_false, false_and]))))) | (refine XO.done rfl ?_; refine hK _ _ ?_; clear hK K) | refine X.seq rfl ?_ | refine X.region rfl (fun K hK => ?_) | refine X.ret rfl ?_)
  all_goals (refine ret_one (by first | exact .inr rfl | exact .inl rfl) Try.results18 rfl (H' := H) (by (repeat (first | exact List.Sublist.refl _ | apply List.Sublist.cons)); done) ?_; simp only [and_true, true_and])
  all_goals (congr 1; (try simp only [Cl.mk.injEq, Sp.mk.injEq] at *))
  all_goals first
    | (symm; exact decide_eq_false (fun q => by subst q; simp_all; done))
    | (exact decide_eq_decide.2 ⟨fun q => Tm.ext' (by omega) (by omega) (by omega) (by omega) (by omega) (by assumption) (by assumption) (by omega) (by omega) (by omega) (by omega), fun q => by subst q; rfl⟩)
theorem great_spec (T : Tm) (p : Pt) (H : List Row) : Fc Try.prog 10 [.agg (cTm T p).toArray] H (fun v H' => v = .bool (decide (T.G.length > 30 ∨ T.S.length > 30)) ∧ H' = H) := by
  refine Fc.mk (callable Try.call10) Try.func10 rfl Try.ntmps10 rfl ?_; dsimp only [fr]
  repeat' (first | (refine XO.op rfl ?_; (first | ((first | refine Xo.ng rfl ?_ | (refine Xo.g rfl rfl ?_; with_reducible refine Xw.ff ?_)); (first | (refine Xg.ev (EvF.move rfl rfl) rfl rfl ?_) | (refine Xg.ev (EvF.assign rfl rfl) rfl rfl ?_) | (refine Xg.ev (EvF.pickT rfl rfl rfl) rfl rfl ?_) | (refine Xg.ev (EvF.pickF rfl rfl rfl) rfl rfl ?_) | (refine Xg.ev (EvF.cmp rfl rfl rfl rfl) rfl rfl ?_) | (refine Xg.ev (EvF.fieldAddr rfl rfl (te rfl) rfl (te rfl) (by decide)) rfl rfl ?_) | (refine Xg.ev (EvF.lenSlice rfl rfl (te rfl)) rfl rfl ?_) | (refine Xg.ev (EvF.loadV rfl rfl (LoadV.own (te rfl) rfl (List.Mem.head _) rfl)) rfl rfl ?_) | (refine Xg.st (StF.boxAgg rfl rfl) rfl rfl ?_; rintro _ _ ⟨bx, rfl, rfl⟩))) | (refine Xo.g rfl rfl ?_; (first | (with_reducible refine Xw.tf rfl rfl ?_) | (with_reducible refine Xw.case (fun h => ?_) (fun h => ?_) <;> simp only [h, decide_true, decide_false, Bool.not_true, Bool.not_false, and_self, and_true, true_and, and_false, false_and]))))) | (refine XO.done rfl ?_; refine hK _ _ ?_; clear hK K) | refine X.seq rfl ?_ | refine X.region rfl (fun K hK => ?_) | refine X.block rfl ?_ | refine X.skip rfl ?_ | refine X.ret rfl ?_ | (refine X.ite rfl rfl (fun hc => ?_); (first | (with_reducible refine Xb.caseN hc (fun h => ?_) (fun h => ?_))) <;> clear hc))
  all_goals (refine ret_one (by first | exact .inr rfl | exact .inl rfl) Try.results10 rfl (H' := H) (by (repeat (first | exact List.Sublist.refl _ | apply List.Sublist.cons)); done) ?_; simp only [and_true, true_and])
  all_goals (congr 1; simp only [decide_eq_decide, eq_comm (a := true), decide_eq_true_eq]; omega)
end Go.Proofs.Ytcjlegjchllgjaa
end
section
set_option linter.unusedVariables false
set_option linter.unusedSimpArgs false
namespace Go.Proofs.Ytcjlegjchllgjaa
open Go Go.Fw
set_option maxRecDepth 10000
def tsTw : List TOp := [⟨some 3, [], [], []⟩, ⟨some 4, [], [], []⟩, ⟨some 5, [1], [1], []⟩, ⟨some 6, [0, 1, 2], [0, 2], [0]⟩, ⟨some 7, [], [], []⟩, ⟨some 8, [], [], []⟩, ⟨some 9, [5], [5], []⟩, ⟨some 10, [0, 1, 2, 3, 4, 5, 6], [4, 6], [4]⟩, ⟨some 11, [0, 1, 2, 3, 5, 6], [], []⟩, ⟨none, [0, 1, 2, 3, 4, 5, 6, 7, 8], [8, 3], [12]⟩, ⟨some 12, [0, 1, 2, 3, 4, 5, 6, 7, 8, 9], [], []⟩, ⟨none, [0, 1, 2, 3, 4, 5, 6, 7, 8, 9, 10], [10, 7], [9]⟩, ⟨none, [], [], []⟩]
def valTw (b1 b2 : Nat) (T : Tm) (p : Pt) (k : Nat) (env : Env) : Value :=
  match k with
  | 0 => .slice (some ⟨(env 0).1, 0, none⟩) 0 0
  | 1 => .pointer (some ⟨b1, 5, none⟩)
  | 2 => .slice p.a1 T.G.length p.c1
  | 3 => .slice (some ⟨(env 3).1, 0, none⟩) T.G.length (env 3).2
  | 4 => .slice (some ⟨(env 4).1, 0, none⟩) 0 0
  | 5 => .pointer (some ⟨b1, 6, none⟩)
  | 6 => .slice p.a2 T.S.length p.c2
  | 7 => .slice (some ⟨(env 7).1, 0, none⟩) T.S.length (env 7).2
  | 8 => .pointer (some ⟨b1, 5, none⟩)
  | 9 => undef
  | 10 => .pointer (some ⟨b1, 6, none⟩)
  | 11 => undef
  | _ => undef
def rowsTw (b1 b2 : Nat) (T : Tm) (p : Pt) (k : Nat) (env : Env) : List Row :=
  match k with
  | 0 => [⟨(env 0).1, 0, [], some 3, 0 * 1⟩]
  | 3 => [⟨(env 3).1, 0, T.G.flatMap cI, some 3, (env 3).2 * 1⟩]
  | 4 => [⟨(env 4).1, 0, [], some 3, 0 * 1⟩]
  | 7 => [⟨(env 7).1, 0, T.S.flatMap cI, some 3, (env 7).2 * 1⟩]
  | 9 => [⟨b1, 0, cTm T ⟨some ⟨(env 3).1, 0, none⟩, (env 3).2, p.a2, p.c2⟩, some 28, 11⟩]
  | 11 => [⟨b1, 0, cTm T ⟨some ⟨(env 3).1, 0, none⟩, (env 3).2, some ⟨(env 7).1, 0, none⟩, (env 7).2⟩, some 28, 11⟩]
  | 12 => [⟨b1, 0, cTm T p, some 28, 11⟩]
  | _ => []
theorem locTw (b1 b2 : Nat) (T : Tm) (p : Pt) : ∀ k env i q9, i ≠ k → (tAt tsTw k).sup.contains i = false → valTw b1 b2 T p k (upd env i q9) = valTw b1 b2 T p k env ∧ rowsTw b1 b2 T p k (upd env i q9) = rowsTw b1 b2 T p k env := by
  intro k env i q hk hs
  have hu : ∀ j, j ≠ i → upd env i q j = env j := fun j hj => by unfold upd; rw [if_neg hj]
  match k, hk, hs with
  | 0, hk, hs => exact ⟨by simp only [valTw, hu 0 (fun e => hk e.symm)], by simp only [rowsTw, hu 0 (fun e => hk e.symm)]⟩
  | 1, _, _ => exact ⟨rfl, rfl⟩
  | 2, _, _ => exact ⟨rfl, rfl⟩
  | 3, hk, hs => exact ⟨by simp only [valTw, hu 3 (fun e => hk e.symm)], by simp only [rowsTw, hu 3 (fun e => hk e.symm)]⟩
  | 4, hk, hs => exact ⟨by simp only [valTw, hu 4 (fun e => hk e.symm)], by simp only [rowsTw, hu 4 (fun e => hk e.symm)]⟩
  | 5, _, _ => exact ⟨rfl, rfl⟩
  | 6, _, _ => exact ⟨rfl, rfl⟩
  | 7, hk, hs => exact ⟨by simp only [valTw, hu 7 (fun e => hk e.symm)], by simp only [rowsTw, hu 7 (fun e => hk e.symm)]⟩
  | 8, _, _ => exact ⟨rfl, rfl⟩
  | 9, hk, hs => exact ⟨by simp only [valTw, hu 3 (by rintro rfl; cases hs)], by simp only [rowsTw, hu 3 (by rintro rfl; cases hs)]⟩
  | 10, _, _ => exact ⟨rfl, rfl⟩
  | 11, hk, hs => exact ⟨by simp only [valTw, hu 3 (by rintro rfl; cases hs), hu 7 (by rintro rfl; cases hs)], by simp only [rowsTw, hu 3 (by rintro rfl; cases hs), hu 7 (by rintro rfl; cases hs)]⟩
  | 12, _, _ => exact ⟨rfl, rfl⟩
  | _ + 13, _, _ => exact ⟨rfl, rfl⟩
def rdTw (k : Nat) : List Nat := match k with
  | 2 => [12]
  | 6 => [12]
  | _ => []
set_option maxHeartbeats 4000000 in
theorem twin_spec (T : Tm) (p : Pt) (H : List Row) (hT : TmOk H T p) : Fc Try.prog 11 [.agg (cTm T p).toArray] H (fun v H' => ∃ t1 k1 t2 k2, v = .agg (cTm T ⟨some ⟨t1, 0, none⟩, k1, some ⟨t2, 0, none⟩, k2⟩).toArray ∧ H' = ⟨t1, 0, T.G.flatMap cI, some 3, k1 * 1⟩ :: ⟨t2, 0, T.S.flatMap cI, some 3, k2 * 1⟩ :: H) := by
  have l1 := hT.l1
  have l2 := hT.l2
  refine Fc.mk (callable Try.call11) Try.func11 rfl Try.ntmps11 rfl ?_; dsimp only [fr]
  refine X.seq rfl ?_; refine X.region rfl (fun K hK => ?_); repeat' (first | (refine XO.op rfl ?_; (first | ((first | refine Xo.ng rfl ?_); (first | (refine Xg.st (StF.boxAgg rfl rfl) rfl rfl ?_; rintro _ _ ⟨bx, rfl, rfl⟩) | (refine Xg.st (StF.alloc rfl Try.zeroValue28 rfl) rfl rfl ?_; rintro _ _ ⟨bx, rfl, rfl⟩))))) | (refine XO.done rfl ?_; refine hK _ _ ?_; clear hK K))
  rename_i b1; rename Nat => b2
  refine X.seq rfl ?_
  refine X.permH (H' := ⟨b1, 0, cTm T p, some 28, 11⟩ :: ⟨b2, 0, cTm Tz pz, some 28, 11⟩ :: H) (List.Perm.swap _ _ _) ?_
  refine X.regionRd tsTw rdTw [1, 2] [(1, .pointer (some ⟨b1, 0, none⟩)), (2, .pointer (some ⟨b2, 0, none⟩))] (valTw b1 b2 T p) (rowsTw b1 b2 T p) (fun _ => (0, 0)) (⟨b2, 0, cTm Tz pz, some 28, 11⟩ :: H) rfl mixed (by (repeat (first | exact Sub.nil _ | refine Sub.cons rfl ?_)); done) rfl (by kernel_rfl) (by kernel_rfl) (locTw b1 b2 T p) (List.Sublist.refl _) ?_ ?_
  · have hs : ∀ (S Z : List Row), (∀ r ∈ ⟨b2, 0, cTm Tz pz, some 28, 11⟩ :: H, r ∈ S) → TmOk (Z ++ S) T p := fun S Z hS => hT.sub (fun r hr => List.mem_append_right _ (hS r (List.mem_cons_of_mem _ hr)))
    repeat' (first | exact AllF.done rfl | (refine AllF.step rfl ?_ ?_; · (first | exact (Ob.ng rfl (ObK.pure (fun env R hR => by exact ⟨_, EvF.fieldAddr rfl rfl (te rfl) rfl (te rfl) (by decide), rfl⟩) rfl (fun _ => rfl))).toR | (refine ObR.ng rfl ?_; (first | (exact fun env S hS hrd => (StF.buildNil rfl elI).op.mono (fun v H' ⟨b, hv, hH⟩ => ⟨(b, 0), fun _ => hv, by rw [hH]; exact List.Perm.refl _⟩)) | (exact fun env S hS hrd => (StF.ofEv (EvF.loadV rfl rfl (LoadV.own (te rfl) rfl (hrd 12 (List.Mem.head _) _ (List.Mem.head _)) rfl))).op.mono (fun v H' ⟨hv, hH⟩ => ⟨(0, 0), fun _ => hv, by rw [hH]; exact List.Perm.refl _⟩)) | (exact fun env S hS hrd => (StF.appendSl (i := 0) rfl elI rfl rfl rfl (hs S [_] hS).gr (fun e _ => one_i e) rfl (by decide) (by omega)).op.mono (fun v H' ⟨b, c, hv, hH⟩ => ⟨(b, c), fun _ => by rw [hv, Nat.zero_add]; rfl, by rw [hH]; exact List.Perm.refl _⟩)) | (exact fun env S hS hrd => (StF.appendSl (i := 0) rfl elI rfl rfl rfl (hs S [_] hS).st (fun e _ => one_i e) rfl (by decide) (by omega)).op.mono (fun v H' ⟨b, c, hv, hH⟩ => ⟨(b, c), fun _ => by rw [hv, Nat.zero_add]; rfl, by rw [hH]; exact List.Perm.refl _⟩)) | (exact fun env S hS hrd => (StF.storeOne (i := 0) (cs := cTm T p) rfl rfl rfl rfl (te rfl) rfl rfl (Nat.le_of_ble_eq_true rfl)).op.mono (fun v H' ⟨hv, hH⟩ => ⟨(0, 0), fun h => absurd rfl h, by rw [hH]; exact List.Perm.refl _⟩)) | (exact fun env S hS hrd => (StF.storeOne (i := 0) (cs := cTm T ⟨some ⟨(env 3).1, 0, none⟩, (env 3).2, p.a2, p.c2⟩) rfl rfl rfl rfl (te rfl) rfl rfl (Nat.le_of_ble_eq_true rfl)).op.mono (fun v H' ⟨hv, hH⟩ => ⟨(0, 0), fun h => absurd rfl h, by rw [hH]; exact List.Perm.refl _⟩)))))))
  · intro env t ha hv
    refine ⟨_, ha, ?_⟩
    show X _ _ _ _ (⟨(env 3).1, 0, T.G.flatMap cI, some 3, (env 3).2 * 1⟩ :: ⟨(env 7).1, 0, T.S.flatMap cI, some 3, (env 7).2 * 1⟩ :: ⟨b1, 0, cTm T ⟨some ⟨(env 3).1, 0, none⟩, (env 3).2, some ⟨(env 7).1, 0, none⟩, (env 7).2⟩, some 28, 11⟩ :: ⟨b2, 0, cTm Tz pz, some 28, 11⟩ :: H) _
    repeat' (first | (refine XO.op rfl ?_; (first | ((first | refine Xo.ng rfl ?_); (first | (refine Xg.ev (EvF.loadV rfl rfl (LoadV.whole (te rfl) rfl (List.Mem.tail _ (List.Mem.tail _ (List.Mem.head _))) rfl)) rfl rfl ?_) | (refine Xg.st0 (StF.storeAll (i := 3) rfl rfl rfl (te rfl) rfl rfl rfl rfl) rfl ?_; rintro _ _ ⟨rfl, rfl⟩; dsimp only [List.set]))))) | (refine XO.done rfl ?_; refine hK _ _ ?_; clear hK K) | refine X.seq rfl ?_ | refine X.region rfl (fun K hK => ?_) | refine X.ret rfl ?_)
    exact ret_one (by first | exact .inr rfl | exact .inl rfl) Try.results11 ⟨_, rfl, LoadV.whole (te rfl) rfl (List.Mem.tail _ (List.Mem.tail _ (List.Mem.tail _ (List.Mem.head _)))) rfl⟩ (H' := ⟨(env 3).1, 0, T.G.flatMap cI, some 3, (env 3).2 * 1⟩ :: ⟨(env 7).1, 0, T.S.flatMap cI, some 3, (env 7).2 * 1⟩ :: H) (by (repeat (first | exact List.Sublist.refl _ | apply List.Sublist.cons_cons | apply List.Sublist.cons)); done) ⟨_, _, _, _, rfl, rfl⟩
theorem cls_lo1 (T : Tm) (c : Cl) : cls T (lo1 c) = if may T c then [c] else [] := by
  have e : ∀ a : Int, ir a a = [a] := fun a => by unfold ir; rw [show (a - a + 1).toNat = 1 by omega]; simp
  unfold cls clsI lo1
  simp only [e, rowC, List.flatMap_cons, List.flatMap_nil, List.map_cons, List.map_nil, List.append_nil, List.filter_cons, List.filter_nil]
theorem openI (T : Tm) (c : Cl) : openE T (abI c) = if tmOk T then (if 1 ≤ c.g ∧ c.g ≤ 9 then (if 1 ≤ c.s ∧ c.s ≤ 9 then (if may T c = true then 0 else 6) else 42) else 41) else 40 := by
  unfold openE
  have h1 : askD (abI c) := fun d hd => absurd hd List.not_mem_nil
  have h2 : askG (abI c) ↔ 1 ≤ c.g ∧ c.g ≤ 9 := by simp [askG, abI, lo1, partOk]
  have h3 : askS (abI c) ↔ 1 ≤ c.s ∧ c.s ≤ 9 := by simp [askS, abI, lo1, partOk]
  have h4 : askM (abI c) := fun d hd => absurd hd List.not_mem_nil
  have h5 : askN T (abI c) ↔ may T c = true := by
    simp only [askN, abI, List.mem_cons, List.not_mem_nil, or_false, forall_eq, cls_lo1]
    split <;> simp_all
  simp only [h1, h2, h3, h4, h5, if_true]
theorem openI' (T : Tm) (c : Cl) : openE T (abI c) = if askedE T c = 0 then (if may T c = true then 0 else 6) else askedE T c := by
  rw [openI]; unfold askedE clsE
  by_cases h1 : tmOk T <;> by_cases h2 : 1 ≤ c.g ∧ c.g ≤ 9 <;> by_cases h3 : 1 ≤ c.s ∧ c.s ≤ 9 <;> simp only [h1, h2, h3, if_true, if_false] <;> simp
theorem askedE_zero {T : Tm} {c : Cl} (h : askedE T c = 0) : tmOk T ∧ (1 ≤ c.g ∧ c.g ≤ 9) ∧ (1 ≤ c.s ∧ c.s ≤ 9) := by
  unfold askedE clsE at h
  by_cases h1 : tmOk T
  · by_cases h2 : 1 ≤ c.g ∧ c.g ≤ 9
    · by_cases h3 : 1 ≤ c.s ∧ c.s ≤ 9
      · exact ⟨h1, h2, h3⟩
      · simp [h1, h2, h3] at h
    · simp [h1, h2] at h
  · simp [h1] at h
end Go.Proofs.Ytcjlegjchllgjaa
end
section
set_option linter.unusedVariables false
set_option linter.unusedSimpArgs false
namespace Go.Fw
open Go
theorem EvF.eqSelf {P : Program} {n : Nat} {H : List Row} {F : FS} {o : Oper} {T T' : TypeId} {x y : Operand} {k : IntKind} {p : Int} (h : o.op = .binOp .eql T x y T') (hx : evF F x = some (.int k p)) (hy : evF F y = some (.int k p)) : EvF P n H F o (.bool true) := by
  have := EvF.cmp (P := P) (n := n) (H := H) h hx hy rfl
  rwa [decide_eq_true rfl] at this
end Go.Fw
namespace Go.Proofs.Ytcjlegjchllgjaa
open Go Go.Fw
set_option maxRecDepth 10000
theorem sameT_self (T : Tm) (p q : Pt) (H : List Row) (hT : TmOk H T p) (hU : TmOk H T q) : Fc Try.prog 18 [.agg (cTm T p).toArray, .agg (cTm T q).toArray] H (fun v H' => v = .bool true ∧ H' = H) :=
  (sameT_spec T T p q H hT hU).mono (fun v H' ⟨h1, h2⟩ => ⟨by rw [h1, decide_eq_true rfl], h2⟩)
theorem greatT (T : Tm) (p : Pt) (h : T.G.length > 30 ∨ T.S.length > 30) (H : List Row) : Fc Try.prog 10 [.agg (cTm T p).toArray] H (fun v H' => v = .bool true ∧ H' = H) := by
  have := great_spec T p H
  rwa [decide_eq_true h] at this
theorem greatF (T : Tm) (p : Pt) (h : ¬ (T.G.length > 30 ∨ T.S.length > 30)) (H : List Row) : Fc Try.prog 10 [.agg (cTm T p).toArray] H (fun v H' => v = .bool false ∧ H' = H) := by
  have := great_spec T p H
  rwa [decide_eq_false h] at this
theorem ownT (T : Tm) (t1 k1 t2 k2 : Nat) (H : List Row) (l1 : T.G.length ≤ 1000000) (l2 : T.S.length ≤ 1000000) (m1 : (⟨t1, 0, T.G.flatMap cI, some 3, k1 * 1⟩ : Row) ∈ H) (m2 : (⟨t2, 0, T.S.flatMap cI, some 3, k2 * 1⟩ : Row) ∈ H) : TmOk H T ⟨some ⟨t1, 0, none⟩, k1, some ⟨t2, 0, none⟩, k2⟩ :=
  ⟨SlE.ofRow m1 (fun _ _ => rfl), SlE.ofRow m2 (fun _ _ => rfl), l1, l2⟩
end Go.Proofs.Ytcjlegjchllgjaa
end
section
set_option linter.unusedVariables false
namespace Go.Proofs.Ytcjlegjchllgjaa
open Go Go.Fw Go.ChangeShapes Go.WideShapes Go.ChangeAt Go.RowKit
set_option linter.unusedVariables false
set_option maxRecDepth 100000
instance : Inhabited Sp := ⟨⟨0, 0⟩⟩
instance : Inhabited Cl := ⟨⟨0, 0⟩⟩
section
variable {H : Type} {enc : TypeId × Value → H} {w : World} {base : Nat} {spare : Nat → Bool} {held : Bool} {fuel : Nat} {cs : List Value} {x : DataW H × List MemPlace}
theorem open_i (h : DataW.trod enc Try.prog w base spare held fuel 3 cs = some x) : ∃ q : Int, cs = cI q ∧ True := by
  obtain ⟨q, h1, _⟩ := trod_i (te rfl) h
  exact ⟨q, h1, trivial⟩
theorem open_sp (h : DataW.trod enc Try.prog w base spare held fuel 26 cs = some x) : ∃ q : Sp, cs = cSp q ∧ True := by
  obtain ⟨hl, hf⟩ := trod_st (te rfl) h
  obtain ⟨n0, y0, h0⟩ := hf 0 0 3 _ rfl (te rfl)
  obtain ⟨n1, y1, h1⟩ := hf 1 1 3 _ rfl (te rfl)
  match cs, hl with
  | [a, b], _ =>
    obtain ⟨lo, e0, w0⟩ := open_i h0
    obtain ⟨hi, e1, w1⟩ := open_i h1
    simp [cI] at e0 e1
    subst e0 e1
    exact ⟨⟨lo, hi⟩, rfl, trivial⟩
theorem open_cl (h : DataW.trod enc Try.prog w base spare held fuel 23 cs = some x) : ∃ q : Cl, cs = cCl q ∧ True := by
  obtain ⟨hl, hf⟩ := trod_st (te rfl) h
  obtain ⟨n0, y0, h0⟩ := hf 0 0 3 _ rfl (te rfl)
  obtain ⟨n1, y1, h1⟩ := hf 1 1 3 _ rfl (te rfl)
  match cs, hl with
  | [a, b], _ =>
    obtain ⟨lo, e0, w0⟩ := open_i h0
    obtain ⟨hi, e1, w1⟩ := open_i h1
    simp [cI] at e0 e1
    subst e0 e1
    exact ⟨⟨lo, hi⟩, rfl, trivial⟩
end
structure InTm (w : World) (T : Tm) (p : Pt) : Prop where
  gr : InSl w p.a1 cI 1 T.G
  st : InSl w p.a2 cI 1 T.S
def rowsTm (T : Tm) (p : Pt) : List Row := rowsOf p.a1 cI T.G ++ rowsOf p.a2 cI T.S
theorem InTm.ok {w : World} {T : Tm} {p : Pt} {N : Nat} (h : InTm w T p) : ∀ r ∈ rowsTm T p, r.own = none ∧ r.ok N w := by
  intro r hr
  rcases List.mem_append.1 hr with hr | hr
  · exact h.gr.ok r hr
  · exact h.st.ok r hr
theorem InTm.g {w : World} {T : Tm} {p : Pt} (h : InTm w T p) {H : List Row} (hs : ∀ r ∈ rowsTm T p, r ∈ H) : SlE H p.a1 cI 1 T.G := h.gr.sl (fun r hr => hs r (List.mem_append_left _ hr))
theorem InTm.s {w : World} {T : Tm} {p : Pt} (h : InTm w T p) {H : List Row} (hs : ∀ r ∈ rowsTm T p, r ∈ H) : SlE H p.a2 cI 1 T.S := h.st.sl (fun r hr => hs r (List.mem_append_right _ hr))
section
variable {H : Type} {enc : TypeId × Value → H} {w : World} {base : Nat} {spare : Nat → Bool} {held : Bool} {v : Value} {d : DataW H} {p : List MemPlace} {r : Reach} {b0 : Nat}
theorem open_terms (hv : Value.okWide Try.prog w r b0 28 v) (h : DataW.Trod enc Try.prog w base spare held 28 v d p) : ∃ T pl, v = .agg (cTm T pl).toArray ∧ InTm w T pl := by
  obtain ⟨fa, hu, _⟩ := ti_struct (te (T := 28) rfl)
  obtain ⟨⟨cs⟩, rfl, _⟩ := okWide_struct hu hv
  obtain ⟨fuel, hf⟩ := h
  obtain ⟨hl, hf⟩ := trod_st (te rfl) hf
  obtain ⟨n0, y0, h0⟩ := hf 0 0 23 _ rfl (te rfl)
  obtain ⟨n1, y1, h1⟩ := hf 1 2 3 _ rfl (te rfl)
  obtain ⟨n2, y2, h2⟩ := hf 2 3 3 _ rfl (te rfl)
  obtain ⟨n3, y3, h3⟩ := hf 3 4 3 _ rfl (te rfl)
  obtain ⟨n4, y4, h4⟩ := hf 4 5 24 _ rfl (te rfl)
  obtain ⟨n5, y5, h5⟩ := hf 5 6 24 _ rfl (te rfl)
  obtain ⟨n6, y6, h6⟩ := hf 6 7 26 _ rfl (te rfl)
  obtain ⟨n7, y7, h7⟩ := hf 7 9 3 _ rfl (te rfl)
  obtain ⟨n8, y8, h8⟩ := hf 8 10 3 _ rfl (te rfl)
  match cs, hl with
  | [a, b, c, d, e, f, g, i, j, k, l], _ =>
    obtain ⟨q0, e0, w0⟩ := open_cl h0
    obtain ⟨q1, e1, w1⟩ := open_i h1
    obtain ⟨q2, e2, w2⟩ := open_i h2
    obtain ⟨q3, e3, w3⟩ := open_i h3
    obtain ⟨q6, e6, w6⟩ := open_sp h6
    obtain ⟨q7, e7, w7⟩ := open_i h7
    obtain ⟨q8, e8, w8⟩ := open_i h8
    simp [cI, cSp, cCl, Value.cells] at e0 e1 e2 e3 e6 e7 e8
    obtain ⟨l4, a4, c4, e4, i4, _, k4⟩ := open_sl (te rfl) (te rfl) rfl (by decide) (fun _ _ _ => open_i) (fun _ => rfl) h4
    obtain ⟨l5, a5, c5, e5, i5, _, k5⟩ := open_sl (te rfl) (te rfl) rfl (by decide) (fun _ _ _ => open_i) (fun _ => rfl) h5
    obtain ⟨e01, e02⟩ := e0
    obtain ⟨e61, e62⟩ := e6
    subst e01 e02 e1 e2 e3 e4 e5 e61 e62 e7 e8
    exact ⟨⟨q0.g, q0.s, q1, q2, q3, l4, l5, q6.lo, q6.hi, q7, q8⟩, ⟨a4, c4, a5, c5⟩, rfl, i4, i5⟩
theorem open_class (hv : Value.okWide Try.prog w r b0 23 v) (h : DataW.Trod enc Try.prog w base spare held 23 v d p) : ∃ q : Cl, v = .agg (cCl q).toArray := by
  obtain ⟨fa, hu, _⟩ := ti_struct (te (T := 23) rfl)
  obtain ⟨⟨cs⟩, rfl, _⟩ := okWide_struct hu hv
  obtain ⟨fuel, hf⟩ := h
  obtain ⟨q, rfl, _⟩ := open_cl hf
  exact ⟨q, rfl⟩
theorem open_int (hv : Value.okWide Try.prog w r b0 3 v) : ∃ q : Int, v = .int .i64 q := okWide_int Try.underlying3 hv
end
theorem ownK : ownKnob Try.prog.godebug = none := by kernel_rfl
theorem laidO : laidOutB Try.prog = true := by kernel_rfl
end Go.Proofs.Ytcjlegjchllgjaa
end
section
set_option linter.unusedVariables false
set_option linter.unusedSimpArgs false
namespace Go.Proofs.Ytcjlegjchllgjaa
open Go Go.Fw
set_option maxRecDepth 10000
/-- the first class that is none -/
def cErr : List Cl → Int
  | [] => 0
  | c :: l => if clsE c = 0 then cErr l else clsE c
/-- what some classes come to -/
def sumV (T : Tm) : List Cl → Int
  | [] => 0
  | c :: l => (if may T c = true then val T c.g c.s else 0) + sumV T l
theorem at1_bd {l : List Int} (h : ∀ n ∈ l, -1000 ≤ n ∧ n ≤ 1000) (i : Int) : -1000 ≤ at1 l i ∧ at1 l i ≤ 1000 := by
  unfold at1
  rw [List.getD_eq_getElem?_getD]
  cases e : l[(i - 1).toNat]? with
  | none => exact ⟨by decide, by decide⟩
  | some x => exact h x (List.mem_of_getElem? e)
/-- which may not be delivered -/
def refsA (T : Tm) : Nat → List Cl → List Int
  | _, [] => []
  | k, c :: l => if may T c = true then refsA T (k + 1) l else (k : Int) :: refsA T (k + 1) l
noncomputable def totE (T : Tm) (m : Int) (l : List Cl) : Int := if tmOk T then (if T.dl ≤ m ∧ m ≤ T.dh then (if (l.length : Int) ≤ T.bales then cErr l else 4) else 44) else 40
noncomputable def totS (T : Tm) (m : Int) (l : List Cl) : Int := if totE T m l = 0 then sumV T l else 0
noncomputable def totI (T : Tm) (m : Int) (l : List Cl) : List Int := if totE T m l = 0 then refsA T 0 l else []
/-- a list of numbers of one's own, or none -/
def OutI (k : List Int) (v : Value) (Z : List Row) : Prop := (k = [] ∧ v = .slice none 0 0 ∧ Z = []) ∨ ∃ b q, v = .slice (some ⟨b, 0, none⟩) k.length q ∧ Z = [⟨b, 0, k.flatMap cI, some 3, q * 1⟩]
theorem OutI.nil : OutI [] (.slice none 0 0) [] := .inl ⟨rfl, rfl, rfl⟩
noncomputable def opT (T : Tm) (A : Ab) : Tm := if openE T A = 0 then T else Tz
noncomputable def opP (T : Tm) (p : Pt) (A : Ab) : Pt := if openE T A = 0 then p else pz
theorem openD_spec (T : Tm) (p : Pt) (A : Ab) (q : Pa) (H : List Row) (hT : TmOk H T p) (hA : AbOk H A q) (hd : HD A) (hi : HI A) :
    Fc Try.prog 81 [.agg (cTm T p).toArray, .agg (cAb A q).toArray] H (fun v H' => v = .tuple #[.agg (cTm (opT T A) (opP T p A)).toArray, .int .i64 (openE T A)] ∧ H' = H) := by
  refine (open_spec T p A q H hT hA hd hi).mono ?_
  rintro v H' ⟨⟨h, rfl⟩ | ⟨h, rfl⟩, rfl⟩
  · unfold opT opP; rw [if_pos h, if_pos h, h]; exact ⟨rfl, rfl⟩
  · unfold opT opP; rw [if_neg h, if_neg h]; exact ⟨rfl, rfl⟩
theorem HI0 {d : List Dy} {l : List Lo} {m : List Int} : HI ⟨d, l, m, []⟩ := fun _ _ l hl => absurd hl List.not_mem_nil
theorem OutI.zero {T : Tm} {m : Int} {l : List Cl} (h : totE T m l ≠ 0) : totS T m l = 0 ∧ totI T m l = [] := by
  unfold totS totI
  rw [if_neg h, if_neg h]
  exact ⟨rfl, rfl⟩
end Go.Proofs.Ytcjlegjchllgjaa
end
section
set_option linter.unusedVariables false
set_option linter.unusedSimpArgs false
namespace Go.Proofs.Ytcjlegjchllgjaa
open Go Go.Fw
set_option maxRecDepth 10000
theorem OutI.sl {k : List Int} {v : Value} {Z H : List Row} (h : OutI k v Z) (hs : ∀ r ∈ Z, r ∈ H) : ∃ a c, v = .slice a k.length c ∧ SlE H a cI 1 k := by
  rcases h with ⟨rfl, rfl, rfl⟩ | ⟨b, q, rfl, rfl⟩
  · exact ⟨_, _, rfl, sleNil⟩
  · exact ⟨_, _, rfl, SlE.ofRow (hs _ (List.Mem.head _)) (fun _ _ => rfl)⟩
theorem OutI.len {k : List Int} {v : Value} {Z : List Row} (h : OutI k v Z) : ∃ a c, v = .slice a k.length c := by
  rcases h with ⟨rfl, rfl, rfl⟩ | ⟨b, q, rfl, rfl⟩ <;> exact ⟨_, _, rfl⟩
end Go.Proofs.Ytcjlegjchllgjaa
end
section
set_option linter.unusedVariables false
set_option linter.unusedSimpArgs false
namespace Go.Proofs.Ytcjlegjchllgjaa
open Go Go.Fw
set_option maxRecDepth 10000
def stepT (T : Tm) (g n : Int) : Tm := { T with G := T.G.set (g - 1).toNat n }
noncomputable def vld (U : Tm) : Tm × Int := if tmOk U then (U, 0) else (Tz, 40)
noncomputable def stepF (T : Tm) (g n : Int) : Tm × Int := if tmOk T then (if 1 ≤ g ∧ g ≤ 9 then vld (stepT T g n) else (Tz, 41)) else (Tz, 40)
def rebT (T : Tm) (c : Cl) : Tm := { T with g := c.g, s := c.s, price := val T c.g c.s, G := T.G.map (fun n => n - at1 T.G c.g), S := T.S.map (fun n => n - at1 T.S c.s) }
noncomputable def rebF (T : Tm) (c : Cl) : Tm × Int := if askedE T c = 0 then (if may T c = true then vld (rebT T c) else (Tz, 6)) else (Tz, askedE T c)
def withB (T : Tm) (n : Int) : Tm := { T with bales := n }
noncomputable def joinF (T U : Tm) : Tm × Int := if tmOk T ∧ tmOk U then (if T = withB U T.bales then (if T.bales + U.bales > 20 then (Tz, 9) else (withB T (T.bales + U.bales), 0)) else (Tz, 2)) else (Tz, 40)
noncomputable def splF (T : Tm) (n : Int) : Tm × Tm × Int := if tmOk T then (if 1 ≤ n ∧ n ≤ T.bales - 1 then (withB T n, withB T (T.bales - n), 0) else (Tz, Tz, 2)) else (Tz, Tz, 40)
/-- where tables of one's own lie -/
def plT (t1 k1 t2 k2 : Nat) : Pt := ⟨some ⟨t1, 0, none⟩, k1, some ⟨t2, 0, none⟩, k2⟩
def rI (l : List Int) (b k : Nat) : Row := ⟨b, 0, l.flatMap cI, some 3, k * 1⟩
/-- terms with tables of their own, or none -/
def OwnTm (Z : List Row) (T : Tm) (p : Pt) : Prop := (T = Tz ∧ p = pz ∧ Z = []) ∨ ∃ t1 k1 t2 k2, p = plT t1 k1 t2 k2 ∧ Z.Perm [rI T.G t1 k1, rI T.S t2 k2]
theorem OwnTm.zero : OwnTm [] Tz pz := .inl ⟨rfl, rfl, rfl⟩
theorem OwnTm.two (T : Tm) (t1 k1 t2 k2 : Nat) : OwnTm [rI T.G t1 k1, rI T.S t2 k2] T (plT t1 k1 t2 k2) := .inr ⟨t1, k1, t2, k2, rfl, List.Perm.refl _⟩
theorem TmOk.zero (H : List Row) : TmOk H Tz pz := ⟨sleNil, sleNil, Nat.zero_le _, Nat.zero_le _⟩
theorem OwnTm.ok {Z : List Row} {T : Tm} {p : Pt} (h : OwnTm Z T p) (h1 : T.G.length ≤ 1000000) (h2 : T.S.length ≤ 1000000) : TmOk Z T p := by
  rcases h with ⟨rfl, rfl, rfl⟩ | ⟨t1, k1, t2, k2, rfl, hp⟩
  · exact TmOk.zero _
  · exact ⟨SlE.ofRow (hp.mem_iff.2 (List.Mem.head _)) (fun _ _ => rfl), SlE.ofRow (hp.mem_iff.2 (List.Mem.tail _ (List.Mem.head _))) (fun _ _ => rfl), h1, h2⟩
/-- what a call returns: terms of its own, and an error -/
def ProgT (F : Tm × Int) (H : List Row) (v : Value) (H' : List Row) : Prop := ∃ p Z, v = .tuple #[.agg (cTm F.1 p).toArray, .int .i64 F.2] ∧ OwnTm Z F.1 p ∧ H' = Z ++ H
theorem EvF.tz {n : Nat} {H : List Row} {F : FS} {o : Oper} (h : o.op = .build 28 #[]) : EvF Try.prog n H F o (.agg (cTm Tz pz).toArray) := EvF.build (cs := cTm Tz pz) h ArgsP.nil (te rfl) (Places.cons (te rfl) (Places.cons (te rfl) (Places.cons (te rfl) (Places.cons (te rfl) (Places.cons (te rfl) (Places.cons (te rfl) (Places.cons (te rfl) (Places.cons (te rfl) (Places.cons (te rfl) Places.nil))))))))) Try.zeroValue28 rfl
def tsCp : List TOp := [⟨some 3, [], [], []⟩, ⟨some 4, [0], [0], []⟩, ⟨some 5, [0, 1], [1], []⟩, ⟨some 6, [], [], []⟩, ⟨some 7, [3], [3], []⟩, ⟨some 8, [0, 1, 2, 3, 4], [4], []⟩, ⟨some 9, [0, 1, 2, 3, 4], [], []⟩, ⟨none, [0, 1, 2, 3, 4, 5, 6], [6, 2], [10]⟩, ⟨some 10, [0, 1, 2, 3, 4, 5, 6, 7], [], []⟩, ⟨none, [0, 1, 2, 3, 4, 5, 6, 7, 8], [8, 5], [7]⟩, ⟨none, [], [], []⟩]
def valCp (b1 b2 : Nat) (T : Tm) (a1 a2 : Addr) (c1 c2 : Nat) (k : Nat) (env : Env) : Value :=
  match k with
  | 0 => .pointer (some ⟨b1, 5, none⟩)
  | 1 => .slice (some a1) T.G.length c1
  | 2 => .slice (some ⟨(env 2).1, 0, none⟩) T.G.length (env 2).2
  | 3 => .pointer (some ⟨b1, 6, none⟩)
  | 4 => .slice (some a2) T.S.length c2
  | 5 => .slice (some ⟨(env 5).1, 0, none⟩) T.S.length (env 5).2
  | 6 => .pointer (some ⟨b1, 5, none⟩)
  | 7 => undef
  | 8 => .pointer (some ⟨b1, 6, none⟩)
  | 9 => undef
  | _ => undef
def rowsCp (b1 b2 : Nat) (T : Tm) (a1 a2 : Addr) (c1 c2 : Nat) (k : Nat) (env : Env) : List Row :=
  match k with
  | 2 => [rI T.G (env 2).1 (env 2).2]
  | 5 => [rI T.S (env 5).1 (env 5).2]
  | 7 => [⟨b1, 0, cTm T ⟨some ⟨(env 2).1, 0, none⟩, (env 2).2, some a2, c2⟩, some 28, 11⟩]
  | 9 => [⟨b1, 0, cTm T (plT (env 2).1 (env 2).2 (env 5).1 (env 5).2), some 28, 11⟩]
  | 10 => [⟨b1, 0, cTm T ⟨some a1, c1, some a2, c2⟩, some 28, 11⟩]
  | _ => []
theorem locCp (b1 b2 : Nat) (T : Tm) (a1 a2 : Addr) (c1 c2 : Nat) : ∀ k env i q9, i ≠ k → (tAt tsCp k).sup.contains i = false → valCp b1 b2 T a1 a2 c1 c2 k (upd env i q9) = valCp b1 b2 T a1 a2 c1 c2 k env ∧ rowsCp b1 b2 T a1 a2 c1 c2 k (upd env i q9) = rowsCp b1 b2 T a1 a2 c1 c2 k env := by
  intro k env i q hk hs
  have hu : ∀ j, j ≠ i → upd env i q j = env j := fun j hj => by unfold upd; rw [if_neg hj]
  match k, hk, hs with
  | 0, _, _ => exact ⟨rfl, rfl⟩
  | 1, _, _ => exact ⟨rfl, rfl⟩
  | 2, hk, hs => exact ⟨by simp only [valCp, hu 2 (fun e => hk e.symm)], by simp only [rowsCp, hu 2 (fun e => hk e.symm)]⟩
  | 3, _, _ => exact ⟨rfl, rfl⟩
  | 4, _, _ => exact ⟨rfl, rfl⟩
  | 5, hk, hs => exact ⟨by simp only [valCp, hu 5 (fun e => hk e.symm)], by simp only [rowsCp, hu 5 (fun e => hk e.symm)]⟩
  | 6, _, _ => exact ⟨rfl, rfl⟩
  | 7, hk, hs => exact ⟨by simp only [valCp, hu 2 (by rintro rfl; cases hs)], by simp only [rowsCp, hu 2 (by rintro rfl; cases hs)]⟩
  | 8, _, _ => exact ⟨rfl, rfl⟩
  | 9, hk, hs => exact ⟨by simp only [valCp, hu 2 (by rintro rfl; cases hs), hu 5 (by rintro rfl; cases hs)], by simp only [rowsCp, hu 2 (by rintro rfl; cases hs), hu 5 (by rintro rfl; cases hs)]⟩
  | 10, _, _ => exact ⟨rfl, rfl⟩
  | _ + 11, _, _ => exact ⟨rfl, rfl⟩
def rdCp (k : Nat) : List Nat := match k with
  | 1 => [10]
  | 4 => [10]
  | _ => []
set_option maxHeartbeats 8000000 in
theorem copied_spec (T : Tm) (p : Pt) (H : List Row) (hT : TmOk H T p) (h1 : 0 < T.G.length) (h2 : 0 < T.S.length) : Fc Try.prog 99 [.agg (cTm T p).toArray] H (fun v H' => ∃ t1 k1 t2 k2, v = .agg (cTm T (plT t1 k1 t2 k2)).toArray ∧ H' = rI T.G t1 k1 :: rI T.S t2 k2 :: H) := by
  have l1 := hT.l1
  have l2 := hT.l2
  obtain ⟨b1, o1, e1, he1, _⟩ := hT.gr.elem (i := 0) (by omega)
  obtain ⟨b2, o2, e2, he2, _⟩ := hT.st.elem (i := 0) (by omega)
  obtain ⟨a1, c1, a2, c2⟩ := p
  simp only at he1 he2
  subst he1 he2
  refine Fc.mk (callable Try.call99) Try.func99 rfl Try.ntmps99 rfl ?_; dsimp only [fr]
  refine X.seq rfl ?_; refine X.region rfl (fun K hK => ?_); repeat' (first | (refine XO.op rfl ?_; (first | ((first | refine Xo.ng rfl ?_); (first | (refine Xg.st (StF.boxAgg rfl rfl) rfl rfl ?_; rintro _ _ ⟨bx, rfl, rfl⟩) | (refine Xg.st (StF.alloc rfl Try.zeroValue28 rfl) rfl rfl ?_; rintro _ _ ⟨bx, rfl, rfl⟩))))) | (refine XO.done rfl ?_; refine hK _ _ ?_; clear hK K))
  rename_i bb; rename Nat => br
  refine X.seq rfl ?_
  refine X.permH (H' := ⟨bb, 0, cTm T ⟨some ⟨b1, o1, none⟩, c1, some ⟨b2, o2, none⟩, c2⟩, some 28, 11⟩ :: ⟨br, 0, cTm Tz pz, some 28, 11⟩ :: H) (List.Perm.swap _ _ _) ?_
  refine X.regionRd tsCp rdCp [1, 2] [(1, .pointer (some ⟨bb, 0, none⟩)), (2, .pointer (some ⟨br, 0, none⟩))] (valCp bb br T ⟨b1, o1, none⟩ ⟨b2, o2, none⟩ c1 c2) (rowsCp bb br T ⟨b1, o1, none⟩ ⟨b2, o2, none⟩ c1 c2) (fun _ => (0, 0)) (⟨br, 0, cTm Tz pz, some 28, 11⟩ :: H) rfl mixed (by (repeat (first | exact Sub.nil _ | refine Sub.cons rfl ?_)); done) rfl (by kernel_rfl) (by kernel_rfl) (locCp bb br T ⟨b1, o1, none⟩ ⟨b2, o2, none⟩ c1 c2) (List.Sublist.refl _) ?_ ?_
  · have hs : ∀ (S Z : List Row), (∀ r ∈ ⟨br, 0, cTm Tz pz, some 28, 11⟩ :: H, r ∈ S) → TmOk (Z ++ S) T ⟨some ⟨b1, o1, none⟩, c1, some ⟨b2, o2, none⟩, c2⟩ := fun S Z hS => hT.sub (fun r hr => List.mem_append_right _ (hS r (List.mem_cons_of_mem _ hr)))
    repeat' (first | exact AllF.done rfl | (refine AllF.step rfl ?_ ?_; · (first | exact (Ob.ng rfl (ObK.pure (fun env R hR => by exact ⟨_, EvF.fieldAddr rfl rfl (te rfl) rfl (te rfl) (by decide), rfl⟩) rfl (fun _ => rfl))).toR | (refine ObR.ng rfl ?_; (first | (exact fun env S hS hrd => (StF.ofEv (EvF.loadV rfl rfl (LoadV.own (te rfl) rfl (hrd 10 (List.Mem.head _) _ (List.Mem.head _)) rfl))).op.mono (fun v H' ⟨hv, hH⟩ => ⟨(0, 0), fun _ => hv, by rw [hH]; exact List.Perm.refl _⟩)) | (exact fun env S hS hrd => (OpF.call (EnF.st rfl (Args.cons rfl Args.nil)) (cloneI_spec T.G _ c1 _ (hs S [] hS).gr l1)).mono (fun v H' ⟨b, k, hv, hH⟩ => ⟨(b, k), fun _ => hv, by rw [hH]; exact List.Perm.refl _⟩)) | (exact fun env S hS hrd => (OpF.call (EnF.st rfl (Args.cons rfl Args.nil)) (cloneI_spec T.S _ c2 _ (hs S [] hS).st l2)).mono (fun v H' ⟨b, k, hv, hH⟩ => ⟨(b, k), fun _ => hv, by rw [hH]; exact List.Perm.refl _⟩)) | (exact fun env S hS hrd => (StF.storeOne (i := 0) (cs := cTm T ⟨some ⟨b1, o1, none⟩, c1, some ⟨b2, o2, none⟩, c2⟩) rfl rfl rfl rfl (te rfl) rfl rfl (Nat.le_of_ble_eq_true rfl)).op.mono (fun v H' ⟨hv, hH⟩ => ⟨(0, 0), fun h => absurd rfl h, by rw [hH]; exact List.Perm.refl _⟩)) | (exact fun env S hS hrd => (StF.storeOne (i := 0) (cs := cTm T ⟨some ⟨(env 2).1, 0, none⟩, (env 2).2, some ⟨b2, o2, none⟩, c2⟩) rfl rfl rfl rfl (te rfl) rfl rfl (Nat.le_of_ble_eq_true rfl)).op.mono (fun v H' ⟨hv, hH⟩ => ⟨(0, 0), fun h => absurd rfl h, by rw [hH]; exact List.Perm.refl _⟩)))))))
  · intro env t ha hv
    refine ⟨_, ha, ?_⟩
    show X _ _ _ _ (rI T.G (env 2).1 (env 2).2 :: rI T.S (env 5).1 (env 5).2 :: ⟨bb, 0, cTm T (plT (env 2).1 (env 2).2 (env 5).1 (env 5).2), some 28, 11⟩ :: ⟨br, 0, cTm Tz pz, some 28, 11⟩ :: H) _
    repeat' (first | (refine XO.op rfl ?_; (first | ((first | refine Xo.ng rfl ?_); (first | (refine Xg.ev (EvF.loadV rfl rfl (LoadV.whole (te rfl) rfl (List.Mem.tail _ (List.Mem.tail _ (List.Mem.head _))) rfl)) rfl rfl ?_) | (refine Xg.st0 (StF.storeAll (i := 3) rfl rfl rfl (te rfl) rfl rfl rfl rfl) rfl ?_; rintro _ _ ⟨rfl, rfl⟩; dsimp only [List.set]))))) | (refine XO.done rfl ?_; refine hK _ _ ?_; clear hK K) | refine X.seq rfl ?_ | refine X.region rfl (fun K hK => ?_) | refine X.ret rfl ?_)
    exact ret_one (v := .agg (cTm T (plT (env 2).1 (env 2).2 (env 5).1 (env 5).2)).toArray) (by first | exact .inr rfl | exact .inl rfl) Try.results99 ⟨_, rfl, LoadV.whole (te rfl) rfl (List.Mem.tail _ (List.Mem.tail _ (List.Mem.tail _ (List.Mem.head _)))) rfl⟩ (H' := rI T.G (env 2).1 (env 2).2 :: rI T.S (env 5).1 (env 5).2 :: H) (by (repeat (first | exact List.Sublist.refl _ | apply List.Sublist.cons_cons | apply List.Sublist.cons)); done) ⟨_, _, _, _, rfl, rfl⟩
set_option maxHeartbeats 8000000 in
theorem withBales_spec (T : Tm) (p : Pt) (n : Int) (H : List Row) (hT : TmOk H T p) (h1 : 0 < T.G.length) (h2 : 0 < T.S.length) : Fc Try.prog 103 [.agg (cTm T p).toArray, .int .i64 n] H (fun v H' => ∃ t1 k1 t2 k2, v = .agg (cTm (withB T n) (plT t1 k1 t2 k2)).toArray ∧ H' = rI T.G t1 k1 :: rI T.S t2 k2 :: H) := by
  refine Fc.mk (callable Try.call103) Try.func103 rfl Try.ntmps103 rfl ?_; dsimp only [fr]
  repeat' (first | (refine XO.op rfl ?_; (first | ((first | refine Xo.ng rfl ?_); (first | (refine Xg.call (EnF.st rfl (by (repeat (first | exact Args.nil | refine Args.cons rfl ?_)); done)) rfl rfl (copied_spec T p _ (hT.sub (fun _ hm => List.Mem.tail _ (List.Mem.tail _ hm))) h1 h2) ?_; rintro _ _ ⟨t1, k1, t2, k2, rfl, rfl⟩) | (refine Xg.ev (EvF.move rfl rfl) rfl rfl ?_) | (refine Xg.ev (EvF.fieldAddr rfl rfl (te rfl) rfl (te rfl) (by decide)) rfl rfl ?_) | (refine Xg.ev (EvF.loadV rfl rfl (LoadV.whole (te rfl) rfl (List.Mem.tail _ (List.Mem.head _)) rfl)) rfl rfl ?_) | (refine Xg.ev (EvF.loadV rfl rfl (LoadV.whole (te rfl) rfl (List.Mem.tail _ (List.Mem.tail _ (List.Mem.tail _ (List.Mem.head _)))) rfl)) rfl rfl ?_) | (refine Xg.st (StF.boxAgg rfl rfl) rfl rfl ?_; rintro _ _ ⟨bx, rfl, rfl⟩) | (refine Xg.st (StF.alloc rfl Try.zeroValue28 rfl) rfl rfl ?_; rintro _ _ ⟨bx, rfl, rfl⟩) | (refine Xg.st0 (StF.storeAll (i := 2) rfl rfl rfl (te rfl) rfl rfl rfl rfl) rfl ?_; rintro _ _ ⟨rfl, rfl⟩; dsimp only [List.set]) | (refine Xg.st0 (StF.storeOne (i := 3) rfl rfl rfl rfl (te rfl) rfl rfl (Nat.le_of_ble_eq_true rfl)) rfl ?_; rintro _ _ ⟨rfl, rfl⟩; dsimp only [List.set]) | (refine Xg.st0 (StF.storeAll (i := 3) rfl rfl rfl (te rfl) rfl rfl rfl rfl) rfl ?_; rintro _ _ ⟨rfl, rfl⟩; dsimp only [List.set]))))) | (refine XO.done rfl ?_; refine hK _ _ ?_; clear hK K) | refine X.seq rfl ?_ | refine X.region rfl (fun K hK => ?_) | refine X.ret rfl ?_)
  exact ret_one (v := .agg (cTm (withB T n) (plT t1 k1 t2 k2)).toArray) (by first | exact .inr rfl | exact .inl rfl) Try.results103 ⟨_, rfl, LoadV.whole (te rfl) rfl (List.Mem.tail _ (List.Mem.tail _ (List.Mem.head _))) rfl⟩ (H' := rI T.G t1 k1 :: rI T.S t2 k2 :: H) (by (repeat (first | exact List.Sublist.refl _ | apply List.Sublist.cons_cons | apply List.Sublist.cons)); done) ⟨_, _, _, _, rfl, rfl⟩
theorem vld_ok {U : Tm} (h : tmOk U) : vld U = (U, 0) := if_pos h
theorem vld_no {U : Tm} (h : ¬ tmOk U) : vld U = (Tz, 40) := if_neg h
set_option maxHeartbeats 8000000 in
theorem ifValid_spec (T : Tm) (p : Pt) (H : List Row) (hT : TmOk H T p) : Fc Try.prog 100 [.agg (cTm T p).toArray] H (fun v H' => (∃ q, v = .tuple #[.agg (cTm (vld T).1 q).toArray, .int .i64 (vld T).2] ∧ ((tmOk T ∧ q = p) ∨ (¬ tmOk T ∧ q = pz))) ∧ H' = H) := by
  have hT2 : ∀ r1 r2, TmOk (r1 :: r2 :: H) T p := fun r1 r2 => hT.sub (fun _ h => List.Mem.tail _ (List.Mem.tail _ h))
  by_cases hok : tmOk T
  · have hc : ∀ H, TmOk H T p → Fc Try.prog 16 [.agg (cTm T p).toArray] H (fun v H' => v = .int .i64 0 ∧ H' = H) := fun H h => by
      have := check_spec T p H h
      rwa [if_pos hok] at this
    rw [vld_ok hok]
    refine Fc.mk (callable Try.call100) Try.func100 rfl Try.ntmps100 rfl ?_; dsimp only [fr]
    repeat' (first | (refine XO.op rfl ?_; (first | ((first | refine Xo.ng rfl ?_); (first | (refine Xg.call (EnF.st rfl (Args.cons rfl Args.nil)) rfl rfl (hc _ (hT2 _ _)) ?_; rintro _ H9 ⟨rfl, hH9⟩; subst H9) | (refine Xg.ev (EvF.move rfl rfl) rfl rfl ?_) | (refine Xg.ev (EvF.assign rfl rfl) rfl rfl ?_) | (refine Xg.ev (EvF.cmp rfl rfl rfl rfl) rfl rfl ?_) | (refine Xg.ev (EvF.loadV rfl rfl (LoadV.whole (te rfl) rfl (List.Mem.tail _ (List.Mem.head _)) rfl)) rfl rfl ?_) | (refine Xg.st (StF.boxAgg rfl rfl) rfl rfl ?_; rintro _ _ ⟨bx, rfl, rfl⟩) | (refine Xg.st (StF.alloc rfl Try.zeroValue28 rfl) rfl rfl ?_; rintro _ _ ⟨bx, rfl, rfl⟩) | (refine Xg.st0 (StF.storeAll (i := 0) rfl rfl rfl (te rfl) rfl rfl rfl rfl) rfl ?_; rintro _ _ ⟨rfl, rfl⟩; dsimp only [List.set]))))) | (refine XO.done rfl ?_; refine hK _ _ ?_; clear hK K) | refine X.seq rfl ?_ | refine X.region rfl (fun K hK => ?_) | refine X.skip rfl ?_ | refine X.ret rfl ?_ | (refine X.ite rfl rfl (fun hc => ?_); (first | (with_reducible refine Xb.caseN hc (fun h => ?_) (fun h => ?_))) <;> clear hc))
    all_goals try (exfalso; omega)
    exact ret_two (v := .agg (cTm T p).toArray) (by first | exact .inr rfl | exact .inl rfl) Try.results100 ⟨_, rfl, LoadV.whole (te rfl) rfl (List.Mem.head _) rfl⟩ rfl (H' := H) (by (repeat (first | exact List.Sublist.refl _ | apply List.Sublist.cons)); done) ⟨⟨_, rfl, .inl ⟨hok, rfl⟩⟩, rfl⟩
  · have hc : ∀ H, TmOk H T p → Fc Try.prog 16 [.agg (cTm T p).toArray] H (fun v H' => v = .int .i64 40 ∧ H' = H) := fun H h => by
      have := check_spec T p H h
      rwa [if_neg hok] at this
    rw [vld_no hok]
    refine Fc.mk (callable Try.call100) Try.func100 rfl Try.ntmps100 rfl ?_; dsimp only [fr]
    repeat' (first | (refine XO.op rfl ?_; (first | ((first | refine Xo.ng rfl ?_); (first | (refine Xg.call (EnF.st rfl (Args.cons rfl Args.nil)) rfl rfl (hc _ (hT2 _ _)) ?_; rintro _ H9 ⟨rfl, hH9⟩; subst H9) | (refine Xg.ev (EvF.tz rfl) rfl rfl ?_) | (refine Xg.ev (EvF.move rfl rfl) rfl rfl ?_) | (refine Xg.ev (EvF.assign rfl rfl) rfl rfl ?_) | (refine Xg.ev (EvF.cmp rfl rfl rfl rfl) rfl rfl ?_) | (refine Xg.ev (EvF.loadV rfl rfl (LoadV.whole (te rfl) rfl (List.Mem.tail _ (List.Mem.head _)) rfl)) rfl rfl ?_) | (refine Xg.st (StF.boxAgg rfl rfl) rfl rfl ?_; rintro _ _ ⟨bx, rfl, rfl⟩) | (refine Xg.st (StF.alloc rfl Try.zeroValue28 rfl) rfl rfl ?_; rintro _ _ ⟨bx, rfl, rfl⟩) | (refine Xg.st0 (StF.storeAll (i := 0) rfl rfl rfl (te rfl) rfl rfl rfl rfl) rfl ?_; rintro _ _ ⟨rfl, rfl⟩; dsimp only [List.set]))))) | (refine XO.done rfl ?_; refine hK _ _ ?_; clear hK K) | refine X.seq rfl ?_ | refine X.region rfl (fun K hK => ?_) | refine X.skip rfl ?_ | refine X.ret rfl ?_ | (refine X.ite rfl rfl (fun hc => ?_); (first | (with_reducible refine Xb.caseN hc (fun h => ?_) (fun h => ?_))) <;> clear hc))
    all_goals try (exfalso; omega)
    exact ret_two (v := .agg (cTm Tz pz).toArray) (by first | exact .inr rfl | exact .inl rfl) Try.results100 ⟨_, rfl, LoadV.whole (te rfl) rfl (List.Mem.head _) rfl⟩ rfl (H' := H) (by (repeat (first | exact List.Sublist.refl _ | apply List.Sublist.cons)); done) ⟨⟨_, rfl, .inr ⟨hok, rfl⟩⟩, rfl⟩
end Go.Proofs.Ytcjlegjchllgjaa
end
section
set_option linter.unusedVariables false
set_option linter.unusedSimpArgs false
namespace Go.Proofs.Ytcjlegjchllgjaa
open Go Go.Fw
set_option maxRecDepth 10000
def lotS (g : Int) : Lo := ⟨g, g, 1, 9⟩
def abS (g : Int) : Ab := ⟨[], [lotS g], [], []⟩
theorem openS (T : Tm) (g : Int) : openE T (abS g) = if tmOk T then (if 1 ≤ g ∧ g ≤ 9 then 0 else 41) else 40 := by
  unfold openE
  have h1 : askD (abS g) := fun d hd => absurd hd List.not_mem_nil
  have h2 : askG (abS g) ↔ 1 ≤ g ∧ g ≤ 9 := by simp [askG, abS, lotS, partOk]
  have h3 : askS (abS g) := by simp [askS, abS, lotS, partOk]
  have h4 : askM (abS g) := fun d hd => absurd hd List.not_mem_nil
  have h5 : askN T (abS g) := fun d hd => absurd hd List.not_mem_nil
  simp only [h1, h2, h3, h4, h5, if_true]
theorem cTm_step (T : Tm) (g n : Int) (p : Pt) : cTm (stepT T g n) p = cTm T p := by
  unfold cTm stepT
  simp only [List.length_set]
theorem stepF_no {T : Tm} {g n : Int} {er : Int} (h : openE T (abS g) = er) (h0 : er ≠ 0) : stepF T g n = (Tz, er) := by
  rw [openS] at h
  unfold stepF
  by_cases h1 : tmOk T
  · by_cases h2 : 1 ≤ g ∧ g ≤ 9
    · rw [if_pos h1, if_pos h2] at h; exact absurd h.symm h0
    · rw [if_pos h1, if_neg h2] at h ⊢; rw [h]
  · rw [if_neg h1] at h ⊢; rw [h]
theorem stepF_ok {T : Tm} {g n : Int} (h1 : tmOk T) (h2 : 1 ≤ g ∧ g ≤ 9) : stepF T g n = vld (stepT T g n) := by
  unfold stepF
  rw [if_pos h1, if_pos h2]
theorem openS_ok {T : Tm} {g : Int} (h : openE T (abS g) = 0) : tmOk T ∧ 1 ≤ g ∧ g ≤ 9 := by
  rw [openS] at h
  by_cases h1 : tmOk T
  · by_cases h2 : 1 ≤ g ∧ g ≤ 9
    · exact ⟨h1, h2⟩
    · rw [if_pos h1, if_neg h2] at h; exact absurd h (by decide)
  · rw [if_neg h1] at h; exact absurd h (by decide)
/-- terms that were checked, in tables of one's own -/
theorem progT_vld {U : Tm} {q : Pt} {t1 k1 t2 k2 : Nat} (hq : (tmOk U ∧ q = plT t1 k1 t2 k2) ∨ (¬ tmOk U ∧ q = pz)) : ∃ Z, OwnTm Z (vld U).1 q ∧ ∀ H : List Row, (Z ++ H).Sublist (rI U.G t1 k1 :: rI U.S t2 k2 :: H) := by
  rcases hq with ⟨h, rfl⟩ | ⟨h, rfl⟩
  · rw [vld_ok h]
    exact ⟨_, OwnTm.two U t1 k1 t2 k2, fun H => List.Sublist.refl _⟩
  · rw [vld_no h]
    exact ⟨[], OwnTm.zero, fun H => List.Sublist.cons _ (List.Sublist.cons _ (List.Sublist.refl _))⟩
def tsSp : List TOp := [⟨some 11, [], [], []⟩, ⟨some 12, [], [], []⟩, ⟨some 13, [1], [1], []⟩, ⟨some 14, [1, 2], [], []⟩, ⟨some 15, [1, 2, 3], [2, 3], []⟩, ⟨some 16, [1, 2, 3, 4], [4], []⟩, ⟨some 17, [1, 2, 3, 4, 5], [5], []⟩, ⟨some 18, [0, 1, 2, 3, 4, 5, 6], [0, 6], [5]⟩, ⟨some 10, [0, 1, 2, 3, 4, 5, 6, 7], [7], []⟩, ⟨some 19, [0, 1, 2, 3, 4, 5, 6, 7, 8], [8], []⟩, ⟨some 20, [0, 1, 2, 3, 4, 5, 6, 7, 8], [8], []⟩, ⟨some 8, [], [], []⟩, ⟨none, [0, 1, 2, 3, 4, 5, 6, 7, 8, 9, 11], [11, 9], [11]⟩, ⟨some 9, [0, 1, 2, 3, 4, 5, 6, 7, 8, 9, 10, 11, 12], [10], []⟩]
def valSp (b3 b6 : Nat) (g n er : Int) (T U : Tm) (p u : Pt) (k : Nat) (env : Env) : Value :=
  match k with
  | 0 => .agg (cTm T p).toArray
  | 1 => .int .i64 g
  | 2 => .agg (cSp ⟨g, g⟩).toArray
  | 3 => .agg (cSp ⟨1, 9⟩).toArray
  | 4 => .agg (cLo (lotS g)).toArray
  | 5 => .slice (some ⟨(env 5).1, 0, none⟩) 1 1
  | 6 => .agg (cAb (abS g) ⟨none, 0, some ⟨(env 5).1, 0, none⟩, 1, none, 0, none, 0⟩).toArray
  | 7 => .tuple #[.agg (cTm U u).toArray, .int .i64 er]
  | 8 => .tuple #[.agg (cTm U u).toArray, .int .i64 er]
  | 9 => .agg (cTm U u).toArray
  | 10 => .int .i64 er
  | 11 => .pointer (some ⟨(env 11).1, 0, none⟩)
  | 12 => undef
  | 13 => .int .i64 er
  | _ => undef
def rowsSp (b3 b6 : Nat) (g n er : Int) (T U : Tm) (p u : Pt) (k : Nat) (env : Env) : List Row :=
  match k with
  | 5 => [⟨(env 5).1, 0, cLo (lotS g), some 105, 1 * 4⟩]
  | 11 => [⟨(env 11).1, 0, cTm Tz pz, some 111, 11⟩]
  | 12 => [⟨(env 11).1, 0, cTm U u, some 111, 11⟩]
  | _ => []
theorem locSp (b3 b6 : Nat) (g n er : Int) (T U : Tm) (p u : Pt) : ∀ k env i q9, i ≠ k → (tAt tsSp k).sup.contains i = false → valSp b3 b6 g n er T U p u k (upd env i q9) = valSp b3 b6 g n er T U p u k env ∧ rowsSp b3 b6 g n er T U p u k (upd env i q9) = rowsSp b3 b6 g n er T U p u k env := by
  intro k env i q hk hs
  have hu : ∀ j, j ≠ i → upd env i q j = env j := fun j hj => by unfold upd; rw [if_neg hj]
  match k, hk, hs with
  | 0, _, _ => exact ⟨rfl, rfl⟩
  | 1, _, _ => exact ⟨rfl, rfl⟩
  | 2, _, _ => exact ⟨rfl, rfl⟩
  | 3, _, _ => exact ⟨rfl, rfl⟩
  | 4, _, _ => exact ⟨rfl, rfl⟩
  | 5, hk, hs => exact ⟨by simp only [valSp, hu 5 (fun e => hk e.symm)], by simp only [rowsSp, hu 5 (fun e => hk e.symm)]⟩
  | 6, hk, hs => exact ⟨by simp only [valSp, hu 5 (by rintro rfl; cases hs)], by simp only [rowsSp, hu 5 (by rintro rfl; cases hs)]⟩
  | 7, _, _ => exact ⟨rfl, rfl⟩
  | 8, _, _ => exact ⟨rfl, rfl⟩
  | 9, _, _ => exact ⟨rfl, rfl⟩
  | 10, _, _ => exact ⟨rfl, rfl⟩
  | 11, hk, hs => exact ⟨by simp only [valSp, hu 11 (fun e => hk e.symm)], by simp only [rowsSp, hu 11 (fun e => hk e.symm)]⟩
  | 12, hk, hs => exact ⟨by simp only [valSp, hu 11 (by rintro rfl; cases hs)], by simp only [rowsSp, hu 11 (by rintro rfl; cases hs)]⟩
  | 13, _, _ => exact ⟨rfl, rfl⟩
  | _ + 14, _, _ => exact ⟨rfl, rfl⟩
set_option maxHeartbeats 8000000 in
theorem kstep_spec (T : Tm) (p : Pt) (g n : Int) (H : List Row) (hT : TmOk H T p) : Fc Try.prog 41 [.agg (cTm T p).toArray, .int .i64 g, .int .i64 n] H (ProgT (stepF T g n) H) := by
  obtain ⟨U, hU⟩ : ∃ U, opT T (abS g) = U := ⟨_, rfl⟩
  obtain ⟨u, hu⟩ : ∃ u, opP T p (abS g) = u := ⟨_, rfl⟩
  obtain ⟨er, her⟩ : ∃ e, openE T (abS g) = e := ⟨_, rfl⟩
  have hT1 : ∀ Z : List Row, TmOk (Z ++ H) T p := fun Z => hT.sub (fun _ h => List.mem_append_right _ h)
  refine Fc.mk (callable Try.call41) Try.func41 rfl Try.ntmps41 rfl ?_; dsimp only [fr]
  refine X.seq rfl ?_; refine X.region rfl (fun K hK => ?_); repeat' (first | (refine XO.op rfl ?_; (first | ((first | refine Xo.ng rfl ?_); (first | (refine Xg.ev (EvF.assign rfl rfl) rfl rfl ?_) | (refine Xg.st (StF.boxAgg rfl rfl) rfl rfl ?_; rintro _ _ ⟨bx, rfl, rfl⟩) | (refine Xg.st (StF.alloc rfl Try.zeroValue28 rfl) rfl rfl ?_; rintro _ _ ⟨bx, rfl, rfl⟩))))) | (refine XO.done rfl ?_; refine hK _ _ ?_; clear hK K))
  rename_i b3; rename Nat => b6
  refine X.seq rfl ?_
  refine X.seq rfl ?_
  refine X.regionOb tsSp [1, 2, 3, 6] [(1, .int .i64 g), (2, .int .i64 n), (3, .pointer (some ⟨b3, 0, none⟩)), (6, .pointer (some ⟨b6, 0, none⟩))] (valSp b3 b6 g n er T U p u) (rowsSp b3 b6 g n er T U p u) (fun _ => (0, 0)) (⟨b6, 0, cTm Tz pz, some 28, 11⟩ :: ⟨b3, 0, cTm T p, some 28, 11⟩ :: H) rfl mixed (by (repeat (first | exact Sub.nil _ | refine Sub.cons rfl ?_)); done) rfl (by kernel_rfl) (locSp b3 b6 g n er T U p u) (List.Sublist.refl _) ?_ ?_
  · repeat' (first | exact AllF.done rfl | (refine AllF.step rfl ?_ ?_; · (first | fail | ((first | refine Ob.ng rfl ?_); (first | exact ObK.pure (fun env R hR => by exact ⟨_, EvF.move rfl rfl, rfl⟩) rfl (fun _ => rfl) | exact ObK.pure (fun env R hR => by exact ⟨_, EvF.assign rfl rfl, rfl⟩) rfl (fun _ => rfl) | exact ObK.pure (fun env R hR => by exact ⟨_, EvF.loadV rfl rfl (LoadV.whole (te rfl) rfl (hR _ (List.Mem.tail _ (List.Mem.head _))) rfl), rfl⟩) rfl (fun _ => rfl) | (exact fun env S hS => (StF.buildOne rfl elLo rfl rfl rfl (by decide) (by decide)).op.mono (fun v H' ⟨b, hv, hH⟩ => ⟨(b, 0), fun _ => hv, by rw [hH]; exact List.Perm.refl _⟩)) | (exact fun env S hS => OpF.callV (Z := []) (EnF.st rfl (Args.cons rfl Args.nil)) (just_spec g _) rfl rfl) | (exact fun env S hS => OpF.callV (Z := []) (EnF.st rfl Args.nil) (anyStaple_spec _) rfl rfl) | (exact ObK.pure (fun env S hS => ⟨_, EvF.build (cs := cLo (lotS g)) rfl (ArgsP.cons rfl (ArgsP.cons rfl ArgsP.nil)) (te rfl) (Places.cons (te rfl) (Places.cons (te rfl) Places.nil)) Try.zeroValue105 rfl, rfl⟩) rfl (fun _ => rfl)) | (exact ObK.pure (fun env S hS => ⟨_, EvF.build (cs := cAb (abS g) ⟨none, 0, some ⟨(env 5).1, 0, none⟩, 1, none, 0, none, 0⟩) rfl (ArgsP.cons rfl ArgsP.nil) (te rfl) (Places.cons (te rfl) (Places.cons (te rfl) (Places.cons (te rfl) (Places.cons (te rfl) Places.nil)))) Try.zeroValue109 rfl, rfl⟩) rfl (fun _ => rfl)) | (exact ObK.pure (fun env S hS => ⟨_, EvF.extract rfl rfl rfl, rfl⟩) rfl (fun _ => rfl)) | (exact fun env S hS => (StF.alloc rfl Try.zeroValue111 rfl).op.mono (fun v H' ⟨b, hv, hH⟩ => ⟨(b, 0), fun _ => hv, by rw [hH]; exact List.Perm.refl _⟩)) | (exact fun env S hS => (StF.storeAll (i := 0) (vs := cTm U u) (cs := cTm Tz pz) rfl rfl rfl (te rfl) rfl rfl rfl rfl).op.mono (fun v H' ⟨hv, hH⟩ => ⟨(0, 0), fun h => absurd rfl h, by rw [hH]; exact List.Perm.refl _⟩)) | (exact fun env S hS => OpF.callV (Z := [_]) (EnF.st rfl (Args.cons rfl (Args.cons rfl Args.nil))) (openD_spec T p (abS g) ⟨none, 0, some ⟨(env 5).1, 0, none⟩, 1, none, 0, none, 0⟩ _ (hT.sub (fun _ h => List.mem_append_right _ (hS _ (by repeat (first | exact h | apply List.Mem.tail))))) ⟨sleNil, SlE.ofRow (List.Mem.head _) (fun _ _ => rfl), sleNil, sleNil, (fun d hd => absurd hd List.not_mem_nil), Nat.zero_le _, Nat.le_of_ble_eq_true rfl, Nat.zero_le _, Nat.zero_le _⟩ HD0 HI0) (by rw [hU, hu, her]; rfl) rfl))))))
  · intro env t ha hv
    refine ⟨_, ha.cons (hv 13 9 (Nat.le_of_ble_eq_true rfl) rfl), ?_⟩
    show X _ _ _ _ (⟨(env 11).1, 0, cTm U u, some 111, 11⟩ :: ⟨b6, 0, cTm Tz pz, some 28, 11⟩ :: ⟨b3, 0, cTm T p, some 28, 11⟩ :: H) _
    repeat' (first | (refine XO.op rfl ?_; (first | ((first | refine Xo.ng rfl ?_); (first | (refine Xg.ev (EvF.tz rfl) rfl rfl ?_) | (refine Xg.ev (EvF.move rfl rfl) rfl rfl ?_) | (refine Xg.ev (EvF.assign rfl rfl) rfl rfl ?_) | (refine Xg.ev (EvF.cmp rfl rfl rfl rfl) rfl rfl ?_) | (refine Xg.ev (EvF.loadV rfl rfl (LoadV.whole (te rfl) rfl (List.Mem.tail _ (List.Mem.tail _ (List.Mem.head _))) rfl)) rfl rfl ?_) | (refine Xg.st0 (StF.storeAll (i := 1) rfl rfl rfl (te rfl) rfl rfl rfl rfl) rfl ?_; rintro _ _ ⟨rfl, rfl⟩; dsimp only [List.set]))))) | (refine XO.done rfl ?_; refine hK _ _ ?_; clear hK K) | refine X.seq rfl ?_ | refine X.region rfl (fun K hK => ?_) | refine X.skip rfl ?_ | refine X.ret rfl ?_ | (refine X.ite rfl rfl (fun hc => ?_); (first | (with_reducible refine Xb.caseN hc (fun h => ?_) (fun h => ?_))) <;> clear hc))
    · exact ret_two (v := .agg (cTm Tz pz).toArray) (by first | exact .inr rfl | exact .inl rfl) Try.results41 ⟨_, rfl, LoadV.whole (te rfl) rfl (List.Mem.tail _ (List.Mem.head _)) rfl⟩ rfl (H' := H) (by (repeat (first | exact List.Sublist.refl _ | apply List.Sublist.cons)); done) ⟨pz, [], by rw [stepF_no her (by assumption)]; rfl, by rw [stepF_no her (by assumption)]; exact OwnTm.zero, rfl⟩
    have h0 : er = 0 := by omega
    obtain ⟨hok, hg⟩ := openS_ok (her.trans h0)
    have l1 := hok.gr.1
    have l2 := hok.st.1
    repeat' (first | (refine XO.op rfl ?_; (first | ((first | refine Xo.ng rfl ?_); (first | (refine Xg.call (EnF.st rfl (by (repeat (first | exact Args.nil | refine Args.cons rfl ?_)); done)) rfl rfl (copied_spec T p _ (hT1 [_, _, _]) (by omega) (by omega)) ?_; rintro _ _ ⟨t1, k1, t2, k2, rfl, rfl⟩) | (refine Xg.st0 (StF.storeI (q := 0) (c := T.G) (i := (g - 1).toNat) rfl rfl rfl (te rfl) rfl rfl (by show 0 + (g - 1).toNat * 1 = _; omega) (by omega)) rfl ?_; rintro _ _ ⟨rfl, rfl⟩; dsimp only [List.set]) | (refine Xg.ev (EvF.move rfl rfl) rfl rfl ?_) | (refine Xg.ev (EvF.sub64 rfl rfl rfl (by omega) (by omega)) rfl rfl ?_) | (refine Xg.ev (EvF.fieldAddr rfl rfl (te rfl) rfl (te rfl) (by decide)) rfl rfl ?_) | (refine Xg.ev (EvF.indexSlice rfl rfl rfl (te rfl) (te rfl) (by omega) (by omega)) rfl rfl ?_) | (refine Xg.ev (EvF.loadV rfl rfl (LoadV.own (te rfl) rfl (List.Mem.tail _ (List.Mem.tail _ (List.Mem.tail _ (List.Mem.tail _ (List.Mem.head _))))) rfl)) rfl rfl ?_) | (refine Xg.ev (EvF.loadV rfl rfl (LoadV.whole (te rfl) rfl (List.Mem.tail _ (List.Mem.tail _ (List.Mem.tail _ (List.Mem.tail _ (List.Mem.head _))))) rfl)) rfl rfl ?_) | (refine Xg.st0 (StF.storeAll (i := 4) rfl rfl rfl (te rfl) rfl rfl rfl rfl) rfl ?_; rintro _ _ ⟨rfl, rfl⟩; dsimp only [List.set]))))) | (refine XO.done rfl ?_; refine hK _ _ ?_; clear hK K) | refine X.seq rfl ?_ | refine X.region rfl (fun K hK => ?_))
    have hvd := fun H' (h : TmOk H' (stepT T g n) (plT t1 k1 t2 k2)) => ifValid_spec (stepT T g n) (plT t1 k1 t2 k2) H' h
    rw [cTm_step] at hvd
    show XO _ _ _ _ _ (rI (stepT T g n).G t1 k1 :: rI (stepT T g n).S t2 k2 :: ⟨(env 11).1, 0, cTm U u, some 111, 11⟩ :: ⟨b6, 0, cTm Tz pz, some 28, 11⟩ :: ⟨b3, 0, cTm T (plT t1 k1 t2 k2), some 28, 11⟩ :: H) _
    have hU1 : TmOk (rI (stepT T g n).G t1 k1 :: rI (stepT T g n).S t2 k2 :: ⟨(env 11).1, 0, cTm U u, some 111, 11⟩ :: ⟨b6, 0, cTm Tz pz, some 28, 11⟩ :: ⟨b3, 0, cTm T (plT t1 k1 t2 k2), some 28, 11⟩ :: H) (stepT T g n) (plT t1 k1 t2 k2) :=
      ownT (stepT T g n) t1 k1 t2 k2 _ (by show (T.G.set _ _).length ≤ _; rw [List.length_set]; omega) (by show T.S.length ≤ _; omega) (List.Mem.head _) (List.Mem.tail _ (List.Mem.head _))
    repeat' (first | (refine XO.op rfl ?_; (first | ((first | refine Xo.ng rfl ?_); (first | (refine Xg.call (EnF.st rfl (by (repeat (first | exact Args.nil | refine Args.cons rfl ?_)); done)) rfl rfl (hvd _ hU1) ?_; rintro _ _ ⟨⟨q, rfl, hq⟩, rfl⟩) | (refine Xg.ev (EvF.assign rfl rfl) rfl rfl ?_) | (refine Xg.ev (EvF.extract rfl rfl rfl) rfl rfl ?_) | (refine Xg.st0 (StF.storeAll (i := 3) rfl rfl rfl (te rfl) rfl rfl rfl rfl) rfl ?_; rintro _ _ ⟨rfl, rfl⟩; dsimp only [List.set]))))) | (refine XO.done rfl ?_; refine hK _ _ ?_; clear hK K) | refine X.ret rfl ?_)
    rw [stepF_ok hok hg]
    obtain ⟨Z, hZ, hs⟩ := progT_vld hq
    exact ret_two (v := .agg (cTm (vld (stepT T g n)).1 q).toArray) (by first | exact .inr rfl | exact .inl rfl) Try.results41 ⟨_, rfl, LoadV.whole (te rfl) rfl (List.Mem.tail _ (List.Mem.tail _ (List.Mem.tail _ (List.Mem.head _)))) rfl⟩ rfl (H' := Z ++ H) ((hs H).trans (by (repeat (first | exact List.Sublist.refl _ | apply List.Sublist.cons_cons | apply List.Sublist.cons)); done)) ⟨q, Z, rfl, hZ, rfl⟩
end Go.Proofs.Ytcjlegjchllgjaa
end
section
set_option linter.unusedVariables false
set_option linter.unusedSimpArgs false
namespace Go.Proofs.Ytcjlegjchllgjaa
open Go Go.Fw
set_option maxRecDepth 10000
theorem stepF_nt {T : Tm} {g n : Int} (h : ¬ tmOk T) : stepF T g n = (Tz, 40) := if_neg h
theorem stepF_ng {T : Tm} {g n : Int} (h : tmOk T) (hg : ¬ (1 ≤ g ∧ g ≤ 9)) : stepF T g n = (Tz, 41) := by unfold stepF; rw [if_pos h, if_neg hg]
theorem rtermsF (T : Tm) (p : Pt) (h : ¬ tmOk T) (H : List Row) (hT : TmOk H T p) : Fc Try.prog 66 [.agg (cTm T p).toArray] H (fun v H' => v = .bool false ∧ H' = H) := by
  have := rterms_spec T p H hT
  rwa [decide_eq_false h] at this
theorem rtermsT (T : Tm) (p : Pt) (h : tmOk T) (H : List Row) (hT : TmOk H T p) : Fc Try.prog 66 [.agg (cTm T p).toArray] H (fun v H' => v = .bool true ∧ H' = H) := by
  have := rterms_spec T p H hT
  rwa [decide_eq_true h] at this
/-- nothing but an error -/
theorem progT_no {F : Tm × Int} {er : Int} (h : F = (Tz, er)) (H : List Row) : ProgT F H (.tuple #[.agg (cTm Tz pz).toArray, .int .i64 er]) H := by
  rw [h]; exact ⟨pz, [], rfl, OwnTm.zero, rfl⟩
set_option maxHeartbeats 8000000 in
theorem rstep_spec (T : Tm) (p : Pt) (g n : Int) (H : List Row) (hT : TmOk H T p) : Fc Try.prog 42 [.agg (cTm T p).toArray, .int .i64 g, .int .i64 n] H (ProgT (stepF T g n) H) := by
  have hT1 : ∀ Z : List Row, TmOk (Z ++ H) T p := fun Z => hT.sub (fun _ h => List.mem_append_right _ h)
  by_cases hok : tmOk T
  · have l1 := hok.gr.1
    have l2 := hok.st.1
    by_cases hg : 1 ≤ g ∧ g ≤ 9
    · rw [stepF_ok hok hg]
      refine Fc.mk (callable Try.call42) Try.func42 rfl Try.ntmps42 rfl ?_; dsimp only [fr]
      repeat' (first | (refine XO.op rfl ?_; (first | ((first | refine Xo.ng rfl ?_); (first | (refine Xg.call (EnF.st rfl (Args.cons rfl Args.nil)) rfl rfl (rtermsT T p hok _ (hT1 [_, _])) ?_; rintro _ H9 ⟨rfl, hH9⟩; subst H9) | (refine Xg.call (EnF.st rfl (Args.cons rfl (Args.cons rfl (Args.cons rfl Args.nil)))) rfl rfl (w4_spec _ _ _ _) ?_; rintro _ H9 ⟨rfl, hH9⟩; subst H9) | (refine Xg.call (EnF.st rfl (by (repeat (first | exact Args.nil | refine Args.cons rfl ?_)); done)) rfl rfl (twin_spec T p _ (hT1 [_, _])) ?_; rintro _ _ ⟨t1, k1, t2, k2, rfl, rfl⟩) | (refine Xg.st0 (StF.storeI (q := 1) (c := T.G) (i := (g - 1).toNat) rfl rfl rfl (te rfl) rfl rfl (by show 0 + (g - 1).toNat * 1 = _; omega) (by omega)) rfl ?_; rintro _ _ ⟨rfl, rfl⟩; dsimp only [List.set]) | (refine Xg.ev (EvF.move rfl rfl) rfl rfl ?_) | (refine Xg.ev (EvF.assign rfl rfl) rfl rfl ?_) | (refine Xg.ev (EvF.sub64 rfl rfl rfl (by omega) (by omega)) rfl rfl ?_) | (refine Xg.ev (EvF.not rfl rfl) rfl rfl ?_) | (refine Xg.ev (EvF.fieldAddr rfl rfl (te rfl) rfl (te rfl) (by decide)) rfl rfl ?_) | (refine Xg.ev (EvF.indexSlice rfl rfl rfl (te rfl) (te rfl) (by omega) (by omega)) rfl rfl ?_) | (refine Xg.ev (EvF.loadV rfl rfl (LoadV.own (te rfl) rfl (List.Mem.head _) rfl)) rfl rfl ?_) | (refine Xg.ev (EvF.loadV rfl rfl (LoadV.whole (te rfl) rfl (List.Mem.head _) rfl)) rfl rfl ?_) | (refine Xg.ev (EvF.loadV rfl rfl (LoadV.whole (te rfl) rfl (List.Mem.tail _ (List.Mem.head _)) rfl)) rfl rfl ?_) | (refine Xg.st (StF.boxAgg rfl rfl) rfl rfl ?_; rintro _ _ ⟨bx, rfl, rfl⟩) | (refine Xg.st (StF.alloc rfl Try.zeroValue28 rfl) rfl rfl ?_; rintro _ _ ⟨bx, rfl, rfl⟩) | (refine Xg.st0 (StF.storeAll (i := 0) rfl rfl rfl (te rfl) rfl rfl rfl rfl) rfl ?_; rintro _ _ ⟨rfl, rfl⟩; dsimp only [List.set]))))) | (refine XO.done rfl ?_; refine hK _ _ ?_; clear hK K) | refine X.seq rfl ?_ | refine X.region rfl (fun K hK => ?_) | refine X.skip rfl ?_ | (refine X.ite rfl rfl (fun hc => ?_); (first | (with_reducible refine Xb.caseN hc (fun h => ?_) (fun h => ?_)) | (with_reducible refine Xb.caseB hc (fun h => ?_) (fun h => ?_))) <;> clear hc))
      all_goals try (exfalso; contradiction)
      all_goals try (exfalso; omega)
      obtain ⟨b8, hb8⟩ : ∃ b, b = bx := ⟨_, rfl⟩
      rw [← hb8]
      clear hb8
      have hvd := fun H' (h : TmOk H' (stepT T g n) (plT t1 k1 t2 k2)) => rterms_spec (stepT T g n) (plT t1 k1 t2 k2) H' h
      rw [cTm_step] at hvd
      have hU1 : ∀ r r', TmOk (r :: rI (stepT T g n).G t1 k1 :: rI (stepT T g n).S t2 k2 :: r' :: H) (stepT T g n) (plT t1 k1 t2 k2) := fun r r' =>
        ownT (stepT T g n) t1 k1 t2 k2 _ (by show (T.G.set _ _).length ≤ _; rw [List.length_set]; omega) (by show T.S.length ≤ _; omega) (List.Mem.tail _ (List.Mem.head _)) (List.Mem.tail _ (List.Mem.tail _ (List.Mem.head _)))
      have hU2 : ∀ r r' r'', TmOk (r :: rI (stepT T g n).G t1 k1 :: rI (stepT T g n).S t2 k2 :: r' :: r'' :: H) (stepT T g n) (plT t1 k1 t2 k2) := fun r r' r'' =>
        ownT (stepT T g n) t1 k1 t2 k2 _ (by show (T.G.set _ _).length ≤ _; rw [List.length_set]; omega) (by show T.S.length ≤ _; omega) (List.Mem.tail _ (List.Mem.head _)) (List.Mem.tail _ (List.Mem.tail _ (List.Mem.head _)))
      repeat' (first | (refine XO.op rfl ?_; (first | ((first | refine Xo.ng rfl ?_); (first | (refine Xg.call (EnF.st rfl (Args.cons rfl Args.nil)) rfl rfl (hvd _ (hU2 _ _ _)) ?_; rintro _ H9 ⟨rfl, hH9⟩; subst H9) | (refine Xg.ev (EvF.tz rfl) rfl rfl ?_) | (refine Xg.ev (EvF.assign rfl rfl) rfl rfl ?_) | (refine Xg.ev (EvF.not rfl rfl) rfl rfl ?_) | (refine Xg.ev (EvF.loadV rfl rfl (LoadV.whole (te rfl) rfl (List.Mem.head _) rfl)) rfl rfl ?_) | (refine Xg.st0 (StF.storeAll (i := 3) rfl rfl rfl (te rfl) rfl rfl rfl rfl) rfl ?_; rintro _ _ ⟨rfl, rfl⟩; dsimp only [List.set]))))) | (refine XO.done rfl ?_; refine hK _ _ ?_; clear hK K) | refine X.seq rfl ?_ | refine X.region rfl (fun K hK => ?_) | refine X.skip rfl ?_ | refine X.ret rfl ?_ | (refine X.ite rfl rfl (fun hc => ?_); (first | (with_reducible refine Xb.caseN hc (fun h => ?_) (fun h => ?_))) <;> clear hc))
      · rw [vld_no (by assumption)]
        exact ret_two (v := .agg (cTm Tz pz).toArray) (by first | exact .inr rfl | exact .inl rfl) Try.results42 ⟨_, rfl, LoadV.whole (te rfl) rfl (List.Mem.tail _ (List.Mem.tail _ (List.Mem.tail _ (List.Mem.head _)))) rfl⟩ rfl (H' := H) (by (repeat (first | exact List.Sublist.refl _ | apply List.Sublist.cons)); done) (progT_no rfl H)
      · rw [vld_ok (by assumption)]
        exact ret_two (v := .agg (cTm (stepT T g n) (plT t1 k1 t2 k2)).toArray) (by first | exact .inr rfl | exact .inl rfl) Try.results42 (by rw [cTm_step]; exact ⟨_, rfl, LoadV.whole (te rfl) rfl (List.Mem.tail _ (List.Mem.tail _ (List.Mem.tail _ (List.Mem.head _)))) rfl⟩) rfl (H' := rI (stepT T g n).G t1 k1 :: rI (stepT T g n).S t2 k2 :: H) (by (repeat (first | exact List.Sublist.refl _ | apply List.Sublist.cons_cons | apply List.Sublist.cons)); done) ⟨_, _, rfl, OwnTm.two (stepT T g n) t1 k1 t2 k2, rfl⟩
    · refine Fc.mk (callable Try.call42) Try.func42 rfl Try.ntmps42 rfl ?_; dsimp only [fr]
      repeat' (first | (refine XO.op rfl ?_; (first | ((first | refine Xo.ng rfl ?_); (first | (refine Xg.call (EnF.st rfl (Args.cons rfl Args.nil)) rfl rfl (rtermsT T p hok _ (hT1 [_, _])) ?_; rintro _ H9 ⟨rfl, hH9⟩; subst H9) | (refine Xg.call (EnF.st rfl (Args.cons rfl (Args.cons rfl (Args.cons rfl Args.nil)))) rfl rfl (w4_spec _ _ _ _) ?_; rintro _ H9 ⟨rfl, hH9⟩; subst H9) | (refine Xg.ev (EvF.tz rfl) rfl rfl ?_) | (refine Xg.ev (EvF.move rfl rfl) rfl rfl ?_) | (refine Xg.ev (EvF.assign rfl rfl) rfl rfl ?_) | (refine Xg.ev (EvF.not rfl rfl) rfl rfl ?_) | (refine Xg.ev (EvF.loadV rfl rfl (LoadV.whole (te rfl) rfl (List.Mem.tail _ (List.Mem.head _)) rfl)) rfl rfl ?_) | (refine Xg.st (StF.boxAgg rfl rfl) rfl rfl ?_; rintro _ _ ⟨bx, rfl, rfl⟩) | (refine Xg.st (StF.alloc rfl Try.zeroValue28 rfl) rfl rfl ?_; rintro _ _ ⟨bx, rfl, rfl⟩) | (refine Xg.st0 (StF.storeAll (i := 0) rfl rfl rfl (te rfl) rfl rfl rfl rfl) rfl ?_; rintro _ _ ⟨rfl, rfl⟩; dsimp only [List.set]))))) | (refine XO.done rfl ?_; refine hK _ _ ?_; clear hK K) | refine X.seq rfl ?_ | refine X.region rfl (fun K hK => ?_) | refine X.skip rfl ?_ | refine X.ret rfl ?_ | (refine X.ite rfl rfl (fun hc => ?_); (first | (with_reducible refine Xb.caseN hc (fun h => ?_) (fun h => ?_)) | (with_reducible refine Xb.caseB hc (fun h => ?_) (fun h => ?_))) <;> clear hc))
      all_goals try (exfalso; contradiction)
      all_goals try (exfalso; omega)
      exact ret_two (v := .agg (cTm Tz pz).toArray) (by first | exact .inr rfl | exact .inl rfl) Try.results42 ⟨_, rfl, LoadV.whole (te rfl) rfl (List.Mem.head _) rfl⟩ rfl (H' := H) (by (repeat (first | exact List.Sublist.refl _ | apply List.Sublist.cons)); done) (progT_no (stepF_ng hok hg) H)
  · refine Fc.mk (callable Try.call42) Try.func42 rfl Try.ntmps42 rfl ?_; dsimp only [fr]
    repeat' (first | (refine XO.op rfl ?_; (first | ((first | refine Xo.ng rfl ?_); (first | (refine Xg.call (EnF.st rfl (Args.cons rfl Args.nil)) rfl rfl (rtermsF T p hok _ (hT1 [_, _])) ?_; rintro _ H9 ⟨rfl, hH9⟩; subst H9) | (refine Xg.ev (EvF.tz rfl) rfl rfl ?_) | (refine Xg.ev (EvF.move rfl rfl) rfl rfl ?_) | (refine Xg.ev (EvF.assign rfl rfl) rfl rfl ?_) | (refine Xg.ev (EvF.not rfl rfl) rfl rfl ?_) | (refine Xg.ev (EvF.loadV rfl rfl (LoadV.whole (te rfl) rfl (List.Mem.tail _ (List.Mem.head _)) rfl)) rfl rfl ?_) | (refine Xg.st (StF.boxAgg rfl rfl) rfl rfl ?_; rintro _ _ ⟨bx, rfl, rfl⟩) | (refine Xg.st (StF.alloc rfl Try.zeroValue28 rfl) rfl rfl ?_; rintro _ _ ⟨bx, rfl, rfl⟩) | (refine Xg.st0 (StF.storeAll (i := 0) rfl rfl rfl (te rfl) rfl rfl rfl rfl) rfl ?_; rintro _ _ ⟨rfl, rfl⟩; dsimp only [List.set]))))) | (refine XO.done rfl ?_; refine hK _ _ ?_; clear hK K) | refine X.seq rfl ?_ | refine X.region rfl (fun K hK => ?_) | refine X.skip rfl ?_ | refine X.ret rfl ?_ | (refine X.ite rfl rfl (fun hc => ?_); (first | (with_reducible refine Xb.caseB hc (fun h => ?_) (fun h => ?_))) <;> clear hc))
    all_goals try (exfalso; contradiction)
    exact ret_two (v := .agg (cTm Tz pz).toArray) (by first | exact .inr rfl | exact .inl rfl) Try.results42 ⟨_, rfl, LoadV.whole (te rfl) rfl (List.Mem.head _) rfl⟩ rfl (H' := H) (by (repeat (first | exact List.Sublist.refl _ | apply List.Sublist.cons)); done) (progT_no (stepF_nt hok) H)
end Go.Proofs.Ytcjlegjchllgjaa
end
section
set_option linter.unusedVariables false
set_option linter.unusedSimpArgs false
namespace Go.Proofs.Ytcjlegjchllgjaa
open Go Go.Fw
set_option maxRecDepth 10000
structure Nu where
  a : Int
  b : Int
  c : Int
  d : Int
def cNu (e : Nu) : List Value := [.int .i64 e.a, .int .i64 e.b, .int .i64 e.c, .int .i64 e.d]
def nuT (T : Tm) : Nu := ⟨T.price, T.worst, T.short, T.fee⟩
noncomputable instance : DecidableEq Nu := fun _ _ => Classical.propDecidable _
theorem eqNu (d : Nat) (e f : Nu) (w : World) : (Op.equalIn (d + 2) 194 (.agg (cNu e).toArray) (.agg (cNu f).toArray)).run Try.prog w = .ok (decide (e = f)) w := by
  rw [run_equalIn_array w (d + 1) (n := 4) (e := 3) (i := Try.t3) _ _ Try.underlying194 (by kernel_rfl)]
  have hc : Try.prog.cellsOf 3 = 1 := by kernel_rfl
  simp only [List.range_succ, List.range_zero, Op.eqItems, hc, List.nil_append, List.cons_append]
  have hp : ∀ (g : Nu) (k : Nat) (v : Value) (w : World), (cNu g).toArray[k]? = some v → (part 3 (cNu g).toArray k).run Try.prog w = .ok v w := fun g k v w h => run_part_plain w (by kernel_rfl) h
  have p0 : ∀ (g : Nu) (w : World), (part 3 (cNu g).toArray 0).run Try.prog w = .ok (.int .i64 g.a) w := fun g w => hp g 0 _ w rfl
  have p1 : ∀ (g : Nu) (w : World), (part 3 (cNu g).toArray 1).run Try.prog w = .ok (.int .i64 g.b) w := fun g w => hp g 1 _ w rfl
  have p2 : ∀ (g : Nu) (w : World), (part 3 (cNu g).toArray 2).run Try.prog w = .ok (.int .i64 g.c) w := fun g w => hp g 2 _ w rfl
  have p3 : ∀ (g : Nu) (w : World), (part 3 (cNu g).toArray 3).run Try.prog w = .ok (.int .i64 g.d) w := fun g w => hp g 3 _ w rfl
  obtain ⟨e1, e2, e3, e4⟩ := e
  obtain ⟨f1, f2, f3, f4⟩ := f
  by_cases h1 : e1 = f1 <;> by_cases h2 : e2 = f2 <;> by_cases h3 : e3 = f3 <;> by_cases h4 : e4 = f4 <;> simp [h1, h2, h3, h4, p0, p1, p2, p3, eqI, Result.andThen]
theorem nums_spec (T : Tm) (p : Pt) (H : List Row) : Fc Try.prog 133 ([.agg (cTm T p).toArray] ++ []) H (fun v H' => v = .agg (cNu (nuT T)).toArray ∧ H' = H) := by
  show Fc Try.prog 133 [.agg (cTm T p).toArray] H _
  refine Fc.mk (callable Try.call133) Try.func133 rfl Try.ntmps133 rfl ?_; dsimp only [fr]
  repeat' (first | (refine XO.op rfl ?_; (first | ((first | refine Xo.ng rfl ?_); (first | (refine Xg.st (StF.alloc rfl Try.zeroValue194 rfl) rfl rfl ?_; rintro _ _ ⟨bx, rfl, rfl⟩) | (refine Xg.ev (EvF.buildArr (cs := cNu (nuT T)) rfl (ArgsP.cons rfl (ArgsP.cons rfl (ArgsP.cons rfl (ArgsP.cons rfl ArgsP.nil)))) (te rfl) (te rfl) Try.zeroValue194 rfl) rfl rfl ?_) | (refine Xg.ev (EvF.fieldAddr rfl rfl (te rfl) rfl (te rfl) (by decide)) rfl rfl ?_) | (refine Xg.ev (EvF.loadV rfl rfl (LoadV.own (te rfl) rfl (List.Mem.tail _ (List.Mem.head _)) rfl)) rfl rfl ?_) | (refine Xg.st (StF.boxAgg rfl rfl) rfl rfl ?_; rintro _ _ ⟨bx, rfl, rfl⟩) | (refine Xg.st0 (StF.storeAll (i := 0) rfl rfl rfl (te rfl) rfl rfl rfl rfl) rfl ?_; rintro _ _ ⟨rfl, rfl⟩; dsimp only [List.set]))))) | (refine XO.done rfl ?_; refine hK _ _ ?_; clear hK K) | refine X.seq rfl ?_ | refine X.region rfl (fun K hK => ?_) | refine X.ret rfl ?_)
  exact ret_one (v := .agg (cNu (nuT T)).toArray) (by first | exact .inr rfl | exact .inl rfl) Try.results133 ⟨_, rfl, LoadV.whole (te rfl) rfl (List.Mem.head _) rfl⟩ (H' := H) (by (repeat (first | exact List.Sublist.refl _ | apply List.Sublist.cons)); done) ⟨rfl, rfl⟩
theorem equalI_spec (l m : List Int) (a a' : Option Addr) (c c' : Nat) (H : List Row) (hl : SlE H a cI 1 l) (hm : SlE H a' cI 1 m) (hb : l.length ≤ 1000000) (hb' : m.length ≤ 1000000) :
    Fc Try.prog 134 [.slice a l.length c, .slice a' m.length c'] H (fun v H' => v = .bool (decide (l = m)) ∧ H' = H) := by
  refine Fc.mk (callable Try.call134) Try.func134 rfl Try.ntmps134 rfl ?_; dsimp only [fr]
  repeat' (first | (refine XO.op rfl ?_; (first | ((first | refine Xo.ng rfl ?_); (first | (refine Xg.ev (EvF.move rfl rfl) rfl rfl ?_) | (refine Xg.ev (EvF.assign rfl rfl) rfl rfl ?_) | (refine Xg.ev (EvF.cmp rfl rfl rfl rfl) rfl rfl ?_) | (refine Xg.ev (EvF.lenSlice rfl rfl (te rfl)) rfl rfl ?_))))) | (refine XO.done rfl ?_; refine hK _ _ ?_; clear hK K) | refine X.seq rfl ?_ | refine X.region rfl (fun K hK => ?_) | refine X.block rfl ?_ | refine X.skip rfl ?_ | refine X.ret rfl ?_ | (refine X.ite rfl rfl (fun hc => ?_); (first | (with_reducible refine Xb.caseN hc (fun h => ?_) (fun h => ?_))) <;> clear hc))
  · refine ret_one (by first | exact .inr rfl | exact .inl rfl) Try.results134 rfl (H' := H) (by (repeat (first | exact List.Sublist.refl _ | apply List.Sublist.cons)); done) ?_; simp only [and_true, true_and]
    congr 1; symm; exact decide_eq_false (fun q => by subst q; omega)
  have hlm : l.length = m.length := by omega
  refine X.lp rfl (fun q F' H' => ∃ k : Nat, q = l.length - k ∧ k ≤ l.length ∧ (l = m ↔ l.drop k = m.drop k) ∧ H = H' ∧
      F' = [(0, .slice a l.length c), (1, .slice a' m.length c'), (12, .int .i64 l.length), (13, .int .i64 k)])
    l.length [(0, .slice a l.length c), (1, .slice a' m.length c'), (12, .int .i64 l.length), (13, .int .i64 (0 : Nat))] _ (by (repeat (first | exact Sub.nil _ | refine Sub.cons rfl ?_)); done) (by (repeat (first | exact List.Sublist.refl _ | apply List.Sublist.cons_cons | apply List.Sublist.cons)); done) ⟨0, by omega, by omega, by simp, rfl, rfl⟩ ?_
  rintro _ _ H2 ⟨k, rfl, hk, hn, hH, rfl⟩
  subst hH
  repeat' (first | (refine XO.op rfl ?_; (first | ((first | refine Xo.ng rfl ?_); (first | (refine Xg.ev (EvF.move rfl rfl) rfl rfl ?_) | (refine Xg.ev (EvF.assign rfl rfl) rfl rfl ?_) | (refine Xg.ev (EvF.cmp rfl rfl rfl rfl) rfl rfl ?_))))) | (refine XO.done rfl ?_; refine hK _ _ ?_; clear hK K) | refine X.seq rfl ?_ | refine X.region rfl (fun K hK => ?_) | refine X.block rfl ?_ | (refine X.brk rfl ?_; repeat (first | refine blockX_hit rfl ?_ | refine blockX_miss (by decide) ?_)) | refine X.skip rfl ?_ | refine X.ret rfl ?_ | (refine X.ite rfl rfl (fun hc => ?_); (first | (with_reducible refine Xb.case hc (fun h => ?_) (fun h => ?_))) <;> clear hc))
  · obtain ⟨b, off, e, rfl, he⟩ := hl.elem (i := k) (by omega)
    obtain ⟨b2, off2, f, rfl, hf⟩ := hm.elem (i := k) (by omega)
    rw [drop_cons he, drop_cons hf, List.cons.injEq] at hn
    repeat' (first | (refine XO.op rfl ?_; (first | ((first | refine Xo.ng rfl ?_); (first | (refine Xg.ev (EvF.move rfl rfl) rfl rfl ?_) | (refine Xg.ev (EvF.assign rfl rfl) rfl rfl ?_) | (refine Xg.ev (EvF.add64 rfl rfl rfl (by omega) (by omega)) rfl rfl ?_))))) | (refine XO.done rfl ?_; refine hK _ _ ?_; clear hK K) | (refine XQ.op rfl ?_; (first | ((first | refine Yo.ng rfl ?_); (first | (refine Yg.ev (EvF.indexSlice rfl rfl rfl (te rfl) (te rfl) (by omega) (by omega)) rfl rfl ?_) | (refine Yg.ev (EvF.loadV rfl rfl (LoadV.el0 hl he (te rfl) rfl (fun _ hm => hm) rfl)) rfl rfl ?_) | (refine Yg.ev (EvF.loadV rfl rfl (LoadV.el0 hm hf (te rfl) rfl (fun _ hm => hm) rfl)) rfl rfl ?_) | (refine Yg.ev (EvF.move rfl rfl) rfl rfl ?_) | (refine Yg.ev (EvF.cmp rfl rfl rfl rfl) rfl rfl ?_))))) | (refine XQ.done rfl ?_; refine hK _ ?_; clear hK K) | refine X.seq rfl ?_ | refine X.region rfl (fun K hK => ?_) | refine X.regionD rfl mixed (by kernel_rfl) (fun K hK => ?_) | refine X.skip rfl ?_ | refine X.ret rfl ?_ | (refine X.ite rfl rfl (fun hc => ?_); (first | (with_reducible refine Xb.caseN hc (fun h => ?_) (fun h => ?_))) <;> clear hc))
    all_goals first
      | (refine ret_one (by first | exact .inr rfl | exact .inl rfl) Try.results134 rfl (H' := H) (by (repeat (first | exact List.Sublist.refl _ | apply List.Sublist.cons)); done) ?_; simp only [and_true, true_and]; congr 1; symm; exact decide_eq_false (fun q => absurd (hn.1 q).1 (by assumption)))
      | (refine ⟨_, _, _, (by (repeat (first | exact Sub.nil _ | refine Sub.cons rfl ?_)); done), (by (repeat (first | exact List.Sublist.refl _ | apply List.Sublist.cons_cons | apply List.Sublist.cons)); done), ⟨k + 1, rfl, by omega, hn.trans (and_iff_right (by assumption)), rfl, rfl⟩, by omega⟩)
  · rw [List.drop_eq_nil_of_le (by omega), List.drop_eq_nil_of_le (by omega)] at hn
    refine ret_one (by first | exact .inr rfl | exact .inl rfl) Try.results134 rfl (H' := H) (by (repeat (first | exact List.Sublist.refl _ | apply List.Sublist.cons)); done) ?_; simp only [and_true, true_and]
    congr 1; symm; exact decide_eq_true (hn.2 rfl)
theorem alike_iff {T U : Tm} : T = withB U T.bales ↔ T.g = U.g ∧ T.s = U.s ∧ T.price = U.price ∧ T.worst = U.worst ∧ T.short = U.short ∧ T.G = U.G ∧ T.S = U.S ∧ T.dl = U.dl ∧ T.dh = U.dh ∧ T.fee = U.fee :=
  ⟨fun q => ⟨(show T.g = (withB U T.bales).g from congrArg Tm.g q), (show T.s = (withB U T.bales).s from congrArg Tm.s q), (show T.price = (withB U T.bales).price from congrArg Tm.price q), (show T.worst = (withB U T.bales).worst from congrArg Tm.worst q), (show T.short = (withB U T.bales).short from congrArg Tm.short q), (show T.G = (withB U T.bales).G from congrArg Tm.G q), (show T.S = (withB U T.bales).S from congrArg Tm.S q), (show T.dl = (withB U T.bales).dl from congrArg Tm.dl q), (show T.dh = (withB U T.bales).dh from congrArg Tm.dh q), (show T.fee = (withB U T.bales).fee from congrArg Tm.fee q)⟩,
   fun ⟨a, b, c, d, e, f, g, h, i, j⟩ => Tm.ext' a b c d e f g h i rfl j⟩
set_option maxHeartbeats 4000000 in
theorem areAlike_spec (T U : Tm) (p q : Pt) (H : List Row) (hT : TmOk H T p) (hU : TmOk H U q) : Fc Try.prog 102 [.agg (cTm T p).toArray, .agg (cTm U q).toArray] H (fun v H' => v = .bool (decide (T = withB U T.bales)) ∧ H' = H) := by
  have hT2 : ∀ Z : List Row, TmOk (Z ++ H) T p := fun Z => hT.sub (fun _ h => List.mem_append_right _ h)
  have hU2 : ∀ Z : List Row, TmOk (Z ++ H) U q := fun Z => hU.sub (fun _ h => List.mem_append_right _ h)
  refine Fc.mk (callable Try.call102) Try.func102 rfl Try.ntmps102 rfl ?_; dsimp only [fr]
  repeat' (first | (refine XO.op rfl ?_; (first | ((first | refine Xo.ng rfl ?_); (first | (refine Xg.ev (EvF.assign rfl rfl) rfl rfl ?_) | (refine Xg.st (StF.boxAgg rfl rfl) rfl rfl ?_; rintro _ _ ⟨bx, rfl, rfl⟩))))) | (refine XO.done rfl ?_; refine hK _ _ ?_; clear hK K) | (refine XQ.op rfl ?_; (first | ((first | refine Yo.ng rfl ?_ | (refine Yo.g rfl rfl ?_; with_reducible refine Yw.tt ?_)); (first | (refine Yg.ev (EvF.loadV rfl rfl (LoadV.ownAgg (vs := cCl ⟨T.g, T.s⟩) (te rfl) rfl (List.Mem.tail _ (List.Mem.head _)) rfl rfl)) rfl rfl ?_) | (refine Yg.ev (EvF.loadV rfl rfl (LoadV.ownAgg (vs := cCl ⟨U.g, U.s⟩) (te rfl) rfl (List.Mem.head _) rfl rfl)) rfl rfl ?_) | (refine Yg.ev (EvF.loadV rfl rfl (LoadV.ownAgg (vs := cSp ⟨T.dl, T.dh⟩) (te rfl) rfl (List.Mem.tail _ (List.Mem.head _)) rfl rfl)) rfl rfl ?_) | (refine Yg.ev (EvF.loadV rfl rfl (LoadV.ownAgg (vs := cSp ⟨U.dl, U.dh⟩) (te rfl) rfl (List.Mem.head _) rfl rfl)) rfl rfl ?_) | (refine Yg.ev (EvF.eqSt rfl rfl rfl (by kernel_rfl) (fun w => eqCl 9998 ⟨T.g, T.s⟩ ⟨U.g, U.s⟩ w) rfl) rfl rfl ?_) | (refine Yg.ev (EvF.eqSt rfl rfl rfl (by kernel_rfl) (fun w => eqSp 9998 ⟨T.dl, T.dh⟩ ⟨U.dl, U.dh⟩ w) rfl) rfl rfl ?_) | (refine Yg.ev (EvF.eqSt rfl rfl rfl (by kernel_rfl) (fun w => eqNu 9998 (nuT T) (nuT U) w) rfl) rfl rfl ?_) | (refine Yg.call (EnF.dyn0 rfl rfl (Args.cons rfl Args.nil)) rfl rfl (nums_spec T p _) ?_) | (refine Yg.call (EnF.dyn0 rfl rfl (Args.cons rfl Args.nil)) rfl rfl (nums_spec U q _) ?_) | (refine Yg.call (EnF.st rfl (Args.cons rfl (Args.cons rfl Args.nil))) rfl rfl (equalI_spec T.G U.G p.a1 q.a1 p.c1 q.c1 _ (hT2 [_, _]).gr (hU2 [_, _]).gr hT.l1 hU.l1) ?_) | (refine Yg.call (EnF.st rfl (Args.cons rfl (Args.cons rfl Args.nil))) rfl rfl (equalI_spec T.S U.S p.a2 q.a2 p.c2 q.c2 _ (hT2 [_, _]).st (hU2 [_, _]).st hT.l2 hU.l2) ?_) | (refine Yg.ev (EvF.move rfl rfl) rfl rfl ?_) | (refine Yg.ev (EvF.assign rfl rfl) rfl rfl ?_) | (refine Yg.ev (EvF.pickT rfl rfl rfl) rfl rfl ?_) | (refine Yg.ev (EvF.pickF rfl rfl rfl) rfl rfl ?_) | (refine Yg.ev (EvF.fieldAddr rfl rfl (te rfl) rfl (te rfl) (by decide)) rfl rfl ?_) | (refine Yg.ev (EvF.loadV rfl rfl (LoadV.own (te rfl) rfl (List.Mem.head _) rfl)) rfl rfl ?_) | (refine Yg.ev (EvF.loadV rfl rfl (LoadV.own (te rfl) rfl (List.Mem.tail _ (List.Mem.head _)) rfl)) rfl rfl ?_) | (refine Yg.ev (EvF.loadV rfl rfl (LoadV.whole (te rfl) rfl (List.Mem.head _) rfl)) rfl rfl ?_) | (refine Yg.ev (EvF.loadV rfl rfl (LoadV.whole (te rfl) rfl (List.Mem.tail _ (List.Mem.head _)) rfl)) rfl rfl ?_))) | (refine Yo.g rfl rfl ?_; (first | (with_reducible refine Yw.ft rfl rfl ?_) | (with_reducible refine Yw.case (fun h => ?_) (fun h => ?_) <;> simp only [h, decide_true, decide_false, Bool.not_true, Bool.not_false, and_self, and_true, true_and, and_false, false_and]))))) | (refine XQ.done rfl ?_; refine hK _ ?_; clear hK K) | refine X.seq rfl ?_ | refine X.region rfl (fun K hK => ?_) | refine X.regionD rfl mixed (by kernel_rfl) (fun K hK => ?_) | refine X.ret rfl ?_)
  all_goals (refine ret_one (by first | exact .inr rfl | exact .inl rfl) Try.results102 rfl (H' := H) (by (repeat (first | exact List.Sublist.refl _ | apply List.Sublist.cons)); done) ?_; simp only [and_true, true_and])
  all_goals (congr 1; (try simp only [Cl.mk.injEq, Sp.mk.injEq, nuT, Nu.mk.injEq] at *))
  all_goals first
    | exact (decide_eq_decide.2 ⟨fun q => alike_iff.2 ⟨by omega, by omega, by omega, by omega, by omega, by assumption, by assumption, by omega, by omega, by omega⟩, fun q => (alike_iff.1 q).2.2.2.2.2.2.1⟩)
    | (symm; refine decide_eq_false (fun z => ?_); obtain ⟨e0, e1, e2, e3, e4, e5, e6, e7, e8, e9⟩ := alike_iff.1 z; first | contradiction | (clear z; simp_all; done))
theorem joinF_nt {T U : Tm} (h : ¬ (tmOk T ∧ tmOk U)) : joinF T U = (Tz, 40) := if_neg h
theorem joinF_na {T U : Tm} (h : tmOk T ∧ tmOk U) (ha : ¬ T = withB U T.bales) : joinF T U = (Tz, 2) := by unfold joinF; rw [if_pos h, if_neg ha]
theorem joinF_nf {T U : Tm} (h : tmOk T ∧ tmOk U) (ha : T = withB U T.bales) (hf : T.bales + U.bales > 20) : joinF T U = (Tz, 9) := by unfold joinF; rw [if_pos h, if_pos ha, if_pos hf]
theorem joinF_ok {T U : Tm} (h : tmOk T ∧ tmOk U) (ha : T = withB U T.bales) (hf : ¬ T.bales + U.bales > 20) : joinF T U = (withB T (T.bales + U.bales), 0) := by unfold joinF; rw [if_pos h, if_pos ha, if_neg hf]
theorem checkT (T : Tm) (p : Pt) (h : tmOk T) (H : List Row) (hT : TmOk H T p) : Fc Try.prog 16 [.agg (cTm T p).toArray] H (fun v H' => v = .int .i64 0 ∧ H' = H) := by
  have := check_spec T p H hT
  rwa [if_pos h] at this
theorem checkF (T : Tm) (p : Pt) (h : ¬ tmOk T) (H : List Row) (hT : TmOk H T p) : Fc Try.prog 16 [.agg (cTm T p).toArray] H (fun v H' => v = .int .i64 40 ∧ H' = H) := by
  have := check_spec T p H hT
  rwa [if_neg h] at this
set_option maxHeartbeats 8000000 in
theorem kjoin_spec (T U : Tm) (p q : Pt) (H : List Row) (hT : TmOk H T p) (hU : TmOk H U q) : Fc Try.prog 45 [.agg (cTm T p).toArray, .agg (cTm U q).toArray] H (ProgT (joinF T U) H) := by
  have hT1 : ∀ Z : List Row, TmOk (Z ++ H) T p := fun Z => hT.sub (fun _ h => List.mem_append_right _ h)
  have hU1 : ∀ Z : List Row, TmOk (Z ++ H) U q := fun Z => hU.sub (fun _ h => List.mem_append_right _ h)
  by_cases hok : tmOk T
  · by_cases hok2 : tmOk U
    · have l1 := hok.gr.1
      have l2 := hok.st.1
      have n1 := hok.num.2.2.1
      have n2 := hok2.num.2.2.1
      refine Fc.mk (callable Try.call45) Try.func45 rfl Try.ntmps45 rfl ?_; dsimp only [fr]
      repeat' (first | (refine XO.op rfl ?_; (first | ((first | refine Xo.ng rfl ?_ | (refine Xo.g rfl rfl ?_; with_reducible refine Xw.ff ?_)); (first | (refine Xg.call (EnF.st rfl (Args.cons rfl Args.nil)) rfl rfl (checkT T p hok _ (hT1 [_, _, _])) ?_; rintro _ H9 ⟨rfl, hH9⟩; subst H9) | (refine Xg.call (EnF.st rfl (Args.cons rfl Args.nil)) rfl rfl (checkT U q hok2 _ (hU1 [_, _, _])) ?_; rintro _ H9 ⟨rfl, hH9⟩; subst H9) | (refine Xg.call (EnF.st rfl (Args.cons rfl (Args.cons rfl Args.nil))) rfl rfl (areAlike_spec T U p q _ (hT1 [_, _, _]) (hU1 [_, _, _])) ?_; rintro _ H9 ⟨rfl, hH9⟩; subst H9) | (refine Xg.call (EnF.st rfl (by (repeat (first | exact Args.nil | refine Args.cons rfl ?_)); done)) rfl rfl (withBales_spec T p (T.bales + U.bales) _ (hT1 [_, _, _]) (by omega) (by omega)) ?_; rintro _ _ ⟨t1, k1, t2, k2, rfl, rfl⟩) | (refine Xg.ev (EvF.tz rfl) rfl rfl ?_) | (refine Xg.ev (EvF.move rfl rfl) rfl rfl ?_) | (refine Xg.ev (EvF.assign rfl rfl) rfl rfl ?_) | (refine Xg.ev (EvF.pickF rfl rfl rfl) rfl rfl ?_) | (refine Xg.ev (EvF.cmp rfl rfl rfl rfl) rfl rfl ?_) | (refine Xg.ev (EvF.add64 rfl rfl rfl (by omega) (by omega)) rfl rfl ?_) | (refine Xg.ev (EvF.not rfl rfl) rfl rfl ?_) | (refine Xg.ev (EvF.fieldAddr rfl rfl (te rfl) rfl (te rfl) (by decide)) rfl rfl ?_) | (refine Xg.ev (EvF.loadV rfl rfl (LoadV.own (te rfl) rfl (List.Mem.tail _ (List.Mem.head _)) rfl)) rfl rfl ?_) | (refine Xg.ev (EvF.loadV rfl rfl (LoadV.own (te rfl) rfl (List.Mem.tail _ (List.Mem.tail _ (List.Mem.head _))) rfl)) rfl rfl ?_) | (refine Xg.ev (EvF.loadV rfl rfl (LoadV.whole (te rfl) rfl (List.Mem.tail _ (List.Mem.head _)) rfl)) rfl rfl ?_) | (refine Xg.ev (EvF.loadV rfl rfl (LoadV.whole (te rfl) rfl (List.Mem.tail _ (List.Mem.tail _ (List.Mem.head _))) rfl)) rfl rfl ?_) | (refine Xg.st (StF.boxAgg rfl rfl) rfl rfl ?_; rintro _ _ ⟨bx, rfl, rfl⟩) | (refine Xg.st (StF.alloc rfl Try.zeroValue28 rfl) rfl rfl ?_; rintro _ _ ⟨bx, rfl, rfl⟩) | (refine Xg.st0 (StF.storeAll (i := 0) rfl rfl rfl (te rfl) rfl rfl rfl rfl) rfl ?_; rintro _ _ ⟨rfl, rfl⟩; dsimp only [List.set]) | (refine Xg.st0 (StF.storeAll (i := 2) rfl rfl rfl (te rfl) rfl rfl rfl rfl) rfl ?_; rintro _ _ ⟨rfl, rfl⟩; dsimp only [List.set]))) | (refine Xo.g rfl rfl ?_; (first | (with_reducible refine Xw.caseN (fun h => ?_) (fun h => ?_) <;> simp only [h, decide_true, decide_false, Bool.not_true, Bool.not_false, and_self, and_true, true_and, and_false, false_and]))))) | (refine XO.done rfl ?_; refine hK _ _ ?_; clear hK K) | refine X.seq rfl ?_ | refine X.region rfl (fun K hK => ?_) | refine X.block rfl ?_ | refine X.skip rfl ?_ | refine X.ret rfl ?_ | (refine X.ite rfl rfl (fun hc => ?_); (first | (with_reducible refine Xb.case hc (fun h => ?_) (fun h => ?_)) | (with_reducible refine Xb.caseN hc (fun h => ?_) (fun h => ?_))) <;> clear hc))
      all_goals try (exfalso; contradiction)
      all_goals try (exfalso; omega)
      · exact ret_two (v := .agg (cTm Tz pz).toArray) (by first | exact .inr rfl | exact .inl rfl) Try.results45 ⟨_, rfl, LoadV.whole (te rfl) rfl (List.Mem.head _) rfl⟩ rfl (H' := H) (by (repeat (first | exact List.Sublist.refl _ | apply List.Sublist.cons)); done) (progT_no (joinF_na ⟨hok, hok2⟩ (by assumption)) H)
      · exact ret_two (v := .agg (cTm Tz pz).toArray) (by first | exact .inr rfl | exact .inl rfl) Try.results45 ⟨_, rfl, LoadV.whole (te rfl) rfl (List.Mem.head _) rfl⟩ rfl (H' := H) (by (repeat (first | exact List.Sublist.refl _ | apply List.Sublist.cons)); done) (progT_no (joinF_nf ⟨hok, hok2⟩ (by assumption) (by assumption)) H)
      · rw [joinF_ok ⟨hok, hok2⟩ (by assumption) (by assumption)]
        exact ret_two (v := .agg (cTm (withB T (T.bales + U.bales)) (plT t1 k1 t2 k2)).toArray) (by first | exact .inr rfl | exact .inl rfl) Try.results45 ⟨_, rfl, LoadV.whole (te rfl) rfl (List.Mem.tail _ (List.Mem.tail _ (List.Mem.head _))) rfl⟩ rfl (H' := rI T.G t1 k1 :: rI T.S t2 k2 :: H) (by (repeat (first | exact List.Sublist.refl _ | apply List.Sublist.cons_cons | apply List.Sublist.cons)); done) ⟨_, _, rfl, OwnTm.two (withB T (T.bales + U.bales)) t1 k1 t2 k2, rfl⟩
    · refine Fc.mk (callable Try.call45) Try.func45 rfl Try.ntmps45 rfl ?_; dsimp only [fr]
      repeat' (first | (refine XO.op rfl ?_; (first | ((first | refine Xo.ng rfl ?_ | (refine Xo.g rfl rfl ?_; with_reducible refine Xw.ff ?_)); (first | (refine Xg.call (EnF.st rfl (Args.cons rfl Args.nil)) rfl rfl (checkT T p hok _ (hT1 [_, _, _])) ?_; rintro _ H9 ⟨rfl, hH9⟩; subst H9) | (refine Xg.call (EnF.st rfl (Args.cons rfl Args.nil)) rfl rfl (checkF U q hok2 _ (hU1 [_, _, _])) ?_; rintro _ H9 ⟨rfl, hH9⟩; subst H9) | (refine Xg.ev (EvF.tz rfl) rfl rfl ?_) | (refine Xg.ev (EvF.move rfl rfl) rfl rfl ?_) | (refine Xg.ev (EvF.assign rfl rfl) rfl rfl ?_) | (refine Xg.ev (EvF.pickF rfl rfl rfl) rfl rfl ?_) | (refine Xg.ev (EvF.cmp rfl rfl rfl rfl) rfl rfl ?_) | (refine Xg.ev (EvF.loadV rfl rfl (LoadV.whole (te rfl) rfl (List.Mem.tail _ (List.Mem.head _)) rfl)) rfl rfl ?_) | (refine Xg.ev (EvF.loadV rfl rfl (LoadV.whole (te rfl) rfl (List.Mem.tail _ (List.Mem.tail _ (List.Mem.head _))) rfl)) rfl rfl ?_) | (refine Xg.st (StF.boxAgg rfl rfl) rfl rfl ?_; rintro _ _ ⟨bx, rfl, rfl⟩) | (refine Xg.st (StF.alloc rfl Try.zeroValue28 rfl) rfl rfl ?_; rintro _ _ ⟨bx, rfl, rfl⟩) | (refine Xg.st0 (StF.storeAll (i := 0) rfl rfl rfl (te rfl) rfl rfl rfl rfl) rfl ?_; rintro _ _ ⟨rfl, rfl⟩; dsimp only [List.set]))) | (refine Xo.g rfl rfl ?_; (first | (with_reducible refine Xw.caseN (fun h => ?_) (fun h => ?_) <;> simp only [h, decide_true, decide_false, Bool.not_true, Bool.not_false, and_self, and_true, true_and, and_false, false_and]))))) | (refine XO.done rfl ?_; refine hK _ _ ?_; clear hK K) | refine X.seq rfl ?_ | refine X.region rfl (fun K hK => ?_) | refine X.block rfl ?_ | refine X.ret rfl ?_ | (refine X.ite rfl rfl (fun hc => ?_); (first | (with_reducible refine Xb.caseN hc (fun h => ?_) (fun h => ?_))) <;> clear hc))
      all_goals try (exfalso; contradiction)
      all_goals try (exfalso; omega)
      exact ret_two (v := .agg (cTm Tz pz).toArray) (by first | exact .inr rfl | exact .inl rfl) Try.results45 ⟨_, rfl, LoadV.whole (te rfl) rfl (List.Mem.head _) rfl⟩ rfl (H' := H) (by (repeat (first | exact List.Sublist.refl _ | apply List.Sublist.cons)); done) (progT_no (joinF_nt (fun h => hok2 h.2)) H)
  · refine Fc.mk (callable Try.call45) Try.func45 rfl Try.ntmps45 rfl ?_; dsimp only [fr]
    repeat' (first | (refine XO.op rfl ?_; (first | ((first | refine Xo.ng rfl ?_ | (refine Xo.g rfl rfl ?_; with_reducible refine Xw.ff ?_)); (first | (refine Xg.call (EnF.st rfl (Args.cons rfl Args.nil)) rfl rfl (checkF T p hok _ (hT1 [_, _, _])) ?_; rintro _ H9 ⟨rfl, hH9⟩; subst H9) | (refine Xg.ev (EvF.tz rfl) rfl rfl ?_) | (refine Xg.ev (EvF.move rfl rfl) rfl rfl ?_) | (refine Xg.ev (EvF.assign rfl rfl) rfl rfl ?_) | (refine Xg.ev (EvF.pickT rfl rfl rfl) rfl rfl ?_) | (refine Xg.ev (EvF.cmp rfl rfl rfl rfl) rfl rfl ?_) | (refine Xg.ev (EvF.loadV rfl rfl (LoadV.whole (te rfl) rfl (List.Mem.tail _ (List.Mem.head _)) rfl)) rfl rfl ?_) | (refine Xg.ev (EvF.loadV rfl rfl (LoadV.whole (te rfl) rfl (List.Mem.tail _ (List.Mem.tail _ (List.Mem.head _))) rfl)) rfl rfl ?_) | (refine Xg.st (StF.boxAgg rfl rfl) rfl rfl ?_; rintro _ _ ⟨bx, rfl, rfl⟩) | (refine Xg.st (StF.alloc rfl Try.zeroValue28 rfl) rfl rfl ?_; rintro _ _ ⟨bx, rfl, rfl⟩) | (refine Xg.st0 (StF.storeAll (i := 0) rfl rfl rfl (te rfl) rfl rfl rfl rfl) rfl ?_; rintro _ _ ⟨rfl, rfl⟩; dsimp only [List.set]))) | (refine Xo.g rfl rfl ?_; (first | (with_reducible refine Xw.tf rfl rfl ?_) | (with_reducible refine Xw.caseN (fun h => ?_) (fun h => ?_) <;> simp only [h, decide_true, decide_false, Bool.not_true, Bool.not_false, and_self, and_true, true_and, and_false, false_and]))))) | (refine XO.done rfl ?_; refine hK _ _ ?_; clear hK K) | refine X.seq rfl ?_ | refine X.region rfl (fun K hK => ?_) | refine X.block rfl ?_ | refine X.ret rfl ?_ | (refine X.ite rfl rfl (fun hc => ?_); (first | (with_reducible refine Xb.t hc ?_)) <;> clear hc))
    all_goals try (exfalso; contradiction)
    all_goals try (exfalso; omega)
    exact ret_two (v := .agg (cTm Tz pz).toArray) (by first | exact .inr rfl | exact .inl rfl) Try.results45 ⟨_, rfl, LoadV.whole (te rfl) rfl (List.Mem.head _) rfl⟩ rfl (H' := H) (by (repeat (first | exact List.Sublist.refl _ | apply List.Sublist.cons)); done) (progT_no (joinF_nt (fun h => hok h.1)) H)
end Go.Proofs.Ytcjlegjchllgjaa
end
section
set_option linter.unusedVariables false
set_option linter.unusedSimpArgs false
namespace Go.Proofs.Ytcjlegjchllgjaa
open Go Go.Fw
set_option maxRecDepth 10000
set_option maxHeartbeats 8000000 in
theorem rjoin_spec (T U : Tm) (p q : Pt) (H : List Row) (hT : TmOk H T p) (hU : TmOk H U q) : Fc Try.prog 46 [.agg (cTm T p).toArray, .agg (cTm U q).toArray] H (ProgT (joinF T U) H) := by
  have hT1 : ∀ Z : List Row, TmOk (Z ++ H) T p := fun Z => hT.sub (fun _ h => List.mem_append_right _ h)
  have hU1 : ∀ Z : List Row, TmOk (Z ++ H) U q := fun Z => hU.sub (fun _ h => List.mem_append_right _ h)
  by_cases hok : tmOk T
  · by_cases hok2 : tmOk U
    · have n1 := hok.num.2.2.1
      have n2 := hok2.num.2.2.1
      refine Fc.mk (callable Try.call46) Try.func46 rfl Try.ntmps46 rfl ?_; dsimp only [fr]
      repeat' (first | (refine XO.op rfl ?_; (first | ((first | refine Xo.ng rfl ?_ | (refine Xo.g rfl rfl ?_; with_reducible refine Xw.ff ?_)); (first | (refine Xg.call (EnF.st rfl (Args.cons rfl Args.nil)) rfl rfl (rtermsT T p hok _ (hT1 [_, _, _])) ?_; rintro _ H9 ⟨rfl, hH9⟩; subst H9) | (refine Xg.call (EnF.st rfl (Args.cons rfl Args.nil)) rfl rfl (rtermsT U q hok2 _ (hU1 [_, _, _])) ?_; rintro _ H9 ⟨rfl, hH9⟩; subst H9) | (refine Xg.call (EnF.st rfl (by (repeat (first | exact Args.nil | refine Args.cons rfl ?_)); done)) rfl rfl (twin_spec U q _ (hU1 [_, _, _])) ?_; rintro _ _ ⟨t1, k1, t2, k2, rfl, rfl⟩) | (refine Xg.ev (EvF.move rfl rfl) rfl rfl ?_) | (refine Xg.ev (EvF.assign rfl rfl) rfl rfl ?_) | (refine Xg.ev (EvF.pickT rfl rfl rfl) rfl rfl ?_) | (refine Xg.ev (EvF.pickF rfl rfl rfl) rfl rfl ?_) | (refine Xg.ev (EvF.not rfl rfl) rfl rfl ?_) | (refine Xg.ev (EvF.fieldAddr rfl rfl (te rfl) rfl (te rfl) (by decide)) rfl rfl ?_) | (refine Xg.ev (EvF.loadV rfl rfl (LoadV.own (te rfl) rfl (List.Mem.tail _ (List.Mem.tail _ (List.Mem.tail _ (List.Mem.tail _ (List.Mem.tail _ (List.Mem.head _)))))) rfl)) rfl rfl ?_) | (refine Xg.ev (EvF.loadV rfl rfl (LoadV.whole (te rfl) rfl (List.Mem.head _) rfl)) rfl rfl ?_) | (refine Xg.ev (EvF.loadV rfl rfl (LoadV.whole (te rfl) rfl (List.Mem.tail _ (List.Mem.head _)) rfl)) rfl rfl ?_) | (refine Xg.ev (EvF.loadV rfl rfl (LoadV.whole (te rfl) rfl (List.Mem.tail _ (List.Mem.tail _ (List.Mem.head _))) rfl)) rfl rfl ?_) | (refine Xg.ev (EvF.loadV rfl rfl (LoadV.whole (te rfl) rfl (List.Mem.tail _ (List.Mem.tail _ (List.Mem.tail _ (List.Mem.tail _ (List.Mem.tail _ (List.Mem.head _)))))) rfl)) rfl rfl ?_) | (refine Xg.st (StF.boxAgg rfl rfl) rfl rfl ?_; rintro _ _ ⟨bx, rfl, rfl⟩) | (refine Xg.st (StF.alloc rfl Try.zeroValue28 rfl) rfl rfl ?_; rintro _ _ ⟨bx, rfl, rfl⟩) | (refine Xg.st0 (StF.storeOne (i := 0) rfl rfl rfl rfl (te rfl) rfl rfl (Nat.le_of_ble_eq_true rfl)) rfl ?_; rintro _ _ ⟨rfl, rfl⟩; dsimp only [List.set]) | (refine Xg.st0 (StF.storeAll (i := 0) rfl rfl rfl (te rfl) rfl rfl rfl rfl) rfl ?_; rintro _ _ ⟨rfl, rfl⟩; dsimp only [List.set]))) | (refine Xo.g rfl rfl ?_; (first | (with_reducible refine Xw.tf rfl rfl ?_) | (with_reducible refine Xw.caseB (fun h => ?_) (fun h => ?_) <;> simp only [h, decide_true, decide_false, Bool.not_true, Bool.not_false, and_self, and_true, true_and, and_false, false_and]))))) | (refine XO.done rfl ?_; refine hK _ _ ?_; clear hK K) | refine X.seq rfl ?_ | refine X.region rfl (fun K hK => ?_) | refine X.skip rfl ?_ | (refine X.ite rfl rfl (fun hc => ?_); (first | (with_reducible refine Xb.t hc ?_) | (with_reducible refine Xb.caseB hc (fun h => ?_) (fun h => ?_))) <;> clear hc))
      all_goals try (exfalso; contradiction)
      obtain ⟨b6, hb6⟩ : ∃ b, b = bx := ⟨_, rfl⟩
      rw [← hb6]
      clear hb6
      have hW : ∀ r r4 r5 r6, TmOk (r :: rI U.G t1 k1 :: rI U.S t2 k2 :: r4 :: r5 :: r6 :: H) (withB U T.bales) (plT t1 k1 t2 k2) := fun r r4 r5 r6 => ownT (withB U T.bales) t1 k1 t2 k2 _ hU.l1 hU.l2 (List.Mem.tail _ (List.Mem.head _)) (List.Mem.tail _ (List.Mem.tail _ (List.Mem.head _)))
      repeat' (first | (refine XO.op rfl ?_; (first | ((first | refine Xo.ng rfl ?_); (first | (refine Xg.call (EnF.st rfl (Args.cons rfl (Args.cons rfl Args.nil))) rfl rfl (sameT_spec T (withB U T.bales) p (plT t1 k1 t2 k2) _ (hT1 [_, _, _, _, _, _]) (hW _ _ _ _)) ?_; rintro _ H9 ⟨rfl, hH9⟩; subst H9) | (refine Xg.call (EnF.st rfl (by (repeat (first | exact Args.nil | refine Args.cons rfl ?_)); done)) rfl rfl (twin_spec T p _ (hT1 [_, _, _, _, _, _])) ?_; rintro _ _ ⟨t3, k3, t4, k4, rfl, rfl⟩) | (refine Xg.ev (EvF.tz rfl) rfl rfl ?_) | (refine Xg.ev (EvF.loadV rfl rfl (LoadV.own (te rfl) rfl (List.Mem.tail _ (List.Mem.tail _ (List.Mem.tail _ (List.Mem.tail _ (List.Mem.tail _ (List.Mem.tail _ (List.Mem.tail _ (List.Mem.head _)))))))) rfl)) rfl rfl ?_) | (refine Xg.ev (EvF.loadV rfl rfl (LoadV.own (te rfl) rfl (List.Mem.tail _ (List.Mem.tail _ (List.Mem.tail _ (List.Mem.tail _ (List.Mem.tail _ (List.Mem.tail _ (List.Mem.tail _ (List.Mem.tail _ (List.Mem.head _))))))))) rfl)) rfl rfl ?_) | (refine Xg.st0 (StF.storeAll (i := 6) rfl rfl rfl (te rfl) rfl rfl rfl rfl) rfl ?_; rintro _ _ ⟨rfl, rfl⟩; dsimp only [List.set]) | (refine Xg.ev (EvF.assign rfl rfl) rfl rfl ?_) | (refine Xg.ev (EvF.cmp rfl rfl rfl rfl) rfl rfl ?_) | (refine Xg.ev (EvF.add64 rfl rfl rfl (by omega) (by omega)) rfl rfl ?_) | (refine Xg.ev (EvF.not rfl rfl) rfl rfl ?_) | (refine Xg.ev (EvF.fieldAddr rfl rfl (te rfl) rfl (te rfl) (by decide)) rfl rfl ?_) | (refine Xg.ev (EvF.loadV rfl rfl (LoadV.own (te rfl) rfl (List.Mem.tail _ (List.Mem.tail _ (List.Mem.tail _ (List.Mem.tail _ (List.Mem.head _))))) rfl)) rfl rfl ?_) | (refine Xg.ev (EvF.loadV rfl rfl (LoadV.own (te rfl) rfl (List.Mem.tail _ (List.Mem.tail _ (List.Mem.tail _ (List.Mem.tail _ (List.Mem.tail _ (List.Mem.head _)))))) rfl)) rfl rfl ?_) | (refine Xg.ev (EvF.loadV rfl rfl (LoadV.whole (te rfl) rfl (List.Mem.head _) rfl)) rfl rfl ?_) | (refine Xg.ev (EvF.loadV rfl rfl (LoadV.whole (te rfl) rfl (List.Mem.tail _ (List.Mem.tail _ (List.Mem.tail _ (List.Mem.tail _ (List.Mem.tail _ (List.Mem.head _)))))) rfl)) rfl rfl ?_) | (refine Xg.st (StF.alloc rfl Try.zeroValue28 rfl) rfl rfl ?_; rintro _ _ ⟨bx, rfl, rfl⟩) | (refine Xg.st0 (StF.storeOne (i := 0) rfl rfl rfl rfl (te rfl) rfl rfl (Nat.le_of_ble_eq_true rfl)) rfl ?_; rintro _ _ ⟨rfl, rfl⟩; dsimp only [List.set]) | (refine Xg.st0 (StF.storeAll (i := 0) rfl rfl rfl (te rfl) rfl rfl rfl rfl) rfl ?_; rintro _ _ ⟨rfl, rfl⟩; dsimp only [List.set]) | (refine Xg.st0 (StF.storeAll (i := 3) rfl rfl rfl (te rfl) rfl rfl rfl rfl) rfl ?_; rintro _ _ ⟨rfl, rfl⟩; dsimp only [List.set]))))) | (refine XO.done rfl ?_; refine hK _ _ ?_; clear hK K) | refine X.seq rfl ?_ | refine X.region rfl (fun K hK => ?_) | refine X.skip rfl ?_ | refine X.ret rfl ?_ | (refine X.ite rfl rfl (fun hc => ?_); (first | (with_reducible refine Xb.case hc (fun h => ?_) (fun h => ?_)) | (with_reducible refine Xb.caseN hc (fun h => ?_) (fun h => ?_))) <;> clear hc))
      · exact ret_two (v := .agg (cTm Tz pz).toArray) (by first | exact .inr rfl | exact .inl rfl) Try.results46 ⟨_, rfl, LoadV.whole (te rfl) rfl (List.Mem.tail _ (List.Mem.tail _ (List.Mem.tail _ (List.Mem.head _)))) rfl⟩ rfl (H' := H) (by (repeat (first | exact List.Sublist.refl _ | apply List.Sublist.cons)); done) (progT_no (joinF_na ⟨hok, hok2⟩ (by assumption)) H)
      · exact ret_two (v := .agg (cTm Tz pz).toArray) (by first | exact .inr rfl | exact .inl rfl) Try.results46 ⟨_, rfl, LoadV.whole (te rfl) rfl (List.Mem.tail _ (List.Mem.tail _ (List.Mem.tail _ (List.Mem.head _)))) rfl⟩ rfl (H' := H) (by (repeat (first | exact List.Sublist.refl _ | apply List.Sublist.cons)); done) (progT_no (joinF_nf ⟨hok, hok2⟩ (by assumption) (by assumption)) H)
      · rw [joinF_ok ⟨hok, hok2⟩ (by assumption) (by assumption)]
        exact ret_two (v := .agg (cTm (withB T (T.bales + U.bales)) (plT t3 k3 t4 k4)).toArray) (by first | exact .inr rfl | exact .inl rfl) Try.results46 ⟨_, rfl, LoadV.whole (te rfl) rfl (List.Mem.tail _ (List.Mem.tail _ (List.Mem.tail _ (List.Mem.tail _ (List.Mem.tail _ (List.Mem.tail _ (List.Mem.head _))))))) rfl⟩ rfl (H' := rI T.G t3 k3 :: rI T.S t4 k4 :: H) (by (repeat (first | exact List.Sublist.refl _ | apply List.Sublist.cons_cons | apply List.Sublist.cons)); done) ⟨_, _, rfl, OwnTm.two (withB T (T.bales + U.bales)) t3 k3 t4 k4, rfl⟩
    · refine Fc.mk (callable Try.call46) Try.func46 rfl Try.ntmps46 rfl ?_; dsimp only [fr]
      repeat' (first | (refine XO.op rfl ?_; (first | ((first | refine Xo.ng rfl ?_ | (refine Xo.g rfl rfl ?_; with_reducible refine Xw.ff ?_)); (first | (refine Xg.call (EnF.st rfl (Args.cons rfl Args.nil)) rfl rfl (rtermsT T p hok _ (hT1 [_, _, _])) ?_; rintro _ H9 ⟨rfl, hH9⟩; subst H9) | (refine Xg.call (EnF.st rfl (Args.cons rfl Args.nil)) rfl rfl (rtermsF U q hok2 _ (hU1 [_, _, _])) ?_; rintro _ H9 ⟨rfl, hH9⟩; subst H9) | (refine Xg.ev (EvF.tz rfl) rfl rfl ?_) | (refine Xg.ev (EvF.move rfl rfl) rfl rfl ?_) | (refine Xg.ev (EvF.assign rfl rfl) rfl rfl ?_) | (refine Xg.ev (EvF.pickT rfl rfl rfl) rfl rfl ?_) | (refine Xg.ev (EvF.pickF rfl rfl rfl) rfl rfl ?_) | (refine Xg.ev (EvF.not rfl rfl) rfl rfl ?_) | (refine Xg.ev (EvF.loadV rfl rfl (LoadV.whole (te rfl) rfl (List.Mem.tail _ (List.Mem.head _)) rfl)) rfl rfl ?_) | (refine Xg.ev (EvF.loadV rfl rfl (LoadV.whole (te rfl) rfl (List.Mem.tail _ (List.Mem.tail _ (List.Mem.head _))) rfl)) rfl rfl ?_) | (refine Xg.st (StF.boxAgg rfl rfl) rfl rfl ?_; rintro _ _ ⟨bx, rfl, rfl⟩) | (refine Xg.st (StF.alloc rfl Try.zeroValue28 rfl) rfl rfl ?_; rintro _ _ ⟨bx, rfl, rfl⟩) | (refine Xg.st0 (StF.storeAll (i := 0) rfl rfl rfl (te rfl) rfl rfl rfl rfl) rfl ?_; rintro _ _ ⟨rfl, rfl⟩; dsimp only [List.set]))) | (refine Xo.g rfl rfl ?_; (first | (with_reducible refine Xw.tf rfl rfl ?_) | (with_reducible refine Xw.caseB (fun h => ?_) (fun h => ?_) <;> simp only [h, decide_true, decide_false, Bool.not_true, Bool.not_false, and_self, and_true, true_and, and_false, false_and]))))) | (refine XO.done rfl ?_; refine hK _ _ ?_; clear hK K) | refine X.seq rfl ?_ | refine X.region rfl (fun K hK => ?_) | refine X.skip rfl ?_ | refine X.ret rfl ?_ | (refine X.ite rfl rfl (fun hc => ?_); (first | (with_reducible refine Xb.t hc ?_) | (with_reducible refine Xb.caseB hc (fun h => ?_) (fun h => ?_))) <;> clear hc))
      all_goals try (exfalso; contradiction)
      exact ret_two (v := .agg (cTm Tz pz).toArray) (by first | exact .inr rfl | exact .inl rfl) Try.results46 ⟨_, rfl, LoadV.whole (te rfl) rfl (List.Mem.head _) rfl⟩ rfl (H' := H) (by (repeat (first | exact List.Sublist.refl _ | apply List.Sublist.cons)); done) (progT_no (joinF_nt (fun h => hok2 h.2)) H)
  · refine Fc.mk (callable Try.call46) Try.func46 rfl Try.ntmps46 rfl ?_; dsimp only [fr]
    repeat' (first | (refine XO.op rfl ?_; (first | ((first | refine Xo.ng rfl ?_ | (refine Xo.g rfl rfl ?_; with_reducible refine Xw.ff ?_)); (first | (refine Xg.call (EnF.st rfl (Args.cons rfl Args.nil)) rfl rfl (rtermsF T p hok _ (hT1 [_, _, _])) ?_; rintro _ H9 ⟨rfl, hH9⟩; subst H9) | (refine Xg.ev (EvF.tz rfl) rfl rfl ?_) | (refine Xg.ev (EvF.move rfl rfl) rfl rfl ?_) | (refine Xg.ev (EvF.assign rfl rfl) rfl rfl ?_) | (refine Xg.ev (EvF.pickT rfl rfl rfl) rfl rfl ?_) | (refine Xg.ev (EvF.not rfl rfl) rfl rfl ?_) | (refine Xg.ev (EvF.loadV rfl rfl (LoadV.whole (te rfl) rfl (List.Mem.tail _ (List.Mem.head _)) rfl)) rfl rfl ?_) | (refine Xg.ev (EvF.loadV rfl rfl (LoadV.whole (te rfl) rfl (List.Mem.tail _ (List.Mem.tail _ (List.Mem.head _))) rfl)) rfl rfl ?_) | (refine Xg.st (StF.boxAgg rfl rfl) rfl rfl ?_; rintro _ _ ⟨bx, rfl, rfl⟩) | (refine Xg.st (StF.alloc rfl Try.zeroValue28 rfl) rfl rfl ?_; rintro _ _ ⟨bx, rfl, rfl⟩) | (refine Xg.st0 (StF.storeAll (i := 0) rfl rfl rfl (te rfl) rfl rfl rfl rfl) rfl ?_; rintro _ _ ⟨rfl, rfl⟩; dsimp only [List.set]))) | (refine Xo.g rfl rfl ?_; (first | (with_reducible refine Xw.tf rfl rfl ?_) | (with_reducible refine Xw.caseB (fun h => ?_) (fun h => ?_) <;> simp only [h, decide_true, decide_false, Bool.not_true, Bool.not_false, and_self, and_true, true_and, and_false, false_and]))))) | (refine XO.done rfl ?_; refine hK _ _ ?_; clear hK K) | refine X.seq rfl ?_ | refine X.region rfl (fun K hK => ?_) | refine X.ret rfl ?_ | (refine X.ite rfl rfl (fun hc => ?_); (first | (with_reducible refine Xb.t hc ?_)) <;> clear hc))
    all_goals try (exfalso; contradiction)
    exact ret_two (v := .agg (cTm Tz pz).toArray) (by first | exact .inr rfl | exact .inl rfl) Try.results46 ⟨_, rfl, LoadV.whole (te rfl) rfl (List.Mem.head _) rfl⟩ rfl (H' := H) (by (repeat (first | exact List.Sublist.refl _ | apply List.Sublist.cons)); done) (progT_no (joinF_nt (fun h => hok h.1)) H)
def pr2 (p : Nat × Nat) : Nat := (p.1 + p.2) * (p.1 + p.2) + p.1
theorem sq_lt {s s' a c : Nat} (ha : a ≤ s) (h : s * s + a = s' * s' + c) : ¬ s < s' := fun hs => by
  have h1 := Nat.mul_le_mul (Nat.succ_le_of_lt hs) (Nat.succ_le_of_lt hs)
  have h2 : (s + 1) * (s + 1) = s * s + s + s + 1 := by rw [Nat.add_mul, Nat.mul_add]; omega
  have h3 : s.succ * s.succ = (s + 1) * (s + 1) := rfl
  omega
theorem pr2_inj : ∀ {p q : Nat × Nat}, pr2 p = pr2 q → p = q := by
  rintro ⟨a, b⟩ ⟨c, d⟩ h
  unfold pr2 at h
  dsimp only at h
  have h1 := sq_lt (by omega) h
  have h2 := sq_lt (by omega) h.symm
  have h3 : a + b = c + d := by omega
  rw [h3] at h
  have h4 : a = c := by omega
  have h5 : b = d := by omega
  rw [h4, h5]
open Classical in
noncomputable def un2 (n : Nat) : Nat × Nat := if h : ∃ p, pr2 p = n then h.choose else (0, 0)
theorem un2_pr2 (p : Nat × Nat) : un2 (pr2 p) = p := by
  have h : ∃ q, pr2 q = pr2 p := ⟨p, rfl⟩
  unfold un2
  rw [dif_pos h]
  exact pr2_inj h.choose_spec
/-- where the tables of a copy lie, and how much room they have -/
noncomputable def pl4 (q : Nat × Nat) : Pt := plT (un2 q.1).1 (un2 q.1).2 (un2 q.2).1 (un2 q.2).2
noncomputable def ro4 (T : Tm) (q : Nat × Nat) : List Row := [rI T.G (un2 q.1).1 (un2 q.1).2, rI T.S (un2 q.2).1 (un2 q.2).2]
theorem pl4_enc (t1 k1 t2 k2 : Nat) : pl4 (pr2 (t1, k1), pr2 (t2, k2)) = plT t1 k1 t2 k2 := by unfold pl4; simp only [un2_pr2]
theorem ro4_enc (T : Tm) (t1 k1 t2 k2 : Nat) : ro4 T (pr2 (t1, k1), pr2 (t2, k2)) = [rI T.G t1 k1, rI T.S t2 k2] := by unfold ro4; simp only [un2_pr2]
theorem ro4_own (T : Tm) (q : Nat × Nat) : OwnTm (ro4 T q) T (pl4 q) := OwnTm.two T _ _ _ _
def ProgT2 (F : Tm × Tm × Int) (H : List Row) (v : Value) (H' : List Row) : Prop := ∃ p1 p2 Z1 Z2, v = .tuple #[.agg (cTm F.1 p1).toArray, .agg (cTm F.2.1 p2).toArray, .int .i64 F.2.2] ∧ OwnTm Z1 F.1 p1 ∧ OwnTm Z2 F.2.1 p2 ∧ H' = Z1 ++ (Z2 ++ H)
theorem progT2_no {F : Tm × Tm × Int} {er : Int} (h : F = (Tz, Tz, er)) (H : List Row) : ProgT2 F H (.tuple #[.agg (cTm Tz pz).toArray, .agg (cTm Tz pz).toArray, .int .i64 er]) H := by
  rw [h]; exact ⟨pz, pz, [], [], rfl, OwnTm.zero, OwnTm.zero, rfl⟩
theorem splF_nt {T : Tm} {n : Int} (h : ¬ tmOk T) : splF T n = (Tz, Tz, 40) := if_neg h
theorem splF_nn {T : Tm} {n : Int} (h : tmOk T) (hn : ¬ (1 ≤ n ∧ n ≤ T.bales - 1)) : splF T n = (Tz, Tz, 2) := by unfold splF; rw [if_pos h, if_neg hn]
theorem splF_ok {T : Tm} {n : Int} (h : tmOk T) (hn : 1 ≤ n ∧ n ≤ T.bales - 1) : splF T n = (withB T n, withB T (T.bales - n), 0) := by unfold splF; rw [if_pos h, if_pos hn]
def tsSl : List TOp := [⟨some 25, [], [], []⟩, ⟨some 26, [], [], []⟩, ⟨some 27, [0, 1], [0, 1], []⟩, ⟨some 28, [], [], []⟩, ⟨some 29, [], [], []⟩, ⟨some 30, [4], [4], []⟩, ⟨some 31, [], [], []⟩, ⟨some 32, [4, 5, 6], [5, 6], []⟩, ⟨some 33, [0, 1, 2, 3, 4, 5, 6, 7], [3, 7], []⟩, ⟨none, [0, 1, 2, 3, 4, 5, 6, 7, 8], [2], [12]⟩, ⟨none, [0, 1, 2, 3, 4, 5, 6, 7, 8, 9], [8], [13]⟩, ⟨some 6, [0, 1, 2, 3, 4, 5, 6, 7, 8, 9, 10], [], []⟩, ⟨none, [], [], []⟩, ⟨none, [], [], []⟩]
noncomputable def valSl (b2 b4 b5 : Nat) (n : Int) (T : Tm) (p : Pt) (k : Nat) (env : Env) : Value :=
  match k with
  | 0 => .agg (cTm T p).toArray
  | 1 => .int .i64 n
  | 2 => .agg (cTm (withB T n) (pl4 (env 2))).toArray
  | 3 => .agg (cTm T p).toArray
  | 4 => .pointer (some ⟨b2, 9, none⟩)
  | 5 => .int .i64 T.bales
  | 6 => .int .i64 n
  | 7 => .int .i64 (T.bales - n)
  | 8 => .agg (cTm (withB T (T.bales - n)) (pl4 (env 8))).toArray
  | 9 => undef
  | 10 => undef
  | 11 => .int .i64 0
  | _ => undef
noncomputable def rowsSl (b2 b4 b5 : Nat) (n : Int) (T : Tm) (p : Pt) (k : Nat) (env : Env) : List Row :=
  match k with
  | 2 => [rI T.G (un2 (env 2).1).1 (un2 (env 2).1).2, rI T.S (un2 (env 2).2).1 (un2 (env 2).2).2]
  | 8 => [rI T.G (un2 (env 8).1).1 (un2 (env 8).1).2, rI T.S (un2 (env 8).2).1 (un2 (env 8).2).2]
  | 9 => [⟨b4, 0, cTm (withB T n) (pl4 (env 2)), some 28, 11⟩]
  | 10 => [⟨b5, 0, cTm (withB T (T.bales - n)) (pl4 (env 8)), some 28, 11⟩]
  | 12 => [⟨b4, 0, cTm Tz pz, some 28, 11⟩]
  | 13 => [⟨b5, 0, cTm Tz pz, some 28, 11⟩]
  | _ => []
theorem locSl (b2 b4 b5 : Nat) (n : Int) (T : Tm) (p : Pt) : ∀ k env i q9, i ≠ k → (tAt tsSl k).sup.contains i = false → valSl b2 b4 b5 n T p k (upd env i q9) = valSl b2 b4 b5 n T p k env ∧ rowsSl b2 b4 b5 n T p k (upd env i q9) = rowsSl b2 b4 b5 n T p k env := by
  intro k env i q hk hs
  have hu : ∀ j, j ≠ i → upd env i q j = env j := fun j hj => by unfold upd; rw [if_neg hj]
  match k, hk, hs with
  | 0, _, _ => exact ⟨rfl, rfl⟩
  | 1, _, _ => exact ⟨rfl, rfl⟩
  | 2, hk, hs => exact ⟨by simp only [valSl, hu 2 (fun e => hk e.symm)], by simp only [rowsSl, hu 2 (fun e => hk e.symm)]⟩
  | 3, _, _ => exact ⟨rfl, rfl⟩
  | 4, _, _ => exact ⟨rfl, rfl⟩
  | 5, _, _ => exact ⟨rfl, rfl⟩
  | 6, _, _ => exact ⟨rfl, rfl⟩
  | 7, _, _ => exact ⟨rfl, rfl⟩
  | 8, hk, hs => exact ⟨by simp only [valSl, hu 8 (fun e => hk e.symm)], by simp only [rowsSl, hu 8 (fun e => hk e.symm)]⟩
  | 9, hk, hs => exact ⟨by simp only [valSl, hu 2 (by rintro rfl; cases hs)], by simp only [rowsSl, hu 2 (by rintro rfl; cases hs)]⟩
  | 10, hk, hs => exact ⟨by simp only [valSl, hu 8 (by rintro rfl; cases hs)], by simp only [rowsSl, hu 8 (by rintro rfl; cases hs)]⟩
  | 11, _, _ => exact ⟨rfl, rfl⟩
  | 12, _, _ => exact ⟨rfl, rfl⟩
  | 13, _, _ => exact ⟨rfl, rfl⟩
  | _ + 14, _, _ => exact ⟨rfl, rfl⟩
set_option maxHeartbeats 8000000 in
theorem ksplit_spec (T : Tm) (p : Pt) (n : Int) (H : List Row) (hT : TmOk H T p) : Fc Try.prog 47 [.agg (cTm T p).toArray, .int .i64 n] H (ProgT2 (splF T n) H) := by
  have hT1 : ∀ Z : List Row, TmOk (Z ++ H) T p := fun Z => hT.sub (fun _ h => List.mem_append_right _ h)
  by_cases hok : tmOk T
  · have l1 := hok.gr.1
    have l2 := hok.st.1
    have n1 := hok.num.2.2.1
    refine Fc.mk (callable Try.call47) Try.func47 rfl Try.ntmps47 rfl ?_; dsimp only [fr]
    repeat' (first | (refine XO.op rfl ?_; (first | ((first | refine Xo.ng rfl ?_); (first | (refine Xg.call (EnF.st rfl (Args.cons rfl Args.nil)) rfl rfl (checkT T p hok _ (hT1 [_, _, _])) ?_; rintro _ H9 ⟨rfl, hH9⟩; subst H9) | (refine Xg.ev (EvF.build (cs := cSp ⟨1, T.bales - 1⟩) rfl (ArgsP.cons rfl (ArgsP.cons rfl ArgsP.nil)) (te rfl) (Places.cons (te rfl) (Places.cons (te rfl) Places.nil)) Try.zeroValue26 rfl) rfl rfl ?_) | (refine Xg.st (StF.buildOne rfl elI rfl rfl rfl (by decide) (by decide)) rfl rfl ?_; rintro _ _ ⟨bs, rfl, rfl⟩) | (refine Xg.call (EnF.st rfl (Args.cons rfl (Args.cons rfl Args.nil))) rfl rfl (within1_spec ⟨1, T.bales - 1⟩ n _ _ _ _ _ (List.Mem.head _)) ?_; rintro _ H9 ⟨rfl, hH9⟩; subst H9) | (refine Xg.ev (EvF.tz rfl) rfl rfl ?_) | (refine Xg.ev (EvF.move rfl rfl) rfl rfl ?_) | (refine Xg.ev (EvF.assign rfl rfl) rfl rfl ?_) | (refine Xg.ev (EvF.cmp rfl rfl rfl rfl) rfl rfl ?_) | (refine Xg.ev (EvF.sub64 rfl rfl rfl (by omega) (by omega)) rfl rfl ?_) | (refine Xg.ev (EvF.not rfl rfl) rfl rfl ?_) | (refine Xg.ev (EvF.fieldAddr rfl rfl (te rfl) rfl (te rfl) (by decide)) rfl rfl ?_) | (refine Xg.ev (EvF.loadV rfl rfl (LoadV.own (te rfl) rfl (List.Mem.tail _ (List.Mem.tail _ (List.Mem.head _))) rfl)) rfl rfl ?_) | (refine Xg.ev (EvF.loadV rfl rfl (LoadV.whole (te rfl) rfl (List.Mem.tail _ (List.Mem.tail _ (List.Mem.head _))) rfl)) rfl rfl ?_) | (refine Xg.st (StF.boxAgg rfl rfl) rfl rfl ?_; rintro _ _ ⟨bx, rfl, rfl⟩) | (refine Xg.st (StF.alloc rfl Try.zeroValue28 rfl) rfl rfl ?_; rintro _ _ ⟨bx, rfl, rfl⟩) | (refine Xg.st0 (StF.storeAll (i := 0) rfl rfl rfl (te rfl) rfl rfl rfl rfl) rfl ?_; rintro _ _ ⟨rfl, rfl⟩; dsimp only [List.set]) | (refine Xg.st0 (StF.storeAll (i := 1) rfl rfl rfl (te rfl) rfl rfl rfl rfl) rfl ?_; rintro _ _ ⟨rfl, rfl⟩; dsimp only [List.set]) | (refine Xg.st0 (StF.storeAll (i := 2) rfl rfl rfl (te rfl) rfl rfl rfl rfl) rfl ?_; rintro _ _ ⟨rfl, rfl⟩; dsimp only [List.set]))))) | (refine XO.done rfl ?_; refine hK _ _ ?_; clear hK K) | refine X.seq rfl ?_ | refine X.region rfl (fun K hK => ?_) | refine X.skip rfl ?_ | refine X.ret rfl ?_ | (refine X.ite rfl rfl (fun hc => ?_); (first | (with_reducible refine Xb.caseN hc (fun h => ?_) (fun h => ?_))) <;> clear hc))
    all_goals try (exfalso; contradiction)
    all_goals try (exfalso; omega)
    · exact ret_three (v := .agg (cTm Tz pz).toArray) (v' := .agg (cTm Tz pz).toArray) (by first | exact .inr rfl | exact .inl rfl) Try.results47 ⟨_, rfl, LoadV.whole (te rfl) rfl (List.Mem.tail _ (List.Mem.tail _ (List.Mem.head _))) rfl⟩ ⟨_, rfl, LoadV.whole (te rfl) rfl (List.Mem.tail _ (List.Mem.head _)) rfl⟩ rfl (H' := H) (by (repeat (first | exact List.Sublist.refl _ | apply List.Sublist.cons)); done) (progT2_no (splF_nn hok (by assumption)) H)
    rename_i b2 b4 h0
    have hn : 1 ≤ n ∧ n ≤ T.bales - 1 := h
    obtain ⟨b5, hb5⟩ : ∃ b, b = bx := ⟨_, rfl⟩
    rw [← hb5]
    clear hb5 h
    rw [splF_ok hok hn]
    refine X.weakR (H' := ⟨b5, 0, cTm Tz pz, some 28, 11⟩ :: ⟨b4, 0, cTm Tz pz, some 28, 11⟩ :: ⟨b2, 0, cTm T p, some 28, 11⟩ :: H) (by (repeat (first | exact List.Sublist.refl _ | apply List.Sublist.cons_cons | apply List.Sublist.cons)); done) ?_
    refine X.permH (H' := ⟨b4, 0, cTm Tz pz, some 28, 11⟩ :: ⟨b5, 0, cTm Tz pz, some 28, 11⟩ :: ⟨b2, 0, cTm T p, some 28, 11⟩ :: H) (List.Perm.swap _ _ _) ?_
    refine X.regionOb tsSl [1, 2, 4, 5] [(1, .int .i64 n), (2, .pointer (some ⟨b2, 0, none⟩)), (4, .pointer (some ⟨b4, 0, none⟩)), (5, .pointer (some ⟨b5, 0, none⟩))] (valSl b2 b4 b5 n T p) (rowsSl b2 b4 b5 n T p) (fun _ => (0, 0)) (⟨b2, 0, cTm T p, some 28, 11⟩ :: H) rfl mixed (by (repeat (first | exact Sub.nil _ | refine Sub.cons rfl ?_)); done) rfl (by kernel_rfl) (locSl b2 b4 b5 n T p) (List.Sublist.refl _) ?_ ?_
    · have hs : ∀ (S : List Row), (∀ r ∈ ⟨b2, 0, cTm T p, some 28, 11⟩ :: H, r ∈ S) → TmOk S T p := fun S hS => hT.sub (fun r hr => hS r (List.mem_cons_of_mem _ hr))
      repeat' (first | exact AllF.done rfl | (refine AllF.step rfl ?_ ?_; · (first | fail | ((first | refine Ob.ng rfl ?_); (first | exact ObK.pure (fun env R hR => by exact ⟨_, EvF.move rfl rfl, rfl⟩) rfl (fun _ => rfl) | exact ObK.pure (fun env R hR => by exact ⟨_, EvF.assign rfl rfl, rfl⟩) rfl (fun _ => rfl) | exact ObK.pure (fun env R hR => by exact ⟨_, EvF.fieldAddr rfl rfl (te rfl) rfl (te rfl) (by decide), rfl⟩) rfl (fun _ => rfl) | exact ObK.pure (fun env R hR => by exact ⟨_, EvF.loadV rfl rfl (LoadV.own (te rfl) rfl (hR _ (List.Mem.head _)) rfl), rfl⟩) rfl (fun _ => rfl) | exact ObK.pure (fun env R hR => by exact ⟨_, EvF.loadV rfl rfl (LoadV.whole (te rfl) rfl (hR _ (List.Mem.head _)) rfl), rfl⟩) rfl (fun _ => rfl) | (exact fun env S hS => (OpF.call (EnF.st rfl (Args.cons rfl (Args.cons rfl Args.nil))) (withBales_spec T p n _ (hs S hS) (by omega) (by omega))).mono (fun v H' ⟨t1, k1, t2, k2, hv, hH⟩ => ⟨(pr2 (t1, k1), pr2 (t2, k2)), fun _ => by (show v = .agg (cTm (withB T n) (pl4 (pr2 (t1, k1), pr2 (t2, k2)))).toArray; rw [pl4_enc]; exact hv), by (show List.Perm H' (ro4 T (pr2 (t1, k1), pr2 (t2, k2)) ++ _); rw [hH, ro4_enc]; exact List.Perm.refl _)⟩)) | (exact fun env S hS => (OpF.call (EnF.st rfl (Args.cons rfl (Args.cons rfl Args.nil))) (withBales_spec T p (T.bales - n) _ (hs S hS) (by omega) (by omega))).mono (fun v H' ⟨t1, k1, t2, k2, hv, hH⟩ => ⟨(pr2 (t1, k1), pr2 (t2, k2)), fun _ => by (show v = .agg (cTm (withB T (T.bales - n)) (pl4 (pr2 (t1, k1), pr2 (t2, k2)))).toArray; rw [pl4_enc]; exact hv), by (show List.Perm H' (ro4 T (pr2 (t1, k1), pr2 (t2, k2)) ++ _); rw [hH, ro4_enc]; exact List.Perm.refl _)⟩)) | (exact ObK.pure (fun env S hS => ⟨_, EvF.sub64 rfl rfl rfl (by omega) (by omega), rfl⟩) rfl (fun _ => rfl)) | (exact fun env S hS => (StF.storeAll (i := 0) (vs := cTm (withB T n) (pl4 (env 2))) (cs := cTm Tz pz) rfl rfl rfl (te rfl) rfl rfl rfl rfl).op.mono (fun v H' ⟨hv, hH⟩ => ⟨(0, 0), fun h => absurd rfl h, by rw [hH]; exact List.Perm.refl _⟩)) | (exact fun env S hS => (StF.storeAll (i := 0) (vs := cTm (withB T (T.bales - n)) (pl4 (env 8))) (cs := cTm Tz pz) rfl rfl rfl (te rfl) rfl rfl rfl rfl).op.mono (fun v H' ⟨hv, hH⟩ => ⟨(0, 0), fun h => absurd rfl h, by rw [hH]; exact List.Perm.refl _⟩)))))))
    · intro env t ha hv
      refine ⟨_, ha.cons (hv 11 6 (Nat.le_of_ble_eq_true rfl) rfl), ?_⟩
      show X _ _ _ _ (ro4 T (env 2) ++ (ro4 T (env 8) ++ (⟨b4, 0, cTm (withB T n) (pl4 (env 2)), some 28, 11⟩ :: ⟨b5, 0, cTm (withB T (T.bales - n)) (pl4 (env 8)), some 28, 11⟩ :: ⟨b2, 0, cTm T p, some 28, 11⟩ :: H))) _
      refine X.permH (H' := ⟨b4, 0, cTm (withB T n) (pl4 (env 2)), some 28, 11⟩ :: ⟨b5, 0, cTm (withB T (T.bales - n)) (pl4 (env 8)), some 28, 11⟩ :: ⟨b2, 0, cTm T p, some 28, 11⟩ :: (ro4 T (env 2) ++ (ro4 T (env 8) ++ H))) ?_ ?_
      · exact (List.perm_append_comm_assoc [_, _, _] (ro4 T (env 2)) _).trans (List.Perm.append_left _ (List.perm_append_comm_assoc [_, _, _] (ro4 T (env 8)) _))
      repeat' (first | refine X.ret rfl ?_)
      exact ret_three (v := .agg (cTm (withB T n) (pl4 (env 2))).toArray) (v' := .agg (cTm (withB T (T.bales - n)) (pl4 (env 8))).toArray) (by first | exact .inr rfl | exact .inl rfl) Try.results47 ⟨_, rfl, LoadV.whole (te rfl) rfl (List.Mem.head _) rfl⟩ ⟨_, rfl, LoadV.whole (te rfl) rfl (List.Mem.tail _ (List.Mem.head _)) rfl⟩ rfl (H' := ro4 T (env 2) ++ (ro4 T (env 8) ++ H)) (by (repeat (first | exact List.Sublist.refl _ | apply List.Sublist.cons)); done) ⟨_, _, _, _, rfl, ro4_own (withB T n) (env 2), ro4_own (withB T (T.bales - n)) (env 8), rfl⟩
  · refine Fc.mk (callable Try.call47) Try.func47 rfl Try.ntmps47 rfl ?_; dsimp only [fr]
    repeat' (first | (refine XO.op rfl ?_; (first | ((first | refine Xo.ng rfl ?_); (first | (refine Xg.call (EnF.st rfl (Args.cons rfl Args.nil)) rfl rfl (checkF T p hok _ (hT1 [_, _, _])) ?_; rintro _ H9 ⟨rfl, hH9⟩; subst H9) | (refine Xg.ev (EvF.tz rfl) rfl rfl ?_) | (refine Xg.ev (EvF.move rfl rfl) rfl rfl ?_) | (refine Xg.ev (EvF.assign rfl rfl) rfl rfl ?_) | (refine Xg.ev (EvF.cmp rfl rfl rfl rfl) rfl rfl ?_) | (refine Xg.ev (EvF.sub64 rfl rfl rfl (by omega) (by omega)) rfl rfl ?_) | (refine Xg.ev (EvF.fieldAddr rfl rfl (te rfl) rfl (te rfl) (by decide)) rfl rfl ?_) | (refine Xg.ev (EvF.loadV rfl rfl (LoadV.own (te rfl) rfl (List.Mem.tail _ (List.Mem.tail _ (List.Mem.head _))) rfl)) rfl rfl ?_) | (refine Xg.ev (EvF.loadV rfl rfl (LoadV.whole (te rfl) rfl (List.Mem.tail _ (List.Mem.tail _ (List.Mem.head _))) rfl)) rfl rfl ?_) | (refine Xg.st (StF.boxAgg rfl rfl) rfl rfl ?_; rintro _ _ ⟨bx, rfl, rfl⟩) | (refine Xg.st (StF.alloc rfl Try.zeroValue28 rfl) rfl rfl ?_; rintro _ _ ⟨bx, rfl, rfl⟩) | (refine Xg.st0 (StF.storeAll (i := 0) rfl rfl rfl (te rfl) rfl rfl rfl rfl) rfl ?_; rintro _ _ ⟨rfl, rfl⟩; dsimp only [List.set]) | (refine Xg.st0 (StF.storeAll (i := 1) rfl rfl rfl (te rfl) rfl rfl rfl rfl) rfl ?_; rintro _ _ ⟨rfl, rfl⟩; dsimp only [List.set]))))) | (refine XO.done rfl ?_; refine hK _ _ ?_; clear hK K) | refine X.seq rfl ?_ | refine X.region rfl (fun K hK => ?_) | refine X.skip rfl ?_ | refine X.ret rfl ?_ | (refine X.ite rfl rfl (fun hc => ?_); (first | (with_reducible refine Xb.caseN hc (fun h => ?_) (fun h => ?_))) <;> clear hc))
    all_goals try (exfalso; contradiction)
    all_goals try (exfalso; omega)
    exact ret_three (v := .agg (cTm Tz pz).toArray) (v' := .agg (cTm Tz pz).toArray) (by first | exact .inr rfl | exact .inl rfl) Try.results47 ⟨_, rfl, LoadV.whole (te rfl) rfl (List.Mem.tail _ (List.Mem.head _)) rfl⟩ ⟨_, rfl, LoadV.whole (te rfl) rfl (List.Mem.head _) rfl⟩ rfl (H' := H) (by (repeat (first | exact List.Sublist.refl _ | apply List.Sublist.cons)); done) (progT2_no (splF_nt hok) H)
end Go.Proofs.Ytcjlegjchllgjaa
end
section
set_option linter.unusedVariables false
set_option linter.unusedSimpArgs false
namespace Go.Proofs.Ytcjlegjchllgjaa
open Go Go.Fw
set_option maxRecDepth 10000
def tsRa : List TOp := [⟨some 22, [], [], []⟩, ⟨some 23, [0], [0], []⟩, ⟨some 24, [], [], []⟩, ⟨some 25, [0, 1, 2], [2], []⟩, ⟨some 7, [], [], []⟩, ⟨some 8, [], [], []⟩, ⟨none, [0, 1, 2, 3, 4, 5], [4, 1], [4]⟩, ⟨none, [0, 1, 2, 3, 4, 5, 6], [5, 3], [5]⟩]
noncomputable def valRa (b2 b4 b5 : Nat) (n : Int) (T : Tm) (p : Pt) (k : Nat) (env : Env) : Value :=
  match k with
  | 0 => .agg (cTm T p).toArray
  | 1 => .agg (cTm T (pl4 (env 1))).toArray
  | 2 => .agg (cTm T p).toArray
  | 3 => .agg (cTm T (pl4 (env 3))).toArray
  | 4 => .pointer (some ⟨(env 4).1, 0, none⟩)
  | 5 => .pointer (some ⟨(env 5).1, 0, none⟩)
  | 6 => undef
  | 7 => undef
  | _ => undef
noncomputable def rowsRa (b2 b4 b5 : Nat) (n : Int) (T : Tm) (p : Pt) (k : Nat) (env : Env) : List Row :=
  match k with
  | 1 => [rI T.G (un2 (env 1).1).1 (un2 (env 1).1).2, rI T.S (un2 (env 1).2).1 (un2 (env 1).2).2]
  | 3 => [rI T.G (un2 (env 3).1).1 (un2 (env 3).1).2, rI T.S (un2 (env 3).2).1 (un2 (env 3).2).2]
  | 4 => [⟨(env 4).1, 0, cTm Tz pz, some 28, 11⟩]
  | 5 => [⟨(env 5).1, 0, cTm Tz pz, some 28, 11⟩]
  | 6 => [⟨(env 4).1, 0, cTm T (pl4 (env 1)), some 28, 11⟩]
  | 7 => [⟨(env 5).1, 0, cTm T (pl4 (env 3)), some 28, 11⟩]
  | _ => []
theorem locRa (b2 b4 b5 : Nat) (n : Int) (T : Tm) (p : Pt) : ∀ k env i q9, i ≠ k → (tAt tsRa k).sup.contains i = false → valRa b2 b4 b5 n T p k (upd env i q9) = valRa b2 b4 b5 n T p k env ∧ rowsRa b2 b4 b5 n T p k (upd env i q9) = rowsRa b2 b4 b5 n T p k env := by
  intro k env i q hk hs
  have hu : ∀ j, j ≠ i → upd env i q j = env j := fun j hj => by unfold upd; rw [if_neg hj]
  match k, hk, hs with
  | 0, _, _ => exact ⟨rfl, rfl⟩
  | 1, hk, hs => exact ⟨by simp only [valRa, hu 1 (fun e => hk e.symm)], by simp only [rowsRa, hu 1 (fun e => hk e.symm)]⟩
  | 2, _, _ => exact ⟨rfl, rfl⟩
  | 3, hk, hs => exact ⟨by simp only [valRa, hu 3 (fun e => hk e.symm)], by simp only [rowsRa, hu 3 (fun e => hk e.symm)]⟩
  | 4, hk, hs => exact ⟨by simp only [valRa, hu 4 (fun e => hk e.symm)], by simp only [rowsRa, hu 4 (fun e => hk e.symm)]⟩
  | 5, hk, hs => exact ⟨by simp only [valRa, hu 5 (fun e => hk e.symm)], by simp only [rowsRa, hu 5 (fun e => hk e.symm)]⟩
  | 6, hk, hs => exact ⟨by simp only [valRa, hu 1 (by rintro rfl; cases hs), hu 4 (by rintro rfl; cases hs)], by simp only [rowsRa, hu 1 (by rintro rfl; cases hs), hu 4 (by rintro rfl; cases hs)]⟩
  | 7, hk, hs => exact ⟨by simp only [valRa, hu 3 (by rintro rfl; cases hs), hu 5 (by rintro rfl; cases hs)], by simp only [rowsRa, hu 3 (by rintro rfl; cases hs), hu 5 (by rintro rfl; cases hs)]⟩
  | _ + 8, _, _ => exact ⟨rfl, rfl⟩
def tsRb : List TOp := [⟨some 26, [], [], []⟩, ⟨some 27, [], [], []⟩, ⟨some 28, [1], [1], []⟩, ⟨some 29, [], [], []⟩, ⟨some 30, [1, 2, 3], [2, 3], []⟩, ⟨some 31, [0], [], []⟩, ⟨none, [0, 5], [5, 0], [9]⟩, ⟨some 32, [0, 1, 2, 3, 4, 5, 6], [], []⟩, ⟨none, [0, 1, 2, 3, 4, 5, 6, 7], [7, 4], [10]⟩, ⟨none, [], [], []⟩, ⟨none, [], [], []⟩]
def valRb (b2 b4 b5 b7 b8 : Nat) (T : Tm) (q1 q2 : Pt) (n : Int) (k : Nat) (env : Env) : Value :=
  match k with
  | 0 => .int .i64 n
  | 1 => .pointer (some ⟨b2, 9, none⟩)
  | 2 => .int .i64 T.bales
  | 3 => .int .i64 n
  | 4 => .int .i64 (T.bales - n)
  | 5 => .pointer (some ⟨b7, 9, none⟩)
  | 6 => undef
  | 7 => .pointer (some ⟨b8, 9, none⟩)
  | 8 => undef
  | _ => undef
def rowsRb (b2 b4 b5 b7 b8 : Nat) (T : Tm) (q1 q2 : Pt) (n : Int) (k : Nat) (env : Env) : List Row :=
  match k with
  | 6 => [⟨b7, 0, cTm (withB T n) q1, some 28, 11⟩]
  | 8 => [⟨b8, 0, cTm (withB T (T.bales - n)) q2, some 28, 11⟩]
  | 9 => [⟨b7, 0, cTm T q1, some 28, 11⟩]
  | 10 => [⟨b8, 0, cTm T q2, some 28, 11⟩]
  | _ => []
theorem locRb (b2 b4 b5 b7 b8 : Nat) (T : Tm) (q1 q2 : Pt) (n : Int) : ∀ k env i q9, i ≠ k → (tAt tsRb k).sup.contains i = false → valRb b2 b4 b5 b7 b8 T q1 q2 n k (upd env i q9) = valRb b2 b4 b5 b7 b8 T q1 q2 n k env ∧ rowsRb b2 b4 b5 b7 b8 T q1 q2 n k (upd env i q9) = rowsRb b2 b4 b5 b7 b8 T q1 q2 n k env := by
  intro k env i q hk hs
  have hu : ∀ j, j ≠ i → upd env i q j = env j := fun j hj => by unfold upd; rw [if_neg hj]
  match k, hk, hs with
  | 0, _, _ => exact ⟨rfl, rfl⟩
  | 1, _, _ => exact ⟨rfl, rfl⟩
  | 2, _, _ => exact ⟨rfl, rfl⟩
  | 3, _, _ => exact ⟨rfl, rfl⟩
  | 4, _, _ => exact ⟨rfl, rfl⟩
  | 5, _, _ => exact ⟨rfl, rfl⟩
  | 6, _, _ => exact ⟨rfl, rfl⟩
  | 7, _, _ => exact ⟨rfl, rfl⟩
  | 8, _, _ => exact ⟨rfl, rfl⟩
  | 9, _, _ => exact ⟨rfl, rfl⟩
  | 10, _, _ => exact ⟨rfl, rfl⟩
  | _ + 11, _, _ => exact ⟨rfl, rfl⟩
def tsRc : List TOp := [⟨some 33, [], [], []⟩, ⟨some 34, [], [], []⟩, ⟨none, [0], [0], [5]⟩, ⟨none, [0, 1, 2], [1], [6]⟩, ⟨some 6, [0, 1, 2, 3], [], []⟩, ⟨none, [], [], []⟩, ⟨none, [], [], []⟩]
def valRc (b4 b5 b7 b8 : Nat) (U V : Tm) (q1 q2 : Pt) (k : Nat) (env : Env) : Value :=
  match k with
  | 0 => .agg (cTm U q1).toArray
  | 1 => .agg (cTm V q2).toArray
  | 2 => undef
  | 3 => undef
  | 4 => .int .i64 0
  | _ => undef
def rowsRc (b4 b5 b7 b8 : Nat) (U V : Tm) (q1 q2 : Pt) (k : Nat) (env : Env) : List Row :=
  match k with
  | 2 => [⟨b4, 0, cTm U q1, some 28, 11⟩]
  | 3 => [⟨b5, 0, cTm V q2, some 28, 11⟩]
  | 5 => [⟨b4, 0, cTm Tz pz, some 28, 11⟩]
  | 6 => [⟨b5, 0, cTm Tz pz, some 28, 11⟩]
  | _ => []
theorem locRc (b4 b5 b7 b8 : Nat) (U V : Tm) (q1 q2 : Pt) : ∀ k env i q9, i ≠ k → (tAt tsRc k).sup.contains i = false → valRc b4 b5 b7 b8 U V q1 q2 k (upd env i q9) = valRc b4 b5 b7 b8 U V q1 q2 k env ∧ rowsRc b4 b5 b7 b8 U V q1 q2 k (upd env i q9) = rowsRc b4 b5 b7 b8 U V q1 q2 k env := by
  intro k env i q hk hs
  have hu : ∀ j, j ≠ i → upd env i q j = env j := fun j hj => by unfold upd; rw [if_neg hj]
  match k, hk, hs with
  | 0, _, _ => exact ⟨rfl, rfl⟩
  | 1, _, _ => exact ⟨rfl, rfl⟩
  | 2, _, _ => exact ⟨rfl, rfl⟩
  | 3, _, _ => exact ⟨rfl, rfl⟩
  | 4, _, _ => exact ⟨rfl, rfl⟩
  | 5, _, _ => exact ⟨rfl, rfl⟩
  | 6, _, _ => exact ⟨rfl, rfl⟩
  | _ + 7, _, _ => exact ⟨rfl, rfl⟩
set_option maxHeartbeats 8000000 in
theorem rsplit_spec (T : Tm) (p : Pt) (n : Int) (H : List Row) (hT : TmOk H T p) : Fc Try.prog 48 [.agg (cTm T p).toArray, .int .i64 n] H (ProgT2 (splF T n) H) := by
  have hT1 : ∀ Z : List Row, TmOk (Z ++ H) T p := fun Z => hT.sub (fun _ h => List.mem_append_right _ h)
  by_cases hok : tmOk T
  · have l1 := hok.gr.1
    have l2 := hok.st.1
    have n1 := hok.num.2.2.1
    by_cases hn : 1 ≤ n ∧ n ≤ T.bales - 1
    · rw [splF_ok hok hn]
      refine Fc.mk (callable Try.call48) Try.func48 rfl Try.ntmps48 rfl ?_; dsimp only [fr]
      repeat' (first | (refine XO.op rfl ?_; (first | ((first | refine Xo.ng rfl ?_); (first | (refine Xg.call (EnF.st rfl (Args.cons rfl Args.nil)) rfl rfl (rtermsT T p hok _ (hT1 [_, _, _])) ?_; rintro _ H9 ⟨rfl, hH9⟩; subst H9) | (refine Xg.call (EnF.st rfl (Args.cons rfl (Args.cons rfl (Args.cons rfl Args.nil)))) rfl rfl (w4_spec _ _ _ _) ?_; rintro _ H9 ⟨rfl, hH9⟩; subst H9) | (refine Xg.ev (EvF.tz rfl) rfl rfl ?_) | (refine Xg.ev (EvF.move rfl rfl) rfl rfl ?_) | (refine Xg.ev (EvF.assign rfl rfl) rfl rfl ?_) | (refine Xg.ev (EvF.sub64 rfl rfl rfl (by omega) (by omega)) rfl rfl ?_) | (refine Xg.ev (EvF.not rfl rfl) rfl rfl ?_) | (refine Xg.ev (EvF.fieldAddr rfl rfl (te rfl) rfl (te rfl) (by decide)) rfl rfl ?_) | (refine Xg.ev (EvF.loadV rfl rfl (LoadV.own (te rfl) rfl (List.Mem.tail _ (List.Mem.tail _ (List.Mem.head _))) rfl)) rfl rfl ?_) | (refine Xg.ev (EvF.loadV rfl rfl (LoadV.whole (te rfl) rfl (List.Mem.tail _ (List.Mem.tail _ (List.Mem.head _))) rfl)) rfl rfl ?_) | (refine Xg.st (StF.boxAgg rfl rfl) rfl rfl ?_; rintro _ _ ⟨bx, rfl, rfl⟩) | (refine Xg.st (StF.alloc rfl Try.zeroValue28 rfl) rfl rfl ?_; rintro _ _ ⟨bx, rfl, rfl⟩) | (refine Xg.st0 (StF.storeAll (i := 0) rfl rfl rfl (te rfl) rfl rfl rfl rfl) rfl ?_; rintro _ _ ⟨rfl, rfl⟩; dsimp only [List.set]) | (refine Xg.st0 (StF.storeAll (i := 1) rfl rfl rfl (te rfl) rfl rfl rfl rfl) rfl ?_; rintro _ _ ⟨rfl, rfl⟩; dsimp only [List.set]))))) | (refine XO.done rfl ?_; refine hK _ _ ?_; clear hK K) | refine X.seq rfl ?_ | refine X.region rfl (fun K hK => ?_) | refine X.skip rfl ?_ | refine X.ret rfl ?_ | (refine X.ite rfl rfl (fun hc => ?_); (first | (with_reducible refine Xb.caseN hc (fun h => ?_) (fun h => ?_)) | (with_reducible refine Xb.caseB hc (fun h => ?_) (fun h => ?_))) <;> clear hc))
      all_goals try (exfalso; contradiction)
      all_goals try (exfalso; omega)
      rename_i b2 b4 h0
      clear h0 h
      obtain ⟨b5, hb5⟩ : ∃ b, b = bx := ⟨_, rfl⟩
      rw [← hb5]
      clear hb5
      refine X.weakR (H' := ⟨b5, 0, cTm Tz pz, some 28, 11⟩ :: ⟨b4, 0, cTm Tz pz, some 28, 11⟩ :: ⟨b2, 0, cTm T p, some 28, 11⟩ :: H) (by (repeat (first | exact List.Sublist.refl _ | apply List.Sublist.cons_cons | apply List.Sublist.cons)); done) ?_
      refine X.regionOb tsRa [1, 2, 4, 5] [(1, .int .i64 n), (2, .pointer (some ⟨b2, 0, none⟩)), (4, .pointer (some ⟨b4, 0, none⟩)), (5, .pointer (some ⟨b5, 0, none⟩))] (valRa b2 b4 b5 n T p) (rowsRa b2 b4 b5 n T p) (fun _ => (0, 0)) (⟨b5, 0, cTm Tz pz, some 28, 11⟩ :: ⟨b4, 0, cTm Tz pz, some 28, 11⟩ :: ⟨b2, 0, cTm T p, some 28, 11⟩ :: H) rfl mixed (by (repeat (first | exact Sub.nil _ | refine Sub.cons rfl ?_)); done) rfl (by kernel_rfl) (locRa b2 b4 b5 n T p) (List.Sublist.refl _) ?_ ?_
      · have hs : ∀ (S : List Row), (∀ r ∈ ⟨b5, 0, cTm Tz pz, some 28, 11⟩ :: ⟨b4, 0, cTm Tz pz, some 28, 11⟩ :: ⟨b2, 0, cTm T p, some 28, 11⟩ :: H, r ∈ S) → TmOk S T p := fun S hS => hT.sub (fun r hr => hS r (List.mem_append_right [_, _, _] hr))
        repeat' (first | exact AllF.done rfl | (refine AllF.step rfl ?_ ?_; · (first | fail | ((first | refine Ob.ng rfl ?_); (first | exact ObK.pure (fun env R hR => by exact ⟨_, EvF.loadV rfl rfl (LoadV.whole (te rfl) rfl (hR _ (List.Mem.tail _ (List.Mem.tail _ (List.Mem.head _)))) rfl), rfl⟩) rfl (fun _ => rfl) | (exact fun env S hS => (OpF.call (EnF.st rfl (Args.cons rfl Args.nil)) (twin_spec T p _ (hs S hS))).mono (fun v H' ⟨t1, k1, t2, k2, hv, hH⟩ => ⟨(pr2 (t1, k1), pr2 (t2, k2)), fun _ => by (show v = .agg (cTm T (pl4 (pr2 (t1, k1), pr2 (t2, k2)))).toArray; rw [pl4_enc]; exact hv), by (show List.Perm H' (ro4 T (pr2 (t1, k1), pr2 (t2, k2)) ++ _); rw [hH, ro4_enc]; exact List.Perm.refl _)⟩)) | (exact fun env S hS => (StF.alloc rfl Try.zeroValue28 rfl).op.mono (fun v H' ⟨b, hv, hH⟩ => ⟨(b, 0), fun _ => hv, by rw [hH]; exact List.Perm.refl _⟩)) | (exact fun env S hS => (StF.storeAll (i := 0) (vs := cTm T (pl4 (env 1))) (cs := cTm Tz pz) rfl rfl rfl (te rfl) rfl rfl rfl rfl).op.mono (fun v H' ⟨hv, hH⟩ => ⟨(0, 0), fun h => absurd rfl h, by rw [hH]; exact List.Perm.refl _⟩)) | (exact fun env S hS => (StF.storeAll (i := 0) (vs := cTm T (pl4 (env 3))) (cs := cTm Tz pz) rfl rfl rfl (te rfl) rfl rfl rfl rfl).op.mono (fun v H' ⟨hv, hH⟩ => ⟨(0, 0), fun h => absurd rfl h, by rw [hH]; exact List.Perm.refl _⟩)))))))
      intro env t ha hv
      refine ⟨_, (ha.cons (hv 4 7 (Nat.le_of_ble_eq_true rfl) rfl)).cons (hv 5 8 (Nat.le_of_ble_eq_true rfl) rfl), ?_⟩
      show X _ _ _ _ (ro4 T (env 1) ++ (ro4 T (env 3) ++ (⟨(env 4).1, 0, cTm T (pl4 (env 1)), some 28, 11⟩ :: ⟨(env 5).1, 0, cTm T (pl4 (env 3)), some 28, 11⟩ :: ⟨b5, 0, cTm Tz pz, some 28, 11⟩ :: ⟨b4, 0, cTm Tz pz, some 28, 11⟩ :: ⟨b2, 0, cTm T p, some 28, 11⟩ :: H))) _
      refine X.permH (H' := ⟨(env 4).1, 0, cTm T (pl4 (env 1)), some 28, 11⟩ :: ⟨(env 5).1, 0, cTm T (pl4 (env 3)), some 28, 11⟩ :: ⟨b5, 0, cTm Tz pz, some 28, 11⟩ :: ⟨b4, 0, cTm Tz pz, some 28, 11⟩ :: ⟨b2, 0, cTm T p, some 28, 11⟩ :: (ro4 T (env 1) ++ (ro4 T (env 3) ++ H))) ?_ ?_
      · exact (List.perm_append_comm_assoc [_, _, _, _, _] (ro4 T (env 1)) _).trans (List.Perm.append_left _ (List.perm_append_comm_assoc [_, _, _, _, _] (ro4 T (env 3)) _))
      obtain ⟨HH, hHH⟩ : ∃ HH, HH = ro4 T (env 1) ++ (ro4 T (env 3) ++ H) := ⟨_, rfl⟩
      rw [← hHH]
      refine X.seq rfl ?_
      refine X.regionOb tsRb [1, 2, 4, 5, 7, 8] [(1, .int .i64 n), (2, .pointer (some ⟨b2, 0, none⟩)), (4, .pointer (some ⟨b4, 0, none⟩)), (5, .pointer (some ⟨b5, 0, none⟩)), (7, .pointer (some ⟨(env 4).1, 0, none⟩)), (8, .pointer (some ⟨(env 5).1, 0, none⟩))] (valRb b2 b4 b5 (env 4).1 (env 5).1 T (pl4 (env 1)) (pl4 (env 3)) n) (rowsRb b2 b4 b5 (env 4).1 (env 5).1 T (pl4 (env 1)) (pl4 (env 3)) n) (fun _ => (0, 0)) (⟨b5, 0, cTm Tz pz, some 28, 11⟩ :: ⟨b4, 0, cTm Tz pz, some 28, 11⟩ :: ⟨b2, 0, cTm T p, some 28, 11⟩ :: HH) rfl mixed (by (repeat (first | exact Sub.nil _ | refine Sub.cons rfl ?_)); done) rfl (by kernel_rfl) (locRb b2 b4 b5 (env 4).1 (env 5).1 T (pl4 (env 1)) (pl4 (env 3)) n) (List.Sublist.refl _) ?_ ?_
      · repeat' (first | exact AllF.done rfl | (refine AllF.step rfl ?_ ?_; · (first | fail | ((first | refine Ob.ng rfl ?_); (first | exact ObK.pure (fun env R hR => by exact ⟨_, EvF.move rfl rfl, rfl⟩) rfl (fun _ => rfl) | exact ObK.pure (fun env R hR => by exact ⟨_, EvF.fieldAddr rfl rfl (te rfl) rfl (te rfl) (by decide), rfl⟩) rfl (fun _ => rfl) | exact ObK.pure (fun env R hR => by exact ⟨_, EvF.loadV rfl rfl (LoadV.own (te rfl) rfl (hR _ (List.Mem.tail _ (List.Mem.tail _ (List.Mem.head _)))) rfl), rfl⟩) rfl (fun _ => rfl) | (exact ObK.pure (fun env S hS => ⟨_, EvF.sub64 rfl rfl rfl (by omega) (by omega), rfl⟩) rfl (fun _ => rfl)) | (exact fun env' S hS => (StF.storeOne (i := 0) (cs := cTm T (pl4 (env 1))) rfl rfl rfl rfl (te rfl) rfl rfl (Nat.le_of_ble_eq_true rfl)).op.mono (fun v H' ⟨hv, hH⟩ => ⟨(0, 0), fun h => absurd rfl h, by rw [hH]; exact List.Perm.refl _⟩)) | (exact fun env' S hS => (StF.storeOne (i := 0) (cs := cTm T (pl4 (env 3))) rfl rfl rfl rfl (te rfl) rfl rfl (Nat.le_of_ble_eq_true rfl)).op.mono (fun v H' ⟨hv, hH⟩ => ⟨(0, 0), fun h => absurd rfl h, by rw [hH]; exact List.Perm.refl _⟩)))))))
      intro env2 t2 ha2 hv2
      refine ⟨_, ha2, ?_⟩
      show X _ _ _ _ (⟨(env 4).1, 0, cTm (withB T n) (pl4 (env 1)), some 28, 11⟩ :: ⟨(env 5).1, 0, cTm (withB T (T.bales - n)) (pl4 (env 3)), some 28, 11⟩ :: ⟨b5, 0, cTm Tz pz, some 28, 11⟩ :: ⟨b4, 0, cTm Tz pz, some 28, 11⟩ :: ⟨b2, 0, cTm T p, some 28, 11⟩ :: HH) _
      refine X.permH (H' := ⟨b4, 0, cTm Tz pz, some 28, 11⟩ :: ⟨b5, 0, cTm Tz pz, some 28, 11⟩ :: ⟨(env 4).1, 0, cTm (withB T n) (pl4 (env 1)), some 28, 11⟩ :: ⟨(env 5).1, 0, cTm (withB T (T.bales - n)) (pl4 (env 3)), some 28, 11⟩ :: ⟨b2, 0, cTm T p, some 28, 11⟩ :: HH) ?_ ?_
      · exact List.Perm.append_right _ (l₁ := [_, _, _, _]) (l₂ := [_, _, _, _]) ((List.perm_append_comm (l₁ := [_, _]) (l₂ := [_, _])).trans (List.Perm.append_left [_, _] (List.Perm.swap _ _ _)))
      refine X.seq rfl ?_
      refine X.regionOb tsRc [4, 5, 7, 8] [(4, .pointer (some ⟨b4, 0, none⟩)), (5, .pointer (some ⟨b5, 0, none⟩)), (7, .pointer (some ⟨(env 4).1, 0, none⟩)), (8, .pointer (some ⟨(env 5).1, 0, none⟩))] (valRc b4 b5 (env 4).1 (env 5).1 (withB T n) (withB T (T.bales - n)) (pl4 (env 1)) (pl4 (env 3))) (rowsRc b4 b5 (env 4).1 (env 5).1 (withB T n) (withB T (T.bales - n)) (pl4 (env 1)) (pl4 (env 3))) (fun _ => (0, 0)) (⟨(env 4).1, 0, cTm (withB T n) (pl4 (env 1)), some 28, 11⟩ :: ⟨(env 5).1, 0, cTm (withB T (T.bales - n)) (pl4 (env 3)), some 28, 11⟩ :: ⟨b2, 0, cTm T p, some 28, 11⟩ :: HH) rfl mixed (by (repeat (first | exact Sub.nil _ | refine Sub.cons rfl ?_)); done) rfl (by kernel_rfl) (locRc b4 b5 (env 4).1 (env 5).1 (withB T n) (withB T (T.bales - n)) (pl4 (env 1)) (pl4 (env 3))) (List.Sublist.refl _) ?_ ?_
      · repeat' (first | exact AllF.done rfl | (refine AllF.step rfl ?_ ?_; · (first | fail | ((first | refine Ob.ng rfl ?_); (first | exact ObK.pure (fun env R hR => by exact ⟨_, EvF.assign rfl rfl, rfl⟩) rfl (fun _ => rfl) | exact ObK.pure (fun env R hR => by exact ⟨_, EvF.loadV rfl rfl (LoadV.whole (te rfl) rfl (hR _ (List.Mem.head _)) rfl), rfl⟩) rfl (fun _ => rfl) | exact ObK.pure (fun env R hR => by exact ⟨_, EvF.loadV rfl rfl (LoadV.whole (te rfl) rfl (hR _ (List.Mem.tail _ (List.Mem.head _))) rfl), rfl⟩) rfl (fun _ => rfl) | (exact fun env' S hS => (StF.storeAll (i := 0) (vs := cTm (withB T n) (pl4 (env 1))) (cs := cTm Tz pz) rfl rfl rfl (te rfl) rfl rfl rfl rfl).op.mono (fun v H' ⟨hv, hH⟩ => ⟨(0, 0), fun h => absurd rfl h, by rw [hH]; exact List.Perm.refl _⟩)) | (exact fun env' S hS => (StF.storeAll (i := 0) (vs := cTm (withB T (T.bales - n)) (pl4 (env 3))) (cs := cTm Tz pz) rfl rfl rfl (te rfl) rfl rfl rfl rfl).op.mono (fun v H' ⟨hv, hH⟩ => ⟨(0, 0), fun h => absurd rfl h, by rw [hH]; exact List.Perm.refl _⟩)))))))
      intro env3 t3 ha3 hv3
      refine ⟨_, ha3.cons (hv3 4 6 (Nat.le_of_ble_eq_true rfl) rfl), ?_⟩
      show X _ _ _ _ (⟨b4, 0, cTm (withB T n) (pl4 (env 1)), some 28, 11⟩ :: ⟨b5, 0, cTm (withB T (T.bales - n)) (pl4 (env 3)), some 28, 11⟩ :: ⟨(env 4).1, 0, cTm (withB T n) (pl4 (env 1)), some 28, 11⟩ :: ⟨(env 5).1, 0, cTm (withB T (T.bales - n)) (pl4 (env 3)), some 28, 11⟩ :: ⟨b2, 0, cTm T p, some 28, 11⟩ :: HH) _
      repeat' (first | refine X.ret rfl ?_)
      exact ret_three (v := .agg (cTm (withB T n) (pl4 (env 1))).toArray) (v' := .agg (cTm (withB T (T.bales - n)) (pl4 (env 3))).toArray) (by first | exact .inr rfl | exact .inl rfl) Try.results48 ⟨_, rfl, LoadV.whole (te rfl) rfl (List.Mem.head _) rfl⟩ ⟨_, rfl, LoadV.whole (te rfl) rfl (List.Mem.tail _ (List.Mem.head _)) rfl⟩ rfl (H' := HH) (by (repeat (first | exact List.Sublist.refl _ | apply List.Sublist.cons)); done) ⟨_, _, _, _, rfl, ro4_own (withB T n) (env 1), ro4_own (withB T (T.bales - n)) (env 3), hHH⟩
    · refine Fc.mk (callable Try.call48) Try.func48 rfl Try.ntmps48 rfl ?_; dsimp only [fr]
      repeat' (first | (refine XO.op rfl ?_; (first | ((first | refine Xo.ng rfl ?_); (first | (refine Xg.call (EnF.st rfl (Args.cons rfl Args.nil)) rfl rfl (rtermsT T p hok _ (hT1 [_, _, _])) ?_; rintro _ H9 ⟨rfl, hH9⟩; subst H9) | (refine Xg.call (EnF.st rfl (Args.cons rfl (Args.cons rfl (Args.cons rfl Args.nil)))) rfl rfl (w4_spec _ _ _ _) ?_; rintro _ H9 ⟨rfl, hH9⟩; subst H9) | (refine Xg.ev (EvF.tz rfl) rfl rfl ?_) | (refine Xg.ev (EvF.move rfl rfl) rfl rfl ?_) | (refine Xg.ev (EvF.assign rfl rfl) rfl rfl ?_) | (refine Xg.ev (EvF.sub64 rfl rfl rfl (by omega) (by omega)) rfl rfl ?_) | (refine Xg.ev (EvF.not rfl rfl) rfl rfl ?_) | (refine Xg.ev (EvF.fieldAddr rfl rfl (te rfl) rfl (te rfl) (by decide)) rfl rfl ?_) | (refine Xg.ev (EvF.loadV rfl rfl (LoadV.own (te rfl) rfl (List.Mem.tail _ (List.Mem.tail _ (List.Mem.head _))) rfl)) rfl rfl ?_) | (refine Xg.ev (EvF.loadV rfl rfl (LoadV.whole (te rfl) rfl (List.Mem.tail _ (List.Mem.tail _ (List.Mem.head _))) rfl)) rfl rfl ?_) | (refine Xg.st (StF.boxAgg rfl rfl) rfl rfl ?_; rintro _ _ ⟨bx, rfl, rfl⟩) | (refine Xg.st (StF.alloc rfl Try.zeroValue28 rfl) rfl rfl ?_; rintro _ _ ⟨bx, rfl, rfl⟩) | (refine Xg.st0 (StF.storeAll (i := 0) rfl rfl rfl (te rfl) rfl rfl rfl rfl) rfl ?_; rintro _ _ ⟨rfl, rfl⟩; dsimp only [List.set]) | (refine Xg.st0 (StF.storeAll (i := 1) rfl rfl rfl (te rfl) rfl rfl rfl rfl) rfl ?_; rintro _ _ ⟨rfl, rfl⟩; dsimp only [List.set]))))) | (refine XO.done rfl ?_; refine hK _ _ ?_; clear hK K) | (refine XQ.op rfl ?_; (first | ((first | refine Yo.ng rfl ?_); (first | (refine Yg.ev (EvF.loadV rfl rfl (LoadV.whole (te rfl) rfl (List.Mem.tail _ (List.Mem.tail _ (List.Mem.head _))) rfl)) rfl rfl ?_))))) | refine X.seq rfl ?_ | refine X.region rfl (fun K hK => ?_) | refine X.regionD rfl mixed (by kernel_rfl) (fun K hK => ?_) | refine X.skip rfl ?_ | refine X.ret rfl ?_ | (refine X.ite rfl rfl (fun hc => ?_); (first | (with_reducible refine Xb.caseN hc (fun h => ?_) (fun h => ?_)) | (with_reducible refine Xb.caseB hc (fun h => ?_) (fun h => ?_))) <;> clear hc))
      all_goals try (exfalso; contradiction)
      all_goals try (exfalso; omega)
      exact ret_three (v := .agg (cTm Tz pz).toArray) (v' := .agg (cTm Tz pz).toArray) (by first | exact .inr rfl | exact .inl rfl) Try.results48 ⟨_, rfl, LoadV.whole (te rfl) rfl (List.Mem.tail _ (List.Mem.head _)) rfl⟩ ⟨_, rfl, LoadV.whole (te rfl) rfl (List.Mem.head _) rfl⟩ rfl (H' := H) (by (repeat (first | exact List.Sublist.refl _ | apply List.Sublist.cons)); done) (progT2_no (splF_nn hok hn) H)
  · refine Fc.mk (callable Try.call48) Try.func48 rfl Try.ntmps48 rfl ?_; dsimp only [fr]
    repeat' (first | (refine XO.op rfl ?_; (first | ((first | refine Xo.ng rfl ?_); (first | (refine Xg.call (EnF.st rfl (Args.cons rfl Args.nil)) rfl rfl (rtermsF T p hok _ (hT1 [_, _, _])) ?_; rintro _ H9 ⟨rfl, hH9⟩; subst H9) | (refine Xg.ev (EvF.tz rfl) rfl rfl ?_) | (refine Xg.ev (EvF.move rfl rfl) rfl rfl ?_) | (refine Xg.ev (EvF.assign rfl rfl) rfl rfl ?_) | (refine Xg.ev (EvF.not rfl rfl) rfl rfl ?_) | (refine Xg.ev (EvF.fieldAddr rfl rfl (te rfl) rfl (te rfl) (by decide)) rfl rfl ?_) | (refine Xg.ev (EvF.loadV rfl rfl (LoadV.own (te rfl) rfl (List.Mem.tail _ (List.Mem.tail _ (List.Mem.head _))) rfl)) rfl rfl ?_) | (refine Xg.ev (EvF.loadV rfl rfl (LoadV.whole (te rfl) rfl (List.Mem.tail _ (List.Mem.tail _ (List.Mem.head _))) rfl)) rfl rfl ?_) | (refine Xg.st (StF.boxAgg rfl rfl) rfl rfl ?_; rintro _ _ ⟨bx, rfl, rfl⟩) | (refine Xg.st (StF.alloc rfl Try.zeroValue28 rfl) rfl rfl ?_; rintro _ _ ⟨bx, rfl, rfl⟩) | (refine Xg.st0 (StF.storeAll (i := 0) rfl rfl rfl (te rfl) rfl rfl rfl rfl) rfl ?_; rintro _ _ ⟨rfl, rfl⟩; dsimp only [List.set]) | (refine Xg.st0 (StF.storeAll (i := 1) rfl rfl rfl (te rfl) rfl rfl rfl rfl) rfl ?_; rintro _ _ ⟨rfl, rfl⟩; dsimp only [List.set]))))) | (refine XO.done rfl ?_; refine hK _ _ ?_; clear hK K) | refine X.seq rfl ?_ | refine X.region rfl (fun K hK => ?_) | refine X.skip rfl ?_ | refine X.ret rfl ?_ | (refine X.ite rfl rfl (fun hc => ?_); (first | (with_reducible refine Xb.caseB hc (fun h => ?_) (fun h => ?_))) <;> clear hc))
    all_goals try (exfalso; contradiction)
    exact ret_three (v := .agg (cTm Tz pz).toArray) (v' := .agg (cTm Tz pz).toArray) (by first | exact .inr rfl | exact .inl rfl) Try.results48 ⟨_, rfl, LoadV.whole (te rfl) rfl (List.Mem.tail _ (List.Mem.head _)) rfl⟩ ⟨_, rfl, LoadV.whole (te rfl) rfl (List.Mem.head _) rfl⟩ rfl (H' := H) (by (repeat (first | exact List.Sublist.refl _ | apply List.Sublist.cons)); done) (progT2_no (splF_nt hok) H)
end Go.Proofs.Ytcjlegjchllgjaa
end
section
set_option linter.unusedVariables false
set_option linter.unusedSimpArgs false
namespace Go.Proofs.Ytcjlegjchllgjaa
open Go Go.Fw
set_option maxRecDepth 10000
theorem from1_spec (n base : Int) (l : List Int) (a : Option Addr) (c bt bb cap cap' : Nat) (ow ow' : Option Kd) (H : List Row) (hm : ⟨bt, 0, [.slice a l.length c], ow, cap⟩ ∈ H) (hq : ⟨bb, 0, [.int .i64 base], ow', cap'⟩ ∈ H) (hl : SlE H a cI 1 l) (ht : tab l) (hb : 1 ≤ base ∧ base ≤ 9) (hn : -1000 ≤ n ∧ n ≤ 1000) :
    Fc Try.prog 132 ([.int .i64 n] ++ [.pointer (some ⟨bt, 0, none⟩), .pointer (some ⟨bb, 0, none⟩)]) H (fun v H' => v = .int .i64 (n - at1 l base) ∧ H' = H) := by
  show Fc Try.prog 132 [.int .i64 n, .pointer (some ⟨bt, 0, none⟩), .pointer (some ⟨bb, 0, none⟩)] H _
  have hx := at1_get hb ht.1
  have hlen := ht.1
  have q := ht.at1 hb
  obtain ⟨b1, o1, e1, rfl, _⟩ := hl.elem (i := 0) (by omega)
  refine Fc.mk (callable Try.call132) Try.func132 rfl Try.ntmps132 rfl ?_; dsimp only [fr]
  repeat' (first | (refine XO.op rfl ?_; (first | ((first | refine Xo.ng rfl ?_); (first | (refine Xg.ev (EvF.loadV rfl rfl (LoadV.own (te rfl) rfl hm rfl)) rfl rfl ?_) | (refine Xg.ev (EvF.loadV rfl rfl (LoadV.own (te rfl) rfl hq rfl)) rfl rfl ?_) | (refine Xg.ev (EvF.indexSlice rfl rfl rfl (te rfl) (te rfl) (by omega) (by omega)) rfl rfl ?_) | (refine Xg.ev (EvF.loadV rfl rfl (LoadV.el0 hl hx (te rfl) rfl (fun _ hm => hm) rfl)) rfl rfl ?_) | (refine Xg.ev (EvF.move rfl rfl) rfl rfl ?_) | (refine Xg.ev (EvF.assign rfl rfl) rfl rfl ?_) | (refine Xg.ev (EvF.sub64 rfl rfl rfl (by omega) (by omega)) rfl rfl ?_))))) | (refine XO.done rfl ?_; refine hK _ _ ?_; clear hK K) | refine X.seq rfl ?_ | refine X.region rfl (fun K hK => ?_) | refine X.ret rfl ?_)
  refine ret_one (by first | exact .inr rfl | exact .inl rfl) Try.results132 rfl (H' := H) (by (repeat (first | exact List.Sublist.refl _ | apply List.Sublist.cons)); done) ?_; simp only [and_true, true_and]
theorem numbersI_spec (g : Nat) (cap : List Value) (f : Int → Int) (l : List Int) (a : Option Addr) (c : Nat) (H : List Row) (hl : SlE H a cI 1 l) (hb : l.length ≤ 1000000) (h0 : 0 < l.length) (hg : ∀ e ∈ l, ∀ Z : List Row, Fc Try.prog g ([.int .i64 e] ++ cap) (Z ++ H) (fun v H' => v = .int .i64 (f e) ∧ H' = Z ++ H)) :
    Fc Try.prog 131 [.slice a l.length c, .func (.func g) #[] cap.toArray] H (fun v H' => ∃ b k, v = .slice (some ⟨b, 0, none⟩) l.length k ∧ H' = rI (l.map f) b k :: H) := by
  refine Fc.mk (callable Try.call131) Try.func131 rfl Try.ntmps131 rfl ?_; dsimp only [fr]
  repeat' (first | (refine XO.op rfl ?_; (first | ((first | refine Xo.ng rfl ?_); (first | (refine Xg.ev (EvF.move rfl rfl) rfl rfl ?_) | (refine Xg.ev (EvF.assign rfl rfl) rfl rfl ?_) | (refine Xg.ev (EvF.cmp rfl rfl rfl rfl) rfl rfl ?_) | (refine Xg.ev (EvF.lenSlice rfl rfl (te rfl)) rfl rfl ?_))))) | (refine XO.done rfl ?_; refine hK _ _ ?_; clear hK K) | refine X.seq rfl ?_ | refine X.region rfl (fun K hK => ?_) | refine X.block rfl ?_ | (refine X.brk rfl ?_; repeat (first | refine blockX_hit rfl ?_ | refine blockX_miss (by decide) ?_)) | refine X.skip rfl ?_ | refine X.ret rfl ?_ | (refine X.ite rfl rfl (fun hc => ?_); (first | (with_reducible refine Xb.case hc (fun h => ?_) (fun h => ?_))) <;> clear hc))
  refine X.lp rfl (fun q F' H' => ∃ (k : Nat) (out : Value) (Z : List Row), q = l.length - k ∧ k ≤ l.length ∧ ((k = 0 ∧ out = .slice none 0 0 ∧ Z = []) ∨ ∃ b q, out = .slice (some ⟨b, 0, none⟩) k q ∧ Z = [⟨b, 0, ((l.take k).map f).flatMap cI, some 3, q * 1⟩]) ∧ Z ++ H = H' ∧
      F' = [(1, .func (.func g) #[] cap.toArray), (5, out), (8, .slice a l.length c), (9, .int .i64 l.length), (10, .int .i64 k)])
    l.length [(1, .func (.func g) #[] cap.toArray), (5, .slice none 0 0), (8, .slice a l.length c), (9, .int .i64 l.length), (10, .int .i64 (0 : Nat))] _ (by (repeat (first | exact Sub.nil _ | refine Sub.cons rfl ?_)); done) (by (repeat (first | exact List.Sublist.refl _ | apply List.Sublist.cons_cons | apply List.Sublist.cons)); done) ⟨0, _, [], by omega, by omega, .inl ⟨rfl, rfl, rfl⟩, rfl, rfl⟩ ?_
  rintro _ _ H2 ⟨k, out, Z, rfl, hk, ⟨rfl, rfl, rfl⟩ | ⟨b0, q0, rfl, rfl⟩, hH, rfl⟩
  · rw [List.nil_append] at hH
    subst hH
    repeat' (first | (refine XO.op rfl ?_; (first | ((first | refine Xo.ng rfl ?_); (first | (refine Xg.ev (EvF.move rfl rfl) rfl rfl ?_) | (refine Xg.ev (EvF.assign rfl rfl) rfl rfl ?_) | (refine Xg.ev (EvF.cmp rfl rfl rfl rfl) rfl rfl ?_) | (refine Xg.ev (EvF.lenSlice rfl rfl (te rfl)) rfl rfl ?_))))) | (refine XO.done rfl ?_; refine hK _ _ ?_; clear hK K) | refine X.seq rfl ?_ | refine X.region rfl (fun K hK => ?_) | refine X.block rfl ?_ | (refine X.brk rfl ?_; repeat (first | refine blockX_hit rfl ?_ | refine blockX_miss (by decide) ?_)) | refine X.skip rfl ?_ | refine X.ret rfl ?_ | (refine X.ite rfl rfl (fun hc => ?_); (first | (with_reducible refine Xb.case hc (fun h => ?_) (fun h => ?_))) <;> clear hc))
    · obtain ⟨b, off, e, rfl, he⟩ := hl.elem (i := 0) (by omega)
      have hge := hg e (List.mem_of_getElem? he)
      repeat' (first | (refine XO.op rfl ?_; (first | ((first | refine Xo.ng rfl ?_); (first | (refine Xg.ev (EvF.loadV rfl rfl (LoadV.el1 hl he (te rfl) rfl (fun _ hm => hm) rfl)) rfl rfl ?_) | (refine Xg.call (EnF.dyn0 rfl rfl (by (repeat (first | exact Args.nil | refine Args.cons rfl ?_)); done)) rfl rfl (hge []) ?_; rintro _ H9 ⟨rfl, hH9⟩; subst H9) | (refine Xg.st (StF.buildOne rfl elI rfl rfl rfl (by decide) (by decide)) rfl rfl ?_; rintro _ _ ⟨bs, rfl, rfl⟩) | (refine Xg.st (StF.appendNew rfl elI rfl rfl (by decide) rfl (Rd.own (List.Mem.head _)) (by decide)) rfl rfl ?_; rintro _ _ ⟨bn, kn, rfl, rfl⟩) | (refine Xg.ev (EvF.move rfl rfl) rfl rfl ?_) | (refine Xg.ev (EvF.assign rfl rfl) rfl rfl ?_) | (refine Xg.ev (EvF.add64 rfl rfl rfl (by omega) (by omega)) rfl rfl ?_) | (refine Xg.ev (EvF.indexSlice rfl rfl rfl (te rfl) (te rfl) (by omega) (by omega)) rfl rfl ?_))))) | (refine XO.done rfl ?_; refine hK _ _ ?_; clear hK K) | refine X.region rfl (fun K hK => ?_))
      refine ⟨_, _, _, (by (repeat (first | exact Sub.nil _ | refine Sub.cons rfl ?_)); done), ?_, ⟨0 + 1, _, [⟨bn, 0, ((l.take (0 + 1)).map f).flatMap cI, some 3, kn * 1⟩], rfl, by omega, .inr ⟨_, _, rfl, rfl⟩, rfl, rfl⟩, by omega⟩
      rw [take_snoc he]
      exact (by (repeat (first | exact List.Sublist.refl _ | apply List.Sublist.cons_cons | apply List.Sublist.cons)); done)
    · exfalso; omega
  · have hlen : (((l.take k).map f).flatMap cI).length = k * 1 := by rw [lenI, List.length_map, List.length_take]; omega
    simp only [List.cons_append, List.nil_append] at hH
    subst hH
    repeat' (first | (refine XO.op rfl ?_; (first | ((first | refine Xo.ng rfl ?_); (first | (refine Xg.ev (EvF.move rfl rfl) rfl rfl ?_) | (refine Xg.ev (EvF.assign rfl rfl) rfl rfl ?_) | (refine Xg.ev (EvF.cmp rfl rfl rfl rfl) rfl rfl ?_) | (refine Xg.ev (EvF.lenSlice rfl rfl (te rfl)) rfl rfl ?_))))) | (refine XO.done rfl ?_; refine hK _ _ ?_; clear hK K) | refine X.seq rfl ?_ | refine X.region rfl (fun K hK => ?_) | refine X.block rfl ?_ | (refine X.brk rfl ?_; repeat (first | refine blockX_hit rfl ?_ | refine blockX_miss (by decide) ?_)) | refine X.skip rfl ?_ | refine X.ret rfl ?_ | (refine X.ite rfl rfl (fun hc => ?_); (first | (with_reducible refine Xb.case hc (fun h => ?_) (fun h => ?_))) <;> clear hc))
    · obtain ⟨b, off, e, rfl, he⟩ := hl.elem (i := k) (by omega)
      have hl1 : ∀ r, SlE (r :: H) (some ⟨b, off, none⟩) cI 1 l := fun r => hl.sub (fun _ h => List.mem_cons_of_mem _ h)
      have hge : ∀ r, Fc Try.prog g ([.int .i64 e] ++ cap) (r :: H) (fun v H' => v = .int .i64 (f e) ∧ H' = r :: H) := fun r => hg e (List.mem_of_getElem? he) [r]
      repeat' (first | (refine XO.op rfl ?_; (first | ((first | refine Xo.ng rfl ?_); (first | (refine Xg.ev (EvF.loadV rfl rfl (LoadV.el0 (hl1 _) he (te rfl) rfl (fun _ hm => hm) rfl)) rfl rfl ?_) | (refine Xg.call (EnF.dyn0 rfl rfl (by (repeat (first | exact Args.nil | refine Args.cons rfl ?_)); done)) rfl rfl (hge _) ?_; rintro _ H9 ⟨rfl, hH9⟩; subst H9) | (refine Xg.st (StF.buildOne rfl elI rfl rfl rfl (by decide) (by decide)) rfl rfl ?_; rintro _ _ ⟨bs, rfl, rfl⟩) | (refine Xg.st (StF.appendOwn (i := 1) rfl elI rfl rfl rfl hlen rfl (Rd.own (List.Mem.head _)) rfl (by omega)) rfl rfl ?_; rintro _ _ ⟨bn, kn, rfl, rfl⟩; dsimp only [List.eraseIdx]) | (refine Xg.ev (EvF.move rfl rfl) rfl rfl ?_) | (refine Xg.ev (EvF.assign rfl rfl) rfl rfl ?_) | (refine Xg.ev (EvF.add64 rfl rfl rfl (by omega) (by omega)) rfl rfl ?_) | (refine Xg.ev (EvF.indexSlice rfl rfl rfl (te rfl) (te rfl) (by omega) (by omega)) rfl rfl ?_))))) | (refine XO.done rfl ?_; refine hK _ _ ?_; clear hK K) | refine X.region rfl (fun K hK => ?_))
      refine ⟨_, _, _, (by (repeat (first | exact Sub.nil _ | refine Sub.cons rfl ?_)); done), ?_, ⟨k + 1, _, [⟨bn, 0, ((l.take (k + 1)).map f).flatMap cI, some 3, kn * 1⟩], rfl, by omega, .inr ⟨_, _, rfl, rfl⟩, rfl, rfl⟩, by omega⟩
      rw [take_snoc he, List.map_append, List.flatMap_append]
      exact (by (repeat (first | exact List.Sublist.refl _ | apply List.Sublist.cons_cons | apply List.Sublist.cons)); done)
    · obtain rfl : k = l.length := by omega
      rw [List.take_length]
      exact ret_one (by first | exact .inr rfl | exact .inl rfl) Try.results131 rfl (H' := ⟨b0, 0, (l.map f).flatMap cI, some 3, q0 * 1⟩ :: H) (by (repeat (first | exact List.Sublist.refl _ | apply List.Sublist.cons_cons | apply List.Sublist.cons)); done) ⟨b0, q0, rfl, rfl⟩
theorem from_spec (l : List Int) (base : Int) (a : Option Addr) (c : Nat) (H : List Row) (hl : SlE H a cI 1 l) (ht : tab l) (hb : 1 ≤ base ∧ base ≤ 9) :
    Fc Try.prog 101 [.slice a l.length c, .int .i64 base] H (fun v H' => ∃ b k, v = .slice (some ⟨b, 0, none⟩) l.length k ∧ H' = rI (l.map (fun n => n - at1 l base)) b k :: H) := by
  have hlen := ht.1
  refine Fc.mk (callable Try.call101) Try.func101 rfl Try.ntmps101 rfl ?_; dsimp only [fr]
  repeat' (first | (refine XO.op rfl ?_; (first | ((first | refine Xo.ng rfl ?_); (first | (refine Xg.ev (EvF.makeFunc rfl Args.nil (Args.cons rfl (Args.cons rfl Args.nil))) rfl rfl ?_) | (refine Xg.call (EnF.st rfl (by (repeat (first | exact Args.nil | refine Args.cons rfl ?_)); done)) rfl rfl (numbersI_spec 132 [_, _] (fun n => n - at1 l base) l a c _ (hl.sub (fun _ h => List.Mem.tail _ (List.Mem.tail _ h))) (by omega) (by omega) (fun e he Z => from1_spec e base l a c _ _ _ _ _ _ _ (List.mem_append_right _ (List.Mem.tail _ (List.Mem.head _))) (List.mem_append_right _ (List.Mem.head _)) (hl.sub (fun _ h => List.mem_append_right _ (List.Mem.tail _ (List.Mem.tail _ h)))) ht hb (ht.2 e he))) ?_; rintro _ _ ⟨b, k, rfl, rfl⟩) | (refine Xg.ev (EvF.assign rfl rfl) rfl rfl ?_) | (refine Xg.ev (EvF.loadV rfl rfl (LoadV.own (te rfl) rfl (List.Mem.tail _ (List.Mem.head _)) rfl)) rfl rfl ?_) | (refine Xg.st (StF.boxOne rfl rfl rfl) rfl rfl ?_; rintro _ _ ⟨bx, rfl, rfl⟩))))) | (refine XO.done rfl ?_; refine hK _ _ ?_; clear hK K) | refine X.seq rfl ?_ | refine X.region rfl (fun K hK => ?_) | refine X.ret rfl ?_)
  exact ret_one (by first | exact .inr rfl | exact .inl rfl) Try.results101 rfl (H' := rI (l.map (fun n => n - at1 l base)) b k :: H) (by (repeat (first | exact List.Sublist.refl _ | apply List.Sublist.cons_cons | apply List.Sublist.cons)); done) ⟨b, k, rfl, rfl⟩
end Go.Proofs.Ytcjlegjchllgjaa
end
section
set_option linter.unusedVariables false
set_option linter.unusedSimpArgs false
namespace Go.Proofs.Ytcjlegjchllgjaa
open Go Go.Fw
set_option maxRecDepth 10000
theorem openY (T : Tm) (p : Pt) (A : Ab) (q : Pa) (H : List Row) (hT : TmOk H T p) (hA : AbOk H A q) (hd : HD A) (hi : HI A) (h : openE T A = 0) :
    Fc Try.prog 81 [.agg (cTm T p).toArray, .agg (cAb A q).toArray] H (fun v H' => v = .tuple #[.agg (cTm T p).toArray, .int .i64 0] ∧ H' = H) := by
  have := openD_spec T p A q H hT hA hd hi
  unfold opT opP at this
  rwa [h, if_pos rfl, if_pos rfl] at this
theorem openN (T : Tm) (p : Pt) (A : Ab) (q : Pa) (H : List Row) (er : Int) (hT : TmOk H T p) (hA : AbOk H A q) (hd : HD A) (hi : HI A) (h : openE T A = er) (h0 : er ≠ 0) :
    Fc Try.prog 81 [.agg (cTm T p).toArray, .agg (cAb A q).toArray] H (fun v H' => v = .tuple #[.agg (cTm Tz pz).toArray, .int .i64 er] ∧ H' = H) := by
  have := openD_spec T p A q H hT hA hd hi
  unfold opT opP at this
  rwa [h, if_neg h0, if_neg h0] at this
theorem rebF_no {T : Tm} {c : Cl} {er : Int} (h : openE T (abI c) = er) (h0 : er ≠ 0) : rebF T c = (Tz, er) := by
  rw [openI'] at h
  unfold rebF
  by_cases h1 : askedE T c = 0
  · rw [if_pos h1] at h ⊢
    by_cases h2 : may T c = true
    · rw [if_pos h2] at h; exact absurd h.symm h0
    · rw [if_neg h2] at h ⊢; rw [h]
  · rw [if_neg h1] at h ⊢; rw [h]
theorem rebF_ok {T : Tm} {c : Cl} (h1 : askedE T c = 0) (h2 : may T c = true) : rebF T c = vld (rebT T c) := by
  unfold rebF
  rw [if_pos h1, if_pos h2]
theorem openI_ok {T : Tm} {c : Cl} (h : openE T (abI c) = 0) : askedE T c = 0 ∧ may T c = true := by
  rw [openI'] at h
  by_cases h1 : askedE T c = 0
  · rw [if_pos h1] at h
    by_cases h2 : may T c = true
    · exact ⟨h1, h2⟩
    · rw [if_neg h2] at h; exact absurd h (by decide)
  · rw [if_neg h1] at h; exact absurd h h1
def clT (T : Tm) (c : Cl) : Tm := { T with g := c.g, s := c.s }
def baT (T : Tm) (c : Cl) (v : Int) : Tm := { T with g := c.g, s := c.s, price := v }
theorem cTm_reb (T : Tm) (c : Cl) (p : Pt) : cTm (rebT T c) p = cTm (baT T c (val T c.g c.s)) p := by
  unfold cTm rebT baT
  simp only [List.length_map]
theorem okI (H : List Row) (c : Cl) (b cap : Nat) (ow : Option Kd) (hm : ⟨b, 0, cLo (lo1 c), ow, cap⟩ ∈ H) : AbOk H (abI c) ⟨none, 0, some ⟨b, 0, none⟩, 1, none, 0, some ⟨b, 0, none⟩, 1⟩ :=
  ⟨sleNil, SlE.ofRow (cap := cap) (ow := ow) hm (fun _ _ => rfl), sleNil, SlE.ofRow (cap := cap) (ow := ow) hm (fun _ _ => rfl), (fun d hd => absurd hd List.not_mem_nil), Nat.zero_le _, Nat.le_of_ble_eq_true rfl, Nat.zero_le _, Nat.le_of_ble_eq_true rfl⟩
def tsPa : List TOp := [⟨some 24, [], [], []⟩, ⟨some 25, [], [], []⟩, ⟨some 26, [], [], []⟩, ⟨some 27, [1, 2], [1, 2], []⟩, ⟨some 28, [0], [], []⟩, ⟨none, [0, 1, 2, 3, 4], [4, 0], [8]⟩, ⟨some 29, [0, 1, 2, 3, 4, 5], [], []⟩, ⟨none, [0, 1, 2, 3, 4, 5, 6], [6, 3], [5]⟩, ⟨none, [], [], []⟩]
def valPa (b2 b3 b4 b7 : Nat) (T : Tm) (p : Pt) (c : Cl) (v : Int) (k : Nat) (env : Env) : Value :=
  match k with
  | 0 => .agg (cCl c).toArray
  | 1 => .agg (cTm T p).toArray
  | 2 => .agg (cCl c).toArray
  | 3 => .int .i64 v
  | 4 => .pointer (some ⟨b2, 0, none⟩)
  | 5 => undef
  | 6 => .pointer (some ⟨b2, 2, none⟩)
  | 7 => undef
  | _ => undef
def rowsPa (b2 b3 b4 b7 : Nat) (T : Tm) (p : Pt) (c : Cl) (v : Int) (k : Nat) (env : Env) : List Row :=
  match k with
  | 5 => [⟨b2, 0, cTm (clT T c) p, some 28, 11⟩]
  | 7 => [⟨b2, 0, cTm (baT T c v) p, some 28, 11⟩]
  | 8 => [⟨b2, 0, cTm T p, some 28, 11⟩]
  | _ => []
theorem locPa (b2 b3 b4 b7 : Nat) (T : Tm) (p : Pt) (c : Cl) (v : Int) : ∀ k env i q9, i ≠ k → (tAt tsPa k).sup.contains i = false → valPa b2 b3 b4 b7 T p c v k (upd env i q9) = valPa b2 b3 b4 b7 T p c v k env ∧ rowsPa b2 b3 b4 b7 T p c v k (upd env i q9) = rowsPa b2 b3 b4 b7 T p c v k env := by
  intro k env i q hk hs
  have hu : ∀ j, j ≠ i → upd env i q j = env j := fun j hj => by unfold upd; rw [if_neg hj]
  match k, hk, hs with
  | 0, _, _ => exact ⟨rfl, rfl⟩
  | 1, _, _ => exact ⟨rfl, rfl⟩
  | 2, _, _ => exact ⟨rfl, rfl⟩
  | 3, _, _ => exact ⟨rfl, rfl⟩
  | 4, _, _ => exact ⟨rfl, rfl⟩
  | 5, _, _ => exact ⟨rfl, rfl⟩
  | 6, _, _ => exact ⟨rfl, rfl⟩
  | 7, _, _ => exact ⟨rfl, rfl⟩
  | 8, _, _ => exact ⟨rfl, rfl⟩
  | _ + 9, _, _ => exact ⟨rfl, rfl⟩
def tsPb : List TOp := [⟨some 30, [], [], []⟩, ⟨some 31, [0], [0], []⟩, ⟨some 32, [], [], []⟩, ⟨some 33, [2], [2], []⟩, ⟨some 34, [0, 1, 2, 3], [1, 3], []⟩, ⟨some 35, [], [], []⟩, ⟨some 36, [5], [5], []⟩, ⟨some 37, [], [], []⟩, ⟨some 38, [7], [7], []⟩, ⟨some 39, [0, 1, 2, 3, 4, 5, 6, 7, 8], [6, 8], []⟩, ⟨some 40, [0, 1, 2, 3, 4, 5, 6], [], []⟩, ⟨none, [0, 1, 2, 3, 4, 5, 6, 7, 8, 9, 10], [10, 4], [14]⟩, ⟨some 41, [0, 1, 2, 3, 4, 5, 6, 7, 8, 9, 10, 11], [], []⟩, ⟨none, [0, 1, 2, 3, 4, 5, 6, 7, 8, 9, 10, 11, 12], [12, 9], [11]⟩, ⟨none, [], [], []⟩]
def valPb (b2 b3 b4 : Nat) (T : Tm) (U : Tm) (c : Cl) (a1 a2 : Option Addr) (c1 c2 : Nat) (k : Nat) (env : Env) : Value :=
  match k with
  | 0 => .pointer (some ⟨b2, 5, none⟩)
  | 1 => .slice a1 T.G.length c1
  | 2 => .pointer (some ⟨b3, 0, none⟩)
  | 3 => .int .i64 c.g
  | 4 => .slice (some ⟨(env 4).1, 0, none⟩) T.G.length (env 4).2
  | 5 => .pointer (some ⟨b2, 6, none⟩)
  | 6 => .slice a2 T.S.length c2
  | 7 => .pointer (some ⟨b3, 1, none⟩)
  | 8 => .int .i64 c.s
  | 9 => .slice (some ⟨(env 9).1, 0, none⟩) T.S.length (env 9).2
  | 10 => .pointer (some ⟨b2, 5, none⟩)
  | 11 => undef
  | 12 => .pointer (some ⟨b2, 6, none⟩)
  | 13 => undef
  | _ => undef
def rowsPb (b2 b3 b4 : Nat) (T : Tm) (U : Tm) (c : Cl) (a1 a2 : Option Addr) (c1 c2 : Nat) (k : Nat) (env : Env) : List Row :=
  match k with
  | 4 => [rI (T.G.map (fun n => n - at1 T.G c.g)) (env 4).1 (env 4).2]
  | 9 => [rI (T.S.map (fun n => n - at1 T.S c.s)) (env 9).1 (env 9).2]
  | 11 => [⟨b2, 0, cTm U ⟨some ⟨(env 4).1, 0, none⟩, (env 4).2, a2, c2⟩, some 28, 11⟩]
  | 13 => [⟨b2, 0, cTm U (plT (env 4).1 (env 4).2 (env 9).1 (env 9).2), some 28, 11⟩]
  | 14 => [⟨b2, 0, cTm U ⟨a1, c1, a2, c2⟩, some 28, 11⟩]
  | _ => []
theorem locPb (b2 b3 b4 : Nat) (T : Tm) (U : Tm) (c : Cl) (a1 a2 : Option Addr) (c1 c2 : Nat) : ∀ k env i q9, i ≠ k → (tAt tsPb k).sup.contains i = false → valPb b2 b3 b4 T U c a1 a2 c1 c2 k (upd env i q9) = valPb b2 b3 b4 T U c a1 a2 c1 c2 k env ∧ rowsPb b2 b3 b4 T U c a1 a2 c1 c2 k (upd env i q9) = rowsPb b2 b3 b4 T U c a1 a2 c1 c2 k env := by
  intro k env i q hk hs
  have hu : ∀ j, j ≠ i → upd env i q j = env j := fun j hj => by unfold upd; rw [if_neg hj]
  match k, hk, hs with
  | 0, _, _ => exact ⟨rfl, rfl⟩
  | 1, _, _ => exact ⟨rfl, rfl⟩
  | 2, _, _ => exact ⟨rfl, rfl⟩
  | 3, _, _ => exact ⟨rfl, rfl⟩
  | 4, hk, hs => exact ⟨by simp only [valPb, hu 4 (fun e => hk e.symm)], by simp only [rowsPb, hu 4 (fun e => hk e.symm)]⟩
  | 5, _, _ => exact ⟨rfl, rfl⟩
  | 6, _, _ => exact ⟨rfl, rfl⟩
  | 7, _, _ => exact ⟨rfl, rfl⟩
  | 8, _, _ => exact ⟨rfl, rfl⟩
  | 9, hk, hs => exact ⟨by simp only [valPb, hu 9 (fun e => hk e.symm)], by simp only [rowsPb, hu 9 (fun e => hk e.symm)]⟩
  | 10, _, _ => exact ⟨rfl, rfl⟩
  | 11, hk, hs => exact ⟨by simp only [valPb, hu 4 (by rintro rfl; cases hs)], by simp only [rowsPb, hu 4 (by rintro rfl; cases hs)]⟩
  | 12, _, _ => exact ⟨rfl, rfl⟩
  | 13, hk, hs => exact ⟨by simp only [valPb, hu 4 (by rintro rfl; cases hs), hu 9 (by rintro rfl; cases hs)], by simp only [rowsPb, hu 4 (by rintro rfl; cases hs), hu 9 (by rintro rfl; cases hs)]⟩
  | 14, _, _ => exact ⟨rfl, rfl⟩
  | _ + 15, _, _ => exact ⟨rfl, rfl⟩
def rdPb (k : Nat) : List Nat := match k with
  | 1 => [14]
  | 6 => [14]
  | _ => []
set_option maxHeartbeats 8000000 in
theorem kreb_spec (T : Tm) (p : Pt) (c : Cl) (H : List Row) (hT : TmOk H T p) : Fc Try.prog 43 [.agg (cTm T p).toArray, .agg (cCl c).toArray] H (ProgT (rebF T c) H) := by
  have hT1 : ∀ Z : List Row, TmOk (Z ++ H) T p := fun Z => hT.sub (fun _ h => List.mem_append_right _ h)
  obtain ⟨er, her⟩ : ∃ e, openE T (abI c) = e := ⟨_, rfl⟩
  by_cases h0 : er = 0
  · subst h0
    obtain ⟨hz, hm⟩ := openI_ok her
    obtain ⟨a1, c1, a2, c2⟩ := p
    obtain ⟨hok, hg, hs⟩ := askedE_zero hz
    have hp := hok.num.1
    rw [rebF_ok hz hm]
    refine Fc.mk (callable Try.call43) Try.func43 rfl Try.ntmps43 rfl ?_; dsimp only [fr]
    repeat' (first | (refine XO.op rfl ?_; (first | ((first | refine Xo.ng rfl ?_); (first | (refine Xg.call (EnF.st rfl (Args.cons rfl Args.nil)) rfl rfl (only_spec c _) ?_; rintro _ H9 ⟨rfl, hH9⟩; subst H9) | (refine Xg.st (StF.buildOne rfl elLo rfl rfl rfl (by decide) (by decide)) rfl rfl ?_; rintro _ _ ⟨bs, rfl, rfl⟩) | (refine Xg.ev (EvF.build (cs := cAb (abI c) ⟨none, 0, some ⟨bs, 0, none⟩, 1, none, 0, some ⟨bs, 0, none⟩, 1⟩) rfl (ArgsP.cons rfl (ArgsP.cons rfl ArgsP.nil)) (te rfl) (Places.cons (te rfl) (Places.cons (te rfl) (Places.cons (te rfl) (Places.cons (te rfl) Places.nil)))) Try.zeroValue109 rfl) rfl rfl ?_) | (refine Xg.call (EnF.st rfl (Args.cons rfl (Args.cons rfl Args.nil))) rfl rfl (openY T ⟨a1, c1, a2, c2⟩ (abI c) _ _ (hT1 [_, _, _, _]) (okI _ c _ _ _ (List.Mem.head _)) HD0 HI1 her) ?_; rintro _ H9 ⟨rfl, hH9⟩; subst H9) | (refine Xg.ev (EvF.move rfl rfl) rfl rfl ?_) | (refine Xg.ev (EvF.assign rfl rfl) rfl rfl ?_) | (refine Xg.ev (EvF.cmp rfl rfl rfl rfl) rfl rfl ?_) | (refine Xg.ev (EvF.loadV rfl rfl (LoadV.whole (te rfl) rfl (List.Mem.tail _ (List.Mem.head _)) rfl)) rfl rfl ?_) | (refine Xg.ev (EvF.loadV rfl rfl (LoadV.whole (te rfl) rfl (List.Mem.tail _ (List.Mem.tail _ (List.Mem.tail _ (List.Mem.head _)))) rfl)) rfl rfl ?_) | (refine Xg.ev (EvF.extract rfl rfl rfl) rfl rfl ?_) | (refine Xg.st (StF.boxAgg rfl rfl) rfl rfl ?_; rintro _ _ ⟨bx, rfl, rfl⟩) | (refine Xg.st (StF.alloc rfl Try.zeroValue28 rfl) rfl rfl ?_; rintro _ _ ⟨bx, rfl, rfl⟩) | (refine Xg.st0 (StF.storeAll (i := 0) rfl rfl rfl (te rfl) rfl rfl rfl rfl) rfl ?_; rintro _ _ ⟨rfl, rfl⟩; dsimp only [List.set]))))) | (refine XO.done rfl ?_; refine hK _ _ ?_; clear hK K) | refine X.seq rfl ?_ | refine X.region rfl (fun K hK => ?_) | refine X.skip rfl ?_ | (refine X.ite rfl rfl (fun hc => ?_); (first | (with_reducible refine Xb.caseN hc (fun h => ?_) (fun h => ?_))) <;> clear hc))
    all_goals try (exfalso; contradiction)
    obtain ⟨b7, hb7⟩ : ∃ b, b = bx := ⟨_, rfl⟩
    rw [← hb7]
    clear hb7
    rename_i b2 b3 b4
    refine X.weakR (H' := ⟨b7, 0, cTm T ⟨a1, c1, a2, c2⟩, some 111, 11⟩ :: ⟨b4, 0, cTm Tz pz, some 28, 11⟩ :: ⟨b3, 0, cCl c, some 23, 2⟩ :: ⟨b2, 0, cTm T ⟨a1, c1, a2, c2⟩, some 28, 11⟩ :: H) (by (repeat (first | exact List.Sublist.refl _ | apply List.Sublist.cons_cons | apply List.Sublist.cons)); done) ?_
    refine X.permH (H' := ⟨b2, 0, cTm T ⟨a1, c1, a2, c2⟩, some 28, 11⟩ :: ⟨b7, 0, cTm T ⟨a1, c1, a2, c2⟩, some 111, 11⟩ :: ⟨b4, 0, cTm Tz pz, some 28, 11⟩ :: ⟨b3, 0, cCl c, some 23, 2⟩ :: H) (List.perm_middle (l₁ := [_, _, _])).symm ?_
    refine X.regionOb tsPa [2, 3, 4, 7] [(2, .pointer (some ⟨b2, 0, none⟩)), (3, .pointer (some ⟨b3, 0, none⟩)), (4, .pointer (some ⟨b4, 0, none⟩)), (7, .pointer (some ⟨b7, 0, none⟩))] (valPa b2 b3 b4 b7 T ⟨a1, c1, a2, c2⟩ c (val T c.g c.s)) (rowsPa b2 b3 b4 b7 T ⟨a1, c1, a2, c2⟩ c (val T c.g c.s)) (fun _ => (0, 0)) (⟨b7, 0, cTm T ⟨a1, c1, a2, c2⟩, some 111, 11⟩ :: ⟨b4, 0, cTm Tz pz, some 28, 11⟩ :: ⟨b3, 0, cCl c, some 23, 2⟩ :: H) rfl mixed (by (repeat (first | exact Sub.nil _ | refine Sub.cons rfl ?_)); done) rfl (by kernel_rfl) (locPa b2 b3 b4 b7 T ⟨a1, c1, a2, c2⟩ c (val T c.g c.s)) (List.Sublist.refl _) ?_ ?_
    · repeat' (first | exact AllF.done rfl | (refine AllF.step rfl ?_ ?_; · (first | fail | ((first | refine Ob.ng rfl ?_); (first | exact ObK.pure (fun env R hR => by exact ⟨_, EvF.fieldAddr rfl rfl (te rfl) rfl (te rfl) (by decide), rfl⟩) rfl (fun _ => rfl) | exact ObK.pure (fun env R hR => by exact ⟨_, EvF.loadV rfl rfl (LoadV.whole (te rfl) rfl (hR _ (List.Mem.head _)) rfl), rfl⟩) rfl (fun _ => rfl) | exact ObK.pure (fun env R hR => by exact ⟨_, EvF.loadV rfl rfl (LoadV.whole (te rfl) rfl (hR _ (List.Mem.tail _ (List.Mem.tail _ (List.Mem.head _)))) rfl), rfl⟩) rfl (fun _ => rfl) | (exact fun env S hS => OpF.callV (Z := []) (EnF.st rfl (Args.cons rfl (Args.cons rfl Args.nil))) (value_spec T ⟨a1, c1, a2, c2⟩ c _ (hT.sub (fun _ h => hS _ (by repeat (first | exact h | apply List.Mem.tail)))) hok.gr hok.st (by omega) hg hs) rfl rfl) | (exact fun env S hS => (StF.storeAt (q := 0) (vs := cCl c) (cs := cTm T ⟨a1, c1, a2, c2⟩) rfl rfl rfl (te rfl) rfl rfl rfl (Nat.le_of_ble_eq_true rfl)).op.mono (fun v H' ⟨hv, hH⟩ => ⟨(0, 0), fun h => absurd rfl h, by rw [hH]; exact List.Perm.refl _⟩)) | (exact fun env S hS => (StF.storeOne (i := 0) (cs := cTm (clT T c) ⟨a1, c1, a2, c2⟩) rfl rfl rfl rfl (te rfl) rfl rfl (Nat.le_of_ble_eq_true rfl)).op.mono (fun v H' ⟨hv, hH⟩ => ⟨(0, 0), fun h => absurd rfl h, by rw [hH]; exact List.Perm.refl _⟩)))))))
    intro env t ha hv
    refine ⟨_, ha, ?_⟩
    clear hv
    show X _ _ _ _ (⟨b2, 0, cTm (baT T c (val T c.g c.s)) ⟨a1, c1, a2, c2⟩, some 28, 11⟩ :: ⟨b7, 0, cTm T ⟨a1, c1, a2, c2⟩, some 111, 11⟩ :: ⟨b4, 0, cTm Tz pz, some 28, 11⟩ :: ⟨b3, 0, cCl c, some 23, 2⟩ :: H) _
    refine X.seq rfl ?_
    refine X.regionRd tsPb rdPb [2, 3, 4] [(2, .pointer (some ⟨b2, 0, none⟩)), (3, .pointer (some ⟨b3, 0, none⟩)), (4, .pointer (some ⟨b4, 0, none⟩))] (valPb b2 b3 b4 T (baT T c (val T c.g c.s)) c a1 a2 c1 c2) (rowsPb b2 b3 b4 T (baT T c (val T c.g c.s)) c a1 a2 c1 c2) (fun _ => (0, 0)) (⟨b7, 0, cTm T ⟨a1, c1, a2, c2⟩, some 111, 11⟩ :: ⟨b4, 0, cTm Tz pz, some 28, 11⟩ :: ⟨b3, 0, cCl c, some 23, 2⟩ :: H) rfl mixed (by (repeat (first | exact Sub.nil _ | refine Sub.cons rfl ?_)); done) rfl (by kernel_rfl) (by kernel_rfl) (locPb b2 b3 b4 T (baT T c (val T c.g c.s)) c a1 a2 c1 c2) (List.Sublist.refl _) ?_ ?_
    · have hsb : ∀ (S : List Row), (∀ r ∈ ⟨b7, 0, cTm T ⟨a1, c1, a2, c2⟩, some 111, 11⟩ :: ⟨b4, 0, cTm Tz pz, some 28, 11⟩ :: ⟨b3, 0, cCl c, some 23, 2⟩ :: H, r ∈ S) → TmOk S T ⟨a1, c1, a2, c2⟩ := fun S hS => hT.sub (fun r hr => hS r (List.mem_append_right [_, _, _] hr))
      repeat' (first | exact AllF.done rfl | (refine AllF.step rfl ?_ ?_; · (first | exact (Ob.ng rfl (ObK.pure (fun env R hR => by exact ⟨_, EvF.fieldAddr rfl rfl (te rfl) rfl (te rfl) (by decide), rfl⟩) rfl (fun _ => rfl))).toR | exact (Ob.ng rfl (ObK.pure (fun env R hR => by exact ⟨_, EvF.loadV rfl rfl (LoadV.own (te rfl) rfl (hR _ (List.Mem.tail _ (List.Mem.tail _ (List.Mem.head _)))) rfl), rfl⟩) rfl (fun _ => rfl))).toR | (refine ObR.ng rfl ?_; (first | (exact fun env S hS hrd => (StF.ofEv (EvF.loadV rfl rfl (LoadV.own (te rfl) rfl (hrd 14 (List.Mem.head _) _ (List.Mem.head _)) rfl))).op.mono (fun v H' ⟨hv, hH⟩ => ⟨(0, 0), fun _ => hv, by rw [hH]; exact List.Perm.refl _⟩)) | (exact fun env S hS hrd => (OpF.call (EnF.st rfl (Args.cons rfl (Args.cons rfl Args.nil))) (from_spec T.G c.g a1 c1 _ (hsb S hS).gr hok.gr hg)).mono (fun v H' ⟨b, k, hv, hH⟩ => ⟨(b, k), fun _ => hv, by rw [hH]; exact List.Perm.refl _⟩)) | (exact fun env S hS hrd => (OpF.call (EnF.st rfl (Args.cons rfl (Args.cons rfl Args.nil))) (from_spec T.S c.s a2 c2 _ (hsb S hS).st hok.st hs)).mono (fun v H' ⟨b, k, hv, hH⟩ => ⟨(b, k), fun _ => hv, by rw [hH]; exact List.Perm.refl _⟩)) | (exact fun env S hS hrd => (StF.storeOne (i := 0) (cs := cTm (baT T c (val T c.g c.s)) ⟨a1, c1, a2, c2⟩) rfl rfl rfl rfl (te rfl) rfl rfl (Nat.le_of_ble_eq_true rfl)).op.mono (fun v H' ⟨hv, hH⟩ => ⟨(0, 0), fun h => absurd rfl h, by rw [hH]; exact List.Perm.refl _⟩)) | (exact fun env S hS hrd => (StF.storeOne (i := 0) (cs := cTm (baT T c (val T c.g c.s)) ⟨some ⟨(env 4).1, 0, none⟩, (env 4).2, a2, c2⟩) rfl rfl rfl rfl (te rfl) rfl rfl (Nat.le_of_ble_eq_true rfl)).op.mono (fun v H' ⟨hv, hH⟩ => ⟨(0, 0), fun h => absurd rfl h, by rw [hH]; exact List.Perm.refl _⟩)))))))
    intro env2 t2 ha2 hv2
    refine ⟨_, ha2, ?_⟩
    clear hv2
    have hvd := fun H' (h : TmOk H' (rebT T c) (plT (env2 4).1 (env2 4).2 (env2 9).1 (env2 9).2)) => ifValid_spec (rebT T c) (plT (env2 4).1 (env2 4).2 (env2 9).1 (env2 9).2) H' h
    rw [cTm_reb] at hvd
    have hl1 := hok.gr.1
    have hl2 := hok.st.1
    have hU1 : TmOk (rI (rebT T c).G (env2 4).1 (env2 4).2 :: rI (rebT T c).S (env2 9).1 (env2 9).2 :: ⟨b2, 0, cTm (baT T c (val T c.g c.s)) (plT (env2 4).1 (env2 4).2 (env2 9).1 (env2 9).2), some 28, 11⟩ :: ⟨b7, 0, cTm T ⟨a1, c1, a2, c2⟩, some 111, 11⟩ :: ⟨b4, 0, cTm Tz pz, some 28, 11⟩ :: ⟨b3, 0, cCl c, some 23, 2⟩ :: H) (rebT T c) (plT (env2 4).1 (env2 4).2 (env2 9).1 (env2 9).2) :=
      ownT (rebT T c) _ _ _ _ _ (by show (T.G.map _).length ≤ _; rw [List.length_map]; omega) (by show (T.S.map _).length ≤ _; rw [List.length_map]; omega) (List.Mem.head _) (List.Mem.tail _ (List.Mem.head _))
    show X _ _ _ _ (rI (rebT T c).G (env2 4).1 (env2 4).2 :: rI (rebT T c).S (env2 9).1 (env2 9).2 :: ⟨b2, 0, cTm (baT T c (val T c.g c.s)) (plT (env2 4).1 (env2 4).2 (env2 9).1 (env2 9).2), some 28, 11⟩ :: ⟨b7, 0, cTm T ⟨a1, c1, a2, c2⟩, some 111, 11⟩ :: ⟨b4, 0, cTm Tz pz, some 28, 11⟩ :: ⟨b3, 0, cCl c, some 23, 2⟩ :: H) _
    repeat' (first | (refine XO.op rfl ?_; (first | ((first | refine Xo.ng rfl ?_); (first | (refine Xg.call (EnF.st rfl (by (repeat (first | exact Args.nil | refine Args.cons rfl ?_)); done)) rfl rfl (hvd _ hU1) ?_; rintro _ _ ⟨⟨q, rfl, hq⟩, rfl⟩) | (refine Xg.ev (EvF.assign rfl rfl) rfl rfl ?_) | (refine Xg.ev (EvF.loadV rfl rfl (LoadV.whole (te rfl) rfl (List.Mem.tail _ (List.Mem.tail _ (List.Mem.head _))) rfl)) rfl rfl ?_) | (refine Xg.ev (EvF.extract rfl rfl rfl) rfl rfl ?_) | (refine Xg.st0 (StF.storeAll (i := 4) rfl rfl rfl (te rfl) rfl rfl rfl rfl) rfl ?_; rintro _ _ ⟨rfl, rfl⟩; dsimp only [List.set]))))) | (refine XO.done rfl ?_; refine hK _ _ ?_; clear hK K) | refine X.seq rfl ?_ | refine X.region rfl (fun K hK => ?_) | refine X.ret rfl ?_)
    obtain ⟨Z, hZ, hsZ⟩ := progT_vld hq
    exact ret_two (v := .agg (cTm (vld (rebT T c)).1 q).toArray) (by first | exact .inr rfl | exact .inl rfl) Try.results43 ⟨_, rfl, LoadV.whole (te rfl) rfl (List.Mem.tail _ (List.Mem.tail _ (List.Mem.tail _ (List.Mem.tail _ (List.Mem.head _))))) rfl⟩ rfl (H' := Z ++ H) ((hsZ H).trans (by (repeat (first | exact List.Sublist.refl _ | apply List.Sublist.cons_cons | apply List.Sublist.cons)); done)) ⟨q, Z, rfl, hZ, rfl⟩
  · refine Fc.mk (callable Try.call43) Try.func43 rfl Try.ntmps43 rfl ?_; dsimp only [fr]
    repeat' (first | (refine XO.op rfl ?_; (first | ((first | refine Xo.ng rfl ?_); (first | (refine Xg.call (EnF.st rfl (Args.cons rfl Args.nil)) rfl rfl (only_spec c _) ?_; rintro _ H9 ⟨rfl, hH9⟩; subst H9) | (refine Xg.st (StF.buildOne rfl elLo rfl rfl rfl (by decide) (by decide)) rfl rfl ?_; rintro _ _ ⟨bs, rfl, rfl⟩) | (refine Xg.ev (EvF.build (cs := cAb (abI c) ⟨none, 0, some ⟨bs, 0, none⟩, 1, none, 0, some ⟨bs, 0, none⟩, 1⟩) rfl (ArgsP.cons rfl (ArgsP.cons rfl ArgsP.nil)) (te rfl) (Places.cons (te rfl) (Places.cons (te rfl) (Places.cons (te rfl) (Places.cons (te rfl) Places.nil)))) Try.zeroValue109 rfl) rfl rfl ?_) | (refine Xg.call (EnF.st rfl (Args.cons rfl (Args.cons rfl Args.nil))) rfl rfl (openN T p (abI c) _ _ er (hT1 [_, _, _, _]) (okI _ c _ _ _ (List.Mem.head _)) HD0 HI1 her h0) ?_; rintro _ H9 ⟨rfl, hH9⟩; subst H9) | (refine Xg.ev (EvF.tz rfl) rfl rfl ?_) | (refine Xg.ev (EvF.move rfl rfl) rfl rfl ?_) | (refine Xg.ev (EvF.assign rfl rfl) rfl rfl ?_) | (refine Xg.ev (EvF.cmp rfl rfl rfl rfl) rfl rfl ?_) | (refine Xg.ev (EvF.loadV rfl rfl (LoadV.whole (te rfl) rfl (List.Mem.tail _ (List.Mem.head _)) rfl)) rfl rfl ?_) | (refine Xg.ev (EvF.loadV rfl rfl (LoadV.whole (te rfl) rfl (List.Mem.tail _ (List.Mem.tail _ (List.Mem.tail _ (List.Mem.head _)))) rfl)) rfl rfl ?_) | (refine Xg.ev (EvF.extract rfl rfl rfl) rfl rfl ?_) | (refine Xg.st (StF.boxAgg rfl rfl) rfl rfl ?_; rintro _ _ ⟨bx, rfl, rfl⟩) | (refine Xg.st (StF.alloc rfl Try.zeroValue28 rfl) rfl rfl ?_; rintro _ _ ⟨bx, rfl, rfl⟩) | (refine Xg.st0 (StF.storeAll (i := 0) rfl rfl rfl (te rfl) rfl rfl rfl rfl) rfl ?_; rintro _ _ ⟨rfl, rfl⟩; dsimp only [List.set]) | (refine Xg.st0 (StF.storeAll (i := 2) rfl rfl rfl (te rfl) rfl rfl rfl rfl) rfl ?_; rintro _ _ ⟨rfl, rfl⟩; dsimp only [List.set]))))) | (refine XO.done rfl ?_; refine hK _ _ ?_; clear hK K) | (refine XQ.op rfl ?_; (first | ((first | refine Yo.ng rfl ?_); (first | (refine Yg.ev (EvF.loadV rfl rfl (LoadV.whole (te rfl) rfl (List.Mem.head _) rfl)) rfl rfl ?_) | (refine Yg.ev (EvF.loadV rfl rfl (LoadV.whole (te rfl) rfl (List.Mem.tail _ (List.Mem.tail _ (List.Mem.tail _ (List.Mem.head _)))) rfl)) rfl rfl ?_))))) | refine X.seq rfl ?_ | refine X.region rfl (fun K hK => ?_) | refine X.regionD rfl mixed (by kernel_rfl) (fun K hK => ?_) | refine X.skip rfl ?_ | refine X.ret rfl ?_ | (refine X.ite rfl rfl (fun hc => ?_); (first | (with_reducible refine Xb.caseN hc (fun h => ?_) (fun h => ?_))) <;> clear hc))
    all_goals try (exfalso; contradiction)
    exact ret_two (v := .agg (cTm Tz pz).toArray) (by first | exact .inr rfl | exact .inl rfl) Try.results43 ⟨_, rfl, LoadV.whole (te rfl) rfl (List.Mem.tail _ (List.Mem.tail _ (List.Mem.head _))) rfl⟩ rfl (H' := H) (by (repeat (first | exact List.Sublist.refl _ | apply List.Sublist.cons)); done) (progT_no (rebF_no her h0) H)
end Go.Proofs.Ytcjlegjchllgjaa
end
