/- TermsTotals: for all terms, every month and every list of classes the law returns true (what the bales come to and which are refused, or the error, is that of the reference, and all stays), and each argument reads afterwards as before. No condition. -/
import Derived.Test.YtjejppodhpdckaaW02
import Derived.Test.YtjejppodhpdckaaChecked
import Derived.Tactics2
import Derived.OpenShut
import Derived.ProofKit
import Derived.Test.YtjejppodhpdckaaRows
import Derived.WalkKit
import Derived.ChangeOld
import Derived.ShutString
section
set_option linter.unusedVariables false
set_option linter.unusedSimpArgs false
namespace Go.Proofs.Ytjejppodhpdckaa
open Go Go.Fw
set_option maxRecDepth 10000
noncomputable instance : DecidableEq Sp := fun _ _ => Classical.propDecidable _
noncomputable instance : DecidableEq Cl := fun _ _ => Classical.propDecidable _
noncomputable instance : DecidableEq Tm := fun _ _ => Classical.propDecidable _
theorem eqI (d : Nat) (a b : Int) (w : World) : (Op.equalIn (d + 1) 3 (.int .i64 a) (.int .i64 b)).run Try.prog w = .ok (decide (a = b)) w := by
  rw [run_equalIn_int w d 3 .i64 .i64 a b (by kernel_rfl)]
  by_cases h : a = b <;> simp [h]
theorem eqSp (d : Nat) (e f : Sp) (w : World) : (Op.equalIn (d + 2) 26 (.agg (cSp e).toArray) (.agg (cSp f).toArray)).run Try.prog w = .ok (decide (e = f)) w := by
  have hS : Try.prog.underlying 26 = some (.struct (Try.prog.fieldsOf 26)) := by kernel_rfl
  rw [run_equalIn_agg w (d + 1) 26 _ _ hS (by kernel_rfl)]
  simp only [Program.fieldsOf, Try.underlying26]
  go_simp
  obtain ⟨e1, e2⟩ := e
  obtain ⟨f1, f2⟩ := f
  by_cases h1 : e1 = f1 <;> by_cases h2 : e2 = f2 <;> simp [cSp, eqI, Result.andThen, h1, h2]
theorem eqCl (d : Nat) (e f : Cl) (w : World) : (Op.equalIn (d + 2) 23 (.agg (cCl e).toArray) (.agg (cCl f).toArray)).run Try.prog w = .ok (decide (e = f)) w := by
  have hS : Try.prog.underlying 23 = some (.struct (Try.prog.fieldsOf 23)) := by kernel_rfl
  rw [run_equalIn_agg w (d + 1) 23 _ _ hS (by kernel_rfl)]
  simp only [Program.fieldsOf, Try.underlying23]
  go_simp
  obtain ⟨e1, e2⟩ := e
  obtain ⟨f1, f2⟩ := f
  by_cases h1 : e1 = f1 <;> by_cases h2 : e2 = f2 <;> simp [cCl, eqI, Result.andThen, h1, h2]
theorem sameInts_spec (l m : List Int) (a a' : Option Addr) (c c' : Nat) (H : List Row) (hl : SlE H a cI 1 l) (hm : SlE H a' cI 1 m) (hb : l.length ≤ 1000000) (hb' : m.length ≤ 1000000) :
    Fc Try.prog 40 [.slice a l.length c, .slice a' m.length c'] H (fun v H' => v = .bool (decide (l = m)) ∧ H' = H) := by
  refine Fc.mk (callable Try.call40) Try.func40 rfl Try.ntmps40 rfl ?_; dsimp only [fr]
  repeat' (first | (refine XO.op rfl ?_; (first | ((first | refine Xo.ng rfl ?_ | (refine Xo.g rfl rfl ?_; with_reducible refine Xw.ff ?_)); (first | (refine Xg.ev (EvF.move rfl rfl) rfl rfl ?_) | (refine Xg.ev (EvF.assign rfl rfl) rfl rfl ?_) | (refine Xg.ev (EvF.pickT rfl rfl rfl) rfl rfl ?_) | (refine Xg.ev (EvF.pickF rfl rfl rfl) rfl rfl ?_) | (refine Xg.ev (EvF.cmp rfl rfl rfl rfl) rfl rfl ?_) | (refine Xg.ev (EvF.fieldAddr rfl rfl (te rfl) rfl (te rfl) (by decide)) rfl rfl ?_) | (refine Xg.ev (EvF.lenSlice rfl rfl (te rfl)) rfl rfl ?_) | (refine Xg.ev (EvF.loadV rfl rfl (LoadV.own (te rfl) rfl (List.Mem.head _) rfl)) rfl rfl ?_) | (refine Xg.st (StF.boxAgg rfl rfl) rfl rfl ?_; rintro _ _ ⟨bx, rfl, rfl⟩))) | (refine Xo.g rfl rfl ?_; (first | (with_reducible refine Xw.tf rfl rfl ?_) | (with_reducible refine Xw.case (fun h => ?_) (fun h => ?_) <;> simp only [h, decide_true, decide_false, Bool.not_true, Bool.not_false, and_self, and_true, true_and, and_false, false_and]))))) | (refine XO.done rfl ?_; refine hK _ _ ?_; clear hK K) | refine X.seq rfl ?_ | refine X.region rfl (fun K hK => ?_) | refine X.block rfl ?_ | refine X.skip rfl ?_ | refine X.ret rfl ?_ | (refine X.ite rfl rfl (fun hc => ?_); (first | (with_reducible refine Xb.caseN hc (fun h => ?_) (fun h => ?_))) <;> clear hc))
  · refine ret_one (by first | exact .inr rfl | exact .inl rfl) Try.results40 rfl (H' := H) (by (repeat (first | exact List.Sublist.refl _ | apply List.Sublist.cons)); done) ?_; simp only [and_true, true_and]
    congr 1; symm; exact decide_eq_false (fun q => by subst q; omega)
  have hlm : l.length = m.length := by omega
  refine X.lp rfl (fun q F' H' => ∃ k : Nat, q = l.length - k ∧ k ≤ l.length ∧ (l = m ↔ l.drop k = m.drop k) ∧ H = H' ∧
      F' = [(0, .slice a l.length c), (1, .slice a' m.length c'), (5, .int .i64 k)])
    l.length [(0, .slice a l.length c), (1, .slice a' m.length c'), (5, .int .i64 (0 : Nat))] _ (by (repeat (first | exact Sub.nil _ | refine Sub.cons rfl ?_)); done) (by (repeat (first | exact List.Sublist.refl _ | apply List.Sublist.cons_cons | apply List.Sublist.cons)); done) ⟨0, by omega, by omega, by simp, rfl, rfl⟩ ?_
  rintro _ _ H2 ⟨k, rfl, hk, hn, hH, rfl⟩
  subst hH
  repeat' (first | (refine XO.op rfl ?_; (first | ((first | refine Xo.ng rfl ?_); (first | (refine Xg.ev (EvF.move rfl rfl) rfl rfl ?_) | (refine Xg.ev (EvF.assign rfl rfl) rfl rfl ?_) | (refine Xg.ev (EvF.cmp rfl rfl rfl rfl) rfl rfl ?_) | (refine Xg.ev (EvF.lenSlice rfl rfl (te rfl)) rfl rfl ?_))))) | (refine XO.done rfl ?_; refine hK _ _ ?_; clear hK K) | refine X.seq rfl ?_ | refine X.region rfl (fun K hK => ?_) | refine X.block rfl ?_ | (refine X.brk rfl ?_; repeat (first | refine blockX_hit rfl ?_ | refine blockX_miss (by decide) ?_)) | refine X.skip rfl ?_ | refine X.ret rfl ?_ | (refine X.ite rfl rfl (fun hc => ?_); (first | (with_reducible refine Xb.case hc (fun h => ?_) (fun h => ?_))) <;> clear hc))
  · obtain ⟨b, off, e, rfl, he⟩ := hl.elem (i := k) (by omega)
    obtain ⟨b2, off2, f, rfl, hf⟩ := hm.elem (i := k) (by omega)
    rw [drop_cons he, drop_cons hf, List.cons.injEq] at hn
    repeat' (first | (refine XO.op rfl ?_; (first | ((first | refine Xo.ng rfl ?_); (first | (refine Xg.ev (EvF.move rfl rfl) rfl rfl ?_) | (refine Xg.ev (EvF.assign rfl rfl) rfl rfl ?_) | (refine Xg.ev (EvF.add64 rfl rfl rfl (by omega) (by omega)) rfl rfl ?_))))) | (refine XO.done rfl ?_; refine hK _ _ ?_; clear hK K) | (refine XQ.op rfl ?_; (first | ((first | refine Yo.ng rfl ?_); (first | (refine Yg.ev (EvF.indexSlice rfl rfl rfl (te rfl) (te rfl) (by omega) (by omega)) rfl rfl ?_) | (refine Yg.ev (EvF.loadV rfl rfl (LoadV.el0 hl he (te rfl) rfl (fun _ hm => hm) rfl)) rfl rfl ?_) | (refine Yg.ev (EvF.loadV rfl rfl (LoadV.el0 hm hf (te rfl) rfl (fun _ hm => hm) rfl)) rfl rfl ?_) | (refine Yg.ev (EvF.move rfl rfl) rfl rfl ?_) | (refine Yg.ev (EvF.cmp rfl rfl rfl rfl) rfl rfl ?_))))) | (refine XQ.done rfl ?_; refine hK _ ?_; clear hK K) | refine X.seq rfl ?_ | refine X.region rfl (fun K hK => ?_) | refine X.regionD rfl mixed (by kernel_rfl) (fun K hK => ?_) | refine X.skip rfl ?_ | refine X.ret rfl ?_ | (refine X.ite rfl rfl (fun hc => ?_); (first | (with_reducible refine Xb.caseN hc (fun h => ?_) (fun h => ?_))) <;> clear hc))
    all_goals first
      | (refine ret_one (by first | exact .inr rfl | exact .inl rfl) Try.results40 rfl (H' := H) (by (repeat (first | exact List.Sublist.refl _ | apply List.Sublist.cons)); done) ?_; simp only [and_true, true_and]; congr 1; symm; exact decide_eq_false (fun q => absurd (hn.1 q).1 (by assumption)))
      | (refine ⟨_, _, _, (by (repeat (first | exact Sub.nil _ | refine Sub.cons rfl ?_)); done), (by (repeat (first | exact List.Sublist.refl _ | apply List.Sublist.cons_cons | apply List.Sublist.cons)); done), ⟨k + 1, rfl, by omega, hn.trans (and_iff_right (by assumption)), rfl, rfl⟩, by omega⟩)
  · rw [List.drop_eq_nil_of_le (by omega), List.drop_eq_nil_of_le (by omega)] at hn
    refine ret_one (by first | exact .inr rfl | exact .inl rfl) Try.results40 rfl (H' := H) (by (repeat (first | exact List.Sublist.refl _ | apply List.Sublist.cons)); done) ?_; simp only [and_true, true_and]
    congr 1; symm; exact decide_eq_true (hn.2 rfl)
theorem Tm.ext' {R S : Tm} (h1 : R.g = S.g) (h2 : R.s = S.s) (h3 : R.price = S.price) (h4 : R.worst = S.worst) (h5 : R.short = S.short) (h6 : R.G = S.G) (h7 : R.S = S.S) (h8 : R.dl = S.dl) (h9 : R.dh = S.dh) (h10 : R.bales = S.bales) (h11 : R.fee = S.fee) : R = S := by
  cases R; cases S; simp_all
set_option maxHeartbeats 4000000 in
theorem sameT_spec (T U : Tm) (p q : Pt) (H : List Row) (hT : TmOk H T p) (hU : TmOk H U q) : Fc Try.prog 18 [.agg (cTm T p).toArray, .agg (cTm U q).toArray] H (fun v H' => v = .bool (decide (T = U)) ∧ H' = H) := by
  have hT2 : ∀ Z : List Row, TmOk (Z ++ H) T p := fun Z => hT.sub (fun _ h => List.mem_append_right _ h)
  have hU2 : ∀ Z : List Row, TmOk (Z ++ H) U q := fun Z => hU.sub (fun _ h => List.mem_append_right _ h)
  refine Fc.mk (callable Try.call18) Try.func18 rfl Try.ntmps18 rfl ?_; dsimp only [fr]
  repeat' (first | (refine XO.op rfl ?_; (first | ((first | refine Xo.ng rfl ?_ | (refine Xo.g rfl rfl ?_; with_reducible refine Xw.tt ?_)); (first | (refine Xg.ev (EvF.loadV rfl rfl (LoadV.ownAgg (vs := cCl ⟨T.g, T.s⟩) (te rfl) rfl (List.Mem.tail _ (List.Mem.head _)) rfl rfl)) rfl rfl ?_) | (refine Xg.ev (EvF.loadV rfl rfl (LoadV.ownAgg (vs := cCl ⟨U.g, U.s⟩) (te rfl) rfl (List.Mem.head _) rfl rfl)) rfl rfl ?_) | (refine Xg.ev (EvF.loadV rfl rfl (LoadV.ownAgg (vs := cSp ⟨T.dl, T.dh⟩) (te rfl) rfl (List.Mem.tail _ (List.Mem.head _)) rfl rfl)) rfl rfl ?_) | (refine Xg.ev (EvF.loadV rfl rfl (LoadV.ownAgg (vs := cSp ⟨U.dl, U.dh⟩) (te rfl) rfl (List.Mem.head _) rfl rfl)) rfl rfl ?_) | (refine Xg.ev (EvF.eqSt rfl rfl rfl (by kernel_rfl) (fun w => eqCl 9998 ⟨T.g, T.s⟩ ⟨U.g, U.s⟩ w) rfl) rfl rfl ?_) | (refine Xg.ev (EvF.eqSt rfl rfl rfl (by kernel_rfl) (fun w => eqSp 9998 ⟨T.dl, T.dh⟩ ⟨U.dl, U.dh⟩ w) rfl) rfl rfl ?_) | (refine Xg.call (EnF.st rfl (Args.cons rfl (Args.cons rfl Args.nil))) rfl rfl (sameInts_spec T.G U.G p.a1 q.a1 p.c1 q.c1 _ (hT2 [_, _]).gr (hU2 [_, _]).gr hT.l1 hU.l1) ?_; rintro _ H9 ⟨rfl, hH9⟩; subst H9) | (refine Xg.call (EnF.st rfl (Args.cons rfl (Args.cons rfl Args.nil))) rfl rfl (sameInts_spec T.S U.S p.a2 q.a2 p.c2 q.c2 _ (hT2 [_, _]).st (hU2 [_, _]).st hT.l2 hU.l2) ?_; rintro _ H9 ⟨rfl, hH9⟩; subst H9) | (refine Xg.ev (EvF.move rfl rfl) rfl rfl ?_) | (refine Xg.ev (EvF.assign rfl rfl) rfl rfl ?_) | (refine Xg.ev (EvF.pickT rfl rfl rfl) rfl rfl ?_) | (refine Xg.ev (EvF.pickF rfl rfl rfl) rfl rfl ?_) | (refine Xg.ev (EvF.cmp rfl rfl rfl rfl) rfl rfl ?_) | (refine Xg.ev (EvF.fieldAddr rfl rfl (te rfl) rfl (te rfl) (by decide)) rfl rfl ?_) | (refine Xg.ev (EvF.loadV rfl rfl (LoadV.own (te rfl) rfl (List.Mem.head _) rfl)) rfl rfl ?_) | (refine Xg.ev (EvF.loadV rfl rfl (LoadV.own (te rfl) rfl (List.Mem.tail _ (List.Mem.head _)) rfl)) rfl rfl ?_) | (refine Xg.st (StF.boxAgg rfl rfl) rfl rfl ?_; rintro _ _ ⟨bx, rfl, rfl⟩))) | (refine Xo.g rfl rfl ?_; (first | (with_reducible refine Xw.ft rfl rfl ?_) | (with_reducible refine Xw.case (fun h => ?_) (fun h => ?_) <;> simp only [h, decide_true, decide_false, Bool.not_true, Bool.not_false, and_self, and_true, true_and, and_false, false_and]))))) | (refine XO.done rfl ?_; refine hK _ _ ?_; clear hK K) | refine X.seq rfl ?_ | refine X.region rfl (fun K hK => ?_) | refine X.ret rfl ?_)
  all_goals (refine ret_one (by first | exact .inr rfl | exact .inl rfl) Try.results18 rfl (H' := H) (by (repeat (first | exact List.Sublist.refl _ | apply List.Sublist.cons)); done) ?_; simp only [and_true, true_and])
  all_goals (congr 1; (try simp only [Cl.mk.injEq, Sp.mk.injEq] at *))
  all_goals first
    | (symm; exact decide_eq_false (fun q => by subst q; simp_all; done))
    | (exact decide_eq_decide.2 ⟨fun q => Tm.ext' (by omega) (by omega) (by omega) (by omega) (by omega) (by assumption) (by assumption) (by omega) (by omega) (by omega) (by omega), fun q => by subst q; rfl⟩)
theorem great_spec (T : Tm) (p : Pt) (H : List Row) : Fc Try.prog 10 [.agg (cTm T p).toArray] H (fun v H' => v = .bool (decide (T.G.length > 30 ∨ T.S.length > 30)) ∧ H' = H) := by
  refine Fc.mk (callable Try.call10) Try.func10 rfl Try.ntmps10 rfl ?_; dsimp only [fr]
  repeat' (first | (refine XO.op rfl ?_; (first | ((first | refine Xo.ng rfl ?_ | (refine Xo.g rfl rfl ?_; with_reducible refine Xw.ff ?_)); (first | (refine Xg.ev (EvF.move rfl rfl) rfl rfl ?_) | (refine Xg.ev (EvF.assign rfl rfl) rfl rfl ?_) | (refine Xg.ev (EvF.pickT rfl rfl rfl) rfl rfl ?_) | (refine Xg.ev (EvF.pickF rfl rfl rfl) rfl rfl ?_) | (refine Xg.ev (EvF.cmp rfl rfl rfl rfl) rfl rfl ?_) | (refine Xg.ev (EvF.fieldAddr rfl rfl (te rfl) rfl (te rfl) (by decide)) rfl rfl ?_) | (refine Xg.ev (EvF.lenSlice rfl rfl (te rfl)) rfl rfl ?_) | (refine Xg.ev (EvF.loadV rfl rfl (LoadV.own (te rfl) rfl (List.Mem.head _) rfl)) rfl rfl ?_) | (refine Xg.st (StF.boxAgg rfl rfl) rfl rfl ?_; rintro _ _ ⟨bx, rfl, rfl⟩))) | (refine Xo.g rfl rfl ?_; (first | (with_reducible refine Xw.tf rfl rfl ?_) | (with_reducible refine Xw.case (fun h => ?_) (fun h => ?_) <;> simp only [h, decide_true, decide_false, Bool.not_true, Bool.not_false, and_self, and_true, true_and, and_false, false_and]))))) | (refine XO.done rfl ?_; refine hK _ _ ?_; clear hK K) | refine X.seq rfl ?_ | refine X.region rfl (fun K hK => ?_) | refine X.block rfl ?_ | refine X.skip rfl ?_ | refine X.ret rfl ?_ | (refine X.ite rfl rfl (fun hc => ?_); (first | (with_reducible refine Xb.caseN hc (fun h => ?_) (fun h => ?_))) <;> clear hc))
  all_goals (refine ret_one (by first | exact .inr rfl | exact .inl rfl) Try.results10 rfl (H' := H) (by (repeat (first | exact List.Sublist.refl _ | apply List.Sublist.cons)); done) ?_; simp only [and_true, true_and])
  all_goals (congr 1; simp only [decide_eq_decide, eq_comm (a := true), decide_eq_true_eq]; omega)
end Go.Proofs.Ytjejppodhpdckaa
end
section
set_option linter.unusedVariables false
set_option linter.unusedSimpArgs false
namespace Go.Proofs.Ytjejppodhpdckaa
open Go Go.Fw
set_option maxRecDepth 10000
def tsTw : List TOp := [⟨some 3, [], [], []⟩, ⟨some 4, [], [], []⟩, ⟨some 5, [1], [1], []⟩, ⟨some 6, [0, 1, 2], [0, 2], [0]⟩, ⟨some 7, [], [], []⟩, ⟨some 8, [], [], []⟩, ⟨some 9, [5], [5], []⟩, ⟨some 10, [0, 1, 2, 3, 4, 5, 6], [4, 6], [4]⟩, ⟨some 11, [0, 1, 2, 3, 5, 6], [], []⟩, ⟨none, [0, 1, 2, 3, 4, 5, 6, 7, 8], [8, 3], [12]⟩, ⟨some 12, [0, 1, 2, 3, 4, 5, 6, 7, 8, 9], [], []⟩, ⟨none, [0, 1, 2, 3, 4, 5, 6, 7, 8, 9, 10], [10, 7], [9]⟩, ⟨none, [], [], []⟩]
def valTw (b1 b2 : Nat) (T : Tm) (p : Pt) (k : Nat) (env : Env) : Value :=
  match k with
  | 0 => .slice (some ⟨(env 0).1, 0, none⟩) 0 0
  | 1 => .pointer (some ⟨b1, 5, none⟩)
  | 2 => .slice p.a1 T.G.length p.c1
  | 3 => .slice (some ⟨(env 3).1, 0, none⟩) T.G.length (env 3).2
  | 4 => .slice (some ⟨(env 4).1, 0, none⟩) 0 0
  | 5 => .pointer (some ⟨b1, 6, none⟩)
  | 6 => .slice p.a2 T.S.length p.c2
  | 7 => .slice (some ⟨(env 7).1, 0, none⟩) T.S.length (env 7).2
  | 8 => .pointer (some ⟨b1, 5, none⟩)
  | 9 => undef
  | 10 => .pointer (some ⟨b1, 6, none⟩)
  | 11 => undef
  | _ => undef
def rowsTw (b1 b2 : Nat) (T : Tm) (p : Pt) (k : Nat) (env : Env) : List Row :=
  match k with
  | 0 => [⟨(env 0).1, 0, [], some 3, 0 * 1⟩]
  | 3 => [⟨(env 3).1, 0, T.G.flatMap cI, some 3, (env 3).2 * 1⟩]
  | 4 => [⟨(env 4).1, 0, [], some 3, 0 * 1⟩]
  | 7 => [⟨(env 7).1, 0, T.S.flatMap cI, some 3, (env 7).2 * 1⟩]
  | 9 => [⟨b1, 0, cTm T ⟨some ⟨(env 3).1, 0, none⟩, (env 3).2, p.a2, p.c2⟩, some 28, 11⟩]
  | 11 => [⟨b1, 0, cTm T ⟨some ⟨(env 3).1, 0, none⟩, (env 3).2, some ⟨(env 7).1, 0, none⟩, (env 7).2⟩, some 28, 11⟩]
  | 12 => [⟨b1, 0, cTm T p, some 28, 11⟩]
  | _ => []
theorem locTw (b1 b2 : Nat) (T : Tm) (p : Pt) : ∀ k env i q9, i ≠ k → (tAt tsTw k).sup.contains i = false → valTw b1 b2 T p k (upd env i q9) = valTw b1 b2 T p k env ∧ rowsTw b1 b2 T p k (upd env i q9) = rowsTw b1 b2 T p k env := by
  intro k env i q hk hs
  have hu : ∀ j, j ≠ i → upd env i q j = env j := fun j hj => by unfold upd; rw [if_neg hj]
  match k, hk, hs with
  | 0, hk, hs => exact ⟨by simp only [valTw, hu 0 (fun e => hk e.symm)], by simp only [rowsTw, hu 0 (fun e => hk e.symm)]⟩
  | 1, _, _ => exact ⟨rfl, rfl⟩
  | 2, _, _ => exact ⟨rfl, rfl⟩
  | 3, hk, hs => exact ⟨by simp only [valTw, hu 3 (fun e => hk e.symm)], by simp only [rowsTw, hu 3 (fun e => hk e.symm)]⟩
  | 4, hk, hs => exact ⟨by simp only [valTw, hu 4 (fun e => hk e.symm)], by simp only [rowsTw, hu 4 (fun e => hk e.symm)]⟩
  | 5, _, _ => exact ⟨rfl, rfl⟩
  | 6, _, _ => exact ⟨rfl, rfl⟩
  | 7, hk, hs => exact ⟨by simp only [valTw, hu 7 (fun e => hk e.symm)], by simp only [rowsTw, hu 7 (fun e => hk e.symm)]⟩
  | 8, _, _ => exact ⟨rfl, rfl⟩
  | 9, hk, hs => exact ⟨by simp only [valTw, hu 3 (by rintro rfl; cases hs)], by simp only [rowsTw, hu 3 (by rintro rfl; cases hs)]⟩
  | 10, _, _ => exact ⟨rfl, rfl⟩
  | 11, hk, hs => exact ⟨by simp only [valTw, hu 3 (by rintro rfl; cases hs), hu 7 (by rintro rfl; cases hs)], by simp only [rowsTw, hu 3 (by rintro rfl; cases hs), hu 7 (by rintro rfl; cases hs)]⟩
  | 12, _, _ => exact ⟨rfl, rfl⟩
  | _ + 13, _, _ => exact ⟨rfl, rfl⟩
def rdTw (k : Nat) : List Nat := match k with
  | 2 => [12]
  | 6 => [12]
  | _ => []
set_option maxHeartbeats 4000000 in
theorem twin_spec (T : Tm) (p : Pt) (H : List Row) (hT : TmOk H T p) : Fc Try.prog 11 [.agg (cTm T p).toArray] H (fun v H' => ∃ t1 k1 t2 k2, v = .agg (cTm T ⟨some ⟨t1, 0, none⟩, k1, some ⟨t2, 0, none⟩, k2⟩).toArray ∧ H' = ⟨t1, 0, T.G.flatMap cI, some 3, k1 * 1⟩ :: ⟨t2, 0, T.S.flatMap cI, some 3, k2 * 1⟩ :: H) := by
  have l1 := hT.l1
  have l2 := hT.l2
  refine Fc.mk (callable Try.call11) Try.func11 rfl Try.ntmps11 rfl ?_; dsimp only [fr]
  refine X.seq rfl ?_; refine X.region rfl (fun K hK => ?_); repeat' (first | (refine XO.op rfl ?_; (first | ((first | refine Xo.ng rfl ?_); (first | (refine Xg.st (StF.boxAgg rfl rfl) rfl rfl ?_; rintro _ _ ⟨bx, rfl, rfl⟩) | (refine Xg.st (StF.alloc rfl Try.zeroValue28 rfl) rfl rfl ?_; rintro _ _ ⟨bx, rfl, rfl⟩))))) | (refine XO.done rfl ?_; refine hK _ _ ?_; clear hK K))
  rename_i b1; rename Nat => b2
  refine X.seq rfl ?_
  refine X.permH (H' := ⟨b1, 0, cTm T p, some 28, 11⟩ :: ⟨b2, 0, cTm Tz pz, some 28, 11⟩ :: H) (List.Perm.swap _ _ _) ?_
  refine X.regionRd tsTw rdTw [1, 2] [(1, .pointer (some ⟨b1, 0, none⟩)), (2, .pointer (some ⟨b2, 0, none⟩))] (valTw b1 b2 T p) (rowsTw b1 b2 T p) (fun _ => (0, 0)) (⟨b2, 0, cTm Tz pz, some 28, 11⟩ :: H) rfl mixed (by (repeat (first | exact Sub.nil _ | refine Sub.cons rfl ?_)); done) rfl (by kernel_rfl) (by kernel_rfl) (locTw b1 b2 T p) (List.Sublist.refl _) ?_ ?_
  · have hs : ∀ (S Z : List Row), (∀ r ∈ ⟨b2, 0, cTm Tz pz, some 28, 11⟩ :: H, r ∈ S) → TmOk (Z ++ S) T p := fun S Z hS => hT.sub (fun r hr => List.mem_append_right _ (hS r (List.mem_cons_of_mem _ hr)))
    repeat' (first | exact AllF.done rfl | (refine AllF.step rfl ?_ ?_; · (first | exact (Ob.ng rfl (ObK.pure (fun env R hR => by exact ⟨_, EvF.fieldAddr rfl rfl (te rfl) rfl (te rfl) (by decide), rfl⟩) rfl (fun _ => rfl))).toR | (refine ObR.ng rfl ?_; (first | (exact fun env S hS hrd => (StF.buildNil rfl elI).op.mono (fun v H' ⟨b, hv, hH⟩ => ⟨(b, 0), fun _ => hv, by rw [hH]; exact List.Perm.refl _⟩)) | (exact fun env S hS hrd => (StF.ofEv (EvF.loadV rfl rfl (LoadV.own (te rfl) rfl (hrd 12 (List.Mem.head _) _ (List.Mem.head _)) rfl))).op.mono (fun v H' ⟨hv, hH⟩ => ⟨(0, 0), fun _ => hv, by rw [hH]; exact List.Perm.refl _⟩)) | (exact fun env S hS hrd => (StF.appendSl (i := 0) rfl elI rfl rfl rfl (hs S [_] hS).gr (fun e _ => one_i e) rfl (by decide) (by omega)).op.mono (fun v H' ⟨b, c, hv, hH⟩ => ⟨(b, c), fun _ => by rw [hv, Nat.zero_add]; rfl, by rw [hH]; exact List.Perm.refl _⟩)) | (exact fun env S hS hrd => (StF.appendSl (i := 0) rfl elI rfl rfl rfl (hs S [_] hS).st (fun e _ => one_i e) rfl (by decide) (by omega)).op.mono (fun v H' ⟨b, c, hv, hH⟩ => ⟨(b, c), fun _ => by rw [hv, Nat.zero_add]; rfl, by rw [hH]; exact List.Perm.refl _⟩)) | (exact fun env S hS hrd => (StF.storeOne (i := 0) (cs := cTm T p) rfl rfl rfl rfl (te rfl) rfl rfl (Nat.le_of_ble_eq_true rfl)).op.mono (fun v H' ⟨hv, hH⟩ => ⟨(0, 0), fun h => absurd rfl h, by rw [hH]; exact List.Perm.refl _⟩)) | (exact fun env S hS hrd => (StF.storeOne (i := 0) (cs := cTm T ⟨some ⟨(env 3).1, 0, none⟩, (env 3).2, p.a2, p.c2⟩) rfl rfl rfl rfl (te rfl) rfl rfl (Nat.le_of_ble_eq_true rfl)).op.mono (fun v H' ⟨hv, hH⟩ => ⟨(0, 0), fun h => absurd rfl h, by rw [hH]; exact List.Perm.refl _⟩)))))))
  · intro env t ha hv
    refine ⟨_, ha, ?_⟩
    show X _ _ _ _ (⟨(env 3).1, 0, T.G.flatMap cI, some 3, (env 3).2 * 1⟩ :: ⟨(env 7).1, 0, T.S.flatMap cI, some 3, (env 7).2 * 1⟩ :: ⟨b1, 0, cTm T ⟨some ⟨(env 3).1, 0, none⟩, (env 3).2, some ⟨(env 7).1, 0, none⟩, (env 7).2⟩, some 28, 11⟩ :: ⟨b2, 0, cTm Tz pz, some 28, 11⟩ :: H) _
    repeat' (first | (refine XO.op rfl ?_; (first | ((first | refine Xo.ng rfl ?_); (first | (refine Xg.ev (EvF.loadV rfl rfl (LoadV.whole (te rfl) rfl (List.Mem.tail _ (List.Mem.tail _ (List.Mem.head _))) rfl)) rfl rfl ?_) | (refine Xg.st0 (StF.storeAll (i := 3) rfl rfl rfl (te rfl) rfl rfl rfl rfl) rfl ?_; rintro _ _ ⟨rfl, rfl⟩; dsimp only [List.set]))))) | (refine XO.done rfl ?_; refine hK _ _ ?_; clear hK K) | refine X.seq rfl ?_ | refine X.region rfl (fun K hK => ?_) | refine X.ret rfl ?_)
    exact ret_one (by first | exact .inr rfl | exact .inl rfl) Try.results11 ⟨_, rfl, LoadV.whole (te rfl) rfl (List.Mem.tail _ (List.Mem.tail _ (List.Mem.tail _ (List.Mem.head _)))) rfl⟩ (H' := ⟨(env 3).1, 0, T.G.flatMap cI, some 3, (env 3).2 * 1⟩ :: ⟨(env 7).1, 0, T.S.flatMap cI, some 3, (env 7).2 * 1⟩ :: H) (by (repeat (first | exact List.Sublist.refl _ | apply List.Sublist.cons_cons | apply List.Sublist.cons)); done) ⟨_, _, _, _, rfl, rfl⟩
end Go.Proofs.Ytjejppodhpdckaa
end
section
set_option linter.unusedVariables false
set_option linter.unusedSimpArgs false
namespace Go.Fw
open Go
theorem EvF.eqSelf {P : Program} {n : Nat} {H : List Row} {F : FS} {o : Oper} {T T' : TypeId} {x y : Operand} {k : IntKind} {p : Int} (h : o.op = .binOp .eql T x y T') (hx : evF F x = some (.int k p)) (hy : evF F y = some (.int k p)) : EvF P n H F o (.bool true) := by
  have := EvF.cmp (P := P) (n := n) (H := H) h hx hy rfl
  rwa [decide_eq_true rfl] at this
end Go.Fw
namespace Go.Proofs.Ytjejppodhpdckaa
open Go Go.Fw
set_option maxRecDepth 10000
theorem sameT_self (T : Tm) (p q : Pt) (H : List Row) (hT : TmOk H T p) (hU : TmOk H T q) : Fc Try.prog 18 [.agg (cTm T p).toArray, .agg (cTm T q).toArray] H (fun v H' => v = .bool true ∧ H' = H) :=
  (sameT_spec T T p q H hT hU).mono (fun v H' ⟨h1, h2⟩ => ⟨by rw [h1, decide_eq_true rfl], h2⟩)
theorem greatT (T : Tm) (p : Pt) (h : T.G.length > 30 ∨ T.S.length > 30) (H : List Row) : Fc Try.prog 10 [.agg (cTm T p).toArray] H (fun v H' => v = .bool true ∧ H' = H) := by
  have := great_spec T p H
  rwa [decide_eq_true h] at this
theorem greatF (T : Tm) (p : Pt) (h : ¬ (T.G.length > 30 ∨ T.S.length > 30)) (H : List Row) : Fc Try.prog 10 [.agg (cTm T p).toArray] H (fun v H' => v = .bool false ∧ H' = H) := by
  have := great_spec T p H
  rwa [decide_eq_false h] at this
theorem ownT (T : Tm) (t1 k1 t2 k2 : Nat) (H : List Row) (l1 : T.G.length ≤ 1000000) (l2 : T.S.length ≤ 1000000) (m1 : (⟨t1, 0, T.G.flatMap cI, some 3, k1 * 1⟩ : Row) ∈ H) (m2 : (⟨t2, 0, T.S.flatMap cI, some 3, k2 * 1⟩ : Row) ∈ H) : TmOk H T ⟨some ⟨t1, 0, none⟩, k1, some ⟨t2, 0, none⟩, k2⟩ :=
  ⟨SlE.ofRow m1 (fun _ _ => rfl), SlE.ofRow m2 (fun _ _ => rfl), l1, l2⟩
end Go.Proofs.Ytjejppodhpdckaa
end
section
set_option linter.unusedVariables false
namespace Go.Proofs.Ytjejppodhpdckaa
open Go Go.Fw Go.ChangeShapes Go.WideShapes Go.ChangeAt Go.RowKit
set_option linter.unusedVariables false
set_option maxRecDepth 100000
instance : Inhabited Sp := ⟨⟨0, 0⟩⟩
instance : Inhabited Cl := ⟨⟨0, 0⟩⟩
section
variable {H : Type} {enc : TypeId × Value → H} {w : World} {base : Nat} {spare : Nat → Bool} {held : Bool} {fuel : Nat} {cs : List Value} {x : DataW H × List MemPlace}
theorem open_i (h : DataW.trod enc Try.prog w base spare held fuel 3 cs = some x) : ∃ q : Int, cs = cI q ∧ True := by
  obtain ⟨q, h1, _⟩ := trod_i (te rfl) h
  exact ⟨q, h1, trivial⟩
theorem open_sp (h : DataW.trod enc Try.prog w base spare held fuel 26 cs = some x) : ∃ q : Sp, cs = cSp q ∧ True := by
  obtain ⟨hl, hf⟩ := trod_st (te rfl) h
  obtain ⟨n0, y0, h0⟩ := hf 0 0 3 _ rfl (te rfl)
  obtain ⟨n1, y1, h1⟩ := hf 1 1 3 _ rfl (te rfl)
  match cs, hl with
  | [a, b], _ =>
    obtain ⟨lo, e0, w0⟩ := open_i h0
    obtain ⟨hi, e1, w1⟩ := open_i h1
    simp [cI] at e0 e1
    subst e0 e1
    exact ⟨⟨lo, hi⟩, rfl, trivial⟩
theorem open_cl (h : DataW.trod enc Try.prog w base spare held fuel 23 cs = some x) : ∃ q : Cl, cs = cCl q ∧ True := by
  obtain ⟨hl, hf⟩ := trod_st (te rfl) h
  obtain ⟨n0, y0, h0⟩ := hf 0 0 3 _ rfl (te rfl)
  obtain ⟨n1, y1, h1⟩ := hf 1 1 3 _ rfl (te rfl)
  match cs, hl with
  | [a, b], _ =>
    obtain ⟨lo, e0, w0⟩ := open_i h0
    obtain ⟨hi, e1, w1⟩ := open_i h1
    simp [cI] at e0 e1
    subst e0 e1
    exact ⟨⟨lo, hi⟩, rfl, trivial⟩
end
structure InTm (w : World) (T : Tm) (p : Pt) : Prop where
  gr : InSl w p.a1 cI 1 T.G
  st : InSl w p.a2 cI 1 T.S
def rowsTm (T : Tm) (p : Pt) : List Row := rowsOf p.a1 cI T.G ++ rowsOf p.a2 cI T.S
theorem InTm.ok {w : World} {T : Tm} {p : Pt} {N : Nat} (h : InTm w T p) : ∀ r ∈ rowsTm T p, r.own = none ∧ r.ok N w := by
  intro r hr
  rcases List.mem_append.1 hr with hr | hr
  · exact h.gr.ok r hr
  · exact h.st.ok r hr
theorem InTm.g {w : World} {T : Tm} {p : Pt} (h : InTm w T p) {H : List Row} (hs : ∀ r ∈ rowsTm T p, r ∈ H) : SlE H p.a1 cI 1 T.G := h.gr.sl (fun r hr => hs r (List.mem_append_left _ hr))
theorem InTm.s {w : World} {T : Tm} {p : Pt} (h : InTm w T p) {H : List Row} (hs : ∀ r ∈ rowsTm T p, r ∈ H) : SlE H p.a2 cI 1 T.S := h.st.sl (fun r hr => hs r (List.mem_append_right _ hr))
section
variable {H : Type} {enc : TypeId × Value → H} {w : World} {base : Nat} {spare : Nat → Bool} {held : Bool} {v : Value} {d : DataW H} {p : List MemPlace} {r : Reach} {b0 : Nat}
theorem open_terms (hv : Value.okWide Try.prog w r b0 28 v) (h : DataW.Trod enc Try.prog w base spare held 28 v d p) : ∃ T pl, v = .agg (cTm T pl).toArray ∧ InTm w T pl := by
  obtain ⟨fa, hu, _⟩ := ti_struct (te (T := 28) rfl)
  obtain ⟨⟨cs⟩, rfl, _⟩ := okWide_struct hu hv
  obtain ⟨fuel, hf⟩ := h
  obtain ⟨hl, hf⟩ := trod_st (te rfl) hf
  obtain ⟨n0, y0, h0⟩ := hf 0 0 23 _ rfl (te rfl)
  obtain ⟨n1, y1, h1⟩ := hf 1 2 3 _ rfl (te rfl)
  obtain ⟨n2, y2, h2⟩ := hf 2 3 3 _ rfl (te rfl)
  obtain ⟨n3, y3, h3⟩ := hf 3 4 3 _ rfl (te rfl)
  obtain ⟨n4, y4, h4⟩ := hf 4 5 24 _ rfl (te rfl)
  obtain ⟨n5, y5, h5⟩ := hf 5 6 24 _ rfl (te rfl)
  obtain ⟨n6, y6, h6⟩ := hf 6 7 26 _ rfl (te rfl)
  obtain ⟨n7, y7, h7⟩ := hf 7 9 3 _ rfl (te rfl)
  obtain ⟨n8, y8, h8⟩ := hf 8 10 3 _ rfl (te rfl)
  match cs, hl with
  | [a, b, c, d, e, f, g, i, j, k, l], _ =>
    obtain ⟨q0, e0, w0⟩ := open_cl h0
    obtain ⟨q1, e1, w1⟩ := open_i h1
    obtain ⟨q2, e2, w2⟩ := open_i h2
    obtain ⟨q3, e3, w3⟩ := open_i h3
    obtain ⟨q6, e6, w6⟩ := open_sp h6
    obtain ⟨q7, e7, w7⟩ := open_i h7
    obtain ⟨q8, e8, w8⟩ := open_i h8
    simp [cI, cSp, cCl, Value.cells] at e0 e1 e2 e3 e6 e7 e8
    obtain ⟨l4, a4, c4, e4, i4, _, k4⟩ := open_sl (te rfl) (te rfl) rfl (by decide) (fun _ _ _ => open_i) (fun _ => rfl) h4
    obtain ⟨l5, a5, c5, e5, i5, _, k5⟩ := open_sl (te rfl) (te rfl) rfl (by decide) (fun _ _ _ => open_i) (fun _ => rfl) h5
    obtain ⟨e01, e02⟩ := e0
    obtain ⟨e61, e62⟩ := e6
    subst e01 e02 e1 e2 e3 e4 e5 e61 e62 e7 e8
    exact ⟨⟨q0.g, q0.s, q1, q2, q3, l4, l5, q6.lo, q6.hi, q7, q8⟩, ⟨a4, c4, a5, c5⟩, rfl, i4, i5⟩
theorem open_int (hv : Value.okWide Try.prog w r b0 3 v) : ∃ q : Int, v = .int .i64 q := okWide_int Try.underlying3 hv
end
theorem ownK : ownKnob Try.prog.godebug = none := by kernel_rfl
theorem laidO : laidOutB Try.prog = true := by kernel_rfl
end Go.Proofs.Ytjejppodhpdckaa
end
section
set_option linter.unusedVariables false
set_option linter.unusedSimpArgs false
namespace Go.Proofs.Ytjejppodhpdckaa
open Go Go.Fw
set_option maxRecDepth 10000
/-- a call about nothing, about one class -/
def abO : Ab := ⟨[], [], [], []⟩
def abC (c : Cl) : Ab := ⟨[], [lo1 c], [], []⟩
theorem openO (T : Tm) : openE T abO = if tmOk T then 0 else 40 := by
  unfold openE
  have h1 : askD abO := fun d hd => absurd hd List.not_mem_nil
  have h2 : askG abO := fun d hd => absurd hd List.not_mem_nil
  have h3 : askS abO := fun d hd => absurd hd List.not_mem_nil
  have h4 : askM abO := fun d hd => absurd hd List.not_mem_nil
  have h5 : askN T abO := fun d hd => absurd hd List.not_mem_nil
  simp only [h1, h2, h3, h4, h5, if_true]
theorem openC (T : Tm) (c : Cl) : openE T (abC c) = askedE T c := by
  unfold openE askedE clsE
  have h1 : askD (abC c) := fun d hd => absurd hd List.not_mem_nil
  have h2 : askG (abC c) ↔ 1 ≤ c.g ∧ c.g ≤ 9 := by simp [askG, abC, lo1, partOk]
  have h3 : askS (abC c) ↔ 1 ≤ c.s ∧ c.s ≤ 9 := by simp [askS, abC, lo1, partOk]
  have h4 : askM (abC c) := fun d hd => absurd hd List.not_mem_nil
  have h5 : askN T (abC c) := fun d hd => absurd hd List.not_mem_nil
  simp only [h1, h2, h3, h4, h5, if_true]
/-- the first class that is none -/
def cErr : List Cl → Int
  | [] => 0
  | c :: l => if clsE c = 0 then cErr l else clsE c
theorem cErr_app : ∀ (l m : List Cl), cErr l = 0 → cErr (l ++ m) = cErr m
  | [], _, _ => rfl
  | c :: l, m, h => by
    by_cases h1 : clsE c = 0
    · show (if clsE c = 0 then cErr (l ++ m) else clsE c) = _
      rw [if_pos h1]
      exact cErr_app l m (by have : (if clsE c = 0 then cErr l else clsE c) = 0 := h; rwa [if_pos h1] at this)
    · exact absurd (by have : (if clsE c = 0 then cErr l else clsE c) = 0 := h; rwa [if_neg h1] at this) h1
theorem cErr_at {l : List Cl} {k : Nat} {c : Cl} (h : cErr (l.take k) = 0) (hc : l[k]? = some c) : cErr l = if clsE c = 0 then cErr (l.drop (k + 1)) else clsE c := by
  conv => lhs; rw [← List.take_append_drop k l, cErr_app _ _ h, drop_cons hc]
  rfl
theorem cErr_snoc {l : List Cl} {k : Nat} {c : Cl} (h : cErr (l.take k) = 0) (hc : l[k]? = some c) (h0 : clsE c = 0) : cErr (l.take (k + 1)) = 0 := by
  rw [take_snoc hc, cErr_app _ _ h]
  show (if clsE c = 0 then cErr [] else clsE c) = 0
  rw [if_pos h0]; rfl
theorem clsE_zero {c : Cl} (h : clsE c = 0) : (1 ≤ c.g ∧ c.g ≤ 9) ∧ (1 ≤ c.s ∧ c.s ≤ 9) := by
  unfold clsE at h
  by_cases h2 : 1 ≤ c.g ∧ c.g ≤ 9
  · by_cases h3 : 1 ≤ c.s ∧ c.s ≤ 9
    · exact ⟨h2, h3⟩
    · simp [h2, h3] at h
  · simp [h2] at h
theorem cErr_ok : ∀ {l : List Cl}, cErr l = 0 → ∀ {c}, c ∈ l → (1 ≤ c.g ∧ c.g ≤ 9) ∧ (1 ≤ c.s ∧ c.s ≤ 9)
  | [], _, _, hc => absurd hc List.not_mem_nil
  | x :: l, h, c, hc => by
    have h' : (if clsE x = 0 then cErr l else clsE x) = 0 := h
    by_cases h1 : clsE x = 0
    · rw [if_pos h1] at h'
      rcases List.mem_cons.1 hc with rfl | hc
      · exact clsE_zero h1
      · exact cErr_ok h' hc
    · rw [if_neg h1] at h'
      exact absurd h' h1
/-- what some classes come to -/
def sumV (T : Tm) : List Cl → Int
  | [] => 0
  | c :: l => (if may T c = true then val T c.g c.s else 0) + sumV T l
theorem sumV_app (T : Tm) : ∀ (l m : List Cl), sumV T (l ++ m) = sumV T l + sumV T m
  | [], m => by show sumV T m = 0 + sumV T m; omega
  | c :: l, m => by
    show _ + sumV T (l ++ m) = _ + sumV T l + sumV T m
    rw [sumV_app T l m]; omega
theorem sumV_snoc {T : Tm} {l : List Cl} {k : Nat} {c : Cl} (hc : l[k]? = some c) : sumV T (l.take (k + 1)) = sumV T (l.take k) + (if may T c = true then val T c.g c.s else 0) := by
  rw [take_snoc hc, sumV_app]
  show _ + (_ + 0) = _
  omega
theorem at1_bd {l : List Int} (h : ∀ n ∈ l, -1000 ≤ n ∧ n ≤ 1000) (i : Int) : -1000 ≤ at1 l i ∧ at1 l i ≤ 1000 := by
  unfold at1
  rw [List.getD_eq_getElem?_getD]
  cases e : l[(i - 1).toNat]? with
  | none => exact ⟨by decide, by decide⟩
  | some x => exact h x (List.mem_of_getElem? e)
theorem val_bd {T : Tm} (h : tmOk T) (g s : Int) : -2000 ≤ val T g s ∧ val T g s ≤ 1002000 := by
  have h1 := at1_bd h.gr.2 g
  have h2 := at1_bd h.st.2 s
  have h3 := h.num.1
  unfold val
  omega
theorem sumV_bd {T : Tm} (h : tmOk T) : ∀ (l : List Cl), -2000 * (l.length : Int) ≤ sumV T l ∧ sumV T l ≤ 1002000 * (l.length : Int)
  | [] => ⟨by simp [sumV], by simp [sumV]⟩
  | c :: l => by
    have ih := sumV_bd h l
    have hv := val_bd h c.g c.s
    show _ ≤ (if may T c = true then val T c.g c.s else 0) + sumV T l ∧ (if may T c = true then val T c.g c.s else 0) + sumV T l ≤ _
    rw [List.length_cons]
    split <;> omega
/-- which may not be delivered -/
def refsA (T : Tm) : Nat → List Cl → List Int
  | _, [] => []
  | k, c :: l => if may T c = true then refsA T (k + 1) l else (k : Int) :: refsA T (k + 1) l
theorem refsA_app (T : Tm) : ∀ (l m : List Cl) (k : Nat), refsA T k (l ++ m) = refsA T k l ++ refsA T (k + l.length) m
  | [], _, _ => rfl
  | c :: l, m, k => by
    show (if may T c = true then refsA T (k + 1) (l ++ m) else (k : Int) :: refsA T (k + 1) (l ++ m)) = (if may T c = true then refsA T (k + 1) l else (k : Int) :: refsA T (k + 1) l) ++ _
    rw [refsA_app T l m (k + 1), List.length_cons, show k + 1 + l.length = k + (l.length + 1) by omega]
    split <;> rfl
theorem refsA_len (T : Tm) : ∀ (l : List Cl) (k : Nat), (refsA T k l).length ≤ l.length
  | [], _ => Nat.le_refl _
  | c :: l, k => by
    have := refsA_len T l (k + 1)
    show (if may T c = true then refsA T (k + 1) l else (k : Int) :: refsA T (k + 1) l).length ≤ _
    rw [List.length_cons]
    split
    · omega
    · rw [List.length_cons]; omega
theorem refsA_snoc {T : Tm} {l : List Cl} {k : Nat} {c : Cl} (hc : l[k]? = some c) : refsA T 0 (l.take (k + 1)) = refsA T 0 (l.take k) ++ (if may T c = true then [] else [(k : Int)]) := by
  have hk := (List.getElem?_eq_some_iff.1 hc).1
  rw [take_snoc hc, refsA_app, List.length_take, Nat.min_eq_left (by omega), Nat.zero_add]
  rfl
noncomputable def totE (T : Tm) (m : Int) (l : List Cl) : Int := if tmOk T then (if T.dl ≤ m ∧ m ≤ T.dh then (if (l.length : Int) ≤ T.bales then cErr l else 4) else 44) else 40
noncomputable def totS (T : Tm) (m : Int) (l : List Cl) : Int := if totE T m l = 0 then sumV T l else 0
noncomputable def totI (T : Tm) (m : Int) (l : List Cl) : List Int := if totE T m l = 0 then refsA T 0 l else []
/-- a list of numbers of one's own, or none -/
def OutI (k : List Int) (v : Value) (Z : List Row) : Prop := (k = [] ∧ v = .slice none 0 0 ∧ Z = []) ∨ ∃ b q, v = .slice (some ⟨b, 0, none⟩) k.length q ∧ Z = [⟨b, 0, k.flatMap cI, some 3, q * 1⟩]
theorem OutI.nil : OutI [] (.slice none 0 0) [] := .inl ⟨rfl, rfl, rfl⟩
noncomputable def opT (T : Tm) (A : Ab) : Tm := if openE T A = 0 then T else Tz
noncomputable def opP (T : Tm) (p : Pt) (A : Ab) : Pt := if openE T A = 0 then p else pz
theorem openD_spec (T : Tm) (p : Pt) (A : Ab) (q : Pa) (H : List Row) (hT : TmOk H T p) (hA : AbOk H A q) (hd : HD A) (hi : HI A) :
    Fc Try.prog 81 [.agg (cTm T p).toArray, .agg (cAb A q).toArray] H (fun v H' => v = .tuple #[.agg (cTm (opT T A) (opP T p A)).toArray, .int .i64 (openE T A)] ∧ H' = H) := by
  refine (open_spec T p A q H hT hA hd hi).mono ?_
  rintro v H' ⟨⟨h, rfl⟩ | ⟨h, rfl⟩, rfl⟩
  · unfold opT opP; rw [if_pos h, if_pos h, h]; exact ⟨rfl, rfl⟩
  · unfold opT opP; rw [if_neg h, if_neg h]; exact ⟨rfl, rfl⟩
theorem okO (H : List Row) : AbOk H abO ⟨none, 0, none, 0, none, 0, none, 0⟩ := ⟨sleNil, sleNil, sleNil, sleNil, (fun d hd => absurd hd List.not_mem_nil), Nat.zero_le _, Nat.zero_le _, Nat.zero_le _, Nat.zero_le _⟩
theorem HI0 {d : List Dy} {l : List Lo} {m : List Int} : HI ⟨d, l, m, []⟩ := fun _ _ l hl => absurd hl List.not_mem_nil
theorem okC (H : List Row) (c : Cl) (b cap : Nat) (ow : Option Kd) (hm : ⟨b, 0, cLo (lo1 c), ow, cap⟩ ∈ H) : AbOk H (abC c) ⟨none, 0, some ⟨b, 0, none⟩, 1, none, 0, none, 0⟩ := ⟨sleNil, SlE.ofRow (cap := cap) (ow := ow) hm (fun _ _ => rfl), sleNil, sleNil, (fun d hd => absurd hd List.not_mem_nil), Nat.zero_le _, Nat.le_of_ble_eq_true rfl, Nat.zero_le _, Nat.zero_le _⟩
theorem openOk (T : Tm) (p : Pt) (H : List Row) (hT : TmOk H T p) (h : tmOk T) : Fc Try.prog 81 [.agg (cTm T p).toArray, .agg (cAb abO ⟨none, 0, none, 0, none, 0, none, 0⟩).toArray] H (fun v H' => v = .tuple #[.agg (cTm T p).toArray, .int .i64 0] ∧ H' = H) := by
  have e : openE T abO = 0 := by rw [openO, if_pos h]
  have := openD_spec T p abO _ H hT (okO H) HD0 HI0
  unfold opT opP at this
  rwa [e, if_pos rfl, if_pos rfl] at this
theorem openNo (T : Tm) (p : Pt) (H : List Row) (hT : TmOk H T p) (h : ¬ tmOk T) : Fc Try.prog 81 [.agg (cTm T p).toArray, .agg (cAb abO ⟨none, 0, none, 0, none, 0, none, 0⟩).toArray] H (fun v H' => v = .tuple #[.agg (cTm Tz pz).toArray, .int .i64 40] ∧ H' = H) := by
  have e : openE T abO = 40 := by rw [openO, if_neg h]
  have := openD_spec T p abO _ H hT (okO H) HD0 HI0
  unfold opT opP at this
  rwa [e, if_neg (by decide), if_neg (by decide)] at this
theorem OutI.zero {T : Tm} {m : Int} {l : List Cl} (h : totE T m l ≠ 0) : totS T m l = 0 ∧ totI T m l = [] := by
  unfold totS totI
  rw [if_neg h, if_neg h]
  exact ⟨rfl, rfl⟩
theorem tot_err {T : Tm} {m e : Int} {l : List Cl} (h : totE T m l = e) (h0 : e ≠ 0) (H : List Row) : ∃ w Z, Value.tuple #[.int .i64 0, .slice none 0 0, .int .i64 e] = .tuple #[.int .i64 (totS T m l), w, .int .i64 (totE T m l)] ∧ OutI (totI T m l) w Z ∧ H = Z ++ H := by
  have := OutI.zero (T := T) (m := m) (l := l) (by rw [h]; exact h0)
  rw [this.1, this.2, h]
  exact ⟨_, [], rfl, OutI.nil, rfl⟩
def tsTo : List TOp := [⟨some 47, [], [], []⟩, ⟨some 48, [], [], []⟩, ⟨some 49, [1], [1], []⟩, ⟨some 50, [1, 2], [2], []⟩, ⟨some 51, [1, 2, 3], [3], []⟩, ⟨some 52, [0, 1, 2, 3, 4], [0, 4], [3]⟩, ⟨some 46, [0, 1, 2, 3, 4, 5], [5], []⟩, ⟨some 53, [0, 1, 2, 3, 4, 5, 6], [6], []⟩, ⟨some 54, [0, 1, 2, 3, 4, 5, 6], [6], []⟩, ⟨some 12, [], [], []⟩, ⟨none, [0, 1, 2, 3, 4, 5, 6, 7, 9], [9, 7], [9]⟩, ⟨some 13, [0, 1, 2, 3, 4, 5, 6, 7, 8, 9, 10], [8], []⟩]
def valTo (b3 b9 b11 n cc : Nat) (sv kk er : Int) (out : Value) (a : Option Addr) (T U : Tm) (p u : Pt) (c : Cl) (k : Nat) (env : Env) : Value :=
  match k with
  | 0 => .agg (cTm T p).toArray
  | 1 => .agg (cCl c).toArray
  | 2 => .agg (cLo (lo1 c)).toArray
  | 3 => .slice (some ⟨(env 3).1, 0, none⟩) 1 1
  | 4 => .agg (cAb (abC c) ⟨none, 0, some ⟨(env 3).1, 0, none⟩, 1, none, 0, none, 0⟩).toArray
  | 5 => .tuple #[.agg (cTm U u).toArray, .int .i64 er]
  | 6 => .tuple #[.agg (cTm U u).toArray, .int .i64 er]
  | 7 => .agg (cTm U u).toArray
  | 8 => .int .i64 er
  | 9 => .pointer (some ⟨(env 9).1, 0, none⟩)
  | 10 => undef
  | 11 => .int .i64 er
  | _ => undef
def rowsTo (b3 b9 b11 n cc : Nat) (sv kk er : Int) (out : Value) (a : Option Addr) (T U : Tm) (p u : Pt) (c : Cl) (k : Nat) (env : Env) : List Row :=
  match k with
  | 3 => [⟨(env 3).1, 0, cLo (lo1 c), some 105, 1 * 4⟩]
  | 9 => [⟨(env 9).1, 0, cTm Tz pz, some 111, 11⟩]
  | 10 => [⟨(env 9).1, 0, cTm U u, some 111, 11⟩]
  | _ => []
theorem locTo (b3 b9 b11 n cc : Nat) (sv kk er : Int) (out : Value) (a : Option Addr) (T U : Tm) (p u : Pt) (c : Cl) : ∀ k env i q9, i ≠ k → (tAt tsTo k).sup.contains i = false → valTo b3 b9 b11 n cc sv kk er out a T U p u c k (upd env i q9) = valTo b3 b9 b11 n cc sv kk er out a T U p u c k env ∧ rowsTo b3 b9 b11 n cc sv kk er out a T U p u c k (upd env i q9) = rowsTo b3 b9 b11 n cc sv kk er out a T U p u c k env := by
  intro k env i q hk hs
  have hu : ∀ j, j ≠ i → upd env i q j = env j := fun j hj => by unfold upd; rw [if_neg hj]
  match k, hk, hs with
  | 0, _, _ => exact ⟨rfl, rfl⟩
  | 1, _, _ => exact ⟨rfl, rfl⟩
  | 2, _, _ => exact ⟨rfl, rfl⟩
  | 3, hk, hs => exact ⟨by simp only [valTo, hu 3 (fun e => hk e.symm)], by simp only [rowsTo, hu 3 (fun e => hk e.symm)]⟩
  | 4, hk, hs => exact ⟨by simp only [valTo, hu 3 (by rintro rfl; cases hs)], by simp only [rowsTo, hu 3 (by rintro rfl; cases hs)]⟩
  | 5, _, _ => exact ⟨rfl, rfl⟩
  | 6, _, _ => exact ⟨rfl, rfl⟩
  | 7, _, _ => exact ⟨rfl, rfl⟩
  | 8, _, _ => exact ⟨rfl, rfl⟩
  | 9, hk, hs => exact ⟨by simp only [valTo, hu 9 (fun e => hk e.symm)], by simp only [rowsTo, hu 9 (fun e => hk e.symm)]⟩
  | 10, hk, hs => exact ⟨by simp only [valTo, hu 9 (by rintro rfl; cases hs)], by simp only [rowsTo, hu 9 (by rintro rfl; cases hs)]⟩
  | 11, _, _ => exact ⟨rfl, rfl⟩
  | _ + 12, _, _ => exact ⟨rfl, rfl⟩
set_option maxHeartbeats 8000000 in
theorem ktotal_spec (T : Tm) (p : Pt) (m : Int) (l : List Cl) (a : Option Addr) (cc : Nat) (H : List Row) (hT : TmOk H T p) (hl : SlE H a cCl 2 l) (hb : l.length ≤ 1000) :
    Fc Try.prog 38 [.agg (cTm T p).toArray, .int .i64 m, .slice a l.length cc] H (fun v H' => ∃ w Z, v = .tuple #[.int .i64 (totS T m l), w, .int .i64 (totE T m l)] ∧ OutI (totI T m l) w Z ∧ H' = Z ++ H) := by
  have hT1 : ∀ Z : List Row, TmOk (Z ++ H) T p := fun Z => hT.sub (fun _ h => List.mem_append_right _ h)
  have hl1 : ∀ Z : List Row, SlE (Z ++ H) a cCl 2 l := fun Z => hl.sub (fun _ h => List.mem_append_right _ h)
  by_cases hok : tmOk T
  · refine Fc.mk (callable Try.call38) Try.func38 rfl Try.ntmps38 rfl ?_; dsimp only [fr]
    repeat' (first | (refine XO.op rfl ?_; (first | ((first | refine Xo.ng rfl ?_); (first | (refine Xg.ev (EvF.build (cs := cAb abO ⟨none, 0, none, 0, none, 0, none, 0⟩) rfl ArgsP.nil (te rfl) (Places.cons (te rfl) (Places.cons (te rfl) (Places.cons (te rfl) (Places.cons (te rfl) Places.nil)))) Try.zeroValue109 rfl) rfl rfl ?_) | (refine Xg.call (EnF.st rfl (Args.cons rfl (Args.cons rfl Args.nil))) rfl rfl (openOk T p _ (hT1 [_]) hok) ?_; rintro _ H9 ⟨rfl, hH9⟩; subst H9) | (refine Xg.ev (EvF.loadV rfl rfl (LoadV.ownAgg (vs := cSp ⟨T.dl, T.dh⟩) (te rfl) rfl (List.Mem.head _) rfl rfl)) rfl rfl ?_) | (refine Xg.st (StF.buildOne rfl elI rfl rfl rfl (by decide) (by decide)) rfl rfl ?_; rintro _ _ ⟨bs, rfl, rfl⟩) | (refine Xg.call (EnF.st rfl (Args.cons rfl (Args.cons rfl Args.nil))) rfl rfl (within1_spec ⟨T.dl, T.dh⟩ m _ _ _ _ _ (List.Mem.head _)) ?_; rintro _ H9 ⟨rfl, hH9⟩; subst H9) | (refine Xg.ev (EvF.move rfl rfl) rfl rfl ?_) | (refine Xg.ev (EvF.assign rfl rfl) rfl rfl ?_) | (refine Xg.ev (EvF.cmp rfl rfl rfl rfl) rfl rfl ?_) | (refine Xg.ev (EvF.not rfl rfl) rfl rfl ?_) | (refine Xg.ev (EvF.fieldAddr rfl rfl (te rfl) rfl (te rfl) (by decide)) rfl rfl ?_) | (refine Xg.ev (EvF.lenSlice rfl rfl (te rfl)) rfl rfl ?_) | (refine Xg.ev (EvF.loadV rfl rfl (LoadV.own (te rfl) rfl (List.Mem.tail _ (List.Mem.head _)) rfl)) rfl rfl ?_) | (refine Xg.ev (EvF.loadV rfl rfl (LoadV.whole (te rfl) rfl (List.Mem.head _) rfl)) rfl rfl ?_) | (refine Xg.ev (EvF.extract rfl rfl rfl) rfl rfl ?_) | (refine Xg.st (StF.boxAgg rfl rfl) rfl rfl ?_; rintro _ _ ⟨bx, rfl, rfl⟩) | (refine Xg.st (StF.alloc rfl Try.zeroValue28 rfl) rfl rfl ?_; rintro _ _ ⟨bx, rfl, rfl⟩) | (refine Xg.st0 (StF.storeAll (i := 0) rfl rfl rfl (te rfl) rfl rfl rfl rfl) rfl ?_; rintro _ _ ⟨rfl, rfl⟩; dsimp only [List.set]))))) | (refine XO.done rfl ?_; refine hK _ _ ?_; clear hK K) | refine X.seq rfl ?_ | refine X.region rfl (fun K hK => ?_) | refine X.block rfl ?_ | refine X.skip rfl ?_ | refine X.ret rfl ?_ | (refine X.ite rfl rfl (fun hc => ?_); (first | (with_reducible refine Xb.case hc (fun h => ?_) (fun h => ?_)) | (with_reducible refine Xb.caseN hc (fun h => ?_) (fun h => ?_))) <;> clear hc))
    · exfalso; omega
    · exact ret_three (by first | exact .inr rfl | exact .inl rfl) Try.results38 rfl rfl rfl (H' := H) (by (repeat (first | exact List.Sublist.refl _ | apply List.Sublist.cons)); done) (tot_err (by unfold totE; rw [if_pos hok, if_neg (by assumption)]) (by decide) H)
    · exact ret_three (by first | exact .inr rfl | exact .inl rfl) Try.results38 rfl rfl rfl (H' := H) (by (repeat (first | exact List.Sublist.refl _ | apply List.Sublist.cons)); done) (tot_err (by unfold totE; rw [if_pos hok, if_pos (by assumption), if_neg (by omega)]) (by decide) H)
    have hm : T.dl ≤ m ∧ m ≤ T.dh := by assumption
    have hle : (l.length : Int) ≤ T.bales := by omega
    have hE : totE T m l = cErr l := by unfold totE; rw [if_pos hok, if_pos hm, if_pos hle]
    have hnum := hok.num
    obtain ⟨b9, rfl⟩ : ∃ b9, b9 = bx := ⟨_, rfl⟩
    obtain ⟨b3, rfl⟩ : ∃ b3, b3 = bx := ⟨_, rfl⟩
    refine X.lp rfl (fun q F' H' => ∃ (k : Nat) (out : Value) (Z : List Row), q = l.length - k ∧ k ≤ l.length ∧ cErr (l.take k) = 0 ∧ OutI (refsA T 0 (l.take k)) out Z ∧ Z ++ ⟨b9, 0, cTm T p, some 111, 11⟩ :: ⟨b3, 0, cTm T p, some 28, 11⟩ :: H = H' ∧
        F' = [(3, .pointer (some ⟨b3, 0, none⟩)), (6, .int .i64 (sumV T (l.take k))), (7, out), (9, .pointer (some ⟨b9, 0, none⟩)), (39, .slice a l.length cc), (40, .int .i64 l.length), (41, .int .i64 k)])
      l.length [(3, .pointer (some ⟨b3, 0, none⟩)), (6, .int .i64 0), (7, .slice none 0 0), (9, .pointer (some ⟨b9, 0, none⟩)), (39, .slice a l.length cc), (40, .int .i64 l.length), (41, .int .i64 (0 : Nat))] _ (by (repeat (first | exact Sub.nil _ | refine Sub.cons rfl ?_)); done) (by (repeat (first | exact List.Sublist.refl _ | apply List.Sublist.cons_cons | apply List.Sublist.cons)); done) ⟨0, _, [], by omega, by omega, rfl, OutI.nil, rfl, rfl⟩ ?_
    rintro _ _ H2 ⟨k, out, Z, rfl, hk, hz, ⟨hr, rfl, rfl⟩ | ⟨bo, qo, rfl, rfl⟩, hH, rfl⟩
    · rw [List.nil_append] at hH
      subst hH
      repeat' (first | (refine XO.op rfl ?_; (first | ((first | refine Xo.ng rfl ?_); (first | (refine Xg.ev (EvF.move rfl rfl) rfl rfl ?_) | (refine Xg.ev (EvF.assign rfl rfl) rfl rfl ?_) | (refine Xg.ev (EvF.cmp rfl rfl rfl rfl) rfl rfl ?_))))) | (refine XO.done rfl ?_; refine hK _ _ ?_; clear hK K) | refine X.seq rfl ?_ | refine X.region rfl (fun K hK => ?_) | refine X.block rfl ?_ | (refine X.brk rfl ?_; repeat (first | refine blockX_hit rfl ?_ | refine blockX_miss (by decide) ?_)) | refine X.skip rfl ?_ | refine X.ret rfl ?_ | (refine X.ite rfl rfl (fun hc => ?_); (first | (with_reducible refine Xb.case hc (fun h => ?_) (fun h => ?_))) <;> clear hc))
      · obtain ⟨b, off, c, rfl, he⟩ := hl.elem (i := k) (by omega)
        have hv := val_bd hok c.g c.s
        have hs := sumV_bd hok (l.take k)
        rw [List.length_take] at hs
        have hsn := sumV_snoc (T := T) he
        have hrn := refsA_snoc (T := T) he
        rw [hr] at hrn
        repeat' (first | (refine XO.op rfl ?_; (first | ((first | refine Xo.ng rfl ?_); (first | (refine Xg.ev (EvF.loadV rfl rfl (LoadV.elA0 (hl1 [_, _]) he (te rfl) rfl (fun _ hm => hm) rfl)) rfl rfl ?_) | (refine Xg.ev (EvF.assign rfl rfl) rfl rfl ?_) | (refine Xg.ev (EvF.indexSlice rfl rfl rfl (te rfl) (te rfl) (by omega) (by omega)) rfl rfl ?_) | (refine Xg.st (StF.alloc rfl Try.zeroValue26 rfl) rfl rfl ?_; rintro _ _ ⟨bx, rfl, rfl⟩) | (refine Xg.st0 (StF.storeAll (i := 0) rfl rfl rfl (te rfl) rfl rfl rfl rfl) rfl ?_; rintro _ _ ⟨rfl, rfl⟩; dsimp only [List.set]))))) | (refine XO.done rfl ?_; refine hK _ _ ?_; clear hK K) | refine X.seq rfl ?_)
        obtain ⟨b11, rfl⟩ : ∃ b, b = bx := ⟨_, rfl⟩
        obtain ⟨U, hU⟩ : ∃ U, opT T (abC c) = U := ⟨_, rfl⟩
        obtain ⟨u, hu⟩ : ∃ u, opP T p (abC c) = u := ⟨_, rfl⟩
        obtain ⟨er, her⟩ : ∃ e, clsE c = e := ⟨_, rfl⟩
        have hop : openE T (abC c) = er := by rw [openC, ← her]; unfold askedE; rw [if_pos hok]
        refine X.regionOb tsTo [3, 6, 7, 9, 10, 11, 39, 40, 41] [(3, .pointer (some ⟨b3, 0, none⟩)), (6, .int .i64 (sumV T (l.take k))), (7, (.slice none 0 0)), (9, .pointer (some ⟨b9, 0, none⟩)), (10, .int .i64 (k : Int)), (11, .pointer (some ⟨b11, 0, none⟩)), (39, .slice (some ⟨b, off, none⟩) l.length cc), (40, .int .i64 (l.length : Nat)), (41, .int .i64 (k : Int))] (valTo b3 b9 b11 l.length cc (sumV T (l.take k)) (k : Int) er (.slice none 0 0) (some ⟨b, off, none⟩) T U p u c) (rowsTo b3 b9 b11 l.length cc (sumV T (l.take k)) (k : Int) er (.slice none 0 0) (some ⟨b, off, none⟩) T U p u c) (fun _ => (0, 0)) (⟨b11, 0, cCl c, some 23, 2⟩ :: ⟨b9, 0, cTm T p, some 111, 11⟩ :: ⟨b3, 0, cTm T p, some 28, 11⟩ :: H) rfl mixed (by (repeat (first | exact Sub.nil _ | refine Sub.cons rfl ?_)); done) rfl (by kernel_rfl) (locTo b3 b9 b11 l.length cc (sumV T (l.take k)) (k : Int) er (.slice none 0 0) (some ⟨b, off, none⟩) T U p u c) (List.Sublist.refl _) ?_ ?_
        · repeat' (first | exact AllF.done rfl | (refine AllF.step rfl ?_ ?_; · (first | fail | ((first | refine Ob.ng rfl ?_); (first | exact ObK.pure (fun env R hR => by exact ⟨_, EvF.move rfl rfl, rfl⟩) rfl (fun _ => rfl) | exact ObK.pure (fun env R hR => by exact ⟨_, EvF.assign rfl rfl, rfl⟩) rfl (fun _ => rfl) | exact ObK.pure (fun env R hR => by exact ⟨_, EvF.loadV rfl rfl (LoadV.whole (te rfl) rfl (hR _ (List.Mem.head _)) rfl), rfl⟩) rfl (fun _ => rfl) | exact ObK.pure (fun env R hR => by exact ⟨_, EvF.loadV rfl rfl (LoadV.whole (te rfl) rfl (hR _ (List.Mem.tail _ (List.Mem.tail _ (List.Mem.head _)))) rfl), rfl⟩) rfl (fun _ => rfl) | (exact fun env S hS => (StF.buildOne rfl elLo rfl rfl rfl (by decide) (by decide)).op.mono (fun v H' ⟨b, hv, hH⟩ => ⟨(b, 0), fun _ => hv, by rw [hH]; exact List.Perm.refl _⟩)) | (exact fun env S hS => OpF.callV (Z := []) (EnF.st rfl (Args.cons rfl Args.nil)) (only_spec c _) rfl rfl) | (exact ObK.pure (fun env S hS => ⟨_, EvF.build (cs := cAb (abC c) ⟨none, 0, some ⟨(env 3).1, 0, none⟩, 1, none, 0, none, 0⟩) rfl (ArgsP.cons rfl ArgsP.nil) (te rfl) (Places.cons (te rfl) (Places.cons (te rfl) (Places.cons (te rfl) (Places.cons (te rfl) Places.nil)))) Try.zeroValue109 rfl, rfl⟩) rfl (fun _ => rfl)) | (exact ObK.pure (fun env S hS => ⟨_, EvF.extract rfl rfl rfl, rfl⟩) rfl (fun _ => rfl)) | (exact fun env S hS => (StF.alloc rfl Try.zeroValue111 rfl).op.mono (fun v H' ⟨b, hv, hH⟩ => ⟨(b, 0), fun _ => hv, by rw [hH]; exact List.Perm.refl _⟩)) | (exact fun env S hS => (StF.storeAll (i := 0) (vs := cTm U u) (cs := cTm Tz pz) rfl rfl rfl (te rfl) rfl rfl rfl rfl).op.mono (fun v H' ⟨hv, hH⟩ => ⟨(0, 0), fun h => absurd rfl h, by rw [hH]; exact List.Perm.refl _⟩)) | (exact fun env S hS => OpF.callV (Z := [_]) (EnF.st rfl (Args.cons rfl (Args.cons rfl Args.nil))) (openD_spec T p (abC c) ⟨none, 0, some ⟨(env 3).1, 0, none⟩, 1, none, 0, none, 0⟩ _ (hT.sub (fun _ h => List.mem_append_right _ (hS _ (by repeat (first | exact h | apply List.Mem.tail))))) (okC _ c _ _ _ (List.Mem.head _)) HD0 HI0) (by rw [hU, hu, hop]; rfl) rfl))))))
        · intro env t ha hv
          refine ⟨_, ha.cons (hv 11 13 (Nat.le_of_ble_eq_true rfl) rfl), ?_⟩
          show X _ _ _ _ (⟨(env 9).1, 0, cTm U u, some 111, 11⟩ :: ⟨b11, 0, cCl c, some 23, 2⟩ :: ⟨b9, 0, cTm T p, some 111, 11⟩ :: ⟨b3, 0, cTm T p, some 28, 11⟩ :: H) _
          repeat' (first | (refine XO.op rfl ?_; (first | ((first | refine Xo.ng rfl ?_); (first | (refine Xg.call (EnF.st rfl (Args.cons rfl (Args.cons rfl Args.nil))) rfl rfl (allows_spec T p c _) ?_; rintro _ H9 ⟨rfl, hH9⟩; subst H9) | (refine Xg.st (StF.buildOne rfl elI rfl rfl rfl (by decide) (by decide)) rfl rfl ?_; rintro _ _ ⟨bs, rfl, rfl⟩) | (refine Xg.st (StF.appendNew rfl elI rfl rfl (by decide) rfl (Rd.own (List.Mem.head _)) (by decide)) rfl rfl ?_; rintro _ _ ⟨bn, kn, rfl, rfl⟩) | (refine Xg.ev (EvF.move rfl rfl) rfl rfl ?_) | (refine Xg.ev (EvF.assign rfl rfl) rfl rfl ?_) | (refine Xg.ev (EvF.cmp rfl rfl rfl rfl) rfl rfl ?_) | (refine Xg.ev (EvF.add64 rfl rfl rfl (by omega) (by omega)) rfl rfl ?_) | (refine Xg.ev (EvF.loadV rfl rfl (LoadV.whole (te rfl) rfl (List.Mem.tail _ (List.Mem.head _)) rfl)) rfl rfl ?_) | (refine Xg.ev (EvF.loadV rfl rfl (LoadV.whole (te rfl) rfl (List.Mem.tail _ (List.Mem.tail _ (List.Mem.head _))) rfl)) rfl rfl ?_))))) | (refine XO.done rfl ?_; refine hK _ _ ?_; clear hK K) | refine X.seq rfl ?_ | refine X.region rfl (fun K hK => ?_) | refine X.skip rfl ?_ | refine X.ret rfl ?_ | (refine X.ite rfl rfl (fun hc => ?_); (first | (with_reducible refine Xb.case hc (fun h => ?_) (fun h => ?_)) | (with_reducible refine Xb.caseN hc (fun h => ?_) (fun h => ?_))) <;> clear hc))
          · have hne : clsE c ≠ 0 := by omega
            exact ret_three (by first | exact .inr rfl | exact .inl rfl) Try.results38 rfl rfl rfl (H' := H) (by (repeat (first | exact List.Sublist.refl _ | apply List.Sublist.cons)); done) (tot_err (by rw [hE, cErr_at hz he, if_neg hne, her]) (by omega) H)
          · have hc0 : clsE c = 0 := by omega
            repeat' (first | (refine XO.op rfl ?_; (first | ((first | refine Xo.ng rfl ?_); (first | (refine Xg.call (EnF.st rfl (Args.cons rfl (Args.cons rfl Args.nil))) rfl rfl (value_spec T p c _ (hT1 [_, _, _, _]) hok.gr hok.st (by omega) (clsE_zero hc0).1 (clsE_zero hc0).2) ?_; rintro _ H9 ⟨rfl, hH9⟩; subst H9) | (refine Xg.ev (EvF.move rfl rfl) rfl rfl ?_) | (refine Xg.ev (EvF.assign rfl rfl) rfl rfl ?_) | (refine Xg.ev (EvF.add64 rfl rfl rfl (by omega) (by omega)) rfl rfl ?_))))) | (refine XO.done rfl ?_; refine hK _ _ ?_; clear hK K) | refine X.region rfl (fun K hK => ?_))
            have hmay : may T c = true := decide_eq_true (by assumption)
            rw [if_pos hmay] at hsn hrn
            refine ⟨_, [(3, .pointer (some ⟨b3, 0, none⟩)), (6, .int .i64 (sumV T (l.take (k + 1)))), (7, .slice none 0 0), (9, .pointer (some ⟨b9, 0, none⟩)), (39, .slice (some ⟨b, off, none⟩) l.length cc), (40, .int .i64 l.length), (41, .int .i64 (k + 1 : Nat))], _, (by rw [hsn]; exact (by (repeat (first | exact Sub.nil _ | refine Sub.cons rfl ?_)); done)), (by (repeat (first | exact List.Sublist.refl _ | apply List.Sublist.cons_cons | apply List.Sublist.cons)); done), ⟨k + 1, _, [], rfl, by omega, cErr_snoc hz he (by omega), .inl ⟨hrn, rfl, rfl⟩, rfl, rfl⟩, by omega⟩
          · have hmay : ¬ may T c = true := fun q => absurd (of_decide_eq_true q) (by assumption)
            rw [if_neg hmay] at hsn hrn
            rw [Int.add_zero] at hsn
            refine ⟨_, [(3, .pointer (some ⟨b3, 0, none⟩)), (6, .int .i64 (sumV T (l.take (k + 1)))), (7, .slice (some ⟨bn, 0, none⟩) 1 kn), (9, .pointer (some ⟨b9, 0, none⟩)), (39, .slice (some ⟨b, off, none⟩) l.length cc), (40, .int .i64 l.length), (41, .int .i64 (k + 1 : Nat))], _, (by rw [hsn]; exact (by (repeat (first | exact Sub.nil _ | refine Sub.cons rfl ?_)); done)), (by (repeat (first | exact List.Sublist.refl _ | apply List.Sublist.cons_cons | apply List.Sublist.cons)); done), ⟨k + 1, _, [⟨bn, 0, [.int .i64 k], some 3, kn * 1⟩], rfl, by omega, cErr_snoc hz he (by omega), .inr ⟨bn, kn, by rw [hrn]; rfl, by rw [hrn]; rfl⟩, rfl, rfl⟩, by omega⟩
      · obtain rfl : k = l.length := by omega
        rw [List.take_length] at hr hz ⊢
        have hE0 : totE T m l = 0 := by rw [hE, hz]
        have hS : totS T m l = sumV T l := by unfold totS; rw [if_pos hE0]
        have hI : totI T m l = refsA T 0 l := by unfold totI; rw [if_pos hE0]
        rw [hS, hI, hE0]
        exact ret_three (by first | exact .inr rfl | exact .inl rfl) Try.results38 rfl rfl rfl (H' := H) (by (repeat (first | exact List.Sublist.refl _ | apply List.Sublist.cons)); done) ⟨_, [], rfl, .inl ⟨hr, rfl, rfl⟩, rfl⟩
    · simp only [List.cons_append, List.nil_append] at hH
      subst hH
      repeat' (first | (refine XO.op rfl ?_; (first | ((first | refine Xo.ng rfl ?_); (first | (refine Xg.ev (EvF.move rfl rfl) rfl rfl ?_) | (refine Xg.ev (EvF.assign rfl rfl) rfl rfl ?_) | (refine Xg.ev (EvF.cmp rfl rfl rfl rfl) rfl rfl ?_))))) | (refine XO.done rfl ?_; refine hK _ _ ?_; clear hK K) | refine X.seq rfl ?_ | refine X.region rfl (fun K hK => ?_) | refine X.block rfl ?_ | (refine X.brk rfl ?_; repeat (first | refine blockX_hit rfl ?_ | refine blockX_miss (by decide) ?_)) | refine X.skip rfl ?_ | refine X.ret rfl ?_ | (refine X.ite rfl rfl (fun hc => ?_); (first | (with_reducible refine Xb.case hc (fun h => ?_) (fun h => ?_))) <;> clear hc))
      · obtain ⟨b, off, c, rfl, he⟩ := hl.elem (i := k) (by omega)
        have hv := val_bd hok c.g c.s
        have hs := sumV_bd hok (l.take k)
        rw [List.length_take] at hs
        have hsn := sumV_snoc (T := T) he
        have hrn := refsA_snoc (T := T) he
        have hrl := refsA_len T (l.take k) 0
        rw [List.length_take] at hrl
        repeat' (first | (refine XO.op rfl ?_; (first | ((first | refine Xo.ng rfl ?_); (first | (refine Xg.ev (EvF.loadV rfl rfl (LoadV.elA0 (hl1 [_, _, _]) he (te rfl) rfl (fun _ hm => hm) rfl)) rfl rfl ?_) | (refine Xg.ev (EvF.assign rfl rfl) rfl rfl ?_) | (refine Xg.ev (EvF.indexSlice rfl rfl rfl (te rfl) (te rfl) (by omega) (by omega)) rfl rfl ?_) | (refine Xg.st (StF.alloc rfl Try.zeroValue26 rfl) rfl rfl ?_; rintro _ _ ⟨bx, rfl, rfl⟩) | (refine Xg.st0 (StF.storeAll (i := 0) rfl rfl rfl (te rfl) rfl rfl rfl rfl) rfl ?_; rintro _ _ ⟨rfl, rfl⟩; dsimp only [List.set]))))) | (refine XO.done rfl ?_; refine hK _ _ ?_; clear hK K) | refine X.seq rfl ?_)
        obtain ⟨b11, rfl⟩ : ∃ b, b = bx := ⟨_, rfl⟩
        obtain ⟨U, hU⟩ : ∃ U, opT T (abC c) = U := ⟨_, rfl⟩
        obtain ⟨u, hu⟩ : ∃ u, opP T p (abC c) = u := ⟨_, rfl⟩
        obtain ⟨er, her⟩ : ∃ e, clsE c = e := ⟨_, rfl⟩
        have hop : openE T (abC c) = er := by rw [openC, ← her]; unfold askedE; rw [if_pos hok]
        refine X.regionOb tsTo [3, 6, 7, 9, 10, 11, 39, 40, 41] [(3, .pointer (some ⟨b3, 0, none⟩)), (6, .int .i64 (sumV T (l.take k))), (7, (.slice (some ⟨bo, 0, none⟩) (refsA T 0 (l.take k)).length qo)), (9, .pointer (some ⟨b9, 0, none⟩)), (10, .int .i64 (k : Int)), (11, .pointer (some ⟨b11, 0, none⟩)), (39, .slice (some ⟨b, off, none⟩) l.length cc), (40, .int .i64 (l.length : Nat)), (41, .int .i64 (k : Int))] (valTo b3 b9 b11 l.length cc (sumV T (l.take k)) (k : Int) er (.slice (some ⟨bo, 0, none⟩) (refsA T 0 (l.take k)).length qo) (some ⟨b, off, none⟩) T U p u c) (rowsTo b3 b9 b11 l.length cc (sumV T (l.take k)) (k : Int) er (.slice (some ⟨bo, 0, none⟩) (refsA T 0 (l.take k)).length qo) (some ⟨b, off, none⟩) T U p u c) (fun _ => (0, 0)) (⟨b11, 0, cCl c, some 23, 2⟩ :: ⟨bo, 0, (refsA T 0 (l.take k)).flatMap cI, some 3, qo * 1⟩ :: ⟨b9, 0, cTm T p, some 111, 11⟩ :: ⟨b3, 0, cTm T p, some 28, 11⟩ :: H) rfl mixed (by (repeat (first | exact Sub.nil _ | refine Sub.cons rfl ?_)); done) rfl (by kernel_rfl) (locTo b3 b9 b11 l.length cc (sumV T (l.take k)) (k : Int) er (.slice (some ⟨bo, 0, none⟩) (refsA T 0 (l.take k)).length qo) (some ⟨b, off, none⟩) T U p u c) (List.Sublist.refl _) ?_ ?_
        · repeat' (first | exact AllF.done rfl | (refine AllF.step rfl ?_ ?_; · (first | fail | ((first | refine Ob.ng rfl ?_); (first | exact ObK.pure (fun env R hR => by exact ⟨_, EvF.move rfl rfl, rfl⟩) rfl (fun _ => rfl) | exact ObK.pure (fun env R hR => by exact ⟨_, EvF.assign rfl rfl, rfl⟩) rfl (fun _ => rfl) | exact ObK.pure (fun env R hR => by exact ⟨_, EvF.loadV rfl rfl (LoadV.whole (te rfl) rfl (hR _ (List.Mem.head _)) rfl), rfl⟩) rfl (fun _ => rfl) | exact ObK.pure (fun env R hR => by exact ⟨_, EvF.loadV rfl rfl (LoadV.whole (te rfl) rfl (hR _ (List.Mem.tail _ (List.Mem.tail _ (List.Mem.tail _ (List.Mem.head _))))) rfl), rfl⟩) rfl (fun _ => rfl) | (exact fun env S hS => (StF.buildOne rfl elLo rfl rfl rfl (by decide) (by decide)).op.mono (fun v H' ⟨b, hv, hH⟩ => ⟨(b, 0), fun _ => hv, by rw [hH]; exact List.Perm.refl _⟩)) | (exact fun env S hS => OpF.callV (Z := []) (EnF.st rfl (Args.cons rfl Args.nil)) (only_spec c _) rfl rfl) | (exact ObK.pure (fun env S hS => ⟨_, EvF.build (cs := cAb (abC c) ⟨none, 0, some ⟨(env 3).1, 0, none⟩, 1, none, 0, none, 0⟩) rfl (ArgsP.cons rfl ArgsP.nil) (te rfl) (Places.cons (te rfl) (Places.cons (te rfl) (Places.cons (te rfl) (Places.cons (te rfl) Places.nil)))) Try.zeroValue109 rfl, rfl⟩) rfl (fun _ => rfl)) | (exact ObK.pure (fun env S hS => ⟨_, EvF.extract rfl rfl rfl, rfl⟩) rfl (fun _ => rfl)) | (exact fun env S hS => (StF.alloc rfl Try.zeroValue111 rfl).op.mono (fun v H' ⟨b, hv, hH⟩ => ⟨(b, 0), fun _ => hv, by rw [hH]; exact List.Perm.refl _⟩)) | (exact fun env S hS => (StF.storeAll (i := 0) (vs := cTm U u) (cs := cTm Tz pz) rfl rfl rfl (te rfl) rfl rfl rfl rfl).op.mono (fun v H' ⟨hv, hH⟩ => ⟨(0, 0), fun h => absurd rfl h, by rw [hH]; exact List.Perm.refl _⟩)) | (exact fun env S hS => OpF.callV (Z := [_]) (EnF.st rfl (Args.cons rfl (Args.cons rfl Args.nil))) (openD_spec T p (abC c) ⟨none, 0, some ⟨(env 3).1, 0, none⟩, 1, none, 0, none, 0⟩ _ (hT.sub (fun _ h => List.mem_append_right _ (hS _ (by repeat (first | exact h | apply List.Mem.tail))))) (okC _ c _ _ _ (List.Mem.head _)) HD0 HI0) (by rw [hU, hu, hop]; rfl) rfl))))))
        · intro env t ha hv
          refine ⟨_, ha.cons (hv 11 13 (Nat.le_of_ble_eq_true rfl) rfl), ?_⟩
          show X _ _ _ _ (⟨(env 9).1, 0, cTm U u, some 111, 11⟩ :: ⟨b11, 0, cCl c, some 23, 2⟩ :: ⟨bo, 0, (refsA T 0 (l.take k)).flatMap cI, some 3, qo * 1⟩ :: ⟨b9, 0, cTm T p, some 111, 11⟩ :: ⟨b3, 0, cTm T p, some 28, 11⟩ :: H) _
          repeat' (first | (refine XO.op rfl ?_; (first | ((first | refine Xo.ng rfl ?_); (first | (refine Xg.call (EnF.st rfl (Args.cons rfl (Args.cons rfl Args.nil))) rfl rfl (allows_spec T p c _) ?_; rintro _ H9 ⟨rfl, hH9⟩; subst H9) | (refine Xg.st (StF.buildOne rfl elI rfl rfl rfl (by decide) (by decide)) rfl rfl ?_; rintro _ _ ⟨bs, rfl, rfl⟩) | (refine Xg.st (StF.appendOwn (i := 3) rfl elI rfl rfl rfl (lenI _) rfl (Rd.own (List.Mem.head _)) rfl (by omega)) rfl rfl ?_; rintro _ _ ⟨bn, kn, rfl, rfl⟩; dsimp only [List.eraseIdx]) | (refine Xg.ev (EvF.move rfl rfl) rfl rfl ?_) | (refine Xg.ev (EvF.assign rfl rfl) rfl rfl ?_) | (refine Xg.ev (EvF.cmp rfl rfl rfl rfl) rfl rfl ?_) | (refine Xg.ev (EvF.add64 rfl rfl rfl (by omega) (by omega)) rfl rfl ?_) | (refine Xg.ev (EvF.loadV rfl rfl (LoadV.whole (te rfl) rfl (List.Mem.tail _ (List.Mem.head _)) rfl)) rfl rfl ?_) | (refine Xg.ev (EvF.loadV rfl rfl (LoadV.whole (te rfl) rfl (List.Mem.tail _ (List.Mem.tail _ (List.Mem.tail _ (List.Mem.head _)))) rfl)) rfl rfl ?_))))) | (refine XO.done rfl ?_; refine hK _ _ ?_; clear hK K) | refine X.seq rfl ?_ | refine X.region rfl (fun K hK => ?_) | refine X.skip rfl ?_ | refine X.ret rfl ?_ | (refine X.ite rfl rfl (fun hc => ?_); (first | (with_reducible refine Xb.case hc (fun h => ?_) (fun h => ?_)) | (with_reducible refine Xb.caseN hc (fun h => ?_) (fun h => ?_))) <;> clear hc))
          · have hne : clsE c ≠ 0 := by omega
            exact ret_three (by first | exact .inr rfl | exact .inl rfl) Try.results38 rfl rfl rfl (H' := H) (by (repeat (first | exact List.Sublist.refl _ | apply List.Sublist.cons)); done) (tot_err (by rw [hE, cErr_at hz he, if_neg hne, her]) (by omega) H)
          · have hc0 : clsE c = 0 := by omega
            repeat' (first | (refine XO.op rfl ?_; (first | ((first | refine Xo.ng rfl ?_); (first | (refine Xg.call (EnF.st rfl (Args.cons rfl (Args.cons rfl Args.nil))) rfl rfl (value_spec T p c _ (hT1 [_, _, _, _, _]) hok.gr hok.st (by omega) (clsE_zero hc0).1 (clsE_zero hc0).2) ?_; rintro _ H9 ⟨rfl, hH9⟩; subst H9) | (refine Xg.ev (EvF.move rfl rfl) rfl rfl ?_) | (refine Xg.ev (EvF.assign rfl rfl) rfl rfl ?_) | (refine Xg.ev (EvF.add64 rfl rfl rfl (by omega) (by omega)) rfl rfl ?_))))) | (refine XO.done rfl ?_; refine hK _ _ ?_; clear hK K) | refine X.region rfl (fun K hK => ?_))
            have hmay : may T c = true := decide_eq_true (by assumption)
            rw [if_pos hmay] at hsn hrn
            rw [List.append_nil] at hrn
            refine ⟨_, [(3, .pointer (some ⟨b3, 0, none⟩)), (6, .int .i64 (sumV T (l.take (k + 1)))), (7, .slice (some ⟨bo, 0, none⟩) (refsA T 0 (l.take k)).length qo), (9, .pointer (some ⟨b9, 0, none⟩)), (39, .slice (some ⟨b, off, none⟩) l.length cc), (40, .int .i64 l.length), (41, .int .i64 (k + 1 : Nat))], _, (by rw [hsn]; exact (by (repeat (first | exact Sub.nil _ | refine Sub.cons rfl ?_)); done)), (by (repeat (first | exact List.Sublist.refl _ | apply List.Sublist.cons_cons | apply List.Sublist.cons)); done), ⟨k + 1, _, [⟨bo, 0, (refsA T 0 (l.take k)).flatMap cI, some 3, qo * 1⟩], rfl, by omega, cErr_snoc hz he (by omega), .inr ⟨bo, qo, by rw [hrn], by rw [hrn]⟩, rfl, rfl⟩, by omega⟩
          · have hmay : ¬ may T c = true := fun q => absurd (of_decide_eq_true q) (by assumption)
            rw [if_neg hmay] at hsn hrn
            rw [Int.add_zero] at hsn
            refine ⟨_, [(3, .pointer (some ⟨b3, 0, none⟩)), (6, .int .i64 (sumV T (l.take (k + 1)))), (7, .slice (some ⟨bn, 0, none⟩) ((refsA T 0 (l.take k)).length + 1) kn), (9, .pointer (some ⟨b9, 0, none⟩)), (39, .slice (some ⟨b, off, none⟩) l.length cc), (40, .int .i64 l.length), (41, .int .i64 (k + 1 : Nat))], _, (by rw [hsn]; exact (by (repeat (first | exact Sub.nil _ | refine Sub.cons rfl ?_)); done)), (by (repeat (first | exact List.Sublist.refl _ | apply List.Sublist.cons_cons | apply List.Sublist.cons)); done), ⟨k + 1, _, [⟨bn, 0, (refsA T 0 (l.take k)).flatMap cI ++ [.int .i64 k], some 3, kn * 1⟩], rfl, by omega, cErr_snoc hz he (by omega), .inr ⟨bn, kn, by rw [hrn, List.length_append]; rfl, by rw [hrn, List.flatMap_append]; rfl⟩, rfl, rfl⟩, by omega⟩
      · obtain rfl : k = l.length := by omega
        rw [List.take_length] at hz ⊢
        have hE0 : totE T m l = 0 := by rw [hE, hz]
        have hS : totS T m l = sumV T l := by unfold totS; rw [if_pos hE0]
        have hI : totI T m l = refsA T 0 l := by unfold totI; rw [if_pos hE0]
        rw [hS, hI, hE0]
        exact ret_three (by first | exact .inr rfl | exact .inl rfl) Try.results38 rfl rfl rfl (H' := ⟨bo, 0, (refsA T 0 l).flatMap cI, some 3, qo * 1⟩ :: H) (by (repeat (first | exact List.Sublist.refl _ | apply List.Sublist.cons_cons | apply List.Sublist.cons)); done) ⟨_, [⟨bo, 0, (refsA T 0 l).flatMap cI, some 3, qo * 1⟩], rfl, .inr ⟨bo, qo, rfl, rfl⟩, rfl⟩
  · refine Fc.mk (callable Try.call38) Try.func38 rfl Try.ntmps38 rfl ?_; dsimp only [fr]
    repeat' (first | (refine XO.op rfl ?_; (first | ((first | refine Xo.ng rfl ?_); (first | (refine Xg.ev (EvF.build (cs := cAb abO ⟨none, 0, none, 0, none, 0, none, 0⟩) rfl ArgsP.nil (te rfl) (Places.cons (te rfl) (Places.cons (te rfl) (Places.cons (te rfl) (Places.cons (te rfl) Places.nil)))) Try.zeroValue109 rfl) rfl rfl ?_) | (refine Xg.call (EnF.st rfl (Args.cons rfl (Args.cons rfl Args.nil))) rfl rfl (openNo T p _ (hT1 [_]) hok) ?_; rintro _ H9 ⟨rfl, hH9⟩; subst H9) | (refine Xg.ev (EvF.move rfl rfl) rfl rfl ?_) | (refine Xg.ev (EvF.assign rfl rfl) rfl rfl ?_) | (refine Xg.ev (EvF.cmp rfl rfl rfl rfl) rfl rfl ?_) | (refine Xg.ev (EvF.fieldAddr rfl rfl (te rfl) rfl (te rfl) (by decide)) rfl rfl ?_) | (refine Xg.ev (EvF.loadV rfl rfl (LoadV.whole (te rfl) rfl (List.Mem.head _) rfl)) rfl rfl ?_) | (refine Xg.ev (EvF.loadV rfl rfl (LoadV.ownAgg (te rfl) rfl (List.Mem.head _) rfl rfl)) rfl rfl ?_) | (refine Xg.ev (EvF.extract rfl rfl rfl) rfl rfl ?_) | (refine Xg.st (StF.boxAgg rfl rfl) rfl rfl ?_; rintro _ _ ⟨bx, rfl, rfl⟩) | (refine Xg.st (StF.alloc rfl Try.zeroValue28 rfl) rfl rfl ?_; rintro _ _ ⟨bx, rfl, rfl⟩) | (refine Xg.st0 (StF.storeAll (i := 0) rfl rfl rfl (te rfl) rfl rfl rfl rfl) rfl ?_; rintro _ _ ⟨rfl, rfl⟩; dsimp only [List.set]))))) | (refine XO.done rfl ?_; refine hK _ _ ?_; clear hK K) | refine X.seq rfl ?_ | refine X.region rfl (fun K hK => ?_) | refine X.block rfl ?_ | refine X.ret rfl ?_ | (refine X.ite rfl rfl (fun hc => ?_); (first | (with_reducible refine Xb.caseN hc (fun h => ?_) (fun h => ?_))) <;> clear hc))
    all_goals try (exfalso; omega)
    refine ret_three (by first | exact .inr rfl | exact .inl rfl) Try.results38 rfl rfl rfl (H' := H) (by (repeat (first | exact List.Sublist.refl _ | apply List.Sublist.cons)); done) (tot_err (by unfold totE; rw [if_neg hok]) (by decide) H)
end Go.Proofs.Ytjejppodhpdckaa
end
section
set_option linter.unusedVariables false
set_option linter.unusedSimpArgs false
namespace Go.Proofs.Ytjejppodhpdckaa
open Go Go.Fw
set_option maxRecDepth 10000
set_option maxHeartbeats 8000000 in
theorem rtotal_spec (T : Tm) (p : Pt) (m : Int) (l : List Cl) (a : Option Addr) (cc : Nat) (H : List Row) (hT : TmOk H T p) (hl : SlE H a cCl 2 l) (hb : l.length ≤ 1000) :
    Fc Try.prog 39 [.agg (cTm T p).toArray, .int .i64 m, .slice a l.length cc] H (fun v H' => ∃ w Z, v = .tuple #[.int .i64 (totS T m l), w, .int .i64 (totE T m l)] ∧ OutI (totI T m l) w Z ∧ H' = Z ++ H) := by
  have hT1 : ∀ Z : List Row, TmOk (Z ++ H) T p := fun Z => hT.sub (fun _ h => List.mem_append_right _ h)
  have hl1 : ∀ Z : List Row, SlE (Z ++ H) a cCl 2 l := fun Z => hl.sub (fun _ h => List.mem_append_right _ h)
  refine Fc.mk (callable Try.call39) Try.func39 rfl Try.ntmps39 rfl ?_; dsimp only [fr]
  repeat' (first | (refine XO.op rfl ?_; (first | ((first | refine Xo.ng rfl ?_); (first | (refine Xg.call (EnF.st rfl (Args.cons rfl Args.nil)) rfl rfl (rterms_spec T p _ (hT1 [_])) ?_; rintro _ H9 ⟨rfl, hH9⟩; subst H9) | (refine Xg.call (EnF.st rfl (Args.cons rfl (Args.cons rfl (Args.cons rfl Args.nil)))) rfl rfl (w4_spec _ _ _ _) ?_; rintro _ H9 ⟨rfl, hH9⟩; subst H9) | (refine Xg.ev (EvF.move rfl rfl) rfl rfl ?_) | (refine Xg.ev (EvF.assign rfl rfl) rfl rfl ?_) | (refine Xg.ev (EvF.cmp rfl rfl rfl rfl) rfl rfl ?_) | (refine Xg.ev (EvF.not rfl rfl) rfl rfl ?_) | (refine Xg.ev (EvF.fieldAddr rfl rfl (te rfl) rfl (te rfl) (by decide)) rfl rfl ?_) | (refine Xg.ev (EvF.lenSlice rfl rfl (te rfl)) rfl rfl ?_) | (refine Xg.ev (EvF.loadV rfl rfl (LoadV.own (te rfl) rfl (List.Mem.head _) rfl)) rfl rfl ?_) | (refine Xg.ev (EvF.loadV rfl rfl (LoadV.whole (te rfl) rfl (List.Mem.head _) rfl)) rfl rfl ?_) | (refine Xg.st (StF.boxAgg rfl rfl) rfl rfl ?_; rintro _ _ ⟨bx, rfl, rfl⟩))))) | (refine XO.done rfl ?_; refine hK _ _ ?_; clear hK K) | refine X.seq rfl ?_ | refine X.region rfl (fun K hK => ?_) | refine X.block rfl ?_ | refine X.skip rfl ?_ | refine X.ret rfl ?_ | (refine X.ite rfl rfl (fun hc => ?_); (first | (with_reducible refine Xb.case hc (fun h => ?_) (fun h => ?_)) | (with_reducible refine Xb.caseN hc (fun h => ?_) (fun h => ?_))) <;> clear hc))
  · exact ret_three (by first | exact .inr rfl | exact .inl rfl) Try.results39 rfl rfl rfl (H' := H) (by (repeat (first | exact List.Sublist.refl _ | apply List.Sublist.cons)); done) (tot_err (by unfold totE; rw [if_neg (by assumption)]) (by decide) H)
  · exact ret_three (by first | exact .inr rfl | exact .inl rfl) Try.results39 rfl rfl rfl (H' := H) (by (repeat (first | exact List.Sublist.refl _ | apply List.Sublist.cons)); done) (tot_err (by unfold totE; rw [if_pos (by assumption), if_neg (by assumption)]) (by decide) H)
  · exact ret_three (by first | exact .inr rfl | exact .inl rfl) Try.results39 rfl rfl rfl (H' := H) (by (repeat (first | exact List.Sublist.refl _ | apply List.Sublist.cons)); done) (tot_err (by unfold totE; rw [if_pos (by assumption), if_pos (by assumption), if_neg (by omega)]) (by decide) H)
  have hok : tmOk T := by assumption
  have hm : T.dl ≤ m ∧ m ≤ T.dh := by assumption
  have hle : (l.length : Int) ≤ T.bales := by omega
  have hE : totE T m l = cErr l := by unfold totE; rw [if_pos hok, if_pos hm, if_pos hle]
  have hnum := hok.num
  obtain ⟨b3, hb3⟩ : ∃ b, b = bx := ⟨_, rfl⟩
  rw [← hb3]
  refine X.lp rfl (fun q F' H' => ∃ k : Nat, q = l.length - k ∧ k ≤ l.length ∧ cErr (l.take k) = 0 ∧ ⟨b3, 0, cTm T p, some 28, 11⟩ :: H = H' ∧
      F' = [(2, .slice a l.length cc), (3, .pointer (some ⟨b3, 0, none⟩)), (33, .slice a l.length cc), (34, .int .i64 l.length), (35, .int .i64 k)])
    l.length [(2, .slice a l.length cc), (3, .pointer (some ⟨b3, 0, none⟩)), (33, .slice a l.length cc), (34, .int .i64 l.length), (35, .int .i64 (0 : Nat))] _ (by (repeat (first | exact Sub.nil _ | refine Sub.cons rfl ?_)); done) (by (repeat (first | exact List.Sublist.refl _ | apply List.Sublist.cons_cons | apply List.Sublist.cons)); done) ⟨0, by omega, by omega, rfl, rfl, rfl⟩ ?_
  rintro _ _ H2 ⟨k, rfl, hk, hz, hH, rfl⟩
  subst hH
  repeat' (first | (refine XO.op rfl ?_; (first | ((first | refine Xo.ng rfl ?_); (first | (refine Xg.ev (EvF.move rfl rfl) rfl rfl ?_) | (refine Xg.ev (EvF.assign rfl rfl) rfl rfl ?_) | (refine Xg.ev (EvF.cmp rfl rfl rfl rfl) rfl rfl ?_) | (refine Xg.ev (EvF.lenSlice rfl rfl (te rfl)) rfl rfl ?_))))) | (refine XO.done rfl ?_; refine hK _ _ ?_; clear hK K) | refine X.seq rfl ?_ | refine X.region rfl (fun K hK => ?_) | refine X.block rfl ?_ | (refine X.brk rfl ?_; repeat (first | refine blockX_hit rfl ?_ | refine blockX_miss (by decide) ?_)) | refine X.skip rfl ?_ | (refine X.ite rfl rfl (fun hc => ?_); (first | (with_reducible refine Xb.case hc (fun h => ?_) (fun h => ?_))) <;> clear hc))
  · obtain ⟨b, off, c, rfl, he⟩ := hl.elem (i := k) (by omega)
    repeat' (first | (refine XO.op rfl ?_; (first | ((first | refine Xo.ng rfl ?_); (first | (refine Xg.ev (EvF.loadV rfl rfl (LoadV.elA0 (hl1 [_]) he (te rfl) rfl (fun _ hm => hm) rfl)) rfl rfl ?_) | (refine Xg.call (EnF.st rfl (Args.cons rfl Args.nil)) rfl rfl (rclass_spec c _) ?_; rintro _ H9 ⟨rfl, hH9⟩; subst H9) | (refine Xg.ev (EvF.move rfl rfl) rfl rfl ?_) | (refine Xg.ev (EvF.assign rfl rfl) rfl rfl ?_) | (refine Xg.ev (EvF.cmp rfl rfl rfl rfl) rfl rfl ?_) | (refine Xg.ev (EvF.add64 rfl rfl rfl (by omega) (by omega)) rfl rfl ?_) | (refine Xg.ev (EvF.indexSlice rfl rfl rfl (te rfl) (te rfl) (by omega) (by omega)) rfl rfl ?_) | (refine Xg.ev (EvF.loadV rfl rfl (LoadV.whole (te rfl) rfl (List.Mem.head _) rfl)) rfl rfl ?_) | (refine Xg.st (StF.alloc rfl Try.zeroValue26 rfl) rfl rfl ?_; rintro _ _ ⟨bx, rfl, rfl⟩) | (refine Xg.st0 (StF.storeAll (i := 0) rfl rfl rfl (te rfl) rfl rfl rfl rfl) rfl ?_; rintro _ _ ⟨rfl, rfl⟩; dsimp only [List.set]))))) | (refine XO.done rfl ?_; refine hK _ _ ?_; clear hK K) | refine X.seq rfl ?_ | refine X.region rfl (fun K hK => ?_) | refine X.skip rfl ?_ | refine X.ret rfl ?_ | (refine X.ite rfl rfl (fun hc => ?_); (first | (with_reducible refine Xb.caseN hc (fun h => ?_) (fun h => ?_))) <;> clear hc))
    · have hne : clsE c ≠ 0 := by assumption
      exact ret_three (by first | exact .inr rfl | exact .inl rfl) Try.results39 rfl rfl rfl (H' := H) (by (repeat (first | exact List.Sublist.refl _ | apply List.Sublist.cons)); done) (tot_err (by rw [hE, cErr_at hz he, if_neg hne]) hne H)
    · refine ⟨_, _, _, (by (repeat (first | exact Sub.nil _ | refine Sub.cons rfl ?_)); done), (by (repeat (first | exact List.Sublist.refl _ | apply List.Sublist.cons_cons | apply List.Sublist.cons)); done), ⟨k + 1, rfl, by omega, cErr_snoc hz he (by omega), rfl, rfl⟩, by omega⟩
  · obtain rfl : k = l.length := by omega
    rw [List.take_length] at hz
    have hE0 : totE T m l = 0 := by rw [hE, hz]
    have hS : totS T m l = sumV T l := by unfold totS; rw [if_pos hE0]
    have hI : totI T m l = refsA T 0 l := by unfold totI; rw [if_pos hE0]
    have hcl : ∀ (k : Nat) (c : Cl), l[k]? = some c → (1 ≤ c.g ∧ c.g ≤ 9) ∧ (1 ≤ c.s ∧ c.s ≤ 9) := fun k c hc => cErr_ok hz (List.mem_of_getElem? hc)
    rw [hS, hI, hE0]
    repeat' (first | fail)
    refine X.lp rfl (fun q F' H' => ∃ (k : Nat) (out : Value) (Z : List Row), q = l.length - k ∧ k ≤ l.length ∧ OutI (refsA T 0 (l.take k)) out Z ∧ Z ++ ⟨b3, 0, cTm T p, some 28, 11⟩ :: H = H' ∧
        F' = [(3, .pointer (some ⟨b3, 0, none⟩)), (12, .int .i64 (sumV T (l.take k))), (13, out), (45, .slice a l.length cc), (46, .int .i64 l.length), (47, .int .i64 k)])
      l.length [(3, .pointer (some ⟨b3, 0, none⟩)), (12, .int .i64 0), (13, .slice none 0 0), (45, .slice a l.length cc), (46, .int .i64 l.length), (47, .int .i64 (0 : Nat))] _ (by (repeat (first | exact Sub.nil _ | refine Sub.cons rfl ?_)); done) (by (repeat (first | exact List.Sublist.refl _ | apply List.Sublist.cons_cons | apply List.Sublist.cons)); done) ⟨0, _, [], by omega, by omega, OutI.nil, rfl, rfl⟩ ?_
    rintro _ _ H2 ⟨k, out, Z, rfl, hk, ⟨hr, rfl, rfl⟩ | ⟨bo, qo, rfl, rfl⟩, hH, rfl⟩
    · rw [List.nil_append] at hH
      subst hH
      repeat' (first | (refine XO.op rfl ?_; (first | ((first | refine Xo.ng rfl ?_); (first | (refine Xg.ev (EvF.move rfl rfl) rfl rfl ?_) | (refine Xg.ev (EvF.assign rfl rfl) rfl rfl ?_) | (refine Xg.ev (EvF.cmp rfl rfl rfl rfl) rfl rfl ?_))))) | (refine XO.done rfl ?_; refine hK _ _ ?_; clear hK K) | refine X.seq rfl ?_ | refine X.region rfl (fun K hK => ?_) | refine X.block rfl ?_ | (refine X.brk rfl ?_; repeat (first | refine blockX_hit rfl ?_ | refine blockX_miss (by decide) ?_)) | refine X.skip rfl ?_ | refine X.ret rfl ?_ | (refine X.ite rfl rfl (fun hc => ?_); (first | (with_reducible refine Xb.case hc (fun h => ?_) (fun h => ?_))) <;> clear hc))
      · obtain ⟨b, off, c, rfl, he⟩ := hl.elem (i := k) (by omega)
        have hv := val_bd hok c.g c.s
        have hs := sumV_bd hok (l.take k)
        rw [List.length_take] at hs
        have hsn := sumV_snoc (T := T) he
        have hrn := refsA_snoc (T := T) he
        rw [hr] at hrn
        repeat' (first | (refine XO.op rfl ?_; (first | ((first | refine Xo.ng rfl ?_); (first | (refine Xg.ev (EvF.loadV rfl rfl (LoadV.elA0 (hl1 [_]) he (te rfl) rfl (fun _ hm => hm) rfl)) rfl rfl ?_) | (refine Xg.call (EnF.st rfl (Args.cons rfl (Args.cons rfl Args.nil))) rfl rfl (rmay_spec T p c _) ?_; rintro _ H9 ⟨rfl, hH9⟩; subst H9) | (refine Xg.call (EnF.st rfl (Args.cons rfl (Args.cons rfl Args.nil))) rfl rfl (rvalue_spec T p c _ (hT1 [_, _]) hok.gr hok.st (by omega) (hcl k c he).1 (hcl k c he).2) ?_; rintro _ H9 ⟨rfl, hH9⟩; subst H9) | (refine Xg.st (StF.buildOne rfl elI rfl rfl rfl (by decide) (by decide)) rfl rfl ?_; rintro _ _ ⟨bs, rfl, rfl⟩) | (refine Xg.st (StF.appendNew rfl elI rfl rfl (by decide) rfl (Rd.own (List.Mem.head _)) (by decide)) rfl rfl ?_; rintro _ _ ⟨bn, kn, rfl, rfl⟩) | (refine Xg.ev (EvF.move rfl rfl) rfl rfl ?_) | (refine Xg.ev (EvF.assign rfl rfl) rfl rfl ?_) | (refine Xg.ev (EvF.add64 rfl rfl rfl (by omega) (by omega)) rfl rfl ?_) | (refine Xg.ev (EvF.indexSlice rfl rfl rfl (te rfl) (te rfl) (by omega) (by omega)) rfl rfl ?_) | (refine Xg.ev (EvF.loadV rfl rfl (LoadV.whole (te rfl) rfl (List.Mem.head _) rfl)) rfl rfl ?_) | (refine Xg.ev (EvF.loadV rfl rfl (LoadV.whole (te rfl) rfl (List.Mem.tail _ (List.Mem.head _)) rfl)) rfl rfl ?_) | (refine Xg.st (StF.alloc rfl Try.zeroValue26 rfl) rfl rfl ?_; rintro _ _ ⟨bx, rfl, rfl⟩) | (refine Xg.st0 (StF.storeAll (i := 0) rfl rfl rfl (te rfl) rfl rfl rfl rfl) rfl ?_; rintro _ _ ⟨rfl, rfl⟩; dsimp only [List.set]))))) | (refine XO.done rfl ?_; refine hK _ _ ?_; clear hK K) | refine X.seq rfl ?_ | refine X.region rfl (fun K hK => ?_) | (refine X.ite rfl rfl (fun hc => ?_); (first | (with_reducible refine Xb.caseB hc (fun h => ?_) (fun h => ?_))) <;> clear hc))
        · have hmay : may T c = true := by assumption
          rw [if_pos hmay] at hsn hrn
          refine ⟨_, [(3, .pointer (some ⟨b3, 0, none⟩)), (12, .int .i64 (sumV T (l.take (k + 1)))), (13, .slice none 0 0), (45, .slice (some ⟨b, off, none⟩) l.length cc), (46, .int .i64 l.length), (47, .int .i64 (k + 1 : Nat))], _, (by rw [hsn]; exact (by (repeat (first | exact Sub.nil _ | refine Sub.cons rfl ?_)); done)), (by (repeat (first | exact List.Sublist.refl _ | apply List.Sublist.cons_cons | apply List.Sublist.cons)); done), ⟨k + 1, _, [], rfl, by omega, .inl ⟨hrn, rfl, rfl⟩, rfl, rfl⟩, by omega⟩
        · have hmay : ¬ may T c = true := by simpa using (by assumption : may T c = false)
          rw [if_neg hmay] at hsn hrn
          rw [Int.add_zero] at hsn
          refine ⟨_, [(3, .pointer (some ⟨b3, 0, none⟩)), (12, .int .i64 (sumV T (l.take (k + 1)))), (13, .slice (some ⟨bn, 0, none⟩) 1 kn), (45, .slice (some ⟨b, off, none⟩) l.length cc), (46, .int .i64 l.length), (47, .int .i64 (k + 1 : Nat))], _, (by rw [hsn]; exact (by (repeat (first | exact Sub.nil _ | refine Sub.cons rfl ?_)); done)), (by (repeat (first | exact List.Sublist.refl _ | apply List.Sublist.cons_cons | apply List.Sublist.cons)); done), ⟨k + 1, _, [⟨bn, 0, [.int .i64 k], some 3, kn * 1⟩], rfl, by omega, .inr ⟨bn, kn, by rw [hrn]; rfl, by rw [hrn]; rfl⟩, rfl, rfl⟩, by omega⟩
      · obtain rfl : k = l.length := by omega
        rw [List.take_length] at hr ⊢
        exact ret_three (by first | exact .inr rfl | exact .inl rfl) Try.results39 rfl rfl rfl (H' := H) (by (repeat (first | exact List.Sublist.refl _ | apply List.Sublist.cons)); done) ⟨_, [], rfl, .inl ⟨hr, rfl, rfl⟩, rfl⟩
    · simp only [List.cons_append, List.nil_append] at hH
      subst hH
      repeat' (first | (refine XO.op rfl ?_; (first | ((first | refine Xo.ng rfl ?_); (first | (refine Xg.ev (EvF.move rfl rfl) rfl rfl ?_) | (refine Xg.ev (EvF.assign rfl rfl) rfl rfl ?_) | (refine Xg.ev (EvF.cmp rfl rfl rfl rfl) rfl rfl ?_))))) | (refine XO.done rfl ?_; refine hK _ _ ?_; clear hK K) | refine X.seq rfl ?_ | refine X.region rfl (fun K hK => ?_) | refine X.block rfl ?_ | (refine X.brk rfl ?_; repeat (first | refine blockX_hit rfl ?_ | refine blockX_miss (by decide) ?_)) | refine X.skip rfl ?_ | refine X.ret rfl ?_ | (refine X.ite rfl rfl (fun hc => ?_); (first | (with_reducible refine Xb.case hc (fun h => ?_) (fun h => ?_))) <;> clear hc))
      · obtain ⟨b, off, c, rfl, he⟩ := hl.elem (i := k) (by omega)
        have hv := val_bd hok c.g c.s
        have hs := sumV_bd hok (l.take k)
        rw [List.length_take] at hs
        have hsn := sumV_snoc (T := T) he
        have hrn := refsA_snoc (T := T) he
        have hrl := refsA_len T (l.take k) 0
        rw [List.length_take] at hrl
        repeat' (first | (refine XO.op rfl ?_; (first | ((first | refine Xo.ng rfl ?_); (first | (refine Xg.ev (EvF.loadV rfl rfl (LoadV.elA0 (hl1 [_, _]) he (te rfl) rfl (fun _ hm => hm) rfl)) rfl rfl ?_) | (refine Xg.call (EnF.st rfl (Args.cons rfl (Args.cons rfl Args.nil))) rfl rfl (rmay_spec T p c _) ?_; rintro _ H9 ⟨rfl, hH9⟩; subst H9) | (refine Xg.call (EnF.st rfl (Args.cons rfl (Args.cons rfl Args.nil))) rfl rfl (rvalue_spec T p c _ (hT1 [_, _, _]) hok.gr hok.st (by omega) (hcl k c he).1 (hcl k c he).2) ?_; rintro _ H9 ⟨rfl, hH9⟩; subst H9) | (refine Xg.st (StF.buildOne rfl elI rfl rfl rfl (by decide) (by decide)) rfl rfl ?_; rintro _ _ ⟨bs, rfl, rfl⟩) | (refine Xg.st (StF.appendOwn (i := 2) rfl elI rfl rfl rfl (lenI _) rfl (Rd.own (List.Mem.head _)) rfl (by omega)) rfl rfl ?_; rintro _ _ ⟨bn, kn, rfl, rfl⟩; dsimp only [List.eraseIdx]) | (refine Xg.ev (EvF.move rfl rfl) rfl rfl ?_) | (refine Xg.ev (EvF.assign rfl rfl) rfl rfl ?_) | (refine Xg.ev (EvF.add64 rfl rfl rfl (by omega) (by omega)) rfl rfl ?_) | (refine Xg.ev (EvF.indexSlice rfl rfl rfl (te rfl) (te rfl) (by omega) (by omega)) rfl rfl ?_) | (refine Xg.ev (EvF.loadV rfl rfl (LoadV.whole (te rfl) rfl (List.Mem.head _) rfl)) rfl rfl ?_) | (refine Xg.ev (EvF.loadV rfl rfl (LoadV.whole (te rfl) rfl (List.Mem.tail _ (List.Mem.tail _ (List.Mem.head _))) rfl)) rfl rfl ?_) | (refine Xg.st (StF.alloc rfl Try.zeroValue26 rfl) rfl rfl ?_; rintro _ _ ⟨bx, rfl, rfl⟩) | (refine Xg.st0 (StF.storeAll (i := 0) rfl rfl rfl (te rfl) rfl rfl rfl rfl) rfl ?_; rintro _ _ ⟨rfl, rfl⟩; dsimp only [List.set]))))) | (refine XO.done rfl ?_; refine hK _ _ ?_; clear hK K) | refine X.seq rfl ?_ | refine X.region rfl (fun K hK => ?_) | (refine X.ite rfl rfl (fun hc => ?_); (first | (with_reducible refine Xb.caseB hc (fun h => ?_) (fun h => ?_))) <;> clear hc))
        · have hmay : may T c = true := by assumption
          rw [if_pos hmay] at hsn hrn
          rw [List.append_nil] at hrn
          refine ⟨_, [(3, .pointer (some ⟨b3, 0, none⟩)), (12, .int .i64 (sumV T (l.take (k + 1)))), (13, .slice (some ⟨bo, 0, none⟩) (refsA T 0 (l.take k)).length qo), (45, .slice (some ⟨b, off, none⟩) l.length cc), (46, .int .i64 l.length), (47, .int .i64 (k + 1 : Nat))], _, (by rw [hsn]; exact (by (repeat (first | exact Sub.nil _ | refine Sub.cons rfl ?_)); done)), (by (repeat (first | exact List.Sublist.refl _ | apply List.Sublist.cons_cons | apply List.Sublist.cons)); done), ⟨k + 1, _, [⟨bo, 0, (refsA T 0 (l.take k)).flatMap cI, some 3, qo * 1⟩], rfl, by omega, .inr ⟨bo, qo, by rw [hrn], by rw [hrn]⟩, rfl, rfl⟩, by omega⟩
        · have hmay : ¬ may T c = true := by simpa using (by assumption : may T c = false)
          rw [if_neg hmay] at hsn hrn
          rw [Int.add_zero] at hsn
          refine ⟨_, [(3, .pointer (some ⟨b3, 0, none⟩)), (12, .int .i64 (sumV T (l.take (k + 1)))), (13, .slice (some ⟨bn, 0, none⟩) ((refsA T 0 (l.take k)).length + 1) kn), (45, .slice (some ⟨b, off, none⟩) l.length cc), (46, .int .i64 l.length), (47, .int .i64 (k + 1 : Nat))], _, (by rw [hsn]; exact (by (repeat (first | exact Sub.nil _ | refine Sub.cons rfl ?_)); done)), (by (repeat (first | exact List.Sublist.refl _ | apply List.Sublist.cons_cons | apply List.Sublist.cons)); done), ⟨k + 1, _, [⟨bn, 0, (refsA T 0 (l.take k)).flatMap cI ++ [.int .i64 k], some 3, kn * 1⟩], rfl, by omega, .inr ⟨bn, kn, by rw [hrn, List.length_append]; rfl, by rw [hrn, List.flatMap_append]; rfl⟩, rfl, rfl⟩, by omega⟩
      · obtain rfl : k = l.length := by omega
        rw [List.take_length]
        exact ret_three (by first | exact .inr rfl | exact .inl rfl) Try.results39 rfl rfl rfl (H' := ⟨bo, 0, (refsA T 0 l).flatMap cI, some 3, qo * 1⟩ :: H) (by (repeat (first | exact List.Sublist.refl _ | apply List.Sublist.cons_cons | apply List.Sublist.cons)); done) ⟨_, [⟨bo, 0, (refsA T 0 l).flatMap cI, some 3, qo * 1⟩], rfl, .inr ⟨bo, qo, rfl, rfl⟩, rfl⟩
end Go.Proofs.Ytjejppodhpdckaa
end
section
set_option linter.unusedVariables false
set_option linter.unusedSimpArgs false
namespace Go.Proofs.Ytjejppodhpdckaa
open Go Go.Fw
set_option maxRecDepth 10000
theorem OutI.sl {k : List Int} {v : Value} {Z H : List Row} (h : OutI k v Z) (hs : ∀ r ∈ Z, r ∈ H) : ∃ a c, v = .slice a k.length c ∧ SlE H a cI 1 k := by
  rcases h with ⟨rfl, rfl, rfl⟩ | ⟨b, q, rfl, rfl⟩
  · exact ⟨_, _, rfl, sleNil⟩
  · exact ⟨_, _, rfl, SlE.ofRow (hs _ (List.Mem.head _)) (fun _ _ => rfl)⟩
theorem OutI.len {k : List Int} {v : Value} {Z : List Row} (h : OutI k v Z) : ∃ a c, v = .slice a k.length c := by
  rcases h with ⟨rfl, rfl, rfl⟩ | ⟨b, q, rfl, rfl⟩ <;> exact ⟨_, _, rfl⟩
theorem totI_len (T : Tm) (m : Int) (l : List Cl) : (totI T m l).length ≤ l.length := by
  unfold totI; split
  · exact refsA_len T l 0
  · exact Nat.zero_le _
theorem sameI_self (l : List Int) (a a' : Option Addr) (c c' : Nat) (H : List Row) (hl : SlE H a cI 1 l) (hm : SlE H a' cI 1 l) (hb : l.length ≤ 1000000) : Fc Try.prog 40 [.slice a l.length c, .slice a' l.length c'] H (fun v H' => v = .bool true ∧ H' = H) :=
  (sameInts_spec l l a a' c c' H hl hm hb hb).mono (fun v H' ⟨h1, h2⟩ => ⟨by rw [h1, decide_eq_true rfl], h2⟩)
set_option maxHeartbeats 8000000 in
theorem termsTotals_spec (T : Tm) (p : Pt) (m : Int) (l : List Cl) (a : Option Addr) (cc : Nat) (H : List Row) (hg : SlE H p.a1 cI 1 T.G) (hs : SlE H p.a2 cI 1 T.S) (hl : SlE H a cCl 2 l) :
    Fc Try.prog 8 [.agg (cTm T p).toArray, .int .i64 m, .slice a l.length cc] H (fun v _ => v = .bool true) := by
  by_cases hgr : (T.G.length > 30 ∨ T.S.length > 30)
  · have hG := greatT T p hgr
    refine Fc.mk (callable Try.call8) Try.func8 rfl Try.ntmps8 rfl ?_; dsimp only [fr]
    repeat' (first | (refine XO.op rfl ?_; (first | ((first | refine Xo.ng rfl ?_); (first | (refine Xg.call (EnF.st rfl (Args.cons rfl Args.nil)) rfl rfl (hG _) ?_; rintro _ H9 ⟨rfl, hH9⟩; subst H9) | (refine Xg.ev (EvF.move rfl rfl) rfl rfl ?_) | (refine Xg.ev (EvF.assign rfl rfl) rfl rfl ?_) | (refine Xg.ev (EvF.pickT rfl rfl rfl) rfl rfl ?_) | (refine Xg.ev (EvF.loadV rfl rfl (LoadV.whole (te rfl) rfl (List.Mem.head _) rfl)) rfl rfl ?_) | (refine Xg.st (StF.boxAgg rfl rfl) rfl rfl ?_; rintro _ _ ⟨bx, rfl, rfl⟩))) | (refine Xo.g rfl rfl ?_; (first | (with_reducible refine Xw.tf rfl rfl ?_))))) | (refine XO.done rfl ?_; refine hK _ _ ?_; clear hK K) | refine X.seq rfl ?_ | refine X.region rfl (fun K hK => ?_) | refine X.ret rfl ?_ | (refine X.ite rfl rfl (fun hc => ?_); (first | (with_reducible refine Xb.t hc ?_)) <;> clear hc))
    all_goals try (exfalso; contradiction)
    exact ret_one (by first | exact .inr rfl | exact .inl rfl) Try.results8 rfl (H' := _) (List.Sublist.refl _) rfl
  · have hG := greatF T p hgr
    have hT : TmOk H T p := ⟨hg, hs, by omega, by omega⟩
    have hT' : ∀ H', (∀ r ∈ H, r ∈ H') → TmOk H' T p := fun H' hs => hT.sub hs
    refine Fc.mk (callable Try.call8) Try.func8 rfl Try.ntmps8 rfl ?_; dsimp only [fr]
    repeat' (first | (refine XO.op rfl ?_; (first | ((first | refine Xo.ng rfl ?_ | (refine Xo.g rfl rfl ?_; with_reducible refine Xw.ff ?_)); (first | (refine Xg.call (EnF.st rfl (Args.cons rfl Args.nil)) rfl rfl (hG _) ?_; rintro _ H9 ⟨rfl, hH9⟩; subst H9) | (refine Xg.ev (EvF.move rfl rfl) rfl rfl ?_) | (refine Xg.ev (EvF.assign rfl rfl) rfl rfl ?_) | (refine Xg.ev (EvF.pickF rfl rfl rfl) rfl rfl ?_) | (refine Xg.ev (EvF.cmp rfl rfl rfl rfl) rfl rfl ?_) | (refine Xg.ev (EvF.lenSlice rfl rfl (te rfl)) rfl rfl ?_) | (refine Xg.ev (EvF.loadV rfl rfl (LoadV.whole (te rfl) rfl (List.Mem.head _) rfl)) rfl rfl ?_) | (refine Xg.st (StF.boxAgg rfl rfl) rfl rfl ?_; rintro _ _ ⟨bx, rfl, rfl⟩))))) | (refine XO.done rfl ?_; refine hK _ _ ?_; clear hK K) | refine X.seq rfl ?_ | refine X.region rfl (fun K hK => ?_) | refine X.skip rfl ?_ | refine X.ret rfl ?_ | (refine X.ite rfl rfl (fun hc => ?_); (first | (with_reducible refine Xb.case hc (fun h => ?_) (fun h => ?_))) <;> clear hc))
    all_goals try (exfalso; contradiction)
    · exact ret_one (by first | exact .inr rfl | exact .inl rfl) Try.results8 rfl (H' := _) (List.Sublist.refl _) rfl
    have hl40 : l.length ≤ 40 := by omega
    obtain ⟨b3, hb3⟩ : ∃ b, b = bx := ⟨_, rfl⟩
    rw [← hb3]
    clear hb3
    repeat' (first | (refine XO.op rfl ?_; (first | ((first | refine Xo.ng rfl ?_); (first | (refine Xg.call (EnF.st rfl (by (repeat (first | exact Args.nil | refine Args.cons rfl ?_)); done)) rfl rfl (twin_spec T p _ (hT' _ (fun _ hm => List.Mem.tail _ hm))) ?_; rintro _ _ ⟨t1, k1, t2, k2, rfl, rfl⟩) | (refine Xg.st (StF.buildNil rfl elCl) rfl rfl ?_; rintro _ _ ⟨bn, rfl, rfl⟩) | (refine Xg.st (StF.appendSl (i := 0) rfl elCl rfl rfl rfl (hl.sub (fun _ h => List.mem_append_right [_, _, _, _] h)) (fun e _ => one_cl e) rfl (by decide) (by omega)) rfl rfl ?_; rintro _ _ ⟨bm, km, rfl, rfl⟩; dsimp only [List.eraseIdx]) | (refine Xg.ev (EvF.move rfl rfl) rfl rfl ?_) | (refine Xg.ev (EvF.assign rfl rfl) rfl rfl ?_) | (refine Xg.ev (EvF.loadV rfl rfl (LoadV.whole (te rfl) rfl (List.Mem.head _) rfl)) rfl rfl ?_) | (refine Xg.st (StF.alloc rfl Try.zeroValue28 rfl) rfl rfl ?_; rintro _ _ ⟨bx, rfl, rfl⟩) | (refine Xg.st0 (StF.storeAll (i := 0) rfl rfl rfl (te rfl) rfl rfl rfl rfl) rfl ?_; rintro _ _ ⟨rfl, rfl⟩; dsimp only [List.set]))))) | (refine XO.done rfl ?_; refine hK _ _ ?_; clear hK K) | refine X.seq rfl ?_ | refine X.region rfl (fun K hK => ?_))
    obtain ⟨b7, hb7⟩ : ∃ b, b = bx := ⟨_, rfl⟩
    rw [← hb7]
    clear hb7
    rw [Nat.zero_add l.length]
    obtain ⟨HH, hHH⟩ : ∃ HH, HH = (⟨b7, 0, cTm T ⟨some ⟨t1, 0, none⟩, k1, some ⟨t2, 0, none⟩, k2⟩, some 28, 11⟩ :: ⟨bm, 0, l.flatMap cCl, some 23, km * 2⟩ :: ⟨t1, 0, T.G.flatMap cI, some 3, k1 * 1⟩ :: ⟨t2, 0, T.S.flatMap cI, some 3, k2 * 1⟩ :: ⟨b3, 0, cTm T p, some 28, 11⟩ :: H : List Row) := ⟨_, rfl⟩
    have hm7 : (⟨b7, 0, cTm T ⟨some ⟨t1, 0, none⟩, k1, some ⟨t2, 0, none⟩, k2⟩, some 28, 11⟩ : Row) ∈ HH := by rw [hHH]; exact List.Mem.head _
    have hm3 : (⟨b3, 0, cTm T p, some 28, 11⟩ : Row) ∈ HH := by rw [hHH]; repeat (first | exact List.Mem.head _ | apply List.Mem.tail)
    have hmm : SlE HH (some ⟨bm, 0, none⟩) cCl 2 l := SlE.ofRow (cap := km * 2) (ow := some 23) (by rw [hHH]; repeat (first | exact List.Mem.head _ | apply List.Mem.tail)) (fun _ _ => rfl)
    have hsH : ∀ r ∈ H, r ∈ HH := fun r hr => by rw [hHH]; exact List.mem_append_right [_, _, _, _, _] hr
    have hO : TmOk HH T ⟨some ⟨t1, 0, none⟩, k1, some ⟨t2, 0, none⟩, k2⟩ := ownT T t1 k1 t2 k2 _ (by omega) (by omega) (by rw [hHH]; repeat (first | exact List.Mem.head _ | apply List.Mem.tail)) (by rw [hHH]; repeat (first | exact List.Mem.head _ | apply List.Mem.tail))
    have hI : TmOk HH T p := hT' _ hsH
    have hll : SlE HH a cCl 2 l := hl.sub hsH
    show XO _ _ _ _ _ (⟨b7, 0, cTm T ⟨some ⟨t1, 0, none⟩, k1, some ⟨t2, 0, none⟩, k2⟩, some 28, 11⟩ :: ⟨bm, 0, l.flatMap cCl, some 23, km * 2⟩ :: ⟨t1, 0, T.G.flatMap cI, some 3, k1 * 1⟩ :: ⟨t2, 0, T.S.flatMap cI, some 3, k2 * 1⟩ :: ⟨b3, 0, cTm T p, some 28, 11⟩ :: H) _
    rw [← hHH]
    have ap : ∀ {r : Row} (Z : List Row), r ∈ HH → r ∈ Z ++ HH := fun Z h => List.mem_append_right Z h
    have ap2 : ∀ {r : Row} (Z Z' : List Row), r ∈ HH → r ∈ Z ++ (Z' ++ HH) := fun Z Z' h => List.mem_append_right Z (List.mem_append_right Z' h)
    repeat' (first | (refine XO.op rfl ?_; (first | ((first | refine Xo.ng rfl ?_); (first | (refine Xg.call (EnF.st rfl (by (repeat (first | exact Args.nil | refine Args.cons rfl ?_)); done)) rfl rfl (ktotal_spec T _ m l (some ⟨bm, 0, none⟩) km _ hO hmm (by omega)) ?_; rintro _ _ ⟨w1, Z1, rfl, hw1, rfl⟩) | (refine Xg.call (EnF.st rfl (by (repeat (first | exact Args.nil | refine Args.cons rfl ?_)); done)) rfl rfl (rtotal_spec T p m l a cc _ (hI.sub (fun _ h => ap Z1 h)) (hll.sub (fun _ h => ap Z1 h)) (by omega)) ?_; rintro _ _ ⟨w2, Z2, rfl, hw2, rfl⟩) | (refine Xg.ev (EvF.loadV rfl rfl (LoadV.whole (te rfl) rfl (ap Z1 hm3) rfl)) rfl rfl ?_) | (refine Xg.ev (EvF.move rfl rfl) rfl rfl ?_) | (refine Xg.ev (EvF.assign rfl rfl) rfl rfl ?_) | (refine Xg.ev (EvF.lenSlice rfl rfl (te rfl)) rfl rfl ?_) | (refine Xg.ev (EvF.extract rfl rfl rfl) rfl rfl ?_))))) | (refine XO.done rfl ?_; refine hK _ _ ?_; clear hK K) | refine X.seq rfl ?_ | refine X.region rfl (fun K hK => ?_) | refine X.block rfl ?_)
    have hk := totI_len T m l
    obtain ⟨a1, c1, rfl, hs1⟩ := hw1.sl (H := Z2 ++ (Z1 ++ HH)) (fun r hr => List.mem_append_right Z2 (List.mem_append_left HH hr))
    obtain ⟨a2, c2, rfl, hs2⟩ := hw2.sl (H := Z2 ++ (Z1 ++ HH)) (fun r hr => List.mem_append_left _ hr)
    obtain ⟨HX, hHX⟩ : ∃ HX, HX = Z2 ++ (Z1 ++ HH) := ⟨_, rfl⟩
    rw [← hHX] at hs1 hs2 ⊢
    have hsX : ∀ r ∈ HH, r ∈ HX := fun r hr => by rw [hHX]; exact List.mem_append_right Z2 (List.mem_append_right Z1 hr)
    have hO2 := hO.sub hsX
    have hI2 := hI.sub hsX
    have hl2 : ∀ Z : List Row, SlE (Z ++ HX) a cCl 2 l := fun Z => hll.sub (fun r hr => List.mem_append_right Z (hsX r hr))
    have hmm2 : SlE HX (some ⟨bm, 0, none⟩) cCl 2 l := hmm.sub hsX
    clear hmm hll hI hO
    refine X.lp rfl (fun q F' H' => ∃ k : Nat, q = l.length - k ∧ k ≤ l.length ∧ HX = H' ∧ F' = [(2, .slice a l.length cc), (3, .pointer (some ⟨b3, 0, none⟩)), (7, .pointer (some ⟨b7, 0, none⟩)), (9, .int .i64 (totS T m l)), (10, .slice a1 (totI T m l).length c1), (11, .int .i64 (totE T m l)), (12, .int .i64 (totS T m l)), (13, .slice a2 (totI T m l).length c2), (14, .int .i64 (totE T m l)), (45, .slice (some ⟨bm, 0, none⟩) l.length km), (46, .int .i64 l.length), (47, .int .i64 k)])
      l.length [(2, .slice a l.length cc), (3, .pointer (some ⟨b3, 0, none⟩)), (7, .pointer (some ⟨b7, 0, none⟩)), (9, .int .i64 (totS T m l)), (10, .slice a1 (totI T m l).length c1), (11, .int .i64 (totE T m l)), (12, .int .i64 (totS T m l)), (13, .slice a2 (totI T m l).length c2), (14, .int .i64 (totE T m l)), (45, .slice (some ⟨bm, 0, none⟩) l.length km), (46, .int .i64 l.length), (47, .int .i64 (0 : Nat))] _ (by (repeat (first | exact Sub.nil _ | refine Sub.cons rfl ?_)); done) (by (repeat (first | exact List.Sublist.refl _ | apply List.Sublist.cons_cons | apply List.Sublist.cons)); done) ⟨0, by omega, by omega, rfl, rfl⟩ ?_
    rintro _ _ H2 ⟨k, rfl, hk2, hH, rfl⟩
    subst hH
    repeat' (first | (refine XO.op rfl ?_; (first | ((first | refine Xo.ng rfl ?_ | (refine Xo.g rfl rfl ?_; with_reducible refine Xw.tt ?_)); (first | (refine Xg.ev (EvF.move rfl rfl) rfl rfl ?_) | (refine Xg.ev (EvF.cmp rfl rfl rfl rfl) rfl rfl ?_) | (refine Xg.ev (EvF.indexSlice rfl rfl rfl (te rfl) (te rfl) (by omega) (by omega)) rfl rfl ?_))) | (refine Xo.g rfl rfl ?_; (first | (with_reducible refine Xw.case (fun h => ?_) (fun h => ?_) <;> simp only [h, decide_true, decide_false, Bool.not_true, Bool.not_false, and_self, and_true, true_and, and_false, false_and]))))) | (refine XO.done rfl ?_; refine hK _ _ ?_; clear hK K) | refine X.seq rfl ?_ | refine X.region rfl (fun K hK => ?_) | refine X.block rfl ?_ | (refine X.brk rfl ?_; repeat (first | refine blockX_hit rfl ?_ | refine blockX_miss (by decide) ?_)) | refine X.skip rfl ?_ | (refine X.ite rfl rfl (fun hc => ?_); (first | (with_reducible refine Xb.case hc (fun h => ?_) (fun h => ?_))) <;> clear hc))
    · obtain ⟨b, off, c, rfl, he⟩ := hl2 [] |>.elem (i := k) (by omega)
      repeat' (first | (refine XO.op rfl ?_; (first | ((first | refine Xo.ng rfl ?_); (first | (refine Xg.ev (EvF.loadV rfl rfl (LoadV.elA0 hmm2 he (te rfl) rfl (fun _ hm => hm) rfl)) rfl rfl ?_) | (refine Xg.ev (EvF.move rfl rfl) rfl rfl ?_) | (refine Xg.ev (EvF.assign rfl rfl) rfl rfl ?_) | (refine Xg.ev (EvF.add64 rfl rfl rfl (by omega) (by omega)) rfl rfl ?_) | (refine Xg.st (StF.alloc rfl Try.zeroValue26 rfl) rfl rfl ?_; rintro _ _ ⟨bx, rfl, rfl⟩) | (refine Xg.st0 (StF.storeAll (i := 0) rfl rfl rfl (te rfl) rfl rfl rfl rfl) rfl ?_; rintro _ _ ⟨rfl, rfl⟩; dsimp only [List.set]))))) | (refine XO.done rfl ?_; refine hK _ _ ?_; clear hK K) | (refine XQ.op rfl ?_; (first | ((first | refine Yo.ng rfl ?_); (first | (refine Yg.ev (EvF.loadV rfl rfl (LoadV.elA0 (hl2 [_]) he (te rfl) rfl (fun _ hm => hm) rfl)) rfl rfl ?_) | (refine Yg.ev (EvF.eqSt rfl rfl rfl (by kernel_rfl) (fun w => eqCl 9998 c c w) rfl) rfl rfl ?_) | (refine Yg.ev (EvF.move rfl rfl) rfl rfl ?_) | (refine Yg.ev (EvF.indexSlice rfl rfl rfl (te rfl) (te rfl) (by omega) (by omega)) rfl rfl ?_) | (refine Yg.ev (EvF.loadV rfl rfl (LoadV.whole (te rfl) rfl (List.Mem.head _) rfl)) rfl rfl ?_))))) | (refine XQ.done rfl ?_; refine hK _ ?_; clear hK K) | refine X.seq rfl ?_ | refine X.region rfl (fun K hK => ?_) | refine X.regionD rfl mixed (by kernel_rfl) (fun K hK => ?_) | refine X.skip rfl ?_ | refine X.ret rfl ?_ | (refine X.ite rfl rfl (fun hc => ?_); (first | (with_reducible refine Xb.caseN hc (fun h => ?_) (fun h => ?_))) <;> clear hc))
      · exfalso; exact absurd rfl (by assumption : ¬ c = c)
      · refine ⟨_, _, _, (by (repeat (first | exact Sub.nil _ | refine Sub.cons rfl ?_)); done), (by (repeat (first | exact List.Sublist.refl _ | apply List.Sublist.cons)); done), ⟨k + 1, rfl, by omega, rfl, rfl⟩, by omega⟩
    · repeat' (first | (refine XO.op rfl ?_; (first | ((first | refine Xo.ng rfl ?_ | (refine Xo.g rfl rfl ?_; with_reducible refine Xw.tt ?_)); (first | (refine Xg.ev (EvF.eqSelf rfl rfl rfl) rfl rfl ?_) | (refine Xg.ev (EvF.loadV rfl rfl (LoadV.whole (te rfl) rfl (hsX _ hm7) rfl)) rfl rfl ?_) | (refine Xg.ev (EvF.loadV rfl rfl (LoadV.whole (te rfl) rfl (hsX _ hm3) rfl)) rfl rfl ?_) | (refine Xg.call (EnF.st rfl (Args.cons rfl (Args.cons rfl Args.nil))) rfl rfl (sameI_self (totI T m l) a1 a2 c1 c2 _ hs1 hs2 (by omega)) ?_; rintro _ H9 ⟨rfl, hH9⟩; subst H9) | (refine Xg.call (EnF.st rfl (Args.cons rfl (Args.cons rfl Args.nil))) rfl rfl (sameT_self T _ p _ hO2 hI2) ?_; rintro _ H9 ⟨rfl, hH9⟩; subst H9) | (refine Xg.ev (EvF.move rfl rfl) rfl rfl ?_) | (refine Xg.ev (EvF.assign rfl rfl) rfl rfl ?_) | (refine Xg.ev (EvF.pickT rfl rfl rfl) rfl rfl ?_))))) | (refine XO.done rfl ?_; refine hK _ _ ?_; clear hK K) | refine X.ret rfl ?_)
      exact ret_one (by first | exact .inr rfl | exact .inl rfl) Try.results8 rfl (H' := _) (List.Sublist.refl _) rfl
    · exact absurd rfl (by assumption : ¬ totS T m l = totS T m l)
end Go.Proofs.Ytjejppodhpdckaa
end
section
set_option linter.unusedVariables false
namespace Go.Proofs.Ytjejppodhpdckaa
open Go Go.Fw Go.ChangeShapes Go.WideShapes Go.ChangeAt Go.RowKit
set_option linter.unusedVariables false
set_option maxRecDepth 100000
section
variable {H : Type} {enc : TypeId × Value → H} {w : World} {base : Nat} {spare : Nat → Bool} {held : Bool} {v : Value} {d : DataW H} {p : List MemPlace} {r : Reach} {b0 : Nat}
theorem open_classes (hv : Value.okWide Try.prog w r b0 82 v) (h : DataW.Trod enc Try.prog w base spare held 82 v d p) : ∃ (l : List Cl) (a : Option Addr) (c : Nat), v = .slice a l.length c ∧ InSl w a cCl 2 l := by
  obtain ⟨a, len, cap, rfl⟩ := okWide_slice Try.underlying82 hv
  obtain ⟨fuel, hf⟩ := h
  obtain ⟨l, a, c, e, hi, _⟩ := open_sl (te rfl) (te rfl) rfl (by decide) (fun _ _ _ => open_cl) (fun _ => rfl) hf
  exact ⟨l, a, c, e, hi⟩
end
theorem termsTotals_run (T : Tm) (p : Pt) (m : Int) (l : List Cl) (a : Option Addr) (cc : Nat) (w : World) (hT : InTm w T p) (hl : InSl w a cCl 2 l) :
    Calls Try.prog 8 #[.agg (cTm T p).toArray, .int .i64 m, .slice a l.length cc] w fun e w' => e = .returned (.bool true) ∧ Below w.heap.size w w' :=
  Fc.calls (H := rowsTm T p ++ rowsOf a cCl l) (termsTotals_spec T p m l a cc _ (hT.g (fun _ h => List.mem_append_left _ h)) (hT.s (fun _ h => List.mem_append_left _ h)) (hl.sl (fun _ h => List.mem_append_right _ h))) (fun r hr => by
    rcases List.mem_append.1 hr with hr | hr
    · exact hT.ok r hr
    · exact hl.ok r hr)
theorem lifted (os : Os) (started : os.Started) (H : Type) (enc : TypeId × Value → H) :
    ReturnsInHanded {} Try.checked os 8 .any (Rows.termsTotalsSpec.pre6 enc Try.prog Try.f8 Rows.termsTotalsRow.domain false) (Rows.termsTotalsSpec.post enc Try.prog Try.f8 false true false false) := by
  refine returnsInHanded_of_change (C := Try.checked) ownK started (by kernel_rfl) Try.func8
    (ChangeSpec.witness6 (enc := enc) (C := Try.checked) false ⟨#[], #[.agg (cTm Tz pz).toArray, .int .i64 0, .slice none 0 0], []⟩ 8 (by kernel_rfl) (by kernel_rfl) (by kernel_rfl) (by kernel_rfl)) ?_
  intro W base args ds gs before hval0 hW hcnd _
  have hval : ∀ (j : Nat) t v, Try.f8.params[j]? = some t → args[j]? = some v → Value.okWide Try.prog W .any base t v := hval0
  have hW' := hW
  obtain ⟨p, q, hA0, hV, rfl, hfz, hnd⟩ := hW
  have hA : DataW.TrodAll enc Try.prog W 0 (fun _ => true) true Try.f8.params.toList args.toList ds p := hA0
  rw [Try.params8] at hA hval
  obtain ⟨v0, vs0, d0, ds0, p0, q0, hargs, rfl, rfl, h0, r0⟩ := trodAll_cons hA
  obtain ⟨v1, vs1, d1, ds1, p1, q1, rfl, rfl, rfl, h1, r1⟩ := trodAll_cons r0
  obtain ⟨v2, vs2, d2, ds2, p2, q2, rfl, rfl, rfl, h2, r2⟩ := trodAll_cons r1
  obtain ⟨rfl, rfl, rfl⟩ := trodAll_nil r2
  obtain rfl : args = #[v0, v1, v2] := by cases args; simp_all
  obtain ⟨rfl, rfl⟩ := trodVars_none hV
  have lt : ∀ {t v d ps}, DataW.Trod enc Try.prog W 0 (fun _ => true) true t v d ps → ∀ x ∈ ps, x.block < W.heap.size := fun h => by obtain ⟨m, hm⟩ := h; exact DataW.trod_lt m _ _ _ hm
  obtain ⟨T, pl, rfl, hT⟩ := open_terms (hval 0 _ v0 rfl rfl) h0
  obtain ⟨m, rfl⟩ := open_int (hval 1 _ v1 rfl rfl)
  obtain ⟨l, a, cc, rfl, hl⟩ := open_classes (hval 2 _ v2 rfl rfl) h2
  clear hA0 hval0
  refine (termsTotals_run T pl m l a cc W hT hl).mono fun e W' ⟨he, bel⟩ => ?_
  subst he
  exact ⟨_, rfl, _, _, _, [], _, [], hW', trodAll_mk1 (shut_bool Try.underlying4 _), (trodAll_cons_mk (Below.trod laidO (by kernel_rfl) (of_decide_eq_true (by kernel_rfl)) h0 bel (lt h0)) (trodAll_cons_mk (Below.trod laidO (by kernel_rfl) (of_decide_eq_true (by kernel_rfl)) h1 bel (lt h1)) (trodAll_cons_mk (Below.trod laidO (by kernel_rfl) (of_decide_eq_true (by kernel_rfl)) h2 bel (lt h2)) trodAll_mk0))), rfl, bel.frame _, fun h => by cases h⟩
theorem over : Rows.termsTotalsRow.holds Try.pinned (OpenSpec.ofChange Rows.termsTotalsSpec) :=
  OpenClaim.holds_of_wide 8 Try.f8 rfl rfl rfl rfl rfl rfl rfl ⟨rfl, rfl, rfl, rfl, rfl⟩ rfl rfl rfl rfl rfl (by kernel_rfl) Try.func8 (by kernel_rfl)
    (of_decide_eq_true (by kernel_rfl)) (by unfold Func.isWrapper; first | (rw [if_pos (by decide +kernel)]; kernel_rfl) | (rw [if_neg (by decide +kernel)]; exact ⟨rfl, rfl⟩))
    (fun os started H enc _ => lifted os started H enc)
theorem termsTotals_proved : Rows.TermsTotalsSaid := over
#print axioms termsTotals_proved
end Go.Proofs.Ytjejppodhpdckaa
end
