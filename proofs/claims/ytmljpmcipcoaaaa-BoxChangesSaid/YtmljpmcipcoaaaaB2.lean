/- The reference: match does what it says. -/
import Derived.Test.YtmljpmcipcoaaaaB1
set_option linter.unusedSimpArgs false
namespace Go.Proofs.Ytmljpmcipcoaaaa
open Go Go.Fw
set_option maxRecDepth 10000
theorem index_lt : ∀ (l : List Bx) (id : Int), index l id < l.length ∧ -1 ≤ index l id
  | [], _ => by simp [index]
  | b :: l, id => by
    have := index_lt l id
    simp only [index, List.length_cons]
    split
    · omega
    · split <;> omega
def bxAt (l : List Bx) (id : Int) : Bx := l.getD (index l id).toNat ⟨0, 0⟩
theorem index_get {l : List Bx} {id : Int} (h : 0 ≤ index l id) : l[(index l id).toNat]? = some (bxAt l id) := by
  have := index_lt l id
  have h1 : (index l id).toNat < l.length := by omega
  simp [bxAt, List.getD, List.getElem?_eq_getElem h1]
def matchOk (R : Rm) (x : Mt) : Prop := 0 ≤ index R.boxes x.a ∧ 0 ≤ index R.boxes x.b ∧ index R.boxes x.a ≠ index R.boxes x.b ∧ 0 ≤ x.month ∧ x.month ≤ R.months - 1 ∧ (bxAt R.boxes x.a).made ≤ x.month ∧ (bxAt R.boxes x.b).made ≤ x.month ∧ -60 ≤ x.lo ∧ x.lo ≤ x.hi ∧ x.hi ≤ 60
instance (R : Rm) (x : Mt) : Decidable (matchOk R x) := by unfold matchOk; infer_instance

theorem lex114 : Region.lexB .any (cops (cfst (csnd (csnd (cof Try.f112))))) = true := by kernel_rfl
set_option maxHeartbeats 2000000 in
theorem match_spec (R : Rm) (p : Pl) (x : Mt) (H : List Row) (hR : RmOk H R p) (hm : 0 ≤ R.months) (hm' : R.months ≤ 1000) : Fc Try.prog 112 [.agg (cRm R p).toArray, .agg (cMt x).toArray] H (fun v H' => v = .bool (decide (matchOk R x)) ∧ H' = H) := by
  have hR' : ∀ (b1 b2 : Row), RmOk (b1 :: b2 :: H) R p := fun b1 b2 => hR.sub (fun r hr => by simp [hr])
  have ha := index_lt R.boxes x.a
  have hb := index_lt R.boxes x.b
  have hea := @index_get R.boxes x.a
  have heb := @index_get R.boxes x.b
  obtain ⟨a1, c1, a2, c2, a3, c3⟩ := p
  by_cases h0 : 0 < R.boxes.length
  · obtain ⟨b, off, _, rfl, _⟩ := hR.boxes.elem h0
    have hbx : ∀ r r', SlE (r :: r' :: H) _ cBx 2 R.boxes := fun r r' => hR.boxes.sub (fun _ h => List.mem_cons_of_mem _ (List.mem_cons_of_mem _ h))
    refine Fc.mk (callable Try.call112) Try.func112 rfl Try.ntmps112 rfl ?_; dsimp only [fr]
    repeat' (first | (refine XO.op rfl ?_; (first | ((first | refine Xo.ng rfl ?_); (first | (refine Xg.ev (EvF.assign rfl rfl) rfl rfl ?_) | (refine Xg.st (StF.boxAgg rfl rfl) rfl rfl ?_; rintro _ _ ⟨bx, rfl, rfl⟩))))) | (refine XO.done rfl ?_; refine hK _ _ ?_; clear hK K) | (refine XQ.op rfl ?_; (first | ((first | refine Yo.ng rfl ?_ | (refine Yo.g rfl rfl ?_; with_reducible refine Yw.tt ?_)); (first | (refine Yg.call (EnF.st rfl (by (repeat (first | exact Args.nil | refine Args.cons rfl ?_)); done)) rfl rfl (index_spec R _ _ _ (hR' _ _)) ?_) | (refine Yg.call (EnF.st rfl (by (repeat (first | exact Args.nil | refine Args.cons rfl ?_)); done)) rfl rfl (within_spec _ _ _ _) ?_) | (refine Yg.ev (EvF.loadV rfl rfl (LoadV.el1 (hbx _ _) (hea (by omega)) (te rfl) rfl (fun _ hm => hm) rfl)) rfl rfl ?_) | (refine Yg.ev (EvF.loadV rfl rfl (LoadV.el1 (hbx _ _) (heb (by omega)) (te rfl) rfl (fun _ hm => hm) rfl)) rfl rfl ?_) | (refine Yg.ev (EvF.move rfl rfl) rfl rfl ?_) | (refine Yg.ev (EvF.assign rfl rfl) rfl rfl ?_) | (refine Yg.ev (EvF.pickT rfl rfl rfl) rfl rfl ?_) | (refine Yg.ev (EvF.pickF rfl rfl rfl) rfl rfl ?_) | (refine Yg.ev (EvF.cmp rfl rfl rfl rfl) rfl rfl ?_) | (refine Yg.ev (EvF.sub64 rfl rfl rfl (by omega) (by omega)) rfl rfl ?_) | (refine Yg.ev (EvF.fieldAddr rfl rfl (te rfl) rfl (te rfl) (by decide)) rfl rfl ?_) | (refine Yg.ev (EvF.indexSlice rfl rfl rfl (te rfl) (te rfl) (by omega) (by omega)) rfl rfl ?_) | (refine Yg.ev (EvF.loadV rfl rfl (LoadV.own (te rfl) rfl (List.Mem.head _) rfl)) rfl rfl ?_) | (refine Yg.ev (EvF.loadV rfl rfl (LoadV.own (te rfl) rfl (List.Mem.tail _ (List.Mem.head _)) rfl)) rfl rfl ?_) | (refine Yg.ev (EvF.loadV rfl rfl (LoadV.whole (te rfl) rfl (List.Mem.tail _ (List.Mem.head _)) rfl)) rfl rfl ?_))) | (refine Yo.g rfl rfl ?_; (first | (with_reducible refine Yw.ft rfl rfl ?_) | (with_reducible refine Yw.case (fun h => ?_) (fun h => ?_) <;> simp only [h, decide_true, decide_false, Bool.not_true, Bool.not_false, and_self, and_true, true_and, and_false, false_and]) | (with_reducible refine Yw.caseN (fun h => ?_) (fun h => ?_) <;> simp only [h, decide_true, decide_false, Bool.not_true, Bool.not_false, and_self, and_true, true_and, and_false, false_and]))))) | (refine XQ.done rfl ?_; refine hK _ ?_; clear hK K) | refine X.seq rfl ?_ | refine X.region rfl (fun K hK => ?_) | refine X.regionD rfl mixed lex114 (fun K hK => ?_) | refine X.regionD rfl mixed (by kernel_rfl) (fun K hK => ?_) | refine X.ret rfl ?_)
    all_goals (refine ret_one (by first | exact .inr rfl | exact .inl rfl) Try.results112 rfl (H' := H) (by (repeat (first | exact List.Sublist.refl _ | apply List.Sublist.cons)); done) ?_; simp only [and_true, true_and])
    all_goals (congr 1; symm; unfold matchOk)
    all_goals first | exact decide_eq_false (by omega) | exact decide_eq_true (by omega) | exact decide_eq_decide.2 (by omega)
  · refine Fc.mk (callable Try.call112) Try.func112 rfl Try.ntmps112 rfl ?_; dsimp only [fr]
    repeat' (first | (refine XO.op rfl ?_; (first | ((first | refine Xo.ng rfl ?_); (first | (refine Xg.ev (EvF.assign rfl rfl) rfl rfl ?_) | (refine Xg.st (StF.boxAgg rfl rfl) rfl rfl ?_; rintro _ _ ⟨bx, rfl, rfl⟩))))) | (refine XO.done rfl ?_; refine hK _ _ ?_; clear hK K) | (refine XQ.op rfl ?_; (first | ((first | refine Yo.ng rfl ?_ | (refine Yo.g rfl rfl ?_; with_reducible refine Yw.tt ?_)); (first | (refine Yg.call (EnF.st rfl (by (repeat (first | exact Args.nil | refine Args.cons rfl ?_)); done)) rfl rfl (index_spec R _ _ _ (hR' _ _)) ?_) | (refine Yg.call (EnF.st rfl (by (repeat (first | exact Args.nil | refine Args.cons rfl ?_)); done)) rfl rfl (within_spec _ _ _ _) ?_) | (refine Yg.ev (EvF.move rfl rfl) rfl rfl ?_) | (refine Yg.ev (EvF.assign rfl rfl) rfl rfl ?_) | (refine Yg.ev (EvF.pickT rfl rfl rfl) rfl rfl ?_) | (refine Yg.ev (EvF.pickF rfl rfl rfl) rfl rfl ?_) | (refine Yg.ev (EvF.cmp rfl rfl rfl rfl) rfl rfl ?_) | (refine Yg.ev (EvF.sub64 rfl rfl rfl (by omega) (by omega)) rfl rfl ?_) | (refine Yg.ev (EvF.fieldAddr rfl rfl (te rfl) rfl (te rfl) (by decide)) rfl rfl ?_) | (refine Yg.ev (EvF.loadV rfl rfl (LoadV.own (te rfl) rfl (List.Mem.head _) rfl)) rfl rfl ?_) | (refine Yg.ev (EvF.loadV rfl rfl (LoadV.own (te rfl) rfl (List.Mem.tail _ (List.Mem.head _)) rfl)) rfl rfl ?_) | (refine Yg.ev (EvF.loadV rfl rfl (LoadV.whole (te rfl) rfl (List.Mem.tail _ (List.Mem.head _)) rfl)) rfl rfl ?_))) | (refine Yo.g rfl rfl ?_; (first | (with_reducible refine Yw.ft rfl rfl ?_) | (with_reducible refine Yw.case (fun h => ?_) (fun h => ?_) <;> simp only [h, decide_true, decide_false, Bool.not_true, Bool.not_false, and_self, and_true, true_and, and_false, false_and]) | (with_reducible refine Yw.caseN (fun h => ?_) (fun h => ?_) <;> simp only [h, decide_true, decide_false, Bool.not_true, Bool.not_false, and_self, and_true, true_and, and_false, false_and]) | (with_reducible refine Yw.caseB (fun h => ?_) (fun h => ?_) <;> simp only [h, decide_true, decide_false, Bool.not_true, Bool.not_false, and_self, and_true, true_and, and_false, false_and]))))) | (refine XQ.done rfl ?_; refine hK _ ?_; clear hK K) | refine X.seq rfl ?_ | refine X.region rfl (fun K hK => ?_) | refine X.regionD rfl mixed lex114 (fun K hK => ?_) | refine X.regionD rfl mixed (by kernel_rfl) (fun K hK => ?_) | refine X.ret rfl ?_)
    all_goals first | (exfalso; omega) | skip
    all_goals (refine ret_one (by first | exact .inr rfl | exact .inl rfl) Try.results112 rfl (H' := H) (by (repeat (first | exact List.Sublist.refl _ | apply List.Sublist.cons)); done) ?_; simp only [and_true, true_and])
    all_goals (congr 1; symm; unfold matchOk)
    all_goals exact decide_eq_false (by omega)
end Go.Proofs.Ytmljpmcipcoaaaa
