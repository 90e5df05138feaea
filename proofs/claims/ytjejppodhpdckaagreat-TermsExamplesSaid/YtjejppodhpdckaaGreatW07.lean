/- Own work: contracts of functions, from rows of what is known of the memory; contracts of functions, from rows of what is known of the memory; contracts of functions, from rows of what is known of the memory; contracts of functions, from rows of what is known of the memory; contracts of functions, from rows of what is known of the memory; contracts of functions, from rows of what is known of the memory; contracts of functions, from rows of what is known of the memory; contracts of functions, from rows of what is known of the memory; contracts of functions, from rows of what is known of the memory; contracts of functions, from rows of what is known of the memory; contracts of functions, from rows of what is known of the memory; contracts of functions, from rows of what is known of the memory; contract -/
import Derived.Test.YtjejppodhpdckaaGreatW06
section
set_option linter.unusedVariables false
set_option linter.unusedSimpArgs false
namespace Go.Proofs.YtjejppodhpdckaaGreat
open Go Go.Fw
set_option maxRecDepth 10000
set_option maxHeartbeats 4000000 in
theorem appendSeqI_spec {α : Type} (f : Nat) (cap : List Value) (E : List Row) (Gd Dn : List α → Prop) (g : α → Int) (hI : ItfG Tryz.prog f cap E Gd Dn (fun e => [.int .i64 (g e)])) (hb : ∀ pre, Gd pre → pre.length ≤ 1000000) :
    Fc Tryz.prog 131 [.slice none 0 0, .func (.func f) #[] cap.toArray] E (fun v H' => ∃ ys Z, Dn ys ∧ OutI (ys.map g) v Z ∧ H' = Z ++ E) := by
  refine Fc.mkT (callable Tryz.call131) Tryz.func131 rfl Tryz.ntmps131 rfl ?_
  dsimp only [fr]
  refine XT.seq rfl (XT.of0 ?_)
  repeat' (first | (refine XO.op rfl ?_; (first | ((first | refine Xo.ng rfl ?_ | (refine Xo.g rfl rfl ?_; with_reducible refine Xw.ff ?_)); (first | (refine Xg.ev (EvF.move rfl rfl) rfl rfl ?_) | (refine Xg.ev (EvF.assign rfl rfl) rfl rfl ?_) | (refine Xg.ev (EvF.pickT rfl rfl rfl) rfl rfl ?_) | (refine Xg.ev (EvF.not rfl rfl) rfl rfl ?_) | (refine Xg.ev (EvF.loadV rfl rfl (LoadV.own (te rfl) rfl (List.Mem.head _) rfl)) rfl rfl ?_) | (refine Xg.ev (EvF.loadV rfl rfl (LoadV.own (te rfl) rfl (List.Mem.tail _ (List.Mem.head _)) rfl)) rfl rfl ?_) | (refine Xg.ev (EvF.loadV rfl rfl (LoadV.own (te rfl) rfl (List.Mem.tail _ (List.Mem.tail _ (List.Mem.head _))) rfl)) rfl rfl ?_) | (refine Xg.st (StF.boxOne rfl rfl rfl) rfl rfl ?_; rintro _ _ ⟨bx, rfl, rfl⟩) | (refine Xg.st (StF.alloc rfl Tryz.zeroValue3 rfl) rfl rfl ?_; rintro _ _ ⟨bx, rfl, rfl⟩) | (refine Xg.st (StF.alloc rfl Tryz.zeroValue4 rfl) rfl rfl ?_; rintro _ _ ⟨bx, rfl, rfl⟩) | (refine Xg.st0 (StF.storeOne (i := 0) rfl rfl rfl rfl (te rfl) rfl rfl (Nat.le_of_ble_eq_true rfl)) rfl ?_; rintro _ _ ⟨rfl, rfl⟩; dsimp only [List.set]) | (refine Xg.st0 (StF.storeOne (i := 1) rfl rfl rfl rfl (te rfl) rfl rfl (Nat.le_of_ble_eq_true rfl)) rfl ?_; rintro _ _ ⟨rfl, rfl⟩; dsimp only [List.set]))) | (refine Xo.g rfl rfl ?_; (first | (with_reducible refine Xw.tf rfl rfl ?_) | (with_reducible refine Xw.caseB (fun h => ?_) (fun h => ?_) <;> simp only [h, decide_true, decide_false, Bool.not_true, Bool.not_false, and_self, and_true, true_and, and_false, false_and]))))) | (refine XO.done rfl ?_; refine hK _ _ ?_; clear hK K) | (refine XQ.op rfl ?_; (first | ((first | refine Yo.ng rfl ?_); (first | (refine Yg.ev (EvF.assign rfl rfl) rfl rfl ?_) | (refine Yg.ev (EvF.loadV rfl rfl (LoadV.own (te rfl) rfl (List.Mem.head _) rfl)) rfl rfl ?_) | (refine Yg.ev (EvF.loadV rfl rfl (LoadV.own (te rfl) rfl (List.Mem.tail _ (List.Mem.head _)) rfl)) rfl rfl ?_))))) | (refine XQ.done rfl ?_; refine hK _ ?_; clear hK K) | refine X.seq rfl ?_ | refine X.region rfl (fun K hK => ?_) | refine X.regionD rfl mixed (by kernel_rfl) (fun K hK => ?_) | refine X.block rfl ?_ | refine X.ret rfl ?_ | (refine X.ite rfl rfl (fun hc => ?_); (first | (with_reducible refine Xb.t hc ?_)) <;> clear hc))
  refine XT.seq rfl (XT.seq rfl (XT.of0 ?_))
  repeat' (first | (refine XO.op rfl ?_; (first | ((first | refine Xo.ng rfl ?_ | (refine Xo.g rfl rfl ?_; with_reducible refine Xw.ff ?_)); (first | (refine Xg.ev (EvF.move rfl rfl) rfl rfl ?_) | (refine Xg.ev (EvF.assign rfl rfl) rfl rfl ?_) | (refine Xg.ev (EvF.pickT rfl rfl rfl) rfl rfl ?_) | (refine Xg.ev (EvF.not rfl rfl) rfl rfl ?_) | (refine Xg.ev (EvF.loadV rfl rfl (LoadV.own (te rfl) rfl (List.Mem.head _) rfl)) rfl rfl ?_) | (refine Xg.ev (EvF.loadV rfl rfl (LoadV.own (te rfl) rfl (List.Mem.tail _ (List.Mem.head _)) rfl)) rfl rfl ?_) | (refine Xg.ev (EvF.loadV rfl rfl (LoadV.own (te rfl) rfl (List.Mem.tail _ (List.Mem.tail _ (List.Mem.head _))) rfl)) rfl rfl ?_) | (refine Xg.st (StF.boxOne rfl rfl rfl) rfl rfl ?_; rintro _ _ ⟨bx, rfl, rfl⟩) | (refine Xg.st (StF.alloc rfl Tryz.zeroValue3 rfl) rfl rfl ?_; rintro _ _ ⟨bx, rfl, rfl⟩) | (refine Xg.st (StF.alloc rfl Tryz.zeroValue4 rfl) rfl rfl ?_; rintro _ _ ⟨bx, rfl, rfl⟩) | (refine Xg.st0 (StF.storeOne (i := 0) rfl rfl rfl rfl (te rfl) rfl rfl (Nat.le_of_ble_eq_true rfl)) rfl ?_; rintro _ _ ⟨rfl, rfl⟩; dsimp only [List.set]) | (refine Xg.st0 (StF.storeOne (i := 1) rfl rfl rfl rfl (te rfl) rfl rfl (Nat.le_of_ble_eq_true rfl)) rfl ?_; rintro _ _ ⟨rfl, rfl⟩; dsimp only [List.set]))) | (refine Xo.g rfl rfl ?_; (first | (with_reducible refine Xw.tf rfl rfl ?_) | (with_reducible refine Xw.caseB (fun h => ?_) (fun h => ?_) <;> simp only [h, decide_true, decide_false, Bool.not_true, Bool.not_false, and_self, and_true, true_and, and_false, false_and]))))) | (refine XO.done rfl ?_; refine hK _ _ ?_; clear hK K) | (refine XQ.op rfl ?_; (first | ((first | refine Yo.ng rfl ?_); (first | (refine Yg.ev (EvF.assign rfl rfl) rfl rfl ?_) | (refine Yg.ev (EvF.loadV rfl rfl (LoadV.own (te rfl) rfl (List.Mem.head _) rfl)) rfl rfl ?_) | (refine Yg.ev (EvF.loadV rfl rfl (LoadV.own (te rfl) rfl (List.Mem.tail _ (List.Mem.head _)) rfl)) rfl rfl ?_))))) | (refine XQ.done rfl ?_; refine hK _ ?_; clear hK K) | refine X.seq rfl ?_ | refine X.region rfl (fun K hK => ?_) | refine X.regionD rfl mixed (by kernel_rfl) (fun K hK => ?_) | refine X.block rfl ?_ | refine X.ret rfl ?_ | (refine X.ite rfl rfl (fun hc => ?_); (first | (with_reducible refine Xb.t hc ?_)) <;> clear hc))
  refine XT.block rfl ?_
  refine XT.weak (F' := [(2, .pointer (some ⟨bx, 0, none⟩)), (6, .func (.func f) #[] cap.toArray)]) (H' := ⟨bx, 0, [.slice none 0 0], some 28, 1⟩ :: E) (by (repeat (first | exact Sub.nil _ | refine Sub.cons rfl ?_)); done) (by (repeat (first | exact List.Sublist.refl _ | apply List.Sublist.cons_cons | apply List.Sublist.cons)); done) ?_
  refine XT.rangeG (ps := [7]) rfl rfl hI rfl (fun _ => rfl) (fun pre Hb => ∃ out Z, OutI (pre.map g) out Z ∧ Hb = Z ++ [⟨bx, 0, [out], some 28, 1⟩]) (fun _ _ => False) [⟨bx, 0, [.slice none 0 0], some 28, 1⟩] rfl ⟨_, [], OutI.nil, rfl⟩ ?_ ?_ (fun _ _ h => h.elim) (fun _ _ _ h => h.elim) (fun _ _ h => h.elim)
  · rintro pre x _ hpre ⟨out, Z0, ho, rfl⟩ Z
    have hlen := hb _ hpre
    rw [List.length_append] at hlen
    obtain ⟨pm, hpm⟩ : ∃ q, pre.map g = q := ⟨_, rfl⟩
    have hpl : pm.length = pre.length := by rw [← hpm, List.length_map]
    rw [List.map_append]
    rw [hpm] at ho ⊢
    rcases ho with ⟨rfl, rfl, rfl⟩ | ⟨bo, qo, rfl, rfl⟩
    · simp only [List.cons_append, List.nil_append]
      repeat' (first | (refine XO.op rfl ?_; (first | ((first | refine Xo.ng rfl ?_ | (refine Xo.g rfl rfl ?_; with_reducible refine Xw.ff ?_)); (first | (refine Xg.ev (EvF.move rfl rfl) rfl rfl ?_) | (refine Xg.ev (EvF.assign rfl rfl) rfl rfl ?_) | (refine Xg.ev (EvF.pickT rfl rfl rfl) rfl rfl ?_) | (refine Xg.ev (EvF.not rfl rfl) rfl rfl ?_) | (refine Xg.ev (EvF.loadV rfl rfl (LoadV.own (te rfl) rfl (List.Mem.head _) rfl)) rfl rfl ?_) | (refine Xg.ev (EvF.loadV rfl rfl (LoadV.own (te rfl) rfl (List.Mem.tail _ (List.Mem.head _)) rfl)) rfl rfl ?_) | (refine Xg.ev (EvF.loadV rfl rfl (LoadV.own (te rfl) rfl (List.Mem.tail _ (List.Mem.tail _ (List.Mem.head _))) rfl)) rfl rfl ?_) | (refine Xg.st (StF.boxOne rfl rfl rfl) rfl rfl ?_; rintro _ _ ⟨bx, rfl, rfl⟩) | (refine Xg.st (StF.alloc rfl Tryz.zeroValue3 rfl) rfl rfl ?_; rintro _ _ ⟨bx, rfl, rfl⟩) | (refine Xg.st (StF.alloc rfl Tryz.zeroValue4 rfl) rfl rfl ?_; rintro _ _ ⟨bx, rfl, rfl⟩) | (refine Xg.st0 (StF.storeOne (i := 0) rfl rfl rfl rfl (te rfl) rfl rfl (Nat.le_of_ble_eq_true rfl)) rfl ?_; rintro _ _ ⟨rfl, rfl⟩; dsimp only [List.set]) | (refine Xg.st0 (StF.storeOne (i := 1) rfl rfl rfl rfl (te rfl) rfl rfl (Nat.le_of_ble_eq_true rfl)) rfl ?_; rintro _ _ ⟨rfl, rfl⟩; dsimp only [List.set]))) | (refine Xo.g rfl rfl ?_; (first | (with_reducible refine Xw.tf rfl rfl ?_) | (with_reducible refine Xw.caseB (fun h => ?_) (fun h => ?_) <;> simp only [h, decide_true, decide_false, Bool.not_true, Bool.not_false, and_self, and_true, true_and, and_false, false_and]))))) | (refine XO.done rfl ?_; refine hK _ _ ?_; clear hK K) | (refine XQ.op rfl ?_; (first | ((first | refine Yo.ng rfl ?_); (first | (refine Yg.ev (EvF.assign rfl rfl) rfl rfl ?_) | (refine Yg.ev (EvF.loadV rfl rfl (LoadV.own (te rfl) rfl (List.Mem.head _) rfl)) rfl rfl ?_) | (refine Yg.ev (EvF.loadV rfl rfl (LoadV.own (te rfl) rfl (List.Mem.tail _ (List.Mem.head _)) rfl)) rfl rfl ?_))))) | (refine XQ.done rfl ?_; refine hK _ ?_; clear hK K) | refine X.seq rfl ?_ | refine X.region rfl (fun K hK => ?_) | refine X.regionD rfl mixed (by kernel_rfl) (fun K hK => ?_) | refine X.block rfl ?_ | refine X.ret rfl ?_ | (refine X.ite rfl rfl (fun hc => ?_); (first | (with_reducible refine Xb.t hc ?_)) <;> clear hc))
      refine ⟨rfl, [_], List.Sublist.refl _, fun Z' => ?_⟩
      simp only [List.cons_append, List.nil_append]
      repeat' (first | (refine XO.op rfl ?_; (first | ((first | refine Xo.ng rfl ?_); (first | (refine Xg.st (StF.buildOne rfl elI rfl rfl rfl (by decide) (by decide)) rfl rfl ?_; rintro _ _ ⟨bs, rfl, rfl⟩) | (refine Xg.st (StF.appendNew rfl elI rfl rfl (by decide) rfl (Rd.own (List.Mem.head _)) (by decide)) rfl rfl ?_; rintro _ _ ⟨bn, kn, rfl, rfl⟩) | (refine Xg.ev (EvF.move rfl rfl) rfl rfl ?_) | (refine Xg.ev (EvF.loadV rfl rfl (LoadV.own (te rfl) rfl (List.Mem.head _) rfl)) rfl rfl ?_) | (refine Xg.st0 (StF.storeOne (i := 2) rfl rfl rfl rfl (te rfl) rfl rfl (Nat.le_of_ble_eq_true rfl)) rfl ?_; rintro _ _ ⟨rfl, rfl⟩; dsimp only [List.set]))))) | (refine XO.done rfl ?_; refine hK _ _ ?_; clear hK K) | refine X.region rfl (fun K hK => ?_) | refine X.block rfl ?_)
      exact ⟨[⟨bn, 0, cI (g x), some 3, kn * 1⟩, _], List.Sublist.cons_cons _ (List.Sublist.cons _ (List.Sublist.refl _)), _, [⟨bn, 0, cI (g x), some 3, kn * 1⟩], .inr ⟨bn, kn, rfl, rfl⟩, rfl⟩
    · have hlc := lenI pm
      simp only [List.cons_append, List.nil_append]
      repeat' (first | (refine XO.op rfl ?_; (first | ((first | refine Xo.ng rfl ?_ | (refine Xo.g rfl rfl ?_; with_reducible refine Xw.ff ?_)); (first | (refine Xg.ev (EvF.move rfl rfl) rfl rfl ?_) | (refine Xg.ev (EvF.assign rfl rfl) rfl rfl ?_) | (refine Xg.ev (EvF.pickT rfl rfl rfl) rfl rfl ?_) | (refine Xg.ev (EvF.not rfl rfl) rfl rfl ?_) | (refine Xg.ev (EvF.loadV rfl rfl (LoadV.own (te rfl) rfl (List.Mem.head _) rfl)) rfl rfl ?_) | (refine Xg.ev (EvF.loadV rfl rfl (LoadV.own (te rfl) rfl (List.Mem.tail _ (List.Mem.head _)) rfl)) rfl rfl ?_) | (refine Xg.ev (EvF.loadV rfl rfl (LoadV.own (te rfl) rfl (List.Mem.tail _ (List.Mem.tail _ (List.Mem.head _))) rfl)) rfl rfl ?_) | (refine Xg.st (StF.boxOne rfl rfl rfl) rfl rfl ?_; rintro _ _ ⟨bx, rfl, rfl⟩) | (refine Xg.st (StF.alloc rfl Tryz.zeroValue3 rfl) rfl rfl ?_; rintro _ _ ⟨bx, rfl, rfl⟩) | (refine Xg.st (StF.alloc rfl Tryz.zeroValue4 rfl) rfl rfl ?_; rintro _ _ ⟨bx, rfl, rfl⟩) | (refine Xg.st0 (StF.storeOne (i := 0) rfl rfl rfl rfl (te rfl) rfl rfl (Nat.le_of_ble_eq_true rfl)) rfl ?_; rintro _ _ ⟨rfl, rfl⟩; dsimp only [List.set]) | (refine Xg.st0 (StF.storeOne (i := 1) rfl rfl rfl rfl (te rfl) rfl rfl (Nat.le_of_ble_eq_true rfl)) rfl ?_; rintro _ _ ⟨rfl, rfl⟩; dsimp only [List.set]))) | (refine Xo.g rfl rfl ?_; (first | (with_reducible refine Xw.tf rfl rfl ?_) | (with_reducible refine Xw.caseB (fun h => ?_) (fun h => ?_) <;> simp only [h, decide_true, decide_false, Bool.not_true, Bool.not_false, and_self, and_true, true_and, and_false, false_and]))))) | (refine XO.done rfl ?_; refine hK _ _ ?_; clear hK K) | (refine XQ.op rfl ?_; (first | ((first | refine Yo.ng rfl ?_); (first | (refine Yg.ev (EvF.assign rfl rfl) rfl rfl ?_) | (refine Yg.ev (EvF.loadV rfl rfl (LoadV.own (te rfl) rfl (List.Mem.head _) rfl)) rfl rfl ?_) | (refine Yg.ev (EvF.loadV rfl rfl (LoadV.own (te rfl) rfl (List.Mem.tail _ (List.Mem.head _)) rfl)) rfl rfl ?_))))) | (refine XQ.done rfl ?_; refine hK _ ?_; clear hK K) | refine X.seq rfl ?_ | refine X.region rfl (fun K hK => ?_) | refine X.regionD rfl mixed (by kernel_rfl) (fun K hK => ?_) | refine X.block rfl ?_ | refine X.ret rfl ?_ | (refine X.ite rfl rfl (fun hc => ?_); (first | (with_reducible refine Xb.t hc ?_)) <;> clear hc))
      refine ⟨rfl, [_, _], List.Sublist.refl _, fun Z' => ?_⟩
      simp only [List.cons_append, List.nil_append]
      repeat' (first | (refine XO.op rfl ?_; (first | ((first | refine Xo.ng rfl ?_); (first | (refine Xg.st (StF.buildOne rfl elI rfl rfl rfl (by decide) (by decide)) rfl rfl ?_; rintro _ _ ⟨bs, rfl, rfl⟩) | (refine Xg.st (StF.appendOwn (i := 1) rfl elI rfl rfl rfl hlc rfl (Rd.own (List.Mem.head _)) rfl (by omega)) rfl rfl ?_; rintro _ _ ⟨bn, kn, rfl, rfl⟩; dsimp only [List.eraseIdx]) | (refine Xg.ev (EvF.move rfl rfl) rfl rfl ?_) | (refine Xg.ev (EvF.loadV rfl rfl (LoadV.own (te rfl) rfl (List.Mem.tail _ (List.Mem.head _)) rfl)) rfl rfl ?_) | (refine Xg.st0 (StF.storeOne (i := 2) rfl rfl rfl rfl (te rfl) rfl rfl (Nat.le_of_ble_eq_true rfl)) rfl ?_; rintro _ _ ⟨rfl, rfl⟩; dsimp only [List.set]))))) | (refine XO.done rfl ?_; refine hK _ _ ?_; clear hK K) | refine X.region rfl (fun K hK => ?_) | refine X.block rfl ?_)
      exact ⟨[⟨bn, 0, pm.flatMap cI ++ cI (g x), some 3, kn * 1⟩, _], List.Sublist.cons_cons _ (List.Sublist.cons _ (List.Sublist.refl _)), _, [⟨bn, 0, pm.flatMap cI ++ cI (g x), some 3, kn * 1⟩], .inr ⟨bn, kn, by rw [List.length_append]; rfl, by rw [List.flatMap_append]; rfl⟩, rfl⟩
  · rintro D ys _ hys ⟨out, Z0, ho, rfl⟩
    obtain ⟨pm, hpm⟩ : ∃ q, ys.map g = q := ⟨_, rfl⟩
    have hO := ho
    rw [hpm] at ho
    rcases ho with ⟨rfl, rfl, rfl⟩ | ⟨bo, qo, rfl, rfl⟩
    · refine XT.seq rfl (XT.of1 ?_)
      simp only [List.cons_append, List.nil_append]
      repeat' (first | (refine XO.op rfl ?_; (first | ((first | refine Xo.ng rfl ?_ | (refine Xo.g rfl rfl ?_; with_reducible refine Xw.ff ?_)); (first | (refine Xg.ev (EvF.move rfl rfl) rfl rfl ?_) | (refine Xg.ev (EvF.assign rfl rfl) rfl rfl ?_) | (refine Xg.ev (EvF.pickT rfl rfl rfl) rfl rfl ?_) | (refine Xg.ev (EvF.not rfl rfl) rfl rfl ?_) | (refine Xg.ev (EvF.loadV rfl rfl (LoadV.own (te rfl) rfl (List.Mem.head _) rfl)) rfl rfl ?_) | (refine Xg.ev (EvF.loadV rfl rfl (LoadV.own (te rfl) rfl (List.Mem.tail _ (List.Mem.head _)) rfl)) rfl rfl ?_) | (refine Xg.ev (EvF.loadV rfl rfl (LoadV.own (te rfl) rfl (List.Mem.tail _ (List.Mem.tail _ (List.Mem.head _))) rfl)) rfl rfl ?_) | (refine Xg.st (StF.boxOne rfl rfl rfl) rfl rfl ?_; rintro _ _ ⟨bx, rfl, rfl⟩) | (refine Xg.st (StF.alloc rfl Tryz.zeroValue3 rfl) rfl rfl ?_; rintro _ _ ⟨bx, rfl, rfl⟩) | (refine Xg.st (StF.alloc rfl Tryz.zeroValue4 rfl) rfl rfl ?_; rintro _ _ ⟨bx, rfl, rfl⟩) | (refine Xg.st0 (StF.storeOne (i := 0) rfl rfl rfl rfl (te rfl) rfl rfl (Nat.le_of_ble_eq_true rfl)) rfl ?_; rintro _ _ ⟨rfl, rfl⟩; dsimp only [List.set]) | (refine Xg.st0 (StF.storeOne (i := 1) rfl rfl rfl rfl (te rfl) rfl rfl (Nat.le_of_ble_eq_true rfl)) rfl ?_; rintro _ _ ⟨rfl, rfl⟩; dsimp only [List.set]))) | (refine Xo.g rfl rfl ?_; (first | (with_reducible refine Xw.tf rfl rfl ?_) | (with_reducible refine Xw.caseB (fun h => ?_) (fun h => ?_) <;> simp only [h, decide_true, decide_false, Bool.not_true, Bool.not_false, and_self, and_true, true_and, and_false, false_and]))))) | (refine XO.done rfl ?_; refine hK _ _ ?_; clear hK K) | (refine XQ.op rfl ?_; (first | ((first | refine Yo.ng rfl ?_); (first | (refine Yg.ev (EvF.assign rfl rfl) rfl rfl ?_) | (refine Yg.ev (EvF.loadV rfl rfl (LoadV.own (te rfl) rfl (List.Mem.head _) rfl)) rfl rfl ?_) | (refine Yg.ev (EvF.loadV rfl rfl (LoadV.own (te rfl) rfl (List.Mem.tail _ (List.Mem.head _)) rfl)) rfl rfl ?_))))) | (refine XQ.done rfl ?_; refine hK _ ?_; clear hK K) | refine X.seq rfl ?_ | refine X.region rfl (fun K hK => ?_) | refine X.regionD rfl mixed (by kernel_rfl) (fun K hK => ?_) | refine X.block rfl ?_ | refine X.ret rfl ?_ | (refine X.ite rfl rfl (fun hc => ?_); (first | (with_reducible refine Xb.t hc ?_)) <;> clear hc))
      refine ⟨⟨bx, 0, [.slice none 0 0], some 28, 1⟩ :: E, List.Sublist.refl _, XT.of1 ?_⟩
      repeat' (first | (refine XO.op rfl ?_; (first | ((first | refine Xo.ng rfl ?_ | (refine Xo.g rfl rfl ?_; with_reducible refine Xw.ff ?_)); (first | (refine Xg.ev (EvF.move rfl rfl) rfl rfl ?_) | (refine Xg.ev (EvF.assign rfl rfl) rfl rfl ?_) | (refine Xg.ev (EvF.pickT rfl rfl rfl) rfl rfl ?_) | (refine Xg.ev (EvF.not rfl rfl) rfl rfl ?_) | (refine Xg.ev (EvF.loadV rfl rfl (LoadV.own (te rfl) rfl (List.Mem.head _) rfl)) rfl rfl ?_) | (refine Xg.ev (EvF.loadV rfl rfl (LoadV.own (te rfl) rfl (List.Mem.tail _ (List.Mem.head _)) rfl)) rfl rfl ?_) | (refine Xg.ev (EvF.loadV rfl rfl (LoadV.own (te rfl) rfl (List.Mem.tail _ (List.Mem.tail _ (List.Mem.head _))) rfl)) rfl rfl ?_) | (refine Xg.st (StF.boxOne rfl rfl rfl) rfl rfl ?_; rintro _ _ ⟨bx, rfl, rfl⟩) | (refine Xg.st (StF.alloc rfl Tryz.zeroValue3 rfl) rfl rfl ?_; rintro _ _ ⟨bx, rfl, rfl⟩) | (refine Xg.st (StF.alloc rfl Tryz.zeroValue4 rfl) rfl rfl ?_; rintro _ _ ⟨bx, rfl, rfl⟩) | (refine Xg.st0 (StF.storeOne (i := 0) rfl rfl rfl rfl (te rfl) rfl rfl (Nat.le_of_ble_eq_true rfl)) rfl ?_; rintro _ _ ⟨rfl, rfl⟩; dsimp only [List.set]) | (refine Xg.st0 (StF.storeOne (i := 1) rfl rfl rfl rfl (te rfl) rfl rfl (Nat.le_of_ble_eq_true rfl)) rfl ?_; rintro _ _ ⟨rfl, rfl⟩; dsimp only [List.set]))) | (refine Xo.g rfl rfl ?_; (first | (with_reducible refine Xw.tf rfl rfl ?_) | (with_reducible refine Xw.caseB (fun h => ?_) (fun h => ?_) <;> simp only [h, decide_true, decide_false, Bool.not_true, Bool.not_false, and_self, and_true, true_and, and_false, false_and]))))) | (refine XO.done rfl ?_; refine hK _ _ ?_; clear hK K) | (refine XQ.op rfl ?_; (first | ((first | refine Yo.ng rfl ?_); (first | (refine Yg.ev (EvF.assign rfl rfl) rfl rfl ?_) | (refine Yg.ev (EvF.loadV rfl rfl (LoadV.own (te rfl) rfl (List.Mem.head _) rfl)) rfl rfl ?_) | (refine Yg.ev (EvF.loadV rfl rfl (LoadV.own (te rfl) rfl (List.Mem.tail _ (List.Mem.head _)) rfl)) rfl rfl ?_))))) | (refine XQ.done rfl ?_; refine hK _ ?_; clear hK K) | refine X.seq rfl ?_ | refine X.region rfl (fun K hK => ?_) | refine X.regionD rfl mixed (by kernel_rfl) (fun K hK => ?_) | refine X.block rfl ?_ | refine X.ret rfl ?_ | (refine X.ite rfl rfl (fun hc => ?_); (first | (with_reducible refine Xb.t hc ?_)) <;> clear hc))
      exact ⟨E, (by (repeat (first | exact List.Sublist.refl _ | apply List.Sublist.cons_cons | apply List.Sublist.cons)); done), retT_one (by first | exact .inr rfl | exact .inl rfl) Tryz.results131 rfl (List.Sublist.refl _) ⟨ys, [], hys, hO, rfl⟩⟩
    · refine XT.seq rfl (XT.of1 ?_)
      simp only [List.cons_append, List.nil_append]
      repeat' (first | (refine XO.op rfl ?_; (first | ((first | refine Xo.ng rfl ?_ | (refine Xo.g rfl rfl ?_; with_reducible refine Xw.ff ?_)); (first | (refine Xg.ev (EvF.move rfl rfl) rfl rfl ?_) | (refine Xg.ev (EvF.assign rfl rfl) rfl rfl ?_) | (refine Xg.ev (EvF.pickT rfl rfl rfl) rfl rfl ?_) | (refine Xg.ev (EvF.not rfl rfl) rfl rfl ?_) | (refine Xg.ev (EvF.loadV rfl rfl (LoadV.own (te rfl) rfl (List.Mem.head _) rfl)) rfl rfl ?_) | (refine Xg.ev (EvF.loadV rfl rfl (LoadV.own (te rfl) rfl (List.Mem.tail _ (List.Mem.head _)) rfl)) rfl rfl ?_) | (refine Xg.ev (EvF.loadV rfl rfl (LoadV.own (te rfl) rfl (List.Mem.tail _ (List.Mem.tail _ (List.Mem.head _))) rfl)) rfl rfl ?_) | (refine Xg.st (StF.boxOne rfl rfl rfl) rfl rfl ?_; rintro _ _ ⟨bx, rfl, rfl⟩) | (refine Xg.st (StF.alloc rfl Tryz.zeroValue3 rfl) rfl rfl ?_; rintro _ _ ⟨bx, rfl, rfl⟩) | (refine Xg.st (StF.alloc rfl Tryz.zeroValue4 rfl) rfl rfl ?_; rintro _ _ ⟨bx, rfl, rfl⟩) | (refine Xg.st0 (StF.storeOne (i := 0) rfl rfl rfl rfl (te rfl) rfl rfl (Nat.le_of_ble_eq_true rfl)) rfl ?_; rintro _ _ ⟨rfl, rfl⟩; dsimp only [List.set]) | (refine Xg.st0 (StF.storeOne (i := 1) rfl rfl rfl rfl (te rfl) rfl rfl (Nat.le_of_ble_eq_true rfl)) rfl ?_; rintro _ _ ⟨rfl, rfl⟩; dsimp only [List.set]))) | (refine Xo.g rfl rfl ?_; (first | (with_reducible refine Xw.tf rfl rfl ?_) | (with_reducible refine Xw.caseB (fun h => ?_) (fun h => ?_) <;> simp only [h, decide_true, decide_false, Bool.not_true, Bool.not_false, and_self, and_true, true_and, and_false, false_and]))))) | (refine XO.done rfl ?_; refine hK _ _ ?_; clear hK K) | (refine XQ.op rfl ?_; (first | ((first | refine Yo.ng rfl ?_); (first | (refine Yg.ev (EvF.assign rfl rfl) rfl rfl ?_) | (refine Yg.ev (EvF.loadV rfl rfl (LoadV.own (te rfl) rfl (List.Mem.head _) rfl)) rfl rfl ?_) | (refine Yg.ev (EvF.loadV rfl rfl (LoadV.own (te rfl) rfl (List.Mem.tail _ (List.Mem.head _)) rfl)) rfl rfl ?_))))) | (refine XQ.done rfl ?_; refine hK _ ?_; clear hK K) | refine X.seq rfl ?_ | refine X.region rfl (fun K hK => ?_) | refine X.regionD rfl mixed (by kernel_rfl) (fun K hK => ?_) | refine X.block rfl ?_ | refine X.ret rfl ?_ | (refine X.ite rfl rfl (fun hc => ?_); (first | (with_reducible refine Xb.t hc ?_)) <;> clear hc))
      refine ⟨⟨bo, 0, pm.flatMap cI, some 3, qo * 1⟩ :: ⟨bx, 0, [.slice (some ⟨bo, 0, none⟩) pm.length qo], some 28, 1⟩ :: E, List.Sublist.refl _, XT.of1 ?_⟩
      repeat' (first | (refine XO.op rfl ?_; (first | ((first | refine Xo.ng rfl ?_ | (refine Xo.g rfl rfl ?_; with_reducible refine Xw.ff ?_)); (first | (refine Xg.ev (EvF.move rfl rfl) rfl rfl ?_) | (refine Xg.ev (EvF.assign rfl rfl) rfl rfl ?_) | (refine Xg.ev (EvF.pickT rfl rfl rfl) rfl rfl ?_) | (refine Xg.ev (EvF.not rfl rfl) rfl rfl ?_) | (refine Xg.ev (EvF.loadV rfl rfl (LoadV.own (te rfl) rfl (List.Mem.head _) rfl)) rfl rfl ?_) | (refine Xg.ev (EvF.loadV rfl rfl (LoadV.own (te rfl) rfl (List.Mem.tail _ (List.Mem.head _)) rfl)) rfl rfl ?_) | (refine Xg.ev (EvF.loadV rfl rfl (LoadV.own (te rfl) rfl (List.Mem.tail _ (List.Mem.tail _ (List.Mem.head _))) rfl)) rfl rfl ?_) | (refine Xg.st (StF.boxOne rfl rfl rfl) rfl rfl ?_; rintro _ _ ⟨bx, rfl, rfl⟩) | (refine Xg.st (StF.alloc rfl Tryz.zeroValue3 rfl) rfl rfl ?_; rintro _ _ ⟨bx, rfl, rfl⟩) | (refine Xg.st (StF.alloc rfl Tryz.zeroValue4 rfl) rfl rfl ?_; rintro _ _ ⟨bx, rfl, rfl⟩) | (refine Xg.st0 (StF.storeOne (i := 0) rfl rfl rfl rfl (te rfl) rfl rfl (Nat.le_of_ble_eq_true rfl)) rfl ?_; rintro _ _ ⟨rfl, rfl⟩; dsimp only [List.set]) | (refine Xg.st0 (StF.storeOne (i := 1) rfl rfl rfl rfl (te rfl) rfl rfl (Nat.le_of_ble_eq_true rfl)) rfl ?_; rintro _ _ ⟨rfl, rfl⟩; dsimp only [List.set]))) | (refine Xo.g rfl rfl ?_; (first | (with_reducible refine Xw.tf rfl rfl ?_) | (with_reducible refine Xw.caseB (fun h => ?_) (fun h => ?_) <;> simp only [h, decide_true, decide_false, Bool.not_true, Bool.not_false, and_self, and_true, true_and, and_false, false_and]))))) | (refine XO.done rfl ?_; refine hK _ _ ?_; clear hK K) | (refine XQ.op rfl ?_; (first | ((first | refine Yo.ng rfl ?_); (first | (refine Yg.ev (EvF.assign rfl rfl) rfl rfl ?_) | (refine Yg.ev (EvF.loadV rfl rfl (LoadV.own (te rfl) rfl (List.Mem.head _) rfl)) rfl rfl ?_) | (refine Yg.ev (EvF.loadV rfl rfl (LoadV.own (te rfl) rfl (List.Mem.tail _ (List.Mem.head _)) rfl)) rfl rfl ?_))))) | (refine XQ.done rfl ?_; refine hK _ ?_; clear hK K) | refine X.seq rfl ?_ | refine X.region rfl (fun K hK => ?_) | refine X.regionD rfl mixed (by kernel_rfl) (fun K hK => ?_) | refine X.block rfl ?_ | refine X.ret rfl ?_ | (refine X.ite rfl rfl (fun hc => ?_); (first | (with_reducible refine Xb.t hc ?_)) <;> clear hc))
      exact ⟨⟨bo, 0, pm.flatMap cI, some 3, qo * 1⟩ :: E, (by (repeat (first | exact List.Sublist.refl _ | apply List.Sublist.cons_cons | apply List.Sublist.cons)); done), retT_one (by first | exact .inr rfl | exact .inl rfl) Tryz.results131 rfl (List.Sublist.refl _) ⟨ys, [⟨bo, 0, pm.flatMap cI, some 3, qo * 1⟩], hys, hO, rfl⟩⟩
theorem collectI_spec {α : Type} (f : Nat) (cap : List Value) (E : List Row) (Gd Dn : List α → Prop) (g : α → Int) (hI : ItfG Tryz.prog f cap E Gd Dn (fun e => [.int .i64 (g e)])) (hb : ∀ pre, Gd pre → pre.length ≤ 1000000) :
    Fc Tryz.prog 97 [.func (.func f) #[] cap.toArray] E (fun v H' => ∃ ys Z, Dn ys ∧ OutI (ys.map g) v Z ∧ H' = Z ++ E) := by
  refine Fc.mk (callable Tryz.call97) Tryz.func97 rfl Tryz.ntmps97 rfl ?_; dsimp only [fr]
  repeat' (first | (refine XO.op rfl ?_; (first | ((first | refine Xo.ng rfl ?_); (first | (refine Xg.call (EnF.st rfl (Args.cons rfl (Args.cons rfl Args.nil))) rfl rfl (appendSeqI_spec f cap E Gd Dn g hI hb) ?_; rintro v _ ⟨ys, Z, hy, hO, rfl⟩) | (refine Xg.ev (EvF.move rfl rfl) rfl rfl ?_) | (refine Xg.ev (EvF.assign rfl rfl) rfl rfl ?_))))) | (refine XO.done rfl ?_; refine hK _ _ ?_; clear hK K) | refine X.seq rfl ?_ | refine X.region rfl (fun K hK => ?_) | refine X.ret rfl ?_)
  exact ret_one (by first | exact .inr rfl | exact .inl rfl) Tryz.results97 rfl (List.Sublist.refl _) ⟨ys, Z, hy, hO, rfl⟩
/-- the least of the numbers that came -/
def fndI (l : List Int) : Bool := match l with | [] => false | _ => true
theorem fndI_snoc (l : List Int) (x : Int) : fndI (l ++ [x]) = true := by cases l <;> rfl
theorem fndI_pos {l : List Int} (h : fndI l = true) : 0 < l.length := by cases l with | nil => cases h | cons => exact Nat.succ_pos _
theorem fndI_nil {l : List Int} (h : fndI l = false) : l = [] := by cases l with | nil => rfl | cons => cases h
set_option maxHeartbeats 8000000 in
theorem firstI_spec {α : Type} (f : Nat) (cap : List Value) (E : List Row) (Gd Dn : List α → Prop) (k : α → Int) (hI : ItfG Tryz.prog f cap E Gd Dn (fun e => [.int .i64 (k e)])) :
    Fc Tryz.prog 99 [.func (.func f) #[] cap.toArray, .func (.func 101) #[] #[]] E (fun v H' => ∃ ys, Dn ys ∧ v = .tuple #[.int .i64 (minL (ys.map k)), .bool (fndI (ys.map k))] ∧ H' = E) := by
  refine Fc.mkT (callable Tryz.call99) Tryz.func99 rfl Tryz.ntmps99 rfl ?_
  dsimp only [fr]
  refine XT.seq rfl (XT.of0 ?_)
  repeat' (first | (refine XO.op rfl ?_; (first | ((first | refine Xo.ng rfl ?_ | (refine Xo.g rfl rfl ?_; with_reducible refine Xw.ff ?_)); (first | (refine Xg.ev (EvF.move rfl rfl) rfl rfl ?_) | (refine Xg.ev (EvF.assign rfl rfl) rfl rfl ?_) | (refine Xg.ev (EvF.pickT rfl rfl rfl) rfl rfl ?_) | (refine Xg.ev (EvF.not rfl rfl) rfl rfl ?_) | (refine Xg.ev (EvF.loadV rfl rfl (LoadV.own (te rfl) rfl (List.Mem.head _) rfl)) rfl rfl ?_) | (refine Xg.ev (EvF.loadV rfl rfl (LoadV.own (te rfl) rfl (List.Mem.tail _ (List.Mem.head _)) rfl)) rfl rfl ?_) | (refine Xg.ev (EvF.loadV rfl rfl (LoadV.own (te rfl) rfl (List.Mem.tail _ (List.Mem.tail _ (List.Mem.head _))) rfl)) rfl rfl ?_) | (refine Xg.st (StF.boxOne rfl rfl rfl) rfl rfl ?_; rintro _ _ ⟨bx, rfl, rfl⟩) | (refine Xg.st (StF.alloc rfl Tryz.zeroValue3 rfl) rfl rfl ?_; rintro _ _ ⟨bx, rfl, rfl⟩) | (refine Xg.st (StF.alloc rfl Tryz.zeroValue4 rfl) rfl rfl ?_; rintro _ _ ⟨bx, rfl, rfl⟩) | (refine Xg.st0 (StF.storeOne (i := 0) rfl rfl rfl rfl (te rfl) rfl rfl (Nat.le_of_ble_eq_true rfl)) rfl ?_; rintro _ _ ⟨rfl, rfl⟩; dsimp only [List.set]) | (refine Xg.st0 (StF.storeOne (i := 1) rfl rfl rfl rfl (te rfl) rfl rfl (Nat.le_of_ble_eq_true rfl)) rfl ?_; rintro _ _ ⟨rfl, rfl⟩; dsimp only [List.set]))) | (refine Xo.g rfl rfl ?_; (first | (with_reducible refine Xw.tf rfl rfl ?_) | (with_reducible refine Xw.caseB (fun h => ?_) (fun h => ?_) <;> simp only [h, decide_true, decide_false, Bool.not_true, Bool.not_false, and_self, and_true, true_and, and_false, false_and]))))) | (refine XO.done rfl ?_; refine hK _ _ ?_; clear hK K) | (refine XQ.op rfl ?_; (first | ((first | refine Yo.ng rfl ?_); (first | (refine Yg.ev (EvF.assign rfl rfl) rfl rfl ?_) | (refine Yg.ev (EvF.loadV rfl rfl (LoadV.own (te rfl) rfl (List.Mem.head _) rfl)) rfl rfl ?_) | (refine Yg.ev (EvF.loadV rfl rfl (LoadV.own (te rfl) rfl (List.Mem.tail _ (List.Mem.head _)) rfl)) rfl rfl ?_))))) | (refine XQ.done rfl ?_; refine hK _ ?_; clear hK K) | refine X.seq rfl ?_ | refine X.region rfl (fun K hK => ?_) | refine X.regionD rfl mixed (by kernel_rfl) (fun K hK => ?_) | refine X.block rfl ?_ | refine X.ret rfl ?_ | (refine X.ite rfl rfl (fun hc => ?_); (first | (with_reducible refine Xb.t hc ?_)) <;> clear hc))
  refine XT.seq rfl (XT.of0 ?_)
  repeat' (first | (refine XO.op rfl ?_; (first | ((first | refine Xo.ng rfl ?_ | (refine Xo.g rfl rfl ?_; with_reducible refine Xw.ff ?_)); (first | (refine Xg.ev (EvF.move rfl rfl) rfl rfl ?_) | (refine Xg.ev (EvF.assign rfl rfl) rfl rfl ?_) | (refine Xg.ev (EvF.pickT rfl rfl rfl) rfl rfl ?_) | (refine Xg.ev (EvF.not rfl rfl) rfl rfl ?_) | (refine Xg.ev (EvF.loadV rfl rfl (LoadV.own (te rfl) rfl (List.Mem.head _) rfl)) rfl rfl ?_) | (refine Xg.ev (EvF.loadV rfl rfl (LoadV.own (te rfl) rfl (List.Mem.tail _ (List.Mem.head _)) rfl)) rfl rfl ?_) | (refine Xg.ev (EvF.loadV rfl rfl (LoadV.own (te rfl) rfl (List.Mem.tail _ (List.Mem.tail _ (List.Mem.head _))) rfl)) rfl rfl ?_) | (refine Xg.st (StF.boxOne rfl rfl rfl) rfl rfl ?_; rintro _ _ ⟨bx, rfl, rfl⟩) | (refine Xg.st (StF.alloc rfl Tryz.zeroValue3 rfl) rfl rfl ?_; rintro _ _ ⟨bx, rfl, rfl⟩) | (refine Xg.st (StF.alloc rfl Tryz.zeroValue4 rfl) rfl rfl ?_; rintro _ _ ⟨bx, rfl, rfl⟩) | (refine Xg.st0 (StF.storeOne (i := 0) rfl rfl rfl rfl (te rfl) rfl rfl (Nat.le_of_ble_eq_true rfl)) rfl ?_; rintro _ _ ⟨rfl, rfl⟩; dsimp only [List.set]) | (refine Xg.st0 (StF.storeOne (i := 1) rfl rfl rfl rfl (te rfl) rfl rfl (Nat.le_of_ble_eq_true rfl)) rfl ?_; rintro _ _ ⟨rfl, rfl⟩; dsimp only [List.set]))) | (refine Xo.g rfl rfl ?_; (first | (with_reducible refine Xw.tf rfl rfl ?_) | (with_reducible refine Xw.caseB (fun h => ?_) (fun h => ?_) <;> simp only [h, decide_true, decide_false, Bool.not_true, Bool.not_false, and_self, and_true, true_and, and_false, false_and]))))) | (refine XO.done rfl ?_; refine hK _ _ ?_; clear hK K) | (refine XQ.op rfl ?_; (first | ((first | refine Yo.ng rfl ?_); (first | (refine Yg.ev (EvF.assign rfl rfl) rfl rfl ?_) | (refine Yg.ev (EvF.loadV rfl rfl (LoadV.own (te rfl) rfl (List.Mem.head _) rfl)) rfl rfl ?_) | (refine Yg.ev (EvF.loadV rfl rfl (LoadV.own (te rfl) rfl (List.Mem.tail _ (List.Mem.head _)) rfl)) rfl rfl ?_))))) | (refine XQ.done rfl ?_; refine hK _ ?_; clear hK K) | refine X.seq rfl ?_ | refine X.region rfl (fun K hK => ?_) | refine X.regionD rfl mixed (by kernel_rfl) (fun K hK => ?_) | refine X.block rfl ?_ | refine X.ret rfl ?_ | (refine X.ite rfl rfl (fun hc => ?_); (first | (with_reducible refine Xb.t hc ?_)) <;> clear hc))
  refine XT.seq rfl (XT.of0 ?_)
  repeat' (first | (refine XO.op rfl ?_; (first | ((first | refine Xo.ng rfl ?_ | (refine Xo.g rfl rfl ?_; with_reducible refine Xw.ff ?_)); (first | (refine Xg.ev (EvF.move rfl rfl) rfl rfl ?_) | (refine Xg.ev (EvF.assign rfl rfl) rfl rfl ?_) | (refine Xg.ev (EvF.pickT rfl rfl rfl) rfl rfl ?_) | (refine Xg.ev (EvF.not rfl rfl) rfl rfl ?_) | (refine Xg.ev (EvF.loadV rfl rfl (LoadV.own (te rfl) rfl (List.Mem.head _) rfl)) rfl rfl ?_) | (refine Xg.ev (EvF.loadV rfl rfl (LoadV.own (te rfl) rfl (List.Mem.tail _ (List.Mem.head _)) rfl)) rfl rfl ?_) | (refine Xg.ev (EvF.loadV rfl rfl (LoadV.own (te rfl) rfl (List.Mem.tail _ (List.Mem.tail _ (List.Mem.head _))) rfl)) rfl rfl ?_) | (refine Xg.st (StF.boxOne rfl rfl rfl) rfl rfl ?_; rintro _ _ ⟨bx, rfl, rfl⟩) | (refine Xg.st (StF.alloc rfl Tryz.zeroValue3 rfl) rfl rfl ?_; rintro _ _ ⟨bx, rfl, rfl⟩) | (refine Xg.st (StF.alloc rfl Tryz.zeroValue4 rfl) rfl rfl ?_; rintro _ _ ⟨bx, rfl, rfl⟩) | (refine Xg.st0 (StF.storeOne (i := 0) rfl rfl rfl rfl (te rfl) rfl rfl (Nat.le_of_ble_eq_true rfl)) rfl ?_; rintro _ _ ⟨rfl, rfl⟩; dsimp only [List.set]) | (refine Xg.st0 (StF.storeOne (i := 1) rfl rfl rfl rfl (te rfl) rfl rfl (Nat.le_of_ble_eq_true rfl)) rfl ?_; rintro _ _ ⟨rfl, rfl⟩; dsimp only [List.set]))) | (refine Xo.g rfl rfl ?_; (first | (with_reducible refine Xw.tf rfl rfl ?_) | (with_reducible refine Xw.caseB (fun h => ?_) (fun h => ?_) <;> simp only [h, decide_true, decide_false, Bool.not_true, Bool.not_false, and_self, and_true, true_and, and_false, false_and]))))) | (refine XO.done rfl ?_; refine hK _ _ ?_; clear hK K) | (refine XQ.op rfl ?_; (first | ((first | refine Yo.ng rfl ?_); (first | (refine Yg.ev (EvF.assign rfl rfl) rfl rfl ?_) | (refine Yg.ev (EvF.loadV rfl rfl (LoadV.own (te rfl) rfl (List.Mem.head _) rfl)) rfl rfl ?_) | (refine Yg.ev (EvF.loadV rfl rfl (LoadV.own (te rfl) rfl (List.Mem.tail _ (List.Mem.head _)) rfl)) rfl rfl ?_))))) | (refine XQ.done rfl ?_; refine hK _ ?_; clear hK K) | refine X.seq rfl ?_ | refine X.region rfl (fun K hK => ?_) | refine X.regionD rfl mixed (by kernel_rfl) (fun K hK => ?_) | refine X.block rfl ?_ | refine X.ret rfl ?_ | (refine X.ite rfl rfl (fun hc => ?_); (first | (with_reducible refine Xb.t hc ?_)) <;> clear hc))
  refine XT.seq rfl (XT.seq rfl (XT.of0 ?_))
  repeat' (first | (refine XO.op rfl ?_; (first | ((first | refine Xo.ng rfl ?_ | (refine Xo.g rfl rfl ?_; with_reducible refine Xw.ff ?_)); (first | (refine Xg.ev (EvF.move rfl rfl) rfl rfl ?_) | (refine Xg.ev (EvF.assign rfl rfl) rfl rfl ?_) | (refine Xg.ev (EvF.pickT rfl rfl rfl) rfl rfl ?_) | (refine Xg.ev (EvF.not rfl rfl) rfl rfl ?_) | (refine Xg.ev (EvF.loadV rfl rfl (LoadV.own (te rfl) rfl (List.Mem.head _) rfl)) rfl rfl ?_) | (refine Xg.ev (EvF.loadV rfl rfl (LoadV.own (te rfl) rfl (List.Mem.tail _ (List.Mem.head _)) rfl)) rfl rfl ?_) | (refine Xg.ev (EvF.loadV rfl rfl (LoadV.own (te rfl) rfl (List.Mem.tail _ (List.Mem.tail _ (List.Mem.head _))) rfl)) rfl rfl ?_) | (refine Xg.st (StF.boxOne rfl rfl rfl) rfl rfl ?_; rintro _ _ ⟨bx, rfl, rfl⟩) | (refine Xg.st (StF.alloc rfl Tryz.zeroValue3 rfl) rfl rfl ?_; rintro _ _ ⟨bx, rfl, rfl⟩) | (refine Xg.st (StF.alloc rfl Tryz.zeroValue4 rfl) rfl rfl ?_; rintro _ _ ⟨bx, rfl, rfl⟩) | (refine Xg.st0 (StF.storeOne (i := 0) rfl rfl rfl rfl (te rfl) rfl rfl (Nat.le_of_ble_eq_true rfl)) rfl ?_; rintro _ _ ⟨rfl, rfl⟩; dsimp only [List.set]) | (refine Xg.st0 (StF.storeOne (i := 1) rfl rfl rfl rfl (te rfl) rfl rfl (Nat.le_of_ble_eq_true rfl)) rfl ?_; rintro _ _ ⟨rfl, rfl⟩; dsimp only [List.set]))) | (refine Xo.g rfl rfl ?_; (first | (with_reducible refine Xw.tf rfl rfl ?_) | (with_reducible refine Xw.caseB (fun h => ?_) (fun h => ?_) <;> simp only [h, decide_true, decide_false, Bool.not_true, Bool.not_false, and_self, and_true, true_and, and_false, false_and]))))) | (refine XO.done rfl ?_; refine hK _ _ ?_; clear hK K) | (refine XQ.op rfl ?_; (first | ((first | refine Yo.ng rfl ?_); (first | (refine Yg.ev (EvF.assign rfl rfl) rfl rfl ?_) | (refine Yg.ev (EvF.loadV rfl rfl (LoadV.own (te rfl) rfl (List.Mem.head _) rfl)) rfl rfl ?_) | (refine Yg.ev (EvF.loadV rfl rfl (LoadV.own (te rfl) rfl (List.Mem.tail _ (List.Mem.head _)) rfl)) rfl rfl ?_))))) | (refine XQ.done rfl ?_; refine hK _ ?_; clear hK K) | refine X.seq rfl ?_ | refine X.region rfl (fun K hK => ?_) | refine X.regionD rfl mixed (by kernel_rfl) (fun K hK => ?_) | refine X.block rfl ?_ | refine X.ret rfl ?_ | (refine X.ite rfl rfl (fun hc => ?_); (first | (with_reducible refine Xb.t hc ?_)) <;> clear hc))
  refine XT.block rfl ?_
  rename_i b3 b6
  obtain ⟨b7, hb7⟩ : ∃ b, b = bx := ⟨_, rfl⟩
  rw [← hb7]
  clear hb7
  refine XT.weak (F' := [(3, .pointer (some ⟨b3, 0, none⟩)), (6, .pointer (some ⟨b6, 0, none⟩)), (7, .pointer (some ⟨b7, 0, none⟩)), (9, .func (.func f) #[] cap.toArray)]) (H' := ⟨b7, 0, [.bool false], some 4, 1⟩ :: ⟨b6, 0, [.int .i64 0], some 3, 1⟩ :: ⟨b3, 0, [.func (.func 101) #[] #[]], some 161, 1⟩ :: E) (by (repeat (first | exact Sub.nil _ | refine Sub.cons rfl ?_)); done) (by (repeat (first | exact List.Sublist.refl _ | apply List.Sublist.cons_cons | apply List.Sublist.cons)); done) ?_
  refine XT.rangeG (ps := [10]) rfl rfl hI rfl (fun _ => rfl) (fun pre Hb => Hb = ⟨b7, 0, [.bool (fndI (pre.map k))], some 4, 1⟩ :: ⟨b6, 0, [.int .i64 (minL (pre.map k))], some 3, 1⟩ :: ⟨b3, 0, [.func (.func 101) #[] #[]], some 161, 1⟩ :: []) (fun _ _ => False) _ rfl rfl ?_ ?_ (fun _ _ h => h.elim) (fun _ _ _ h => h.elim) (fun _ _ h => h.elim)
  · rintro pre x _ hpre rfl Z
    simp only [List.cons_append, List.nil_append]
    repeat' (first | (refine XO.op rfl ?_; (first | ((first | refine Xo.ng rfl ?_ | (refine Xo.g rfl rfl ?_; with_reducible refine Xw.ff ?_)); (first | (refine Xg.ev (EvF.move rfl rfl) rfl rfl ?_) | (refine Xg.ev (EvF.assign rfl rfl) rfl rfl ?_) | (refine Xg.ev (EvF.pickT rfl rfl rfl) rfl rfl ?_) | (refine Xg.ev (EvF.not rfl rfl) rfl rfl ?_) | (refine Xg.ev (EvF.loadV rfl rfl (LoadV.own (te rfl) rfl (List.Mem.head _) rfl)) rfl rfl ?_) | (refine Xg.ev (EvF.loadV rfl rfl (LoadV.own (te rfl) rfl (List.Mem.tail _ (List.Mem.head _)) rfl)) rfl rfl ?_) | (refine Xg.ev (EvF.loadV rfl rfl (LoadV.own (te rfl) rfl (List.Mem.tail _ (List.Mem.tail _ (List.Mem.head _))) rfl)) rfl rfl ?_) | (refine Xg.st (StF.boxOne rfl rfl rfl) rfl rfl ?_; rintro _ _ ⟨bx, rfl, rfl⟩) | (refine Xg.st (StF.alloc rfl Tryz.zeroValue3 rfl) rfl rfl ?_; rintro _ _ ⟨bx, rfl, rfl⟩) | (refine Xg.st (StF.alloc rfl Tryz.zeroValue4 rfl) rfl rfl ?_; rintro _ _ ⟨bx, rfl, rfl⟩) | (refine Xg.st0 (StF.storeOne (i := 0) rfl rfl rfl rfl (te rfl) rfl rfl (Nat.le_of_ble_eq_true rfl)) rfl ?_; rintro _ _ ⟨rfl, rfl⟩; dsimp only [List.set]) | (refine Xg.st0 (StF.storeOne (i := 1) rfl rfl rfl rfl (te rfl) rfl rfl (Nat.le_of_ble_eq_true rfl)) rfl ?_; rintro _ _ ⟨rfl, rfl⟩; dsimp only [List.set]))) | (refine Xo.g rfl rfl ?_; (first | (with_reducible refine Xw.tf rfl rfl ?_) | (with_reducible refine Xw.caseB (fun h => ?_) (fun h => ?_) <;> simp only [h, decide_true, decide_false, Bool.not_true, Bool.not_false, and_self, and_true, true_and, and_false, false_and]))))) | (refine XO.done rfl ?_; refine hK _ _ ?_; clear hK K) | (refine XQ.op rfl ?_; (first | ((first | refine Yo.ng rfl ?_); (first | (refine Yg.ev (EvF.assign rfl rfl) rfl rfl ?_) | (refine Yg.ev (EvF.loadV rfl rfl (LoadV.own (te rfl) rfl (List.Mem.head _) rfl)) rfl rfl ?_) | (refine Yg.ev (EvF.loadV rfl rfl (LoadV.own (te rfl) rfl (List.Mem.tail _ (List.Mem.head _)) rfl)) rfl rfl ?_))))) | (refine XQ.done rfl ?_; refine hK _ ?_; clear hK K) | refine X.seq rfl ?_ | refine X.region rfl (fun K hK => ?_) | refine X.regionD rfl mixed (by kernel_rfl) (fun K hK => ?_) | refine X.block rfl ?_ | refine X.ret rfl ?_ | (refine X.ite rfl rfl (fun hc => ?_); (first | (with_reducible refine Xb.t hc ?_)) <;> clear hc))
    refine ⟨rfl, ⟨b7, 0, [.bool (fndI (pre.map k))], some 4, 1⟩ :: ⟨b6, 0, [.int .i64 (minL (pre.map k))], some 3, 1⟩ :: ⟨b3, 0, [.func (.func 101) #[] #[]], some 161, 1⟩ :: [], List.Sublist.refl _, fun Z' => ?_⟩
    simp only [List.cons_append, List.nil_append, List.map_append, List.map_cons, List.map_nil]
    obtain ⟨pm, hpm⟩ : ∃ q, pre.map k = q := ⟨_, rfl⟩
    rw [hpm, fndI_snoc]
    obtain ⟨o, ho⟩ : ∃ o, fndI pm = o := ⟨_, rfl⟩
    rw [ho]
    cases o
    · obtain rfl := fndI_nil ho
      repeat' (first | (refine XO.op rfl ?_; (first | ((first | refine Xo.ng rfl ?_ | (refine Xo.g rfl rfl ?_; with_reducible refine Xw.ff ?_)); (first | (refine Xg.ev (EvF.move rfl rfl) rfl rfl ?_) | (refine Xg.ev (EvF.assign rfl rfl) rfl rfl ?_) | (refine Xg.ev (EvF.pickT rfl rfl rfl) rfl rfl ?_) | (refine Xg.ev (EvF.not rfl rfl) rfl rfl ?_) | (refine Xg.ev (EvF.loadV rfl rfl (LoadV.own (te rfl) rfl (List.Mem.head _) rfl)) rfl rfl ?_) | (refine Xg.ev (EvF.loadV rfl rfl (LoadV.own (te rfl) rfl (List.Mem.tail _ (List.Mem.head _)) rfl)) rfl rfl ?_) | (refine Xg.ev (EvF.loadV rfl rfl (LoadV.own (te rfl) rfl (List.Mem.tail _ (List.Mem.tail _ (List.Mem.head _))) rfl)) rfl rfl ?_) | (refine Xg.st (StF.boxOne rfl rfl rfl) rfl rfl ?_; rintro _ _ ⟨bx, rfl, rfl⟩) | (refine Xg.st (StF.alloc rfl Tryz.zeroValue3 rfl) rfl rfl ?_; rintro _ _ ⟨bx, rfl, rfl⟩) | (refine Xg.st (StF.alloc rfl Tryz.zeroValue4 rfl) rfl rfl ?_; rintro _ _ ⟨bx, rfl, rfl⟩) | (refine Xg.st0 (StF.storeOne (i := 0) rfl rfl rfl rfl (te rfl) rfl rfl (Nat.le_of_ble_eq_true rfl)) rfl ?_; rintro _ _ ⟨rfl, rfl⟩; dsimp only [List.set]) | (refine Xg.st0 (StF.storeOne (i := 1) rfl rfl rfl rfl (te rfl) rfl rfl (Nat.le_of_ble_eq_true rfl)) rfl ?_; rintro _ _ ⟨rfl, rfl⟩; dsimp only [List.set]))) | (refine Xo.g rfl rfl ?_; (first | (with_reducible refine Xw.tf rfl rfl ?_) | (with_reducible refine Xw.caseB (fun h => ?_) (fun h => ?_) <;> simp only [h, decide_true, decide_false, Bool.not_true, Bool.not_false, and_self, and_true, true_and, and_false, false_and]))))) | (refine XO.done rfl ?_; refine hK _ _ ?_; clear hK K) | (refine XQ.op rfl ?_; (first | ((first | refine Yo.ng rfl ?_); (first | (refine Yg.ev (EvF.assign rfl rfl) rfl rfl ?_) | (refine Yg.ev (EvF.loadV rfl rfl (LoadV.own (te rfl) rfl (List.Mem.head _) rfl)) rfl rfl ?_) | (refine Yg.ev (EvF.loadV rfl rfl (LoadV.own (te rfl) rfl (List.Mem.tail _ (List.Mem.head _)) rfl)) rfl rfl ?_))))) | (refine XQ.done rfl ?_; refine hK _ ?_; clear hK K) | refine X.seq rfl ?_ | refine X.region rfl (fun K hK => ?_) | refine X.regionD rfl mixed (by kernel_rfl) (fun K hK => ?_) | refine X.block rfl ?_ | refine X.ret rfl ?_ | (refine X.ite rfl rfl (fun hc => ?_); (first | (with_reducible refine Xb.t hc ?_)) <;> clear hc))
      all_goals try (exfalso; contradiction)
      exact ⟨⟨b7, 0, [.bool true], some 4, 1⟩ :: ⟨b6, 0, [.int .i64 (k x)], some 3, 1⟩ :: ⟨b3, 0, [.func (.func 101) #[] #[]], some 161, 1⟩ :: [], List.Sublist.refl _, rfl⟩
    · rw [minL_snoc (k x) (fndI_pos ho)]
      obtain ⟨m, hm⟩ : ∃ m, minL pm = m := ⟨_, rfl⟩
      rw [hm]
      have hcmp : ∀ Y : List Row, Fc Tryz.prog 101 ([.int .i64 (k x), .int .i64 m] ++ []) Y (fun v H' => v = .int .i64 (cmpI (k x) m) ∧ H' = Y) := fun Y => compare_spec (k x) m Y
      repeat' (first | (refine XO.op rfl ?_; (first | ((first | refine Xo.ng rfl ?_ | (refine Xo.g rfl rfl ?_; with_reducible refine Xw.ff ?_)); (first | (refine Xg.call (EnF.dyn0 rfl rfl (by (repeat (first | exact Args.nil | refine Args.cons rfl ?_)); done)) rfl rfl (hcmp _) ?_; rintro _ H9 ⟨rfl, hH9⟩; subst H9) | (refine Xg.ev (EvF.move rfl rfl) rfl rfl ?_) | (refine Xg.ev (EvF.pickT rfl rfl rfl) rfl rfl ?_) | (refine Xg.ev (EvF.pickF rfl rfl rfl) rfl rfl ?_) | (refine Xg.ev (EvF.cmp rfl rfl rfl rfl) rfl rfl ?_) | (refine Xg.ev (EvF.not rfl rfl) rfl rfl ?_) | (refine Xg.ev (EvF.loadV rfl rfl (LoadV.own (te rfl) rfl (List.Mem.head _) rfl)) rfl rfl ?_) | (refine Xg.ev (EvF.loadV rfl rfl (LoadV.own (te rfl) rfl (List.Mem.tail _ (List.Mem.head _)) rfl)) rfl rfl ?_) | (refine Xg.ev (EvF.loadV rfl rfl (LoadV.own (te rfl) rfl (List.Mem.tail _ (List.Mem.tail _ (List.Mem.head _))) rfl)) rfl rfl ?_) | (refine Xg.st0 (StF.storeOne (i := 0) rfl rfl rfl rfl (te rfl) rfl rfl (Nat.le_of_ble_eq_true rfl)) rfl ?_; rintro _ _ ⟨rfl, rfl⟩; dsimp only [List.set]) | (refine Xg.st0 (StF.storeOne (i := 1) rfl rfl rfl rfl (te rfl) rfl rfl (Nat.le_of_ble_eq_true rfl)) rfl ?_; rintro _ _ ⟨rfl, rfl⟩; dsimp only [List.set]))) | (refine Xo.g rfl rfl ?_; (first | (with_reducible refine Xw.tf rfl rfl ?_) | (with_reducible refine Xw.caseB (fun h => ?_) (fun h => ?_) <;> simp only [h, decide_true, decide_false, Bool.not_true, Bool.not_false, and_self, and_true, true_and, and_false, false_and]))))) | (refine XO.done rfl ?_; refine hK _ _ ?_; clear hK K) | refine X.seq rfl ?_ | refine X.region rfl (fun K hK => ?_) | refine X.block rfl ?_ | refine X.skip rfl ?_ | (refine X.ite rfl rfl (fun hc => ?_); (first | (with_reducible refine Xb.t hc ?_) | (with_reducible refine Xb.case hc (fun h => ?_) (fun h => ?_))) <;> clear hc))
      all_goals try (exfalso; contradiction)
      · exact ⟨⟨b7, 0, [.bool true], some 4, 1⟩ :: ⟨b6, 0, [.int .i64 (k x)], some 3, 1⟩ :: ⟨b3, 0, [.func (.func 101) #[] #[]], some 161, 1⟩ :: [], List.Sublist.refl _, by rw [show min m (k x) = k x by have := (cmpI_neg (k x) m).1 (by assumption); omega]⟩
      · exact ⟨⟨b7, 0, [.bool true], some 4, 1⟩ :: ⟨b6, 0, [.int .i64 m], some 3, 1⟩ :: ⟨b3, 0, [.func (.func 101) #[] #[]], some 161, 1⟩ :: [], List.Sublist.refl _, by rw [show min m (k x) = m by have := mt (cmpI_neg (k x) m).2 (by assumption); omega]⟩
  · rintro D ys _ hys rfl
    simp only [List.cons_append, List.nil_append]
    refine XT.seq rfl (XT.of1 ?_)
    simp only [List.cons_append, List.nil_append]
    repeat' (first | (refine XO.op rfl ?_; (first | ((first | refine Xo.ng rfl ?_ | (refine Xo.g rfl rfl ?_; with_reducible refine Xw.ff ?_)); (first | (refine Xg.ev (EvF.move rfl rfl) rfl rfl ?_) | (refine Xg.ev (EvF.assign rfl rfl) rfl rfl ?_) | (refine Xg.ev (EvF.pickT rfl rfl rfl) rfl rfl ?_) | (refine Xg.ev (EvF.not rfl rfl) rfl rfl ?_) | (refine Xg.ev (EvF.loadV rfl rfl (LoadV.own (te rfl) rfl (List.Mem.head _) rfl)) rfl rfl ?_) | (refine Xg.ev (EvF.loadV rfl rfl (LoadV.own (te rfl) rfl (List.Mem.tail _ (List.Mem.head _)) rfl)) rfl rfl ?_) | (refine Xg.ev (EvF.loadV rfl rfl (LoadV.own (te rfl) rfl (List.Mem.tail _ (List.Mem.tail _ (List.Mem.head _))) rfl)) rfl rfl ?_) | (refine Xg.st (StF.boxOne rfl rfl rfl) rfl rfl ?_; rintro _ _ ⟨bx, rfl, rfl⟩) | (refine Xg.st (StF.alloc rfl Tryz.zeroValue3 rfl) rfl rfl ?_; rintro _ _ ⟨bx, rfl, rfl⟩) | (refine Xg.st (StF.alloc rfl Tryz.zeroValue4 rfl) rfl rfl ?_; rintro _ _ ⟨bx, rfl, rfl⟩) | (refine Xg.st0 (StF.storeOne (i := 0) rfl rfl rfl rfl (te rfl) rfl rfl (Nat.le_of_ble_eq_true rfl)) rfl ?_; rintro _ _ ⟨rfl, rfl⟩; dsimp only [List.set]) | (refine Xg.st0 (StF.storeOne (i := 1) rfl rfl rfl rfl (te rfl) rfl rfl (Nat.le_of_ble_eq_true rfl)) rfl ?_; rintro _ _ ⟨rfl, rfl⟩; dsimp only [List.set]))) | (refine Xo.g rfl rfl ?_; (first | (with_reducible refine Xw.tf rfl rfl ?_) | (with_reducible refine Xw.caseB (fun h => ?_) (fun h => ?_) <;> simp only [h, decide_true, decide_false, Bool.not_true, Bool.not_false, and_self, and_true, true_and, and_false, false_and]))))) | (refine XO.done rfl ?_; refine hK _ _ ?_; clear hK K) | (refine XQ.op rfl ?_; (first | ((first | refine Yo.ng rfl ?_); (first | (refine Yg.ev (EvF.assign rfl rfl) rfl rfl ?_) | (refine Yg.ev (EvF.loadV rfl rfl (LoadV.own (te rfl) rfl (List.Mem.head _) rfl)) rfl rfl ?_) | (refine Yg.ev (EvF.loadV rfl rfl (LoadV.own (te rfl) rfl (List.Mem.tail _ (List.Mem.head _)) rfl)) rfl rfl ?_))))) | (refine XQ.done rfl ?_; refine hK _ ?_; clear hK K) | refine X.seq rfl ?_ | refine X.region rfl (fun K hK => ?_) | refine X.regionD rfl mixed (by kernel_rfl) (fun K hK => ?_) | refine X.block rfl ?_ | refine X.ret rfl ?_ | (refine X.ite rfl rfl (fun hc => ?_); (first | (with_reducible refine Xb.t hc ?_)) <;> clear hc))
    refine ⟨⟨b7, 0, [.bool (fndI (ys.map k))], some 4, 1⟩ :: ⟨b6, 0, [.int .i64 (minL (ys.map k))], some 3, 1⟩ :: ⟨b3, 0, [.func (.func 101) #[] #[]], some 161, 1⟩ :: E, List.Sublist.refl _, XT.of1 ?_⟩
    repeat' (first | (refine XO.op rfl ?_; (first | ((first | refine Xo.ng rfl ?_ | (refine Xo.g rfl rfl ?_; with_reducible refine Xw.ff ?_)); (first | (refine Xg.ev (EvF.move rfl rfl) rfl rfl ?_) | (refine Xg.ev (EvF.assign rfl rfl) rfl rfl ?_) | (refine Xg.ev (EvF.pickT rfl rfl rfl) rfl rfl ?_) | (refine Xg.ev (EvF.not rfl rfl) rfl rfl ?_) | (refine Xg.ev (EvF.loadV rfl rfl (LoadV.own (te rfl) rfl (List.Mem.head _) rfl)) rfl rfl ?_) | (refine Xg.ev (EvF.loadV rfl rfl (LoadV.own (te rfl) rfl (List.Mem.tail _ (List.Mem.head _)) rfl)) rfl rfl ?_) | (refine Xg.ev (EvF.loadV rfl rfl (LoadV.own (te rfl) rfl (List.Mem.tail _ (List.Mem.tail _ (List.Mem.head _))) rfl)) rfl rfl ?_) | (refine Xg.st (StF.boxOne rfl rfl rfl) rfl rfl ?_; rintro _ _ ⟨bx, rfl, rfl⟩) | (refine Xg.st (StF.alloc rfl Tryz.zeroValue3 rfl) rfl rfl ?_; rintro _ _ ⟨bx, rfl, rfl⟩) | (refine Xg.st (StF.alloc rfl Tryz.zeroValue4 rfl) rfl rfl ?_; rintro _ _ ⟨bx, rfl, rfl⟩) | (refine Xg.st0 (StF.storeOne (i := 0) rfl rfl rfl rfl (te rfl) rfl rfl (Nat.le_of_ble_eq_true rfl)) rfl ?_; rintro _ _ ⟨rfl, rfl⟩; dsimp only [List.set]) | (refine Xg.st0 (StF.storeOne (i := 1) rfl rfl rfl rfl (te rfl) rfl rfl (Nat.le_of_ble_eq_true rfl)) rfl ?_; rintro _ _ ⟨rfl, rfl⟩; dsimp only [List.set]))) | (refine Xo.g rfl rfl ?_; (first | (with_reducible refine Xw.tf rfl rfl ?_) | (with_reducible refine Xw.caseB (fun h => ?_) (fun h => ?_) <;> simp only [h, decide_true, decide_false, Bool.not_true, Bool.not_false, and_self, and_true, true_and, and_false, false_and]))))) | (refine XO.done rfl ?_; refine hK _ _ ?_; clear hK K) | (refine XQ.op rfl ?_; (first | ((first | refine Yo.ng rfl ?_); (first | (refine Yg.ev (EvF.assign rfl rfl) rfl rfl ?_) | (refine Yg.ev (EvF.loadV rfl rfl (LoadV.own (te rfl) rfl (List.Mem.head _) rfl)) rfl rfl ?_) | (refine Yg.ev (EvF.loadV rfl rfl (LoadV.own (te rfl) rfl (List.Mem.tail _ (List.Mem.head _)) rfl)) rfl rfl ?_))))) | (refine XQ.done rfl ?_; refine hK _ ?_; clear hK K) | refine X.seq rfl ?_ | refine X.region rfl (fun K hK => ?_) | refine X.regionD rfl mixed (by kernel_rfl) (fun K hK => ?_) | refine X.block rfl ?_ | refine X.ret rfl ?_ | (refine X.ite rfl rfl (fun hc => ?_); (first | (with_reducible refine Xb.t hc ?_)) <;> clear hc))
    exact ⟨E, (by (repeat (first | exact List.Sublist.refl _ | apply List.Sublist.cons_cons | apply List.Sublist.cons)); done), retT_two (by first | exact .inr rfl | exact .inl rfl) Tryz.results99 rfl rfl (List.Sublist.refl _) ⟨ys, hys, rfl, rfl⟩⟩
end Go.Proofs.YtjejppodhpdckaaGreat
end
section
set_option linter.unusedVariables false
set_option linter.unusedSimpArgs false
namespace Go.Proofs.YtjejppodhpdckaaGreat
open Go Go.Fw
set_option maxRecDepth 10000
/-- what who delivers gets, what the receiver pays, and the value that it has -/
structure Out where
  gets : Int
  pays : Int
  has : Int
def cOut (o : Out) : List Value := [.int .i64 o.gets, .int .i64 o.pays, .int .i64 o.has]
def stl (T : Tm) (s f : Cl) (ask : Bool) : Out :=
  if ask = false then ⟨val T s.g s.s, val T s.g s.s, val T f.g f.s⟩
  else if f.g ≤ s.g then ⟨val T s.g s.s, val T s.g s.s + T.fee, val T f.g f.s⟩
  else if f.g ≤ T.worst ∧ T.short ≤ f.s then ⟨val T f.g f.s - T.fee, val T f.g f.s, val T f.g f.s⟩
  else ⟨-T.fee, 0, 0⟩
theorem val_spec (T : Tm) (p : Pt) (c : Cl) (H : List Row) (hT : TmOk H T p) (hok : tmOk T) (hc : in9 c) :
    Fc Tryz.prog 48 [.agg (cTm T p).toArray, .agg (cCl c).toArray] H (fun v H' => v = .int .i64 (val T c.g c.s) ∧ H' = H) :=
  value_spec T p c H hT hok.gr hok.st (by have := hok.num.1; omega) hc.1 hc.2
set_option maxHeartbeats 4000000 in
theorem settle_spec (T : Tm) (p : Pt) (s f : Cl) (ask : Bool) (H : List Row) (hT : TmOk H T p) (hok : tmOk T) (hs : in9 s) (hf : in9 f) :
    Fc Tryz.prog 60 [.agg (cTm T p).toArray, .agg (cCl s).toArray, .agg (cCl f).toArray, .bool ask] H (fun v H' => v = .agg (cOut (stl T s f ask)).toArray ∧ H' = H) := by
  have hT1 : ∀ Z : List Row, TmOk (Z ++ H) T p := fun Z => hT.sub (fun _ h => List.mem_append_right _ h)
  have b1 := val_bd hok s.g s.s
  have b2 := val_bd hok f.g f.s
  have b3 := hok.num
  cases ask
  all_goals (
    refine Fc.mk (callable Tryz.call60) Tryz.func60 rfl Tryz.ntmps60 rfl ?_; dsimp only [fr]
    repeat' (first | (refine XO.op rfl ?_; (first | ((first | refine Xo.ng rfl ?_); (first | (refine Xg.call (EnF.st rfl (Args.cons rfl (Args.cons rfl Args.nil))) rfl rfl (allows_spec T p f _) ?_; rintro _ H9 ⟨rfl, hH9⟩; subst H9) | (refine Xg.ev (EvF.build (cs := cOut ⟨val T s.g s.s, val T s.g s.s, val T f.g f.s⟩) rfl (ArgsP.cons rfl (ArgsP.cons rfl (ArgsP.cons rfl ArgsP.nil))) (te rfl) (Places.cons (te rfl) (Places.cons (te rfl) (Places.cons (te rfl) Places.nil))) Tryz.zeroValue114 rfl) rfl rfl ?_) | (refine Xg.ev (EvF.build (cs := cOut ⟨val T s.g s.s, val T s.g s.s + T.fee, val T f.g f.s⟩) rfl (ArgsP.cons rfl (ArgsP.cons rfl (ArgsP.cons rfl ArgsP.nil))) (te rfl) (Places.cons (te rfl) (Places.cons (te rfl) (Places.cons (te rfl) Places.nil))) Tryz.zeroValue114 rfl) rfl rfl ?_) | (refine Xg.ev (EvF.build (cs := cOut ⟨val T f.g f.s - T.fee, val T f.g f.s, val T f.g f.s⟩) rfl (ArgsP.cons rfl (ArgsP.cons rfl (ArgsP.cons rfl ArgsP.nil))) (te rfl) (Places.cons (te rfl) (Places.cons (te rfl) (Places.cons (te rfl) Places.nil))) Tryz.zeroValue114 rfl) rfl rfl ?_) | (refine Xg.ev (EvF.build (cs := cOut ⟨-T.fee, 0, 0⟩) rfl (ArgsP.cons rfl (ArgsP.cons rfl (ArgsP.cons rfl ArgsP.nil))) (te rfl) (Places.cons (te rfl) (Places.cons (te rfl) (Places.cons (te rfl) Places.nil))) Tryz.zeroValue114 rfl) rfl rfl ?_) | (refine Xg.ev (EvF.move rfl rfl) rfl rfl ?_) | (refine Xg.ev (EvF.assign rfl rfl) rfl rfl ?_) | (refine Xg.ev (EvF.cmp rfl rfl rfl rfl) rfl rfl ?_) | (refine Xg.ev (EvF.add64 rfl rfl rfl (by omega) (by omega)) rfl rfl ?_) | (refine Xg.ev (EvF.sub64 rfl rfl rfl (by omega) (by omega)) rfl rfl ?_) | (refine Xg.ev (EvF.neg64 rfl rfl (by omega) (by omega)) rfl rfl ?_) | (refine Xg.ev (EvF.not rfl rfl) rfl rfl ?_) | (refine Xg.ev (EvF.fieldAddr rfl rfl (te rfl) rfl (te rfl) (by decide)) rfl rfl ?_) | (refine Xg.ev (EvF.loadV rfl rfl (LoadV.own (te rfl) rfl (List.Mem.tail _ (List.Mem.head _)) rfl)) rfl rfl ?_) | (refine Xg.ev (EvF.loadV rfl rfl (LoadV.own (te rfl) rfl (List.Mem.tail _ (List.Mem.tail _ (List.Mem.head _))) rfl)) rfl rfl ?_) | (refine Xg.ev (EvF.loadV rfl rfl (LoadV.own (te rfl) rfl (List.Mem.tail _ (List.Mem.tail _ (List.Mem.tail _ (List.Mem.head _)))) rfl)) rfl rfl ?_) | (refine Xg.ev (EvF.loadV rfl rfl (LoadV.whole (te rfl) rfl (List.Mem.tail _ (List.Mem.head _)) rfl)) rfl rfl ?_) | (refine Xg.ev (EvF.loadV rfl rfl (LoadV.whole (te rfl) rfl (List.Mem.tail _ (List.Mem.tail _ (List.Mem.tail _ (List.Mem.head _)))) rfl)) rfl rfl ?_) | (refine Xg.st (StF.boxAgg rfl rfl) rfl rfl ?_; rintro _ _ ⟨bx, rfl, rfl⟩) | (refine Xg.st (StF.alloc rfl Tryz.zeroValue114 rfl) rfl rfl ?_; rintro _ _ ⟨bx, rfl, rfl⟩) | (refine Xg.st0 (StF.storeAll (i := 0) rfl rfl rfl (te rfl) rfl rfl rfl rfl) rfl ?_; rintro _ _ ⟨rfl, rfl⟩; dsimp only [List.set]))))) | (refine XO.done rfl ?_; refine hK _ _ ?_; clear hK K) | (refine XQ.op rfl ?_; (first | ((first | refine Yo.ng rfl ?_); (first | (refine Yg.call (EnF.st rfl (Args.cons rfl (Args.cons rfl Args.nil))) rfl rfl (val_spec T p s _ (hT1 [_, _, _, _]) hok hs) ?_) | (refine Yg.call (EnF.st rfl (Args.cons rfl (Args.cons rfl Args.nil))) rfl rfl (val_spec T p f _ (hT1 [_, _, _, _]) hok hf) ?_) | (refine Yg.ev (EvF.assign rfl rfl) rfl rfl ?_) | (refine Yg.ev (EvF.loadV rfl rfl (LoadV.whole (te rfl) rfl (List.Mem.tail _ (List.Mem.head _)) rfl)) rfl rfl ?_) | (refine Yg.ev (EvF.loadV rfl rfl (LoadV.whole (te rfl) rfl (List.Mem.tail _ (List.Mem.tail _ (List.Mem.head _))) rfl)) rfl rfl ?_) | (refine Yg.ev (EvF.loadV rfl rfl (LoadV.whole (te rfl) rfl (List.Mem.tail _ (List.Mem.tail _ (List.Mem.tail _ (List.Mem.head _)))) rfl)) rfl rfl ?_))))) | (refine XQ.done rfl ?_; refine hK _ ?_; clear hK K) | refine X.seq rfl ?_ | refine X.region rfl (fun K hK => ?_) | refine X.regionD rfl mixed (by kernel_rfl) (fun K hK => ?_) | refine X.block rfl ?_ | refine X.skip rfl ?_ | refine X.ret rfl ?_ | (refine X.ite rfl rfl (fun hc => ?_); (first | (with_reducible refine Xb.case hc (fun h => ?_) (fun h => ?_)) | (with_reducible refine Xb.caseB hc (fun h => ?_) (fun h => ?_))) <;> clear hc)))
  all_goals try (exfalso; contradiction)
  all_goals exact ret_one (by first | exact .inr rfl | exact .inl rfl) Tryz.results60 ⟨_, rfl, LoadV.whole (te rfl) rfl (List.Mem.head _) rfl⟩ (H' := H) (by (repeat (first | exact List.Sublist.refl _ | apply List.Sublist.cons)); done) ⟨by unfold stl; first | rw [if_pos rfl] | rw [if_neg (by decide), if_pos (by assumption)] | rw [if_neg (by decide), if_neg (by assumption), if_pos (by assumption)] | rw [if_neg (by decide), if_neg (by assumption), if_neg (by assumption)], rfl⟩
theorem got_spec (o : Out) (H : List Row) : Fc Tryz.prog 130 [.agg (cOut o).toArray] H (fun v H' => v = .int .i64 o.gets ∧ H' = H) := by
  refine Fc.mk (callable Tryz.call130) Tryz.func130 rfl Tryz.ntmps130 rfl ?_; dsimp only [fr]
  repeat' (first | (refine XO.op rfl ?_; (first | ((first | refine Xo.ng rfl ?_); (first | (refine Xg.ev (EvF.assign rfl rfl) rfl rfl ?_) | (refine Xg.ev (EvF.sub64 rfl rfl rfl (by omega) (by omega)) rfl rfl ?_) | (refine Xg.ev (EvF.fieldAddr rfl rfl (te rfl) rfl (te rfl) (by decide)) rfl rfl ?_) | (refine Xg.ev (EvF.loadV rfl rfl (LoadV.own (te rfl) rfl (List.Mem.head _) rfl)) rfl rfl ?_) | (refine Xg.st (StF.boxAgg rfl rfl) rfl rfl ?_; rintro _ _ ⟨bx, rfl, rfl⟩))))) | (refine XO.done rfl ?_; refine hK _ _ ?_; clear hK K) | refine X.seq rfl ?_ | refine X.region rfl (fun K hK => ?_) | refine X.ret rfl ?_)
  refine ret_one (by first | exact .inr rfl | exact .inl rfl) Tryz.results130 rfl (H' := H) (by (repeat (first | exact List.Sublist.refl _ | apply List.Sublist.cons)); done) ?_; simp only [and_true, true_and]
theorem lost_spec (o : Out) (H : List Row) (h : -10000000 ≤ o.pays ∧ o.pays ≤ 10000000) (h' : -10000000 ≤ o.has ∧ o.has ≤ 10000000) : Fc Tryz.prog 129 [.agg (cOut o).toArray] H (fun v H' => v = .int .i64 (o.pays - o.has) ∧ H' = H) := by
  refine Fc.mk (callable Tryz.call129) Tryz.func129 rfl Tryz.ntmps129 rfl ?_; dsimp only [fr]
  repeat' (first | (refine XO.op rfl ?_; (first | ((first | refine Xo.ng rfl ?_); (first | (refine Xg.ev (EvF.assign rfl rfl) rfl rfl ?_) | (refine Xg.ev (EvF.sub64 rfl rfl rfl (by omega) (by omega)) rfl rfl ?_) | (refine Xg.ev (EvF.fieldAddr rfl rfl (te rfl) rfl (te rfl) (by decide)) rfl rfl ?_) | (refine Xg.ev (EvF.loadV rfl rfl (LoadV.own (te rfl) rfl (List.Mem.head _) rfl)) rfl rfl ?_) | (refine Xg.st (StF.boxAgg rfl rfl) rfl rfl ?_; rintro _ _ ⟨bx, rfl, rfl⟩))))) | (refine XO.done rfl ?_; refine hK _ _ ?_; clear hK K) | refine X.seq rfl ?_ | refine X.region rfl (fun K hK => ?_) | refine X.ret rfl ?_)
  refine ret_one (by first | exact .inr rfl | exact .inl rfl) Tryz.results129 rfl (H' := H) (by (repeat (first | exact List.Sublist.refl _ | apply List.Sublist.cons)); done) ?_; simp only [and_true, true_and]
end Go.Proofs.YtjejppodhpdckaaGreat
end
section
set_option linter.unusedVariables false
set_option linter.unusedSimpArgs false
namespace Go.Proofs.YtjejppodhpdckaaGreat
open Go Go.Fw
set_option maxRecDepth 10000
/-- what the receiver loses -/
def los (T : Tm) (sd s : Int) (ask : Bool) (g : Int) : Int := (stl T ⟨sd, s⟩ ⟨g, s⟩ ask).pays - (stl T ⟨sd, s⟩ ⟨g, s⟩ ask).has
theorem stl_bd {T : Tm} (hok : tmOk T) (s f : Cl) (ask : Bool) : (-3000 ≤ (stl T s f ask).gets ∧ (stl T s f ask).gets ≤ 1003000) ∧ (-3000 ≤ (stl T s f ask).pays ∧ (stl T s f ask).pays ≤ 1003000) ∧ (-3000 ≤ (stl T s f ask).has ∧ (stl T s f ask).has ≤ 1003000) := by
  have b1 := val_bd hok s.g s.s
  have b2 := val_bd hok f.g f.s
  have b3 := hok.num
  unfold stl
  by_cases h1 : ask = false
  · rw [if_pos h1]; dsimp only; omega
  · rw [if_neg h1]
    by_cases h2 : f.g ≤ s.g
    · rw [if_pos h2]; dsimp only; omega
    · rw [if_neg h2]
      by_cases h3 : f.g ≤ T.worst ∧ T.short ≤ f.s
      · rw [if_pos h3]; dsimp only; omega
      · rw [if_neg h3]; dsimp only; omega
noncomputable def payE (T : Tm) (sd g s : Int) : Int := if tmOk T then (if (1 ≤ sd ∧ sd ≤ 9) ∧ (1 ≤ g ∧ g ≤ 9) then (if 1 ≤ s ∧ s ≤ 9 then (if may T ⟨sd, s⟩ = true then 0 else 6) else 42) else 41) else 40
noncomputable def payG (T : Tm) (sd g s : Int) (ask : Bool) : Int := if payE T sd g s = 0 then (stl T ⟨sd, s⟩ ⟨g, s⟩ ask).gets else 0
noncomputable def payP (T : Tm) (sd g s : Int) (ask : Bool) : Int := if payE T sd g s = 0 then (stl T ⟨sd, s⟩ ⟨g, s⟩ ask).pays else 0
/-- what the receiver loses at most -/
def lsL (T : Tm) (sd s : Int) (gs : Sp) (ask : Bool) : Int := maxL ((ir gs.lo gs.hi).map (los T sd s ask))
end Go.Proofs.YtjejppodhpdckaaGreat
end
section
set_option linter.unusedVariables false
set_option linter.unusedSimpArgs false
namespace Go.Proofs.YtjejppodhpdckaaGreat
open Go Go.Fw
set_option maxRecDepth 10000
/-- whether the receiver should ask, and what it loses then -/
def shA (T : Tm) (sd s : Int) (gs : Sp) : Bool := decide (lsL T sd s gs true < lsL T sd s gs false)
def shN (T : Tm) (sd s : Int) (gs : Sp) : Int := if lsL T sd s gs true < lsL T sd s gs false then lsL T sd s gs true else lsL T sd s gs false
noncomputable def askE (T : Tm) (sd s : Int) (gs : Sp) : Int := if tmOk T then (if (1 ≤ sd ∧ sd ≤ 9) ∧ partOk gs.lo gs.hi then (if 1 ≤ s ∧ s ≤ 9 then (if may T ⟨sd, s⟩ = true then 0 else 6) else 42) else 41) else 40
noncomputable def askA (T : Tm) (sd s : Int) (gs : Sp) : Bool := if askE T sd s gs = 0 then shA T sd s gs else false
noncomputable def askL (T : Tm) (sd s : Int) (gs : Sp) : Int := if askE T sd s gs = 0 then shN T sd s gs else 0
end Go.Proofs.YtjejppodhpdckaaGreat
end
section
set_option linter.unusedVariables false
set_option linter.unusedSimpArgs false
namespace Go.Proofs.YtjejppodhpdckaaGreat
open Go Go.Fw
set_option maxRecDepth 10000
def abP (sd g s : Int) : Ab := ⟨[], [lo1 ⟨sd, s⟩, lo1 ⟨g, s⟩], [], [lo1 ⟨sd, s⟩]⟩
theorem openPay (T : Tm) (sd g s : Int) : openE T (abP sd g s) = payE T sd g s := by
  unfold openE payE
  have h1 : askD (abP sd g s) := fun d hd => absurd hd List.not_mem_nil
  have h2 : askG (abP sd g s) ↔ (1 ≤ sd ∧ sd ≤ 9) ∧ (1 ≤ g ∧ g ≤ 9) := by simp [askG, abP, lo1, partOk]
  have h3 : askS (abP sd g s) ↔ 1 ≤ s ∧ s ≤ 9 := by simp [askS, abP, lo1, partOk]
  have h4 : askM (abP sd g s) := fun d hd => absurd hd List.not_mem_nil
  have h5 : askN T (abP sd g s) ↔ may T ⟨sd, s⟩ = true := by
    simp only [askN, abP, List.mem_cons, List.not_mem_nil, or_false, forall_eq, cls_lo1]
    split <;> simp_all
  simp only [h1, h2, h3, h4, h5, if_true]
theorem payE_zero {T : Tm} {sd g s : Int} (h : payE T sd g s = 0) : tmOk T ∧ in9 ⟨sd, s⟩ ∧ in9 ⟨g, s⟩ := by
  unfold payE at h
  by_cases h1 : tmOk T
  · by_cases h2 : (1 ≤ sd ∧ sd ≤ 9) ∧ (1 ≤ g ∧ g ≤ 9)
    · by_cases h3 : 1 ≤ s ∧ s ≤ 9
      · exact ⟨h1, ⟨h2.1, h3⟩, ⟨h2.2, h3⟩⟩
      · simp [h1, h2, h3] at h
    · simp [h1, h2] at h
  · simp [h1] at h
/-- what open gives -/
def tsPy : List TOp := [⟨some 24, [], [], []⟩, ⟨some 25, [], [], []⟩, ⟨some 26, [1], [1], []⟩, ⟨some 27, [], [], []⟩, ⟨some 28, [1, 2, 3], [3], []⟩, ⟨some 29, [1, 2, 3, 4], [2, 4], []⟩, ⟨some 30, [], [], []⟩, ⟨some 31, [1, 2, 3, 4, 6], [6], []⟩, ⟨some 32, [1, 2, 3, 4, 6, 7], [7], []⟩, ⟨some 33, [1, 2, 3, 4, 5, 6, 7, 8], [5, 8], []⟩, ⟨some 34, [0, 1, 2, 3, 4, 5, 6, 7, 8, 9], [0, 9], [5, 8]⟩, ⟨some 23, [0, 1, 2, 3, 4, 5, 6, 7, 8, 9, 10], [10], []⟩, ⟨some 35, [0, 1, 2, 3, 4, 5, 6, 7, 8, 9, 10, 11], [11], []⟩, ⟨some 36, [0, 1, 2, 3, 4, 5, 6, 7, 8, 9, 10, 11], [11], []⟩, ⟨some 15, [], [], []⟩, ⟨none, [0, 1, 2, 3, 4, 5, 6, 7, 8, 9, 10, 11, 12, 14], [14, 12], [14]⟩, ⟨some 12, [0, 1, 2, 3, 4, 5, 6, 7, 8, 9, 10, 11, 12, 13, 14, 15], [13], []⟩]
def valPy (b5 b13 b14 : Nat) (T TX : Tm) (p q : Pt) (sd g s e : Int) (ask : Bool) (k : Nat) (env : Env) : Value :=
  match k with
  | 0 => .agg (cTm T p).toArray
  | 1 => .agg (cCl ⟨sd, s⟩).toArray
  | 2 => .agg (cLo (lo1 ⟨sd, s⟩)).toArray
  | 3 => .agg (cCl ⟨g, s⟩).toArray
  | 4 => .agg (cLo (lo1 ⟨g, s⟩)).toArray
  | 5 => .slice (some ⟨(env 5).1, 0, none⟩) 2 2
  | 6 => .agg (cCl ⟨sd, s⟩).toArray
  | 7 => .agg (cLo (lo1 ⟨sd, s⟩)).toArray
  | 8 => .slice (some ⟨(env 8).1, 0, none⟩) 1 1
  | 9 => .agg (cAb (abP sd g s) ⟨none, 0, some ⟨(env 5).1, 0, none⟩, 2, none, 0, some ⟨(env 8).1, 0, none⟩, 1⟩).toArray
  | 10 => .tuple #[.agg (cTm TX q).toArray, .int .i64 e]
  | 11 => .tuple #[.agg (cTm TX q).toArray, .int .i64 e]
  | 12 => .agg (cTm TX q).toArray
  | 13 => .int .i64 e
  | 14 => .pointer (some ⟨(env 14).1, 0, none⟩)
  | 15 => undef
  | 16 => .int .i64 e
  | _ => undef
def rowsPy (b5 b13 b14 : Nat) (T TX : Tm) (p q : Pt) (sd g s e : Int) (ask : Bool) (k : Nat) (env : Env) : List Row :=
  match k with
  | 5 => [⟨(env 5).1, 0, (cLo (lo1 ⟨sd, s⟩) ++ cLo (lo1 ⟨g, s⟩)), some 92, 2 * 4⟩]
  | 8 => [⟨(env 8).1, 0, cLo (lo1 ⟨sd, s⟩), some 92, 1 * 4⟩]
  | 14 => [⟨(env 14).1, 0, cTm Tz pz, some 99, 11⟩]
  | 15 => [⟨(env 14).1, 0, cTm TX q, some 99, 11⟩]
  | _ => []
theorem locPy (b5 b13 b14 : Nat) (T TX : Tm) (p q : Pt) (sd g s e : Int) (ask : Bool) : ∀ k env i q9, i ≠ k → (tAt tsPy k).sup.contains i = false → valPy b5 b13 b14 T TX p q sd g s e ask k (upd env i q9) = valPy b5 b13 b14 T TX p q sd g s e ask k env ∧ rowsPy b5 b13 b14 T TX p q sd g s e ask k (upd env i q9) = rowsPy b5 b13 b14 T TX p q sd g s e ask k env := by
  intro k env i q hk hs
  have hu : ∀ j, j ≠ i → upd env i q j = env j := fun j hj => by unfold upd; rw [if_neg hj]
  match k, hk, hs with
  | 0, _, _ => exact ⟨rfl, rfl⟩
  | 1, _, _ => exact ⟨rfl, rfl⟩
  | 2, _, _ => exact ⟨rfl, rfl⟩
  | 3, _, _ => exact ⟨rfl, rfl⟩
  | 4, _, _ => exact ⟨rfl, rfl⟩
  | 5, hk, hs => exact ⟨by simp only [valPy, hu 5 (fun e => hk e.symm)], by simp only [rowsPy, hu 5 (fun e => hk e.symm)]⟩
  | 6, _, _ => exact ⟨rfl, rfl⟩
  | 7, _, _ => exact ⟨rfl, rfl⟩
  | 8, hk, hs => exact ⟨by simp only [valPy, hu 8 (fun e => hk e.symm)], by simp only [rowsPy, hu 8 (fun e => hk e.symm)]⟩
  | 9, hk, hs => exact ⟨by simp only [valPy, hu 5 (by rintro rfl; cases hs), hu 8 (by rintro rfl; cases hs)], by simp only [rowsPy, hu 5 (by rintro rfl; cases hs), hu 8 (by rintro rfl; cases hs)]⟩
  | 10, _, _ => exact ⟨rfl, rfl⟩
  | 11, _, _ => exact ⟨rfl, rfl⟩
  | 12, _, _ => exact ⟨rfl, rfl⟩
  | 13, _, _ => exact ⟨rfl, rfl⟩
  | 14, hk, hs => exact ⟨by simp only [valPy, hu 14 (fun e => hk e.symm)], by simp only [rowsPy, hu 14 (fun e => hk e.symm)]⟩
  | 15, hk, hs => exact ⟨by simp only [valPy, hu 14 (by rintro rfl; cases hs)], by simp only [rowsPy, hu 14 (by rintro rfl; cases hs)]⟩
  | 16, _, _ => exact ⟨rfl, rfl⟩
  | _ + 17, _, _ => exact ⟨rfl, rfl⟩
set_option maxHeartbeats 16000000 in
theorem kPays_spec (T : Tm) (p : Pt) (sd g s : Int) (ask : Bool) (H : List Row) (hT : TmOk H T p) :
    Fc Tryz.prog 20 [.agg (cTm T p).toArray, .int .i64 sd, .int .i64 g, .int .i64 s, .bool ask] H (fun v H' => v = .tuple #[.int .i64 (payG T sd g s ask), .int .i64 (payP T sd g s ask), .int .i64 (payE T sd g s)] ∧ H' = H) := by
  have hT1 : ∀ Z : List Row, TmOk (Z ++ H) T p := fun Z => hT.sub (fun _ h => List.mem_append_right _ h)
  obtain ⟨TX, q, hTX, hop⟩ := open_fn T p (abP sd g s) (fun d hd => absurd hd List.not_mem_nil) HI1
  rw [openPay] at hTX hop
  have hz := @payE_zero T sd g s
  unfold payG payP
  obtain ⟨e, he⟩ : ∃ e, payE T sd g s = e := ⟨_, rfl⟩
  rw [he] at hTX hop hz ⊢
  refine Fc.mk (callable Tryz.call20) Tryz.func20 rfl Tryz.ntmps20 rfl ?_; dsimp only [fr]
  repeat' (first | (refine XO.op rfl ?_; (first | ((first | refine Xo.ng rfl ?_); (first | (refine Xg.call (EnF.st rfl (Args.cons rfl (Args.cons rfl Args.nil))) rfl rfl (class_spec _ _ _) ?_; rintro _ H9 ⟨rfl, hH9⟩; subst H9) | (refine Xg.ev (EvF.move rfl rfl) rfl rfl ?_) | (refine Xg.ev (EvF.assign rfl rfl) rfl rfl ?_) | (refine Xg.st (StF.boxAgg rfl rfl) rfl rfl ?_; rintro _ _ ⟨bx, rfl, rfl⟩) | (refine Xg.st (StF.alloc rfl Tryz.zeroValue30 rfl) rfl rfl ?_; rintro _ _ ⟨bx, rfl, rfl⟩) | (refine Xg.st0 (StF.storeAll (i := 0) rfl rfl rfl (te rfl) rfl rfl rfl rfl) rfl ?_; rintro _ _ ⟨rfl, rfl⟩; dsimp only [List.set]) | (refine Xg.st0 (StF.storeAll (i := 1) rfl rfl rfl (te rfl) rfl rfl rfl rfl) rfl ?_; rintro _ _ ⟨rfl, rfl⟩; dsimp only [List.set]))))) | (refine XO.done rfl ?_; refine hK _ _ ?_; clear hK K) | refine X.seq rfl ?_ | refine X.region rfl (fun K hK => ?_))
  rename_i b5 b13
  obtain ⟨b14, hb14⟩ : ∃ b, b = bx := ⟨_, rfl⟩
  rw [← hb14]
  clear hb14
  refine X.weakR (H' := ⟨b14, 0, cCl ⟨g, s⟩, some 27, 2⟩ :: ⟨b13, 0, cCl ⟨sd, s⟩, some 27, 2⟩ :: ⟨b5, 0, cTm T p, some 32, 11⟩ :: H) (by (repeat (first | exact List.Sublist.refl _ | apply List.Sublist.cons_cons | apply List.Sublist.cons)); done) ?_
  refine X.regionOb tsPy [4, 5, 13, 14] [(4, .bool ask), (5, .pointer (some ⟨b5, 0, none⟩)), (13, .pointer (some ⟨b13, 0, none⟩)), (14, .pointer (some ⟨b14, 0, none⟩))] (valPy b5 b13 b14 T TX p q sd g s e ask) (rowsPy b5 b13 b14 T TX p q sd g s e ask) (fun _ => (0, 0)) (⟨b14, 0, cCl ⟨g, s⟩, some 27, 2⟩ :: ⟨b13, 0, cCl ⟨sd, s⟩, some 27, 2⟩ :: ⟨b5, 0, cTm T p, some 32, 11⟩ :: H) rfl mixed (by (repeat (first | exact Sub.nil _ | refine Sub.cons rfl ?_)); done) rfl (by kernel_rfl) (locPy b5 b13 b14 T TX p q sd g s e ask) (List.Sublist.refl _) ?_ ?_
  · have hs : ∀ (Y Z : List Row), (∀ r ∈ ⟨b14, 0, cCl ⟨g, s⟩, some 27, 2⟩ :: ⟨b13, 0, cCl ⟨sd, s⟩, some 27, 2⟩ :: ⟨b5, 0, cTm T p, some 32, 11⟩ :: H, r ∈ Y) → TmOk (Z ++ Y) T p := fun Y Z hS => hT.sub (fun r hr => List.mem_append_right _ (hS r (List.mem_append_right [_, _, _] hr)))
    repeat' (first | exact AllF.done rfl | (refine AllF.step rfl ?_ ?_; · (first | fail | ((first | refine Ob.ng rfl ?_); (first | exact ObK.pure (fun env R hR => by exact ⟨_, EvF.move rfl rfl, rfl⟩) rfl (fun _ => rfl) | exact ObK.pure (fun env R hR => by exact ⟨_, EvF.assign rfl rfl, rfl⟩) rfl (fun _ => rfl) | exact ObK.pure (fun env R hR => by exact ⟨_, EvF.loadV rfl rfl (LoadV.whole (te rfl) rfl (hR _ (List.Mem.head _)) rfl), rfl⟩) rfl (fun _ => rfl) | exact ObK.pure (fun env R hR => by exact ⟨_, EvF.loadV rfl rfl (LoadV.whole (te rfl) rfl (hR _ (List.Mem.tail _ (List.Mem.head _))) rfl), rfl⟩) rfl (fun _ => rfl) | exact ObK.pure (fun env R hR => by exact ⟨_, EvF.loadV rfl rfl (LoadV.whole (te rfl) rfl (hR _ (List.Mem.tail _ (List.Mem.tail _ (List.Mem.head _)))) rfl), rfl⟩) rfl (fun _ => rfl) | (exact fun env S hS => OpF.callV (Z := []) (EnF.st rfl (Args.cons rfl Args.nil)) (only_spec ⟨sd, s⟩ _) rfl rfl) | (exact fun env S hS => OpF.callV (Z := []) (EnF.st rfl (Args.cons rfl Args.nil)) (only_spec ⟨g, s⟩ _) rfl rfl) | (exact fun env S hS => (StF.buildTwo rfl elLo rfl rfl rfl rfl rfl rfl (by decide) (by decide)).op.mono (fun v H' ⟨b, hv, hH⟩ => ⟨(b, 0), fun _ => hv, by rw [hH]; exact List.Perm.refl _⟩)) | (exact fun env S hS => (StF.buildOne rfl elLo rfl rfl rfl (by decide) (by decide)).op.mono (fun v H' ⟨b, hv, hH⟩ => ⟨(b, 0), fun _ => hv, by rw [hH]; exact List.Perm.refl _⟩)) | (exact ObK.pure (fun env S hS => ⟨_, EvF.build (cs := cAb (abP sd g s) ⟨none, 0, some ⟨(env 5).1, 0, none⟩, 2, none, 0, some ⟨(env 8).1, 0, none⟩, 1⟩) rfl (ArgsP.cons rfl (ArgsP.cons rfl ArgsP.nil)) (te rfl) (Places.cons (te rfl) (Places.cons (te rfl) (Places.cons (te rfl) (Places.cons (te rfl) Places.nil)))) Tryz.zeroValue97 rfl, rfl⟩) rfl (fun _ => rfl)) | (exact fun env S hS => OpF.callV (Z := [_, _]) (EnF.st rfl (Args.cons rfl (Args.cons rfl Args.nil))) (hop ⟨none, 0, some ⟨(env 5).1, 0, none⟩, 2, none, 0, some ⟨(env 8).1, 0, none⟩, 1⟩ _ (hs S [_, _] hS) ⟨sleNil, SlE.ofRow (List.Mem.head _) (fun _ _ => rfl), sleNil, SlE.ofRow (List.Mem.tail _ (List.Mem.head _)) (fun _ _ => rfl), (fun d hd => absurd hd List.not_mem_nil), Nat.zero_le _, Nat.le_of_ble_eq_true rfl, Nat.zero_le _, Nat.le_of_ble_eq_true rfl⟩) rfl rfl) | (exact ObK.pure (fun env S hS => ⟨_, EvF.extract rfl rfl rfl, rfl⟩) rfl (fun _ => rfl)) | (exact fun env S hS => (StF.alloc rfl Tryz.zeroValue99 rfl).op.mono (fun v H' ⟨b, hv, hH⟩ => ⟨(b, 0), fun _ => hv, by rw [hH]; exact List.Perm.refl _⟩)) | (exact fun env S hS => (StF.storeAll (i := 0) (vs := cTm TX q) (cs := cTm Tz pz) rfl rfl rfl (te rfl) rfl rfl rfl rfl).op.mono (fun v H' ⟨hv, hH⟩ => ⟨(0, 0), fun h => absurd rfl h, by rw [hH]; exact List.Perm.refl _⟩)))))))
  intro env t ha hv
  refine ⟨_, (ha.cons (hv 14 15 (Nat.le_of_ble_eq_true rfl) rfl)).cons (hv 16 12 (Nat.le_of_ble_eq_true rfl) rfl), ?_⟩
  clear hv ha
  show X _ _ _ ((12, .int .i64 e) :: (15, .pointer (some ⟨(env 14).1, 0, none⟩)) :: _) (⟨(env 14).1, 0, cTm TX q, some 99, 11⟩ :: ⟨b14, 0, cCl ⟨g, s⟩, some 27, 2⟩ :: ⟨b13, 0, cCl ⟨sd, s⟩, some 27, 2⟩ :: ⟨b5, 0, cTm T p, some 32, 11⟩ :: H) _
  by_cases h0 : e = 0
  · obtain ⟨rfl, rfl⟩ := hTX h0
    obtain ⟨hok, h1, h2⟩ := hz h0
    subst h0
    rw [if_pos rfl, if_pos rfl]
    repeat' (first | (refine XO.op rfl ?_; (first | ((first | refine Xo.ng rfl ?_); (first | (refine Xg.call (EnF.st rfl (by (repeat (first | exact Args.nil | refine Args.cons rfl ?_)); done)) rfl rfl (settle_spec TX q ⟨sd, s⟩ ⟨g, s⟩ ask _ (hT1 [_, _, _, _]) hok h1 h2) ?_; rintro _ H9 ⟨rfl, hH9⟩; subst H9) | (refine Xg.ev (EvF.move rfl rfl) rfl rfl ?_) | (refine Xg.ev (EvF.assign rfl rfl) rfl rfl ?_) | (refine Xg.ev (EvF.cmp rfl rfl rfl rfl) rfl rfl ?_) | (refine Xg.ev (EvF.loadV rfl rfl (LoadV.whole (te rfl) rfl (List.Mem.head _) rfl)) rfl rfl ?_) | (refine Xg.ev (EvF.loadV rfl rfl (LoadV.whole (te rfl) rfl (List.Mem.tail _ (List.Mem.head _)) rfl)) rfl rfl ?_) | (refine Xg.ev (EvF.loadV rfl rfl (LoadV.whole (te rfl) rfl (List.Mem.tail _ (List.Mem.tail _ (List.Mem.head _))) rfl)) rfl rfl ?_) | (refine Xg.st (StF.alloc rfl Tryz.zeroValue114 rfl) rfl rfl ?_; rintro _ _ ⟨bx, rfl, rfl⟩) | (refine Xg.st0 (StF.storeAll (i := 0) rfl rfl rfl (te rfl) rfl rfl rfl rfl) rfl ?_; rintro _ _ ⟨rfl, rfl⟩; dsimp only [List.set]))))) | (refine XO.done rfl ?_; refine hK _ _ ?_; clear hK K) | (refine XQ.op rfl ?_; (first | ((first | refine Yo.ng rfl ?_); (first | (refine Yg.ev (EvF.assign rfl rfl) rfl rfl ?_) | (refine Yg.ev (EvF.fieldAddr rfl rfl (te rfl) rfl (te rfl) (by decide)) rfl rfl ?_) | (refine Yg.ev (EvF.loadV rfl rfl (LoadV.own (te rfl) rfl (List.Mem.head _) rfl)) rfl rfl ?_))))) | (refine XQ.done rfl ?_; refine hK _ ?_; clear hK K) | refine X.seq rfl ?_ | refine X.region rfl (fun K hK => ?_) | refine X.regionD rfl mixed (by kernel_rfl) (fun K hK => ?_) | refine X.skip rfl ?_ | refine X.ret rfl ?_ | (refine X.ite rfl rfl (fun hc => ?_); (first | (with_reducible refine Xb.caseN hc (fun h => ?_) (fun h => ?_))) <;> clear hc))
    all_goals try (exfalso; contradiction)
    exact ret_three (by first | exact .inr rfl | exact .inl rfl) Tryz.results20 rfl rfl rfl (H' := H) (by (repeat (first | exact List.Sublist.refl _ | apply List.Sublist.cons)); done) ⟨rfl, rfl⟩
  · rw [if_neg h0, if_neg h0]
    repeat' (first | (refine XO.op rfl ?_; (first | ((first | refine Xo.ng rfl ?_); (first | (refine Xg.ev (EvF.move rfl rfl) rfl rfl ?_) | (refine Xg.ev (EvF.assign rfl rfl) rfl rfl ?_) | (refine Xg.ev (EvF.cmp rfl rfl rfl rfl) rfl rfl ?_) | (refine Xg.ev (EvF.loadV rfl rfl (LoadV.whole (te rfl) rfl (List.Mem.head _) rfl)) rfl rfl ?_) | (refine Xg.ev (EvF.loadV rfl rfl (LoadV.whole (te rfl) rfl (List.Mem.tail _ (List.Mem.head _)) rfl)) rfl rfl ?_) | (refine Xg.ev (EvF.loadV rfl rfl (LoadV.whole (te rfl) rfl (List.Mem.tail _ (List.Mem.tail _ (List.Mem.head _))) rfl)) rfl rfl ?_))))) | (refine XO.done rfl ?_; refine hK _ _ ?_; clear hK K) | refine X.seq rfl ?_ | refine X.region rfl (fun K hK => ?_) | refine X.skip rfl ?_ | refine X.ret rfl ?_ | (refine X.ite rfl rfl (fun hc => ?_); (first | (with_reducible refine Xb.caseN hc (fun h => ?_) (fun h => ?_))) <;> clear hc))
    all_goals try (exfalso; contradiction)
    exact ret_three (by first | exact .inr rfl | exact .inl rfl) Tryz.results20 rfl rfl rfl (H' := H) (by (repeat (first | exact List.Sublist.refl _ | apply List.Sublist.cons)); done) ⟨rfl, rfl⟩
end Go.Proofs.YtjejppodhpdckaaGreat
end
section
set_option linter.unusedVariables false
set_option linter.unusedSimpArgs false
namespace Go.Proofs.YtjejppodhpdckaaGreat
open Go Go.Fw
set_option maxRecDepth 10000
set_option maxHeartbeats 4000000 in
theorem numbersOut_spec (g : Nat) (first cap : List Value) (f : Out → Int) (l : List Out) (a : Option Addr) (c : Nat) (H : List Row) (hl : SlE H a cOut 3 l) (hb : l.length ≤ 1000000) (h0 : 0 < l.length) (hg : ∀ e ∈ l, ∀ Z : List Row, Fc Tryz.prog g (first ++ [.agg (cOut e).toArray] ++ cap) (Z ++ H) (fun v H' => v = .int .i64 (f e) ∧ H' = Z ++ H)) :
    Fc Tryz.prog 127 [.slice a l.length c, .func (.func g) first.toArray cap.toArray] H (fun v H' => ∃ b k, v = .slice (some ⟨b, 0, none⟩) l.length k ∧ H' = ⟨b, 0, (l.map f).flatMap cI, some 3, k * 1⟩ :: H) := by
  refine Fc.mk (callable Tryz.call127) Tryz.func127 rfl Tryz.ntmps127 rfl ?_; dsimp only [fr]
  repeat' (first | (refine XO.op rfl ?_; (first | ((first | refine Xo.ng rfl ?_); (first | (refine Xg.ev (EvF.move rfl rfl) rfl rfl ?_) | (refine Xg.ev (EvF.assign rfl rfl) rfl rfl ?_) | (refine Xg.ev (EvF.lenSlice rfl rfl (te rfl)) rfl rfl ?_))))) | (refine XO.done rfl ?_; refine hK _ _ ?_; clear hK K) | refine X.seq rfl ?_ | refine X.region rfl (fun K hK => ?_) | refine X.block rfl ?_)
  refine X.lp rfl (fun q F' H' => ∃ (k : Nat) (out : Value) (Z : List Row), q = l.length - k ∧ k ≤ l.length ∧ ((k = 0 ∧ out = .slice none 0 0 ∧ Z = []) ∨ ∃ b q, out = .slice (some ⟨b, 0, none⟩) k q ∧ Z = [⟨b, 0, ((l.take k).map f).flatMap cI, some 3, q * 1⟩]) ∧ Z ++ H = H' ∧
      F' = [(1, .func (.func g) first.toArray cap.toArray), (5, out), (8, .slice a l.length c), (9, .int .i64 l.length), (10, .int .i64 k)])
    l.length [(1, .func (.func g) first.toArray cap.toArray), (5, .slice none 0 0), (8, .slice a l.length c), (9, .int .i64 l.length), (10, .int .i64 (0 : Nat))] _ (by (repeat (first | exact Sub.nil _ | refine Sub.cons rfl ?_)); done) (by (repeat (first | exact List.Sublist.refl _ | apply List.Sublist.cons_cons | apply List.Sublist.cons)); done) ⟨0, _, [], by omega, by omega, .inl ⟨rfl, rfl, rfl⟩, rfl, rfl⟩ ?_
  rintro _ _ H2 ⟨k, out, Z, rfl, hk, ⟨rfl, rfl, rfl⟩ | ⟨b0, q0, rfl, rfl⟩, hH, rfl⟩
  · rw [List.nil_append] at hH
    subst hH
    repeat' (first | (refine XO.op rfl ?_; (first | ((first | refine Xo.ng rfl ?_); (first | (refine Xg.ev (EvF.move rfl rfl) rfl rfl ?_) | (refine Xg.ev (EvF.assign rfl rfl) rfl rfl ?_) | (refine Xg.ev (EvF.cmp rfl rfl rfl rfl) rfl rfl ?_))))) | (refine XO.done rfl ?_; refine hK _ _ ?_; clear hK K) | refine X.seq rfl ?_ | refine X.region rfl (fun K hK => ?_) | refine X.block rfl ?_ | (refine X.brk rfl ?_; repeat (first | refine blockX_hit rfl ?_ | refine blockX_miss (by decide) ?_)) | refine X.skip rfl ?_ | refine X.ret rfl ?_ | (refine X.ite rfl rfl (fun hc => ?_); (first | (with_reducible refine Xb.case hc (fun h => ?_) (fun h => ?_))) <;> clear hc))
    · obtain ⟨b, off, e, rfl, he⟩ := hl.elem (i := 0) (by omega)
      have hge : ∀ r, Fc Tryz.prog g (first ++ [.agg (cOut e).toArray] ++ cap) (r :: H) (fun v H' => v = .int .i64 (f e) ∧ H' = r :: H) := fun r => hg e (List.mem_of_getElem? he) [r]
      repeat' (first | (refine XO.op rfl ?_; (first | ((first | refine Xo.ng rfl ?_); (first | (refine Xg.ev (EvF.loadV rfl rfl (LoadV.elA0 hl he (te rfl) rfl (fun _ hm => hm) rfl)) rfl rfl ?_) | (refine Xg.call (EnF.dyn (first := first) rfl rfl (Args.cons rfl Args.nil)) rfl rfl (hge _) ?_; rintro _ H9 ⟨rfl, hH9⟩; subst H9) | (refine Xg.st (StF.buildOne rfl elI rfl rfl rfl (by decide) (by decide)) rfl rfl ?_; rintro _ _ ⟨bs, rfl, rfl⟩) | (refine Xg.st (StF.appendNew rfl elI rfl rfl (by decide) rfl (Rd.own (List.Mem.head _)) (by decide)) rfl rfl ?_; rintro _ _ ⟨bn, kn, rfl, rfl⟩) | (refine Xg.ev (EvF.move rfl rfl) rfl rfl ?_) | (refine Xg.ev (EvF.assign rfl rfl) rfl rfl ?_) | (refine Xg.ev (EvF.add64 rfl rfl rfl (by omega) (by omega)) rfl rfl ?_) | (refine Xg.ev (EvF.indexSlice rfl rfl rfl (te rfl) (te rfl) (by omega) (by omega)) rfl rfl ?_) | (refine Xg.ev (EvF.loadV rfl rfl (LoadV.whole (te rfl) rfl (List.Mem.head _) rfl)) rfl rfl ?_) | (refine Xg.st (StF.alloc rfl Tryz.zeroValue114 rfl) rfl rfl ?_; rintro _ _ ⟨bx, rfl, rfl⟩) | (refine Xg.st0 (StF.storeAll (i := 0) rfl rfl rfl (te rfl) rfl rfl rfl rfl) rfl ?_; rintro _ _ ⟨rfl, rfl⟩; dsimp only [List.set]))))) | (refine XO.done rfl ?_; refine hK _ _ ?_; clear hK K) | refine X.region rfl (fun K hK => ?_))
      refine ⟨_, _, _, (by (repeat (first | exact Sub.nil _ | refine Sub.cons rfl ?_)); done), ?_, ⟨0 + 1, _, [⟨bn, 0, ((l.take (0 + 1)).map f).flatMap cI, some 3, kn * 1⟩], rfl, by omega, .inr ⟨_, _, rfl, rfl⟩, rfl, rfl⟩, by omega⟩
      rw [take_snoc he]
      exact (by (repeat (first | exact List.Sublist.refl _ | apply List.Sublist.cons_cons | apply List.Sublist.cons)); done)
    · exfalso; omega
  · have hlen : (((l.take k).map f).flatMap cI).length = k * 1 := by rw [lenI, List.length_map, List.length_take]; omega
    simp only [List.cons_append, List.nil_append] at hH
    subst hH
    repeat' (first | (refine XO.op rfl ?_; (first | ((first | refine Xo.ng rfl ?_); (first | (refine Xg.ev (EvF.move rfl rfl) rfl rfl ?_) | (refine Xg.ev (EvF.assign rfl rfl) rfl rfl ?_) | (refine Xg.ev (EvF.cmp rfl rfl rfl rfl) rfl rfl ?_))))) | (refine XO.done rfl ?_; refine hK _ _ ?_; clear hK K) | refine X.seq rfl ?_ | refine X.region rfl (fun K hK => ?_) | refine X.block rfl ?_ | (refine X.brk rfl ?_; repeat (first | refine blockX_hit rfl ?_ | refine blockX_miss (by decide) ?_)) | refine X.skip rfl ?_ | refine X.ret rfl ?_ | (refine X.ite rfl rfl (fun hc => ?_); (first | (with_reducible refine Xb.case hc (fun h => ?_) (fun h => ?_))) <;> clear hc))
    · obtain ⟨b, off, e, rfl, he⟩ := hl.elem (i := k) (by omega)
      have hl1 : ∀ r, SlE (r :: H) (some ⟨b, off, none⟩) cOut 3 l := fun r => hl.sub (fun _ h => List.mem_cons_of_mem _ h)
      have hge : ∀ r r', Fc Tryz.prog g (first ++ [.agg (cOut e).toArray] ++ cap) (r :: r' :: H) (fun v H' => v = .int .i64 (f e) ∧ H' = r :: r' :: H) := fun r r' => hg e (List.mem_of_getElem? he) [r, r']
      repeat' (first | (refine XO.op rfl ?_; (first | ((first | refine Xo.ng rfl ?_); (first | (refine Xg.ev (EvF.loadV rfl rfl (LoadV.elA0 (hl1 _) he (te rfl) rfl (fun _ hm => hm) rfl)) rfl rfl ?_) | (refine Xg.call (EnF.dyn (first := first) rfl rfl (Args.cons rfl Args.nil)) rfl rfl (hge _ _) ?_; rintro _ H9 ⟨rfl, hH9⟩; subst H9) | (refine Xg.st (StF.buildOne rfl elI rfl rfl rfl (by decide) (by decide)) rfl rfl ?_; rintro _ _ ⟨bs, rfl, rfl⟩) | (refine Xg.st (StF.appendOwn (i := 2) rfl elI rfl rfl rfl hlen rfl (Rd.own (List.Mem.head _)) rfl (by omega)) rfl rfl ?_; rintro _ _ ⟨bn, kn, rfl, rfl⟩; dsimp only [List.eraseIdx]) | (refine Xg.ev (EvF.move rfl rfl) rfl rfl ?_) | (refine Xg.ev (EvF.assign rfl rfl) rfl rfl ?_) | (refine Xg.ev (EvF.add64 rfl rfl rfl (by omega) (by omega)) rfl rfl ?_) | (refine Xg.ev (EvF.indexSlice rfl rfl rfl (te rfl) (te rfl) (by omega) (by omega)) rfl rfl ?_) | (refine Xg.ev (EvF.loadV rfl rfl (LoadV.whole (te rfl) rfl (List.Mem.head _) rfl)) rfl rfl ?_) | (refine Xg.st (StF.alloc rfl Tryz.zeroValue114 rfl) rfl rfl ?_; rintro _ _ ⟨bx, rfl, rfl⟩) | (refine Xg.st0 (StF.storeAll (i := 0) rfl rfl rfl (te rfl) rfl rfl rfl rfl) rfl ?_; rintro _ _ ⟨rfl, rfl⟩; dsimp only [List.set]))))) | (refine XO.done rfl ?_; refine hK _ _ ?_; clear hK K) | refine X.region rfl (fun K hK => ?_))
      refine ⟨_, _, _, (by (repeat (first | exact Sub.nil _ | refine Sub.cons rfl ?_)); done), ?_, ⟨k + 1, _, [⟨bn, 0, ((l.take (k + 1)).map f).flatMap cI, some 3, kn * 1⟩], rfl, by omega, .inr ⟨_, _, rfl, rfl⟩, rfl, rfl⟩, by omega⟩
      rw [take_snoc he, List.map_append, List.flatMap_append]
      exact (by (repeat (first | exact List.Sublist.refl _ | apply List.Sublist.cons_cons | apply List.Sublist.cons)); done)
    · obtain rfl : k = l.length := by omega
      rw [List.take_length]
      exact ret_one (by first | exact .inr rfl | exact .inl rfl) Tryz.results127 rfl (H' := ⟨b0, 0, (l.map f).flatMap cI, some 3, q0 * 1⟩ :: H) (by (repeat (first | exact List.Sublist.refl _ | apply List.Sublist.cons_cons | apply List.Sublist.cons)); done) ⟨b0, q0, rfl, rfl⟩
end Go.Proofs.YtjejppodhpdckaaGreat
end
section
set_option linter.unusedVariables false
set_option linter.unusedSimpArgs false
namespace Go.Proofs.YtjejppodhpdckaaGreat
open Go Go.Fw
set_option maxRecDepth 10000
theorem elOu : ElT Tryz.prog 178 114 3 24 := ⟨Tryz.underlying178, Tryz.t114, .agg #[.int .i64 0, .int .i64 0, .int .i64 0], by kernel_rfl, by kernel_rfl, by kernel_rfl, by kernel_rfl, rfl⟩
theorem lenOu (l : List Out) : (l.flatMap cOut).length = l.length * 3 := flat_len (fun _ _ => rfl)
/-- an offer of a bale of which the grades and the staple are known -/
def cGm (T : Tm) (p : Pt) (gs : Sp) (s : Int) : List Value := cTm T p ++ (cSp gs ++ [.int .i64 s])
def outs (T : Tm) (sd s : Int) (gs : Sp) (ask : Bool) : List Out := (ir gs.lo gs.hi).map (fun g => stl T ⟨sd, s⟩ ⟨g, s⟩ ask)
def tsOa : List TOp := [⟨some 19, [], [], []⟩, ⟨some 20, [], [], []⟩, ⟨some 21, [1], [1], []⟩, ⟨some 22, [], [], []⟩, ⟨some 23, [], [], []⟩, ⟨some 24, [4], [4], []⟩, ⟨some 25, [3, 4, 5], [3, 5], []⟩, ⟨some 26, [], [], []⟩, ⟨some 27, [], [], []⟩, ⟨some 28, [8], [8], []⟩, ⟨some 29, [3, 4, 5, 6, 7, 8, 9], [7, 9], []⟩, ⟨some 30, [], [], []⟩, ⟨some 31, [1, 2, 3, 4, 5, 6, 7, 8, 9, 10, 11], [2, 6, 10, 11], []⟩, ⟨some 32, [1, 2, 3, 4, 5, 6, 7, 8, 9, 10, 11, 12], [12], []⟩, ⟨some 33, [0, 1, 2, 3, 4, 5, 6, 7, 8, 9, 10, 11, 12, 13], [0, 13], []⟩, ⟨some 7, [0, 1, 2, 3, 4, 5, 6, 7, 8, 9, 10, 11, 12, 13, 14], [14], []⟩]
def valOa (b3 : Nat) (T : Tm) (p : Pt) (sd s g : Int) (ask : Bool) (x : Out) (k : Nat) (env : Env) : Value :=
  match k with
  | 0 => .slice none 0 0
  | 1 => .pointer (some ⟨b3, 0, none⟩)
  | 2 => .agg (cTm T p).toArray
  | 3 => .int .i64 sd
  | 4 => .pointer (some ⟨b3, 13, none⟩)
  | 5 => .int .i64 s
  | 6 => .agg (cCl ⟨sd, s⟩).toArray
  | 7 => .int .i64 g
  | 8 => .pointer (some ⟨b3, 13, none⟩)
  | 9 => .int .i64 s
  | 10 => .agg (cCl ⟨g, s⟩).toArray
  | 11 => .bool ask
  | 12 => .agg (cOut x).toArray
  | 13 => .slice (some ⟨(env 13).1, 0, none⟩) 1 1
  | 14 => .slice (some ⟨(env 14).1, 0, none⟩) 1 (env 14).2
  | 15 => .slice (some ⟨(env 14).1, 0, none⟩) 1 (env 14).2
  | _ => undef
def rowsOa (b3 : Nat) (T : Tm) (p : Pt) (sd s g : Int) (ask : Bool) (x : Out) (k : Nat) (env : Env) : List Row :=
  match k with
  | 13 => [⟨(env 13).1, 0, cOut x, some 114, 1 * 3⟩]
  | 14 => [⟨(env 14).1, 0, cOut x, some 114, (env 14).2 * 3⟩]
  | _ => []
theorem locOa (b3 : Nat) (T : Tm) (p : Pt) (sd s g : Int) (ask : Bool) (x : Out) : ∀ k env i q9, i ≠ k → (tAt tsOa k).sup.contains i = false → valOa b3 T p sd s g ask x k (upd env i q9) = valOa b3 T p sd s g ask x k env ∧ rowsOa b3 T p sd s g ask x k (upd env i q9) = rowsOa b3 T p sd s g ask x k env := by
  intro k env i q hk hs
  have hu : ∀ j, j ≠ i → upd env i q j = env j := fun j hj => by unfold upd; rw [if_neg hj]
  match k, hk, hs with
  | 0, _, _ => exact ⟨rfl, rfl⟩
  | 1, _, _ => exact ⟨rfl, rfl⟩
  | 2, _, _ => exact ⟨rfl, rfl⟩
  | 3, _, _ => exact ⟨rfl, rfl⟩
  | 4, _, _ => exact ⟨rfl, rfl⟩
  | 5, _, _ => exact ⟨rfl, rfl⟩
  | 6, _, _ => exact ⟨rfl, rfl⟩
  | 7, _, _ => exact ⟨rfl, rfl⟩
  | 8, _, _ => exact ⟨rfl, rfl⟩
  | 9, _, _ => exact ⟨rfl, rfl⟩
  | 10, _, _ => exact ⟨rfl, rfl⟩
  | 11, _, _ => exact ⟨rfl, rfl⟩
  | 12, _, _ => exact ⟨rfl, rfl⟩
  | 13, hk, hs => exact ⟨by simp only [valOa, hu 13 (fun e => hk e.symm)], by simp only [rowsOa, hu 13 (fun e => hk e.symm)]⟩
  | 14, hk, hs => exact ⟨by simp only [valOa, hu 14 (fun e => hk e.symm)], by simp only [rowsOa, hu 14 (fun e => hk e.symm)]⟩
  | 15, hk, hs => exact ⟨by simp only [valOa, hu 14 (by rintro rfl; cases hs)], by simp only [rowsOa, hu 14 (by rintro rfl; cases hs)]⟩
  | _ + 16, _, _ => exact ⟨rfl, rfl⟩
def rdOa (k : Nat) : List Nat := match k with
  | 14 => [13]
  | _ => []
def tsOb5 : List TOp := [⟨some 19, [], [], []⟩, ⟨some 20, [], [], []⟩, ⟨some 21, [1], [1], []⟩, ⟨some 22, [], [], []⟩, ⟨some 23, [], [], []⟩, ⟨some 24, [4], [4], []⟩, ⟨some 25, [3, 4, 5], [3, 5], []⟩, ⟨some 26, [], [], []⟩, ⟨some 27, [], [], []⟩, ⟨some 28, [8], [8], []⟩, ⟨some 29, [3, 4, 5, 6, 7, 8, 9], [7, 9], []⟩, ⟨some 30, [], [], []⟩, ⟨some 31, [1, 2, 3, 4, 5, 6, 7, 8, 9, 10, 11], [2, 6, 10, 11], []⟩, ⟨some 32, [1, 2, 3, 4, 5, 6, 7, 8, 9, 10, 11, 12], [12], []⟩, ⟨some 33, [0, 1, 2, 3, 4, 5, 6, 7, 8, 9, 10, 11, 12, 13], [0, 13], [16]⟩, ⟨some 7, [0, 1, 2, 3, 4, 5, 6, 7, 8, 9, 10, 11, 12, 13, 14], [14], []⟩, ⟨none, [], [], []⟩]
def valOb5 (b3 bo qo kk : Nat) (ol : List Value) (T : Tm) (p : Pt) (sd s g : Int) (ask : Bool) (x : Out) (k : Nat) (env : Env) : Value :=
  match k with
  | 0 => .slice (some ⟨bo, 0, none⟩) kk qo
  | 1 => .pointer (some ⟨b3, 0, none⟩)
  | 2 => .agg (cTm T p).toArray
  | 3 => .int .i64 sd
  | 4 => .pointer (some ⟨b3, 13, none⟩)
  | 5 => .int .i64 s
  | 6 => .agg (cCl ⟨sd, s⟩).toArray
  | 7 => .int .i64 g
  | 8 => .pointer (some ⟨b3, 13, none⟩)
  | 9 => .int .i64 s
  | 10 => .agg (cCl ⟨g, s⟩).toArray
  | 11 => .bool ask
  | 12 => .agg (cOut x).toArray
  | 13 => .slice (some ⟨(env 13).1, 0, none⟩) 1 1
  | 14 => .slice (some ⟨(env 14).1, 0, none⟩) (kk + 1) (env 14).2
  | 15 => .slice (some ⟨(env 14).1, 0, none⟩) (kk + 1) (env 14).2
  | _ => undef
def rowsOb5 (b3 bo qo kk : Nat) (ol : List Value) (T : Tm) (p : Pt) (sd s g : Int) (ask : Bool) (x : Out) (k : Nat) (env : Env) : List Row :=
  match k with
  | 13 => [⟨(env 13).1, 0, cOut x, some 114, 1 * 3⟩]
  | 14 => [⟨(env 14).1, 0, ol ++ cOut x, some 114, (env 14).2 * 3⟩]
  | 16 => [⟨bo, 0, ol, some 114, qo * 3⟩]
  | _ => []
theorem locOb5 (b3 bo qo kk : Nat) (ol : List Value) (T : Tm) (p : Pt) (sd s g : Int) (ask : Bool) (x : Out) : ∀ k env i q9, i ≠ k → (tAt tsOb5 k).sup.contains i = false → valOb5 b3 bo qo kk ol T p sd s g ask x k (upd env i q9) = valOb5 b3 bo qo kk ol T p sd s g ask x k env ∧ rowsOb5 b3 bo qo kk ol T p sd s g ask x k (upd env i q9) = rowsOb5 b3 bo qo kk ol T p sd s g ask x k env := by
  intro k env i q hk hs
  have hu : ∀ j, j ≠ i → upd env i q j = env j := fun j hj => by unfold upd; rw [if_neg hj]
  match k, hk, hs with
  | 0, _, _ => exact ⟨rfl, rfl⟩
  | 1, _, _ => exact ⟨rfl, rfl⟩
  | 2, _, _ => exact ⟨rfl, rfl⟩
  | 3, _, _ => exact ⟨rfl, rfl⟩
  | 4, _, _ => exact ⟨rfl, rfl⟩
  | 5, _, _ => exact ⟨rfl, rfl⟩
  | 6, _, _ => exact ⟨rfl, rfl⟩
  | 7, _, _ => exact ⟨rfl, rfl⟩
  | 8, _, _ => exact ⟨rfl, rfl⟩
  | 9, _, _ => exact ⟨rfl, rfl⟩
  | 10, _, _ => exact ⟨rfl, rfl⟩
  | 11, _, _ => exact ⟨rfl, rfl⟩
  | 12, _, _ => exact ⟨rfl, rfl⟩
  | 13, hk, hs => exact ⟨by simp only [valOb5, hu 13 (fun e => hk e.symm)], by simp only [rowsOb5, hu 13 (fun e => hk e.symm)]⟩
  | 14, hk, hs => exact ⟨by simp only [valOb5, hu 14 (fun e => hk e.symm)], by simp only [rowsOb5, hu 14 (fun e => hk e.symm)]⟩
  | 15, hk, hs => exact ⟨by simp only [valOb5, hu 14 (by rintro rfl; cases hs)], by simp only [rowsOb5, hu 14 (by rintro rfl; cases hs)]⟩
  | 16, _, _ => exact ⟨rfl, rfl⟩
  | _ + 17, _, _ => exact ⟨rfl, rfl⟩
def rdOb5 (k : Nat) : List Nat := match k with
  | 14 => [13]
  | _ => []
set_option maxHeartbeats 16000000 in
theorem outcomes_spec (T : Tm) (p : Pt) (sd s : Int) (gs : Sp) (ask : Bool) (H : List Row) (hT : TmOk H T p) (hok : tmOk T) (h1 : 1 ≤ sd ∧ sd ≤ 9) (h2 : 1 ≤ s ∧ s ≤ 9) (h3 : (1 ≤ gs.lo ∧ gs.lo ≤ gs.hi) ∧ gs.hi ≤ 9) :
    Fc Tryz.prog 128 [.agg (cGm T p gs s).toArray, .int .i64 sd, .bool ask] H (fun v H' => ∃ b q, v = .slice (some ⟨b, 0, none⟩) (outs T sd s gs ask).length q ∧ H' = ⟨b, 0, (outs T sd s gs ask).flatMap cOut, some 114, q * 3⟩ :: H) := by
  refine Fc.mk (callable Tryz.call128) Tryz.func128 rfl Tryz.ntmps128 rfl ?_; dsimp only [fr]
  repeat' (first | (refine XO.op rfl ?_; (first | ((first | refine Xo.ng rfl ?_); (first | (refine Xg.ev (EvF.assign rfl rfl) rfl rfl ?_) | (refine Xg.ev (EvF.fieldAddr rfl rfl (te rfl) rfl (te rfl) (by decide)) rfl rfl ?_) | (refine Xg.ev (EvF.loadV rfl rfl (LoadV.own (te rfl) rfl (List.Mem.head _) rfl)) rfl rfl ?_) | (refine Xg.st (StF.boxAgg rfl rfl) rfl rfl ?_; rintro _ _ ⟨bx, rfl, rfl⟩))))) | (refine XO.done rfl ?_; refine hK _ _ ?_; clear hK K) | refine X.seq rfl ?_ | refine X.region rfl (fun K hK => ?_) | refine X.block rfl ?_)
  obtain ⟨b3, hb3⟩ : ∃ b, b = bx := ⟨_, rfl⟩
  rw [← hb3]
  clear hb3
  refine X.lp rfl (fun w F' H' => ∃ (k : Nat) (out : Value) (Z : List Row), w = (gs.hi - gs.lo + 1).toNat - k ∧ k ≤ (gs.hi - gs.lo + 1).toNat ∧ ((k = 0 ∧ out = .slice none 0 0 ∧ Z = []) ∨ ∃ b q, out = .slice (some ⟨b, 0, none⟩) k q ∧ Z = [⟨b, 0, (((ir gs.lo gs.hi).take k).map (fun g => stl T ⟨sd, s⟩ ⟨g, s⟩ ask)).flatMap cOut, some 114, q * 3⟩]) ∧ H' = Z ++ (⟨b3, 0, cGm T p gs s, some 119, 14⟩ :: H) ∧
      F' = [(1, .int .i64 sd), (2, .bool ask), (3, .pointer (some ⟨b3, 0, none⟩)), (7, out), (8, .int .i64 (gs.lo + k))])
    _ [(1, .int .i64 sd), (2, .bool ask), (3, .pointer (some ⟨b3, 0, none⟩)), (7, .slice none 0 0), (8, .int .i64 (gs.lo + (0 : Nat)))] _ (by rw [show gs.lo + ((0 : Nat) : Int) = gs.lo by omega]; exact (by (repeat (first | exact Sub.nil _ | refine Sub.cons rfl ?_)); done)) (List.Sublist.refl _) ⟨0, _, [], rfl, by omega, .inl ⟨rfl, rfl, rfl⟩, rfl, rfl⟩ ?_
  rintro _ _ _ ⟨k, out, Z, rfl, hk, ⟨rfl, rfl, rfl⟩ | ⟨bo, qo, rfl, rfl⟩, rfl, rfl⟩
  · dsimp only [List.nil_append]
    have hi1 : in9 ⟨sd, s⟩ := ⟨h1, h2⟩
    have hi2 : in9 ⟨gs.lo, s⟩ := ⟨by dsimp only; omega, h2⟩
    have hs : ∀ (Y : List Row), (∀ r ∈ ⟨b3, 0, cGm T p gs s, some 119, 14⟩ :: H, r ∈ Y) → TmOk Y T p := fun S hS => hT.sub (fun r hr => hS r (List.Mem.tail _ hr))
    rw [show gs.lo + ((0 : Nat) : Int) = gs.lo by omega]
    repeat' (first | (refine XO.op rfl ?_; (first | ((first | refine Xo.ng rfl ?_); (first | (refine Xg.ev (EvF.move rfl rfl) rfl rfl ?_) | (refine Xg.ev (EvF.assign rfl rfl) rfl rfl ?_) | (refine Xg.ev (EvF.cmp rfl rfl rfl rfl) rfl rfl ?_) | (refine Xg.ev (EvF.fieldAddr rfl rfl (te rfl) rfl (te rfl) (by decide)) rfl rfl ?_) | (refine Xg.ev (EvF.loadV rfl rfl (LoadV.own (te rfl) rfl (List.Mem.head _) rfl)) rfl rfl ?_))))) | (refine XO.done rfl ?_; refine hK _ _ ?_; clear hK K) | refine X.seq rfl ?_ | refine X.region rfl (fun K hK => ?_) | refine X.block rfl ?_ | (refine X.brk rfl ?_; repeat (first | refine blockX_hit rfl ?_ | refine blockX_miss (by decide) ?_)) | refine X.skip rfl ?_ | refine X.ret rfl ?_ | (refine X.ite rfl rfl (fun hc => ?_); (first | (with_reducible refine Xb.case hc (fun h => ?_) (fun h => ?_))) <;> clear hc))
    · refine X.regionRe [] tsOa rdOa [1, 2, 3, 8] [(1, .int .i64 sd), (2, .bool ask), (3, .pointer (some ⟨b3, 0, none⟩)), (8, .int .i64 gs.lo)] (valOa b3 T p sd s gs.lo ask (stl T ⟨sd, s⟩ ⟨gs.lo, s⟩ ask)) (rowsOa b3 T p sd s gs.lo ask (stl T ⟨sd, s⟩ ⟨gs.lo, s⟩ ask)) (fun _ => (0, 0)) (⟨b3, 0, cGm T p gs s, some 119, 14⟩ :: H) rfl mixed (by (repeat (first | exact Sub.nil _ | refine Sub.cons rfl ?_)); done) rfl (by kernel_rfl) (by kernel_rfl) (locOa b3 T p sd s gs.lo ask (stl T ⟨sd, s⟩ ⟨gs.lo, s⟩ ask)) (fun i d hi => by cases hi) (List.Sublist.refl _) 15 (.slice none 0 0) rfl (Nat.le_of_ble_eq_true rfl) rfl ?_ ?_
      · repeat' (first | exact AllF.done rfl | (refine AllF.step rfl ?_ ?_; · (first | exact (Ob.ng rfl (ObK.pure (fun env R hR => by exact ⟨_, EvF.move rfl rfl, rfl⟩) rfl (fun _ => rfl))).toR | exact (Ob.ng rfl (ObK.pure (fun env R hR => by exact ⟨_, EvF.assign rfl rfl, rfl⟩) rfl (fun _ => rfl))).toR | exact (Ob.ng rfl (ObK.pure (fun env R hR => by exact ⟨_, EvF.fieldAddr rfl rfl (te rfl) rfl (te rfl) (by decide), rfl⟩) rfl (fun _ => rfl))).toR | exact (Ob.ng rfl (ObK.pure (fun env R hR => by exact ⟨_, EvF.loadV rfl rfl (LoadV.own (te rfl) rfl (hR _ (List.Mem.head _)) rfl), rfl⟩) rfl (fun _ => rfl))).toR | exact (Ob.ng rfl (ObK.pure (fun env R hR => by exact ⟨_, EvF.loadV rfl rfl (LoadV.ownAgg (te rfl) rfl (hR _ (List.Mem.head _)) rfl rfl), rfl⟩) rfl (fun _ => rfl))).toR | (refine ObR.ng rfl ?_; (first | (exact fun env S hS hrd => OpF.callV (Z := []) (EnF.st rfl (Args.cons rfl (Args.cons rfl Args.nil))) (class_spec sd s _) rfl rfl) | (exact fun env S hS hrd => OpF.callV (Z := []) (EnF.st rfl (Args.cons rfl (Args.cons rfl Args.nil))) (class_spec gs.lo s _) rfl rfl) | (exact fun env S hS hrd => OpF.callV (Z := []) (EnF.st rfl (Args.cons rfl (Args.cons rfl (Args.cons rfl (Args.cons rfl Args.nil))))) (settle_spec T p ⟨sd, s⟩ ⟨gs.lo, s⟩ ask _ (hs S hS) hok hi1 hi2) rfl rfl) | (exact fun env S hS hrd => (StF.buildOne rfl elOu rfl rfl rfl (by decide) (by decide)).op.mono (fun v H' ⟨b, hv, hH⟩ => ⟨(b, 0), fun _ => hv, by rw [hH]; exact List.Perm.refl _⟩)) | (exact fun env S hS hrd => (StF.appendNew rfl elOu rfl rfl (by decide) rfl (Rd.own (hrd 13 (List.Mem.head _) _ (List.Mem.head _))) (by decide)).op.mono (fun v H' ⟨b, c, hv, hH⟩ => ⟨(b, c), fun _ => hv, by rw [hH]; exact List.Perm.refl _⟩)))))))
      intro env t ha hv
      refine ⟨_, ha.cons (hv 15 7 (Nat.le_of_ble_eq_true rfl) rfl), ?_⟩
      clear hv ha
      show X _ _ _ ((7, .slice (some ⟨(env 14).1, 0, none⟩) 1 (env 14).2) :: _) (⟨(env 13).1, 0, cOut (stl T ⟨sd, s⟩ ⟨gs.lo, s⟩ ask), some 114, 1 * 3⟩ :: ⟨(env 14).1, 0, cOut (stl T ⟨sd, s⟩ ⟨gs.lo, s⟩ ask), some 114, (env 14).2 * 3⟩ :: ⟨b3, 0, cGm T p gs s, some 119, 14⟩ :: H) _
      repeat' (first | (refine XO.op rfl ?_; (first | ((first | refine Xo.ng rfl ?_); (first | (refine Xg.ev (EvF.move rfl rfl) rfl rfl ?_) | (refine Xg.ev (EvF.assign rfl rfl) rfl rfl ?_) | (refine Xg.ev (EvF.add64 rfl rfl rfl (by omega) (by omega)) rfl rfl ?_))))) | (refine XO.done rfl ?_; refine hK _ _ ?_; clear hK K) | refine X.region rfl (fun K hK => ?_))
      have he := ir_get (a := gs.lo) (b := gs.hi) (k := 0) (by omega)
      refine ⟨_, [(1, .int .i64 sd), (2, .bool ask), (3, .pointer (some ⟨b3, 0, none⟩)), (7, .slice (some ⟨(env 14).1, 0, none⟩) (0 + 1) (env 14).2), (8, .int .i64 (gs.lo + (0 + 1 : Nat)))], ⟨(env 14).1, 0, cOut (stl T ⟨sd, s⟩ ⟨gs.lo, s⟩ ask), some 114, (env 14).2 * 3⟩ :: ⟨b3, 0, cGm T p gs s, some 119, 14⟩ :: H, (by rw [show gs.lo + ((0 + 1 : Nat) : Int) = gs.lo + 1 by omega]; exact (by (repeat (first | exact Sub.nil _ | refine Sub.cons rfl ?_)); done)), (by (repeat (first | exact List.Sublist.refl _ | apply List.Sublist.cons_cons | apply List.Sublist.cons)); done), ⟨0 + 1, _, [⟨(env 14).1, 0, cOut (stl T ⟨sd, s⟩ ⟨gs.lo, s⟩ ask), some 114, (env 14).2 * 3⟩], rfl, by omega, .inr ⟨_, _, rfl, ?_⟩, rfl, rfl⟩, by omega⟩
      rw [take_snoc he, show gs.lo + ((0 : Nat) : Int) = gs.lo by omega]; rfl
    · exfalso; omega
  · dsimp only [List.cons_append, List.nil_append]
    repeat' (first | (refine XO.op rfl ?_; (first | ((first | refine Xo.ng rfl ?_); (first | (refine Xg.ev (EvF.move rfl rfl) rfl rfl ?_) | (refine Xg.ev (EvF.assign rfl rfl) rfl rfl ?_) | (refine Xg.ev (EvF.cmp rfl rfl rfl rfl) rfl rfl ?_) | (refine Xg.ev (EvF.fieldAddr rfl rfl (te rfl) rfl (te rfl) (by decide)) rfl rfl ?_) | (refine Xg.ev (EvF.loadV rfl rfl (LoadV.own (te rfl) rfl (List.Mem.tail _ (List.Mem.head _)) rfl)) rfl rfl ?_))))) | (refine XO.done rfl ?_; refine hK _ _ ?_; clear hK K) | refine X.seq rfl ?_ | refine X.region rfl (fun K hK => ?_) | refine X.block rfl ?_ | (refine X.brk rfl ?_; repeat (first | refine blockX_hit rfl ?_ | refine blockX_miss (by decide) ?_)) | refine X.skip rfl ?_ | refine X.ret rfl ?_ | (refine X.ite rfl rfl (fun hc => ?_); (first | (with_reducible refine Xb.case hc (fun h => ?_) (fun h => ?_))) <;> clear hc))
    · have hk1 : (k : Int) < gs.hi - gs.lo + 1 := by omega
      have he := ir_get hk1
      have hi1 : in9 ⟨sd, s⟩ := ⟨h1, h2⟩
      have hi2 : in9 ⟨gs.lo + k, s⟩ := ⟨by dsimp only; omega, h2⟩
      have hs : ∀ (Y : List Row), (∀ r ∈ ⟨b3, 0, cGm T p gs s, some 119, 14⟩ :: H, r ∈ Y) → TmOk Y T p := fun S hS => hT.sub (fun r hr => hS r (List.Mem.tail _ hr))
      have hlen : ((((ir gs.lo gs.hi).take k).map (fun g => stl T ⟨sd, s⟩ ⟨g, s⟩ ask)).flatMap cOut).length = k * 3 := by rw [lenOu, List.length_map, List.length_take, ir_len]; omega
      obtain ⟨ol, hol⟩ : ∃ ol, (((ir gs.lo gs.hi).take k).map (fun g => stl T ⟨sd, s⟩ ⟨g, s⟩ ask)).flatMap cOut = ol := ⟨_, rfl⟩
      rw [hol] at hlen ⊢
      refine X.regionRe [] tsOb5 rdOb5 [1, 2, 3, 8] [(1, .int .i64 sd), (2, .bool ask), (3, .pointer (some ⟨b3, 0, none⟩)), (8, .int .i64 (gs.lo + k))] (valOb5 b3 bo qo k ol T p sd s (gs.lo + k) ask (stl T ⟨sd, s⟩ ⟨gs.lo + k, s⟩ ask)) (rowsOb5 b3 bo qo k ol T p sd s (gs.lo + k) ask (stl T ⟨sd, s⟩ ⟨gs.lo + k, s⟩ ask)) (fun _ => (0, 0)) (⟨b3, 0, cGm T p gs s, some 119, 14⟩ :: H) rfl mixed (by (repeat (first | exact Sub.nil _ | refine Sub.cons rfl ?_)); done) rfl (by kernel_rfl) (by kernel_rfl) (locOb5 b3 bo qo k ol T p sd s (gs.lo + k) ask (stl T ⟨sd, s⟩ ⟨gs.lo + k, s⟩ ask)) (fun i d hi => by cases hi) (List.Sublist.refl _) 15 (.slice (some ⟨bo, 0, none⟩) k qo) rfl (Nat.le_of_ble_eq_true rfl) rfl ?_ ?_
      · repeat' (first | exact AllF.done rfl | (refine AllF.step rfl ?_ ?_; · (first | exact (Ob.ng rfl (ObK.pure (fun env R hR => by exact ⟨_, EvF.move rfl rfl, rfl⟩) rfl (fun _ => rfl))).toR | exact (Ob.ng rfl (ObK.pure (fun env R hR => by exact ⟨_, EvF.assign rfl rfl, rfl⟩) rfl (fun _ => rfl))).toR | exact (Ob.ng rfl (ObK.pure (fun env R hR => by exact ⟨_, EvF.fieldAddr rfl rfl (te rfl) rfl (te rfl) (by decide), rfl⟩) rfl (fun _ => rfl))).toR | exact (Ob.ng rfl (ObK.pure (fun env R hR => by exact ⟨_, EvF.loadV rfl rfl (LoadV.own (te rfl) rfl (hR _ (List.Mem.head _)) rfl), rfl⟩) rfl (fun _ => rfl))).toR | exact (Ob.ng rfl (ObK.pure (fun env R hR => by exact ⟨_, EvF.loadV rfl rfl (LoadV.ownAgg (te rfl) rfl (hR _ (List.Mem.head _)) rfl rfl), rfl⟩) rfl (fun _ => rfl))).toR | (refine ObR.ng rfl ?_; (first | (exact fun env S hS hrd => OpF.callV (Z := []) (EnF.st rfl (Args.cons rfl (Args.cons rfl Args.nil))) (class_spec sd s _) rfl rfl) | (exact fun env S hS hrd => OpF.callV (Z := []) (EnF.st rfl (Args.cons rfl (Args.cons rfl Args.nil))) (class_spec (gs.lo + k) s _) rfl rfl) | (exact fun env S hS hrd => OpF.callV (Z := []) (EnF.st rfl (Args.cons rfl (Args.cons rfl (Args.cons rfl (Args.cons rfl Args.nil))))) (settle_spec T p ⟨sd, s⟩ ⟨gs.lo + k, s⟩ ask _ (hs S hS) hok hi1 hi2) rfl rfl) | (exact fun env S hS hrd => (StF.buildOne rfl elOu rfl rfl rfl (by decide) (by decide)).op.mono (fun v H' ⟨b, hv, hH⟩ => ⟨(b, 0), fun _ => hv, by rw [hH]; exact List.Perm.refl _⟩)) | (exact fun env S hS hrd => (StF.appendOwn (i := 0) rfl elOu rfl rfl rfl hlen rfl (Rd.own (List.Mem.tail _ (hrd 13 (List.Mem.head _) _ (List.Mem.head _)))) rfl (by omega)).op.mono (fun v H' ⟨b, c, hv, hH⟩ => ⟨(b, c), fun _ => hv, by rw [hH]; exact List.Perm.refl _⟩)))))))
      intro env t ha hv
      refine ⟨_, ha.cons (hv 15 7 (Nat.le_of_ble_eq_true rfl) rfl), ?_⟩
      clear hv ha
      show X _ _ _ ((7, .slice (some ⟨(env 14).1, 0, none⟩) (k + 1) (env 14).2) :: _) (⟨(env 13).1, 0, cOut (stl T ⟨sd, s⟩ ⟨gs.lo + k, s⟩ ask), some 114, 1 * 3⟩ :: ⟨(env 14).1, 0, ol ++ cOut (stl T ⟨sd, s⟩ ⟨gs.lo + k, s⟩ ask), some 114, (env 14).2 * 3⟩ :: ⟨b3, 0, cGm T p gs s, some 119, 14⟩ :: H) _
      repeat' (first | (refine XO.op rfl ?_; (first | ((first | refine Xo.ng rfl ?_); (first | (refine Xg.ev (EvF.move rfl rfl) rfl rfl ?_) | (refine Xg.ev (EvF.assign rfl rfl) rfl rfl ?_) | (refine Xg.ev (EvF.add64 rfl rfl rfl (by omega) (by omega)) rfl rfl ?_))))) | (refine XO.done rfl ?_; refine hK _ _ ?_; clear hK K) | refine X.region rfl (fun K hK => ?_))
      refine ⟨_, [(1, .int .i64 sd), (2, .bool ask), (3, .pointer (some ⟨b3, 0, none⟩)), (7, .slice (some ⟨(env 14).1, 0, none⟩) (k + 1) (env 14).2), (8, .int .i64 (gs.lo + (k + 1 : Nat)))], ⟨(env 14).1, 0, ol ++ cOut (stl T ⟨sd, s⟩ ⟨gs.lo + k, s⟩ ask), some 114, (env 14).2 * 3⟩ :: ⟨b3, 0, cGm T p gs s, some 119, 14⟩ :: H, (by rw [show gs.lo + ((k + 1 : Nat) : Int) = gs.lo + k + 1 by omega]; exact (by (repeat (first | exact Sub.nil _ | refine Sub.cons rfl ?_)); done)), (by (repeat (first | exact List.Sublist.refl _ | apply List.Sublist.cons_cons | apply List.Sublist.cons)); done), ⟨k + 1, _, [⟨(env 14).1, 0, ol ++ cOut (stl T ⟨sd, s⟩ ⟨gs.lo + k, s⟩ ask), some 114, (env 14).2 * 3⟩], rfl, by omega, .inr ⟨_, _, rfl, ?_⟩, rfl, rfl⟩, by omega⟩
      rw [take_snoc he, List.map_append, List.flatMap_append, hol]; rfl
    · obtain rfl : k = (gs.hi - gs.lo + 1).toNat := by omega
      rw [List.take_of_length_le (by rw [ir_len]; omega)]
      have hlo : (outs T sd s gs ask).length = (gs.hi - gs.lo + 1).toNat := by unfold outs; rw [List.length_map, ir_len]
      exact ret_one (by first | exact .inr rfl | exact .inl rfl) Tryz.results128 rfl (H' := ⟨bo, 0, (outs T sd s gs ask).flatMap cOut, some 114, qo * 3⟩ :: H) (by (repeat (first | exact List.Sublist.refl _ | apply List.Sublist.cons_cons | apply List.Sublist.cons)); done) ⟨bo, qo, by rw [hlo], rfl⟩
end Go.Proofs.YtjejppodhpdckaaGreat
end
section
set_option linter.unusedVariables false
set_option linter.unusedSimpArgs false
namespace Go.Proofs.YtjejppodhpdckaaGreat
open Go Go.Fw
set_option maxRecDepth 10000
theorem outs_len (T : Tm) (sd s : Int) (gs : Sp) (ask : Bool) : (outs T sd s gs ask).length = (gs.hi - gs.lo + 1).toNat := by unfold outs; rw [List.length_map, ir_len]
theorem outs_bd {T : Tm} (hok : tmOk T) {sd s : Int} {gs : Sp} {ask : Bool} : ∀ o ∈ outs T sd s gs ask, (-3000 ≤ o.gets ∧ o.gets ≤ 1003000) ∧ (-3000 ≤ o.pays ∧ o.pays ≤ 1003000) ∧ (-3000 ≤ o.has ∧ o.has ≤ 1003000) := fun o ho => by
  obtain ⟨g, _, rfl⟩ := List.mem_map.1 ho
  exact stl_bd hok _ _ _
theorem outs_los (T : Tm) (sd s : Int) (gs : Sp) (ask : Bool) : maxL ((outs T sd s gs ask).map (fun o => o.pays - o.has)) = lsL T sd s gs ask := by
  unfold outs lsL
  rw [List.map_map]; rfl
set_option maxHeartbeats 4000000 in
theorem loses1_spec (T : Tm) (p : Pt) (sd s : Int) (gs : Sp) (ask : Bool) (b1 b2 c1 c2 : Nat) (o1 o2 : Option Kd) (H : List Row) (hm1 : ⟨b1, 0, cGm T p gs s, o1, c1⟩ ∈ H) (hm2 : ⟨b2, 0, [.bool ask], o2, c2⟩ ∈ H) (hT : TmOk H T p) (hok : tmOk T) (h1 : 1 ≤ sd ∧ sd ≤ 9) (h2 : 1 ≤ s ∧ s ≤ 9) (h3 : (1 ≤ gs.lo ∧ gs.lo ≤ gs.hi) ∧ gs.hi ≤ 9) :
    Fc Tryz.prog 126 [.int .i64 sd, .pointer (some ⟨b1, 0, none⟩), .pointer (some ⟨b2, 0, none⟩)] H (fun v H' => v = .int .i64 (lsL T sd s gs ask) ∧ H' = H) := by
  have hb := outs_bd hok (sd := sd) (s := s) (gs := gs) (ask := ask)
  have hl := outs_len T sd s gs ask
  have hl0 : ((outs T sd s gs ask).map (fun o => o.pays - o.has)).length = (outs T sd s gs ask).length := List.length_map ..
  rw [← outs_los]
  have hmx := fun a c H h => maxI_spec ((outs T sd s gs ask).map (fun o => o.pays - o.has)) a c H h (by rw [hl0, hl]; omega) (by rw [hl0, hl]; omega)
  rw [hl0] at hmx
  refine Fc.mk (callable Tryz.call126) Tryz.func126 rfl Tryz.ntmps126 rfl ?_; dsimp only [fr]
  repeat' (first | (refine XO.op rfl ?_; (first | ((first | refine Xo.ng rfl ?_); (first | (refine Xg.ev (EvF.loadV rfl rfl (LoadV.whole (te rfl) rfl hm1 rfl)) rfl rfl ?_) | (refine Xg.ev (EvF.loadV rfl rfl (LoadV.own (te rfl) rfl hm2 rfl)) rfl rfl ?_) | (refine Xg.call (EnF.st rfl (Args.cons rfl (Args.cons rfl (Args.cons rfl Args.nil)))) rfl rfl (outcomes_spec T p sd s gs ask _ hT hok h1 h2 h3) ?_; rintro _ _ ⟨bo, qo, rfl, rfl⟩) | (refine Xg.call (EnF.st rfl (Args.cons rfl (Args.cons rfl Args.nil))) rfl rfl (numbersOut_spec 129 [] [] (fun o => o.pays - o.has) (outs T sd s gs ask) _ _ _ (SlE.ofRow (List.Mem.head _) (fun _ _ => rfl)) (by rw [hl]; omega) (by rw [hl]; omega) (fun e he Z => lost_spec e _ (by have := hb e he; omega) (by have := hb e he; omega))) ?_; rintro _ _ ⟨bn, qn, rfl, rfl⟩) | (refine Xg.call (EnF.st rfl (Args.cons rfl Args.nil)) rfl rfl (hmx _ _ _ (SlE.ofRow (List.Mem.head _) (fun _ _ => rfl))) ?_; rintro _ H9 ⟨rfl, hH9⟩; subst H9) | (refine Xg.ev (EvF.move rfl rfl) rfl rfl ?_) | (refine Xg.ev (EvF.assign rfl rfl) rfl rfl ?_))))) | (refine XO.done rfl ?_; refine hK _ _ ?_; clear hK K) | refine X.seq rfl ?_ | refine X.region rfl (fun K hK => ?_) | refine X.ret rfl ?_)
  exact ret_one (by first | exact .inr rfl | exact .inl rfl) Tryz.results126 rfl (H' := H) (by (repeat (first | exact List.Sublist.refl _ | apply List.Sublist.cons)); done) ⟨rfl, rfl⟩
theorem loses_spec (T : Tm) (p : Pt) (s : Int) (gs : Sp) (ask : Bool) (H : List Row) :
    Fc Tryz.prog 95 [.agg (cGm T p gs s).toArray, .bool ask] H (fun v H' => ∃ b1 b2, v = .func (.func 126) #[] #[.pointer (some ⟨b1, 0, none⟩), .pointer (some ⟨b2, 0, none⟩)] ∧ H' = ⟨b2, 0, [.bool ask], some 4, 1⟩ :: ⟨b1, 0, cGm T p gs s, some 119, 14⟩ :: H) := by
  refine Fc.mk (callable Tryz.call95) Tryz.func95 rfl Tryz.ntmps95 rfl ?_; dsimp only [fr]
  repeat' (first | (refine XO.op rfl ?_; (first | ((first | refine Xo.ng rfl ?_); (first | (refine Xg.ev (EvF.makeFunc rfl Args.nil (Args.cons rfl (Args.cons rfl Args.nil))) rfl rfl ?_) | (refine Xg.ev (EvF.assign rfl rfl) rfl rfl ?_) | (refine Xg.st (StF.boxAgg rfl rfl) rfl rfl ?_; rintro _ _ ⟨bx, rfl, rfl⟩) | (refine Xg.st (StF.boxOne rfl rfl rfl) rfl rfl ?_; rintro _ _ ⟨bx, rfl, rfl⟩))))) | (refine XO.done rfl ?_; refine hK _ _ ?_; clear hK K) | refine X.seq rfl ?_ | refine X.region rfl (fun K hK => ?_) | refine X.ret rfl ?_)
  exact ret_one (by first | exact .inr rfl | exact .inl rfl) Tryz.results95 rfl (List.Sublist.refl _) ⟨_, _, rfl, rfl⟩
end Go.Proofs.YtjejppodhpdckaaGreat
end
section
set_option linter.unusedVariables false
set_option linter.unusedSimpArgs false
namespace Go.Proofs.YtjejppodhpdckaaGreat
open Go Go.Fw
set_option maxRecDepth 10000
theorem eqLs (d : Nat) (a b c e : Int) (w : World) : (Op.equalIn (d + 2) 154 (.agg ([.int .i64 a, .int .i64 b] : List Value).toArray) (.agg ([.int .i64 c, .int .i64 e] : List Value).toArray)).run Tryz.prog w = .ok (decide (a = c ∧ b = e)) w := by
  rw [run_equalIn_array w (d + 1) (n := 2) (e := 3) (i := Tryz.t3) _ _ Tryz.underlying154 (by kernel_rfl)]
  have hc : Tryz.prog.cellsOf 3 = 1 := by kernel_rfl
  simp only [List.range_succ, List.range_zero, Op.eqItems, hc, List.nil_append, List.cons_append]
  have hp : ∀ (x y : Int) (k : Nat) (v : Value) (w : World), ([.int .i64 x, .int .i64 y] : List Value).toArray[k]? = some v → (part 3 ([.int .i64 x, .int .i64 y] : List Value).toArray k).run Tryz.prog w = .ok v w := fun x y k v w h => run_part_plain w (by kernel_rfl) h
  have p0 : ∀ (x y : Int) (w : World), (part 3 ([.int .i64 x, .int .i64 y] : List Value).toArray 0).run Tryz.prog w = .ok (.int .i64 x) w := fun x y w => hp x y 0 _ w rfl
  have p1 : ∀ (x y : Int) (w : World), (part 3 ([.int .i64 x, .int .i64 y] : List Value).toArray 1).run Tryz.prog w = .ok (.int .i64 y) w := fun x y w => hp x y 1 _ w rfl
  by_cases h1 : a = c <;> by_cases h2 : b = e <;> simp [h1, h2, p0, p1, eqI, Result.andThen]
def tsCh : List TOp := [⟨some 8, [], [], []⟩, ⟨some 9, [0], [0], []⟩, ⟨some 10, [], [], []⟩, ⟨some 11, [0, 1, 2], [1, 2], []⟩, ⟨some 12, [], [], []⟩, ⟨some 13, [0, 1, 2, 3, 4], [4], []⟩, ⟨some 14, [], [], []⟩, ⟨some 15, [0, 1, 2, 3, 4, 5, 6], [5, 6], []⟩, ⟨some 16, [0, 1, 2, 3, 4, 5, 6, 7], [3, 7], []⟩, ⟨some 6, [], [], []⟩, ⟨none, [0, 1, 2, 3, 4, 5, 6, 7, 8, 9], [9, 8], [9]⟩]
def valCh (b2 : Nat) (T : Tm) (p : Pt) (gs : Sp) (sd s m n : Int) (k : Nat) (env : Env) : Value :=
  match k with
  | 0 => .agg (cGm T p gs s).toArray
  | 1 => .func (.func 126) #[] #[.pointer (some ⟨(env 1).1, 0, none⟩), .pointer (some ⟨(env 1).2, 0, none⟩)]
  | 2 => .int .i64 sd
  | 3 => .int .i64 m
  | 4 => .agg (cGm T p gs s).toArray
  | 5 => .func (.func 126) #[] #[.pointer (some ⟨(env 5).1, 0, none⟩), .pointer (some ⟨(env 5).2, 0, none⟩)]
  | 6 => .int .i64 sd
  | 7 => .int .i64 n
  | 8 => .agg ([.int .i64 m, .int .i64 n] : List Value).toArray
  | 9 => .pointer (some ⟨(env 9).1, 0, none⟩)
  | 10 => undef
  | _ => undef
def rowsCh (b2 : Nat) (T : Tm) (p : Pt) (gs : Sp) (sd s m n : Int) (k : Nat) (env : Env) : List Row :=
  match k with
  | 1 => [⟨(env 1).2, 0, [.bool false], some 4, 1⟩, ⟨(env 1).1, 0, cGm T p gs s, some 119, 14⟩]
  | 5 => [⟨(env 5).2, 0, [.bool true], some 4, 1⟩, ⟨(env 5).1, 0, cGm T p gs s, some 119, 14⟩]
  | 9 => [⟨(env 9).1, 0, [.int .i64 0, .int .i64 0], some 154, 2⟩]
  | 10 => [⟨(env 9).1, 0, [.int .i64 m, .int .i64 n], some 154, 2⟩]
  | _ => []
theorem locCh (b2 : Nat) (T : Tm) (p : Pt) (gs : Sp) (sd s m n : Int) : ∀ k env i q9, i ≠ k → (tAt tsCh k).sup.contains i = false → valCh b2 T p gs sd s m n k (upd env i q9) = valCh b2 T p gs sd s m n k env ∧ rowsCh b2 T p gs sd s m n k (upd env i q9) = rowsCh b2 T p gs sd s m n k env := by
  intro k env i q hk hs
  have hu : ∀ j, j ≠ i → upd env i q j = env j := fun j hj => by unfold upd; rw [if_neg hj]
  match k, hk, hs with
  | 0, _, _ => exact ⟨rfl, rfl⟩
  | 1, hk, hs => exact ⟨by simp only [valCh, hu 1 (fun e => hk e.symm)], by simp only [rowsCh, hu 1 (fun e => hk e.symm)]⟩
  | 2, _, _ => exact ⟨rfl, rfl⟩
  | 3, _, _ => exact ⟨rfl, rfl⟩
  | 4, _, _ => exact ⟨rfl, rfl⟩
  | 5, hk, hs => exact ⟨by simp only [valCh, hu 5 (fun e => hk e.symm)], by simp only [rowsCh, hu 5 (fun e => hk e.symm)]⟩
  | 6, _, _ => exact ⟨rfl, rfl⟩
  | 7, _, _ => exact ⟨rfl, rfl⟩
  | 8, _, _ => exact ⟨rfl, rfl⟩
  | 9, hk, hs => exact ⟨by simp only [valCh, hu 9 (fun e => hk e.symm)], by simp only [rowsCh, hu 9 (fun e => hk e.symm)]⟩
  | 10, hk, hs => exact ⟨by simp only [valCh, hu 9 (by rintro rfl; cases hs)], by simp only [rowsCh, hu 9 (by rintro rfl; cases hs)]⟩
  | _ + 11, _, _ => exact ⟨rfl, rfl⟩
def rdCh (k : Nat) : List Nat := match k with
  | 3 => [1]
  | 7 => [5]
  | _ => []
set_option maxHeartbeats 16000000 in
theorem choice_spec (T : Tm) (p : Pt) (sd s : Int) (gs : Sp) (H : List Row) (hT : TmOk H T p) (hok : tmOk T) (h1 : 1 ≤ sd ∧ sd ≤ 9) (h2 : 1 ≤ s ∧ s ≤ 9) (h3 : (1 ≤ gs.lo ∧ gs.lo ≤ gs.hi) ∧ gs.hi ≤ 9) :
    Fc Tryz.prog 62 [.agg (cGm T p gs s).toArray, .int .i64 sd] H (fun v H' => v = .tuple #[.bool (shA T sd s gs), .int .i64 (shN T sd s gs)] ∧ H' = H) := by
  have hT1 : ∀ Z : List Row, TmOk (Z ++ H) T p := fun Z => hT.sub (fun _ h => List.mem_append_right _ h)
  have r1 := fun b1 b2 c1 c2 o1 o2 H hm1 hm2 hT => loses1_spec T p sd s gs false b1 b2 c1 c2 o1 o2 H hm1 hm2 hT hok h1 h2 h3
  have r2 := fun b1 b2 c1 c2 o1 o2 H hm1 hm2 hT => loses1_spec T p sd s gs true b1 b2 c1 c2 o1 o2 H hm1 hm2 hT hok h1 h2 h3
  unfold shA shN
  generalize lsL T sd s gs false = m at r1 ⊢
  generalize lsL T sd s gs true = n at r2 ⊢
  refine Fc.mk (callable Tryz.call62) Tryz.func62 rfl Tryz.ntmps62 rfl ?_; dsimp only [fr]
  repeat' (first | (refine XO.op rfl ?_; (first | ((first | refine Xo.ng rfl ?_); (first | (refine Xg.ev (EvF.assign rfl rfl) rfl rfl ?_) | (refine Xg.st (StF.boxAgg rfl rfl) rfl rfl ?_; rintro _ _ ⟨bx, rfl, rfl⟩))))) | (refine XO.done rfl ?_; refine hK _ _ ?_; clear hK K) | refine X.seq rfl ?_ | refine X.region rfl (fun K hK => ?_))
  obtain ⟨b2, hb2⟩ : ∃ b, b = bx := ⟨_, rfl⟩
  rw [← hb2]
  clear hb2
  refine X.weakR (H' := ⟨b2, 0, cGm T p gs s, some 119, 14⟩ :: H) (by (repeat (first | exact List.Sublist.refl _ | apply List.Sublist.cons_cons | apply List.Sublist.cons)); done) ?_
  refine X.regionRd tsCh rdCh [1, 2] [(1, .int .i64 sd), (2, .pointer (some ⟨b2, 0, none⟩))] (valCh b2 T p gs sd s m n) (rowsCh b2 T p gs sd s m n) (fun _ => (0, 0)) (⟨b2, 0, cGm T p gs s, some 119, 14⟩ :: H) rfl mixed (by (repeat (first | exact Sub.nil _ | refine Sub.cons rfl ?_)); done) rfl (by kernel_rfl) (by kernel_rfl) (locCh b2 T p gs sd s m n) (List.Sublist.refl _) ?_ ?_
  · have hs : ∀ (Y : List Row), (∀ r ∈ ⟨b2, 0, cGm T p gs s, some 119, 14⟩ :: H, r ∈ Y) → TmOk Y T p := fun S hS => hT.sub (fun r hr => hS r (List.Mem.tail _ hr))
    repeat' (first | exact AllF.done rfl | (refine AllF.step rfl ?_ ?_; · (first | exact (Ob.ng rfl (ObK.pure (fun env R hR => by exact ⟨_, EvF.move rfl rfl, rfl⟩) rfl (fun _ => rfl))).toR | exact (Ob.ng rfl (ObK.pure (fun env R hR => by exact ⟨_, EvF.loadV rfl rfl (LoadV.whole (te rfl) rfl (hR _ (List.Mem.head _)) rfl), rfl⟩) rfl (fun _ => rfl))).toR | (refine ObR.ng rfl ?_; (first | (exact fun env S hS hrd => (OpF.call (EnF.st rfl (Args.cons rfl (Args.cons rfl Args.nil))) (loses_spec T p s gs false _)).mono (fun v H' ⟨b1, b2, hv, hH⟩ => ⟨(b1, b2), fun _ => hv, by rw [hH]; exact List.Perm.refl _⟩)) | (exact fun env S hS hrd => (OpF.call (EnF.st rfl (Args.cons rfl (Args.cons rfl Args.nil))) (loses_spec T p s gs true _)).mono (fun v H' ⟨b1, b2, hv, hH⟩ => ⟨(b1, b2), fun _ => hv, by rw [hH]; exact List.Perm.refl _⟩)) | (exact fun env S hS hrd => OpF.callV (Z := []) (EnF.dyn (first := []) (cap := [.pointer (some ⟨(env 1).1, 0, none⟩), .pointer (some ⟨(env 1).2, 0, none⟩)]) rfl rfl (Args.cons rfl Args.nil)) (r1 (env 1).1 (env 1).2 _ _ _ _ _ (hrd 1 (List.Mem.head _) _ (List.Mem.tail _ (List.Mem.head _))) (hrd 1 (List.Mem.head _) _ (List.Mem.head _)) (hs S hS)) rfl rfl) | (exact fun env S hS hrd => OpF.callV (Z := []) (EnF.dyn (first := []) (cap := [.pointer (some ⟨(env 5).1, 0, none⟩), .pointer (some ⟨(env 5).2, 0, none⟩)]) rfl rfl (Args.cons rfl Args.nil)) (r2 (env 5).1 (env 5).2 _ _ _ _ _ (hrd 5 (List.Mem.head _) _ (List.Mem.tail _ (List.Mem.head _))) (hrd 5 (List.Mem.head _) _ (List.Mem.head _)) (hs S hS)) rfl rfl) | (exact fun env S hS hrd => (StF.ofEv (v := .agg ([.int .i64 m, .int .i64 n] : List Value).toArray) (EvF.buildArr (cs := [.int .i64 m, .int .i64 n]) rfl (ArgsP.cons rfl (ArgsP.cons rfl ArgsP.nil)) (te rfl) (te rfl) Tryz.zeroValue154 rfl)).op.mono (fun v H' ⟨hv, hH⟩ => ⟨(0, 0), fun _ => hv, by rw [hH]; exact List.Perm.refl _⟩)) | (exact fun env S hS hrd => (StF.alloc rfl Tryz.zeroValue154 rfl).op.mono (fun v H' ⟨b, hv, hH⟩ => ⟨(b, 0), fun _ => hv, by rw [hH]; exact List.Perm.refl _⟩)) | (exact fun env S hS hrd => (StF.storeAll (i := 0) (vs := [.int .i64 m, .int .i64 n]) (cs := [.int .i64 0, .int .i64 0]) rfl rfl rfl (te rfl) rfl rfl rfl rfl).op.mono (fun v H' ⟨hv, hH⟩ => ⟨(0, 0), fun h => absurd rfl h, by rw [hH]; exact List.Perm.refl _⟩)))))))
  intro env t ha hv
  refine ⟨_, ha.cons (hv 9 6 (Nat.le_of_ble_eq_true rfl) rfl), ?_⟩
  clear hv ha
  show X _ _ _ ((6, .pointer (some ⟨(env 9).1, 0, none⟩)) :: _) (⟨(env 1).2, 0, [.bool false], some 4, 1⟩ :: ⟨(env 1).1, 0, cGm T p gs s, some 119, 14⟩ :: ⟨(env 5).2, 0, [.bool true], some 4, 1⟩ :: ⟨(env 5).1, 0, cGm T p gs s, some 119, 14⟩ :: ⟨(env 9).1, 0, [.int .i64 m, .int .i64 n], some 154, 2⟩ :: ⟨b2, 0, cGm T p gs s, some 119, 14⟩ :: H) _
  obtain ⟨b6, hb6⟩ : ∃ b, b = (env 9).1 := ⟨_, rfl⟩
  rw [← hb6]
  clear hb6
  refine X.weakR (H' := ⟨b6, 0, [.int .i64 m, .int .i64 n], some 154, 2⟩ :: H) (by (repeat (first | exact List.Sublist.refl _ | apply List.Sublist.cons_cons | apply List.Sublist.cons)); done) ?_
  repeat' (first | (refine XO.op rfl ?_; (first | ((first | refine Xo.ng rfl ?_); (first | (refine Xg.ev (EvF.indexArray (i := 0) rfl rfl rfl (te rfl) (te rfl) (by omega) (by omega)) rfl rfl ?_) | (refine Xg.ev (EvF.indexArray (i := 1) rfl rfl rfl (te rfl) (te rfl) (by omega) (by omega)) rfl rfl ?_) | (refine Xg.ev (EvF.buildArr (cs := [.int .i64 (min m n), .int .i64 (max m n)]) rfl (ArgsP.cons rfl (ArgsP.cons rfl ArgsP.nil)) (te rfl) (te rfl) Tryz.zeroValue154 rfl) rfl rfl ?_) | (refine Xg.ev (EvF.loadV rfl rfl (LoadV.own (te rfl) rfl (List.Mem.head _) rfl)) rfl rfl ?_) | (refine Xg.ev (EvF.min64 rfl rfl rfl) rfl rfl ?_) | (refine Xg.ev (EvF.max64 rfl rfl rfl) rfl rfl ?_) | (refine Xg.st (StF.alloc rfl Tryz.zeroValue30 rfl) rfl rfl ?_; rintro _ _ ⟨bx, rfl, rfl⟩) | (refine Xg.st0 (StF.storeAll (i := 0) rfl rfl rfl (te rfl) rfl rfl rfl rfl) rfl ?_; rintro _ _ ⟨rfl, rfl⟩; dsimp only [List.set]))))) | (refine XO.done rfl ?_; refine hK _ _ ?_; clear hK K) | (refine XQ.op rfl ?_; (first | ((first | refine Yo.ng rfl ?_); (first | (refine Yg.ev (EvF.indexArray (i := 0) rfl rfl rfl (te rfl) (te rfl) (by omega) (by omega)) rfl rfl ?_) | (refine Yg.ev (EvF.eqSt rfl rfl rfl (by kernel_rfl) (fun w => eqLs 9998 m n (min m n) (max m n) w) rfl) rfl rfl ?_) | (refine Yg.ev (EvF.assign rfl rfl) rfl rfl ?_) | (refine Yg.ev (EvF.loadV rfl rfl (LoadV.own (te rfl) rfl (List.Mem.head _) rfl)) rfl rfl ?_) | (refine Yg.ev (EvF.loadV rfl rfl (LoadV.whole (te rfl) rfl (List.Mem.head _) rfl)) rfl rfl ?_) | (refine Yg.ev (EvF.loadV rfl rfl (LoadV.whole (te rfl) rfl (List.Mem.tail _ (List.Mem.head _)) rfl)) rfl rfl ?_))))) | (refine XQ.done rfl ?_; refine hK _ ?_; clear hK K) | refine X.seq rfl ?_ | refine X.region rfl (fun K hK => ?_) | refine X.regionD rfl mixed (by kernel_rfl) (fun K hK => ?_) | refine X.ret rfl ?_)
  have e1 : (!decide (m = min m n ∧ n = max m n)) = decide (n < m) := by
    by_cases hnm : n < m
    · rw [decide_eq_true hnm, decide_eq_false (by omega)]; rfl
    · rw [decide_eq_false hnm, decide_eq_true (by omega)]; rfl
  have e2 : min m n = if n < m then n else m := by split <;> omega
  exact ret_two (by first | exact .inr rfl | exact .inl rfl) Tryz.results62 rfl rfl (H' := H) (by (repeat (first | exact List.Sublist.refl _ | apply List.Sublist.cons)); done) ⟨by rw [e1, e2], rfl⟩
end Go.Proofs.YtjejppodhpdckaaGreat
end
section
set_option linter.unusedVariables false
set_option linter.unusedSimpArgs false
namespace Go.Proofs.YtjejppodhpdckaaGreat
open Go Go.Fw
set_option maxRecDepth 10000
def abG (sd s : Int) (gs : Sp) : Ab := ⟨[], [lo1 ⟨sd, s⟩, ⟨gs.lo, gs.hi, s, s⟩], [], [lo1 ⟨sd, s⟩]⟩
theorem openAsk (T : Tm) (sd s : Int) (gs : Sp) : openE T (abG sd s gs) = askE T sd s gs := by
  unfold openE askE
  have h1 : askD (abG sd s gs) := fun d hd => absurd hd List.not_mem_nil
  have h2 : askG (abG sd s gs) ↔ (1 ≤ sd ∧ sd ≤ 9) ∧ partOk gs.lo gs.hi := by simp [askG, abG, lo1, partOk]
  have h3 : askS (abG sd s gs) ↔ 1 ≤ s ∧ s ≤ 9 := by simp [askS, abG, lo1, partOk]
  have h4 : askM (abG sd s gs) := fun d hd => absurd hd List.not_mem_nil
  have h5 : askN T (abG sd s gs) ↔ may T ⟨sd, s⟩ = true := by
    simp only [askN, abG, List.mem_cons, List.not_mem_nil, or_false, forall_eq, cls_lo1]
    split <;> simp_all
  simp only [h1, h2, h3, h4, h5, if_true]
theorem askE_zero {T : Tm} {sd s : Int} {gs : Sp} (h : askE T sd s gs = 0) : tmOk T ∧ (1 ≤ sd ∧ sd ≤ 9) ∧ (1 ≤ s ∧ s ≤ 9) ∧ ((1 ≤ gs.lo ∧ gs.lo ≤ gs.hi) ∧ gs.hi ≤ 9) := by
  unfold askE at h
  by_cases h1 : tmOk T
  · by_cases h2 : (1 ≤ sd ∧ sd ≤ 9) ∧ partOk gs.lo gs.hi
    · by_cases h3 : 1 ≤ s ∧ s ≤ 9
      · exact ⟨h1, h2.1, h3, by have := h2.2; unfold partOk at this; omega⟩
      · simp [h1, h2, h3] at h
    · simp [h1, h2] at h
  · simp [h1] at h
def tsAk : List TOp := [⟨some 18, [], [], []⟩, ⟨some 19, [], [], []⟩, ⟨some 20, [], [], []⟩, ⟨some 21, [], [], []⟩, ⟨some 22, [3], [3], []⟩, ⟨some 23, [2, 3, 4], [2, 4], []⟩, ⟨some 24, [1, 2, 3, 4, 5], [1, 5], []⟩, ⟨some 25, [], [], []⟩, ⟨some 26, [7], [7], []⟩, ⟨some 27, [1, 2, 3, 4, 5, 6, 7, 8], [6, 8], []⟩, ⟨some 28, [0, 1, 2, 3, 4, 5, 6, 7, 8, 9], [0, 9], [6, 8]⟩, ⟨some 17, [0, 1, 2, 3, 4, 5, 6, 7, 8, 9, 10], [10], []⟩, ⟨some 29, [0, 1, 2, 3, 4, 5, 6, 7, 8, 9, 10, 11], [11], []⟩, ⟨some 30, [0, 1, 2, 3, 4, 5, 6, 7, 8, 9, 10, 11], [11], []⟩, ⟨some 12, [], [], []⟩, ⟨none, [0, 1, 2, 3, 4, 5, 6, 7, 8, 9, 10, 11, 12, 14], [14, 12], [14]⟩, ⟨some 10, [0, 1, 2, 3, 4, 5, 6, 7, 8, 9, 10, 11, 12, 13, 14, 15], [13], []⟩]
def valAk (b4 b6 b11 : Nat) (T TX : Tm) (p q : Pt) (gs : Sp) (sd s e : Int) (k : Nat) (env : Env) : Value :=
  match k with
  | 0 => .agg (cTm T p).toArray
  | 1 => .agg (cLo (lo1 ⟨sd, s⟩)).toArray
  | 2 => .agg (cSp gs).toArray
  | 3 => .int .i64 s
  | 4 => .agg (cSp ⟨s, s⟩).toArray
  | 5 => .agg (cLo ⟨gs.lo, gs.hi, s, s⟩).toArray
  | 6 => .slice (some ⟨(env 6).1, 0, none⟩) 2 2
  | 7 => .agg (cLo (lo1 ⟨sd, s⟩)).toArray
  | 8 => .slice (some ⟨(env 8).1, 0, none⟩) 1 1
  | 9 => .agg (cAb (abG sd s gs) ⟨none, 0, some ⟨(env 6).1, 0, none⟩, 2, none, 0, some ⟨(env 8).1, 0, none⟩, 1⟩).toArray
  | 10 => .tuple #[.agg (cTm TX q).toArray, .int .i64 e]
  | 11 => .tuple #[.agg (cTm TX q).toArray, .int .i64 e]
  | 12 => .agg (cTm TX q).toArray
  | 13 => .int .i64 e
  | 14 => .pointer (some ⟨(env 14).1, 0, none⟩)
  | 15 => undef
  | 16 => .int .i64 e
  | _ => undef
def rowsAk (b4 b6 b11 : Nat) (T TX : Tm) (p q : Pt) (gs : Sp) (sd s e : Int) (k : Nat) (env : Env) : List Row :=
  match k with
  | 6 => [⟨(env 6).1, 0, (cLo (lo1 ⟨sd, s⟩) ++ cLo ⟨gs.lo, gs.hi, s, s⟩), some 92, 2 * 4⟩]
  | 8 => [⟨(env 8).1, 0, cLo (lo1 ⟨sd, s⟩), some 92, 1 * 4⟩]
  | 14 => [⟨(env 14).1, 0, cTm Tz pz, some 99, 11⟩]
  | 15 => [⟨(env 14).1, 0, cTm TX q, some 99, 11⟩]
  | _ => []
theorem locAk (b4 b6 b11 : Nat) (T TX : Tm) (p q : Pt) (gs : Sp) (sd s e : Int) : ∀ k env i q9, i ≠ k → (tAt tsAk k).sup.contains i = false → valAk b4 b6 b11 T TX p q gs sd s e k (upd env i q9) = valAk b4 b6 b11 T TX p q gs sd s e k env ∧ rowsAk b4 b6 b11 T TX p q gs sd s e k (upd env i q9) = rowsAk b4 b6 b11 T TX p q gs sd s e k env := by
  intro k env i q hk hs
  have hu : ∀ j, j ≠ i → upd env i q j = env j := fun j hj => by unfold upd; rw [if_neg hj]
  match k, hk, hs with
  | 0, _, _ => exact ⟨rfl, rfl⟩
  | 1, _, _ => exact ⟨rfl, rfl⟩
  | 2, _, _ => exact ⟨rfl, rfl⟩
  | 3, _, _ => exact ⟨rfl, rfl⟩
  | 4, _, _ => exact ⟨rfl, rfl⟩
  | 5, _, _ => exact ⟨rfl, rfl⟩
  | 6, hk, hs => exact ⟨by simp only [valAk, hu 6 (fun e => hk e.symm)], by simp only [rowsAk, hu 6 (fun e => hk e.symm)]⟩
  | 7, _, _ => exact ⟨rfl, rfl⟩
  | 8, hk, hs => exact ⟨by simp only [valAk, hu 8 (fun e => hk e.symm)], by simp only [rowsAk, hu 8 (fun e => hk e.symm)]⟩
  | 9, hk, hs => exact ⟨by simp only [valAk, hu 6 (by rintro rfl; cases hs), hu 8 (by rintro rfl; cases hs)], by simp only [rowsAk, hu 6 (by rintro rfl; cases hs), hu 8 (by rintro rfl; cases hs)]⟩
  | 10, _, _ => exact ⟨rfl, rfl⟩
  | 11, _, _ => exact ⟨rfl, rfl⟩
  | 12, _, _ => exact ⟨rfl, rfl⟩
  | 13, _, _ => exact ⟨rfl, rfl⟩
  | 14, hk, hs => exact ⟨by simp only [valAk, hu 14 (fun e => hk e.symm)], by simp only [rowsAk, hu 14 (fun e => hk e.symm)]⟩
  | 15, hk, hs => exact ⟨by simp only [valAk, hu 14 (by rintro rfl; cases hs)], by simp only [rowsAk, hu 14 (by rintro rfl; cases hs)]⟩
  | 16, _, _ => exact ⟨rfl, rfl⟩
  | _ + 17, _, _ => exact ⟨rfl, rfl⟩
set_option maxHeartbeats 16000000 in
theorem kAsk_spec (T : Tm) (p : Pt) (sd s : Int) (gs : Sp) (H : List Row) (hT : TmOk H T p) :
    Fc Tryz.prog 21 [.agg (cTm T p).toArray, .int .i64 sd, .agg (cSp gs).toArray, .int .i64 s] H (fun v H' => v = .tuple #[.bool (askA T sd s gs), .int .i64 (askL T sd s gs), .int .i64 (askE T sd s gs)] ∧ H' = H) := by
  have hT1 : ∀ Z : List Row, TmOk (Z ++ H) T p := fun Z => hT.sub (fun _ h => List.mem_append_right _ h)
  obtain ⟨TX, q, hTX, hop⟩ := open_fn T p (abG sd s gs) (fun d hd => absurd hd List.not_mem_nil) HI1
  rw [openAsk] at hTX hop
  have hz := @askE_zero T sd s gs
  unfold askA askL
  obtain ⟨e, he⟩ : ∃ e, askE T sd s gs = e := ⟨_, rfl⟩
  rw [he] at hTX hop hz ⊢
  refine Fc.mk (callable Tryz.call21) Tryz.func21 rfl Tryz.ntmps21 rfl ?_; dsimp only [fr]
  repeat' (first | (refine XO.op rfl ?_; (first | ((first | refine Xo.ng rfl ?_); (first | (refine Xg.call (EnF.st rfl (Args.cons rfl (Args.cons rfl Args.nil))) rfl rfl (class_spec _ _ _) ?_; rintro _ H9 ⟨rfl, hH9⟩; subst H9) | (refine Xg.call (EnF.st rfl (Args.cons rfl Args.nil)) rfl rfl (only_spec ⟨sd, s⟩ _) ?_; rintro _ H9 ⟨rfl, hH9⟩; subst H9) | (refine Xg.ev (EvF.move rfl rfl) rfl rfl ?_) | (refine Xg.ev (EvF.assign rfl rfl) rfl rfl ?_) | (refine Xg.st (StF.boxAgg rfl rfl) rfl rfl ?_; rintro _ _ ⟨bx, rfl, rfl⟩) | (refine Xg.st (StF.alloc rfl Tryz.zeroValue92 rfl) rfl rfl ?_; rintro _ _ ⟨bx, rfl, rfl⟩) | (refine Xg.st0 (StF.storeAll (i := 0) rfl rfl rfl (te rfl) rfl rfl rfl rfl) rfl ?_; rintro _ _ ⟨rfl, rfl⟩; dsimp only [List.set]))))) | (refine XO.done rfl ?_; refine hK _ _ ?_; clear hK K) | refine X.seq rfl ?_ | refine X.region rfl (fun K hK => ?_))
  rename_i b4 b6
  obtain ⟨b11, hb11⟩ : ∃ b, b = bx := ⟨_, rfl⟩
  rw [← hb11]
  clear hb11
  refine X.weakR (H' := ⟨b11, 0, cLo (lo1 ⟨sd, s⟩), some 92, 4⟩ :: ⟨b6, 0, cSp gs, some 30, 2⟩ :: ⟨b4, 0, cTm T p, some 32, 11⟩ :: H) (by (repeat (first | exact List.Sublist.refl _ | apply List.Sublist.cons_cons | apply List.Sublist.cons)); done) ?_
  refine X.regionOb tsAk [1, 3, 4, 6, 11] [(1, .int .i64 sd), (3, .int .i64 s), (4, .pointer (some ⟨b4, 0, none⟩)), (6, .pointer (some ⟨b6, 0, none⟩)), (11, .pointer (some ⟨b11, 0, none⟩))] (valAk b4 b6 b11 T TX p q gs sd s e) (rowsAk b4 b6 b11 T TX p q gs sd s e) (fun _ => (0, 0)) (⟨b11, 0, cLo (lo1 ⟨sd, s⟩), some 92, 4⟩ :: ⟨b6, 0, cSp gs, some 30, 2⟩ :: ⟨b4, 0, cTm T p, some 32, 11⟩ :: H) rfl mixed (by (repeat (first | exact Sub.nil _ | refine Sub.cons rfl ?_)); done) rfl (by kernel_rfl) (locAk b4 b6 b11 T TX p q gs sd s e) (List.Sublist.refl _) ?_ ?_
  · have hs : ∀ (Y Z : List Row), (∀ r ∈ ⟨b11, 0, cLo (lo1 ⟨sd, s⟩), some 92, 4⟩ :: ⟨b6, 0, cSp gs, some 30, 2⟩ :: ⟨b4, 0, cTm T p, some 32, 11⟩ :: H, r ∈ Y) → TmOk (Z ++ Y) T p := fun Y Z hS => hT.sub (fun r hr => List.mem_append_right _ (hS r (List.mem_append_right [_, _, _] hr)))
    repeat' (first | exact AllF.done rfl | (refine AllF.step rfl ?_ ?_; · (first | fail | ((first | refine Ob.ng rfl ?_); (first | exact ObK.pure (fun env R hR => by exact ⟨_, EvF.move rfl rfl, rfl⟩) rfl (fun _ => rfl) | exact ObK.pure (fun env R hR => by exact ⟨_, EvF.assign rfl rfl, rfl⟩) rfl (fun _ => rfl) | exact ObK.pure (fun env R hR => by exact ⟨_, EvF.loadV rfl rfl (LoadV.whole (te rfl) rfl (hR _ (List.Mem.head _)) rfl), rfl⟩) rfl (fun _ => rfl) | exact ObK.pure (fun env R hR => by exact ⟨_, EvF.loadV rfl rfl (LoadV.whole (te rfl) rfl (hR _ (List.Mem.tail _ (List.Mem.head _))) rfl), rfl⟩) rfl (fun _ => rfl) | exact ObK.pure (fun env R hR => by exact ⟨_, EvF.loadV rfl rfl (LoadV.whole (te rfl) rfl (hR _ (List.Mem.tail _ (List.Mem.tail _ (List.Mem.head _)))) rfl), rfl⟩) rfl (fun _ => rfl) | (exact fun env S hS => OpF.callV (Z := []) (EnF.st rfl (Args.cons rfl Args.nil)) (just_spec s _) rfl rfl) | (exact ObK.pure (fun env S hS => ⟨_, EvF.build (cs := cLo ⟨gs.lo, gs.hi, s, s⟩) rfl (ArgsP.cons rfl (ArgsP.cons rfl ArgsP.nil)) (te rfl) (Places.cons (te rfl) (Places.cons (te rfl) Places.nil)) Tryz.zeroValue92 rfl, rfl⟩) rfl (fun _ => rfl)) | (exact fun env S hS => (StF.buildTwo rfl elLo rfl rfl rfl rfl rfl rfl (by decide) (by decide)).op.mono (fun v H' ⟨b, hv, hH⟩ => ⟨(b, 0), fun _ => hv, by rw [hH]; exact List.Perm.refl _⟩)) | (exact fun env S hS => (StF.buildOne rfl elLo rfl rfl rfl (by decide) (by decide)).op.mono (fun v H' ⟨b, hv, hH⟩ => ⟨(b, 0), fun _ => hv, by rw [hH]; exact List.Perm.refl _⟩)) | (exact ObK.pure (fun env S hS => ⟨_, EvF.build (cs := cAb (abG sd s gs) ⟨none, 0, some ⟨(env 6).1, 0, none⟩, 2, none, 0, some ⟨(env 8).1, 0, none⟩, 1⟩) rfl (ArgsP.cons rfl (ArgsP.cons rfl ArgsP.nil)) (te rfl) (Places.cons (te rfl) (Places.cons (te rfl) (Places.cons (te rfl) (Places.cons (te rfl) Places.nil)))) Tryz.zeroValue97 rfl, rfl⟩) rfl (fun _ => rfl)) | (exact fun env S hS => OpF.callV (Z := [_, _]) (EnF.st rfl (Args.cons rfl (Args.cons rfl Args.nil))) (hop ⟨none, 0, some ⟨(env 6).1, 0, none⟩, 2, none, 0, some ⟨(env 8).1, 0, none⟩, 1⟩ _ (hs S [_, _] hS) ⟨sleNil, SlE.ofRow (List.Mem.head _) (fun _ _ => rfl), sleNil, SlE.ofRow (List.Mem.tail _ (List.Mem.head _)) (fun _ _ => rfl), (fun d hd => absurd hd List.not_mem_nil), Nat.zero_le _, Nat.le_of_ble_eq_true rfl, Nat.zero_le _, Nat.le_of_ble_eq_true rfl⟩) rfl rfl) | (exact ObK.pure (fun env S hS => ⟨_, EvF.extract rfl rfl rfl, rfl⟩) rfl (fun _ => rfl)) | (exact fun env S hS => (StF.alloc rfl Tryz.zeroValue99 rfl).op.mono (fun v H' ⟨b, hv, hH⟩ => ⟨(b, 0), fun _ => hv, by rw [hH]; exact List.Perm.refl _⟩)) | (exact fun env S hS => (StF.storeAll (i := 0) (vs := cTm TX q) (cs := cTm Tz pz) rfl rfl rfl (te rfl) rfl rfl rfl rfl).op.mono (fun v H' ⟨hv, hH⟩ => ⟨(0, 0), fun h => absurd rfl h, by rw [hH]; exact List.Perm.refl _⟩)))))))
  intro env t ha hv
  refine ⟨_, (ha.cons (hv 14 12 (Nat.le_of_ble_eq_true rfl) rfl)).cons (hv 16 10 (Nat.le_of_ble_eq_true rfl) rfl), ?_⟩
  clear hv ha
  show X _ _ _ ((10, .int .i64 e) :: (12, .pointer (some ⟨(env 14).1, 0, none⟩)) :: _) (⟨(env 14).1, 0, cTm TX q, some 99, 11⟩ :: ⟨b11, 0, cLo (lo1 ⟨sd, s⟩), some 92, 4⟩ :: ⟨b6, 0, cSp gs, some 30, 2⟩ :: ⟨b4, 0, cTm T p, some 32, 11⟩ :: H) _
  by_cases h0 : e = 0
  · obtain ⟨rfl, rfl⟩ := hTX h0
    obtain ⟨hok, h1, h2, h3⟩ := hz h0
    subst h0
    rw [if_pos rfl, if_pos rfl]
    repeat' (first | (refine XO.op rfl ?_; (first | ((first | refine Xo.ng rfl ?_); (first | (refine Xg.ev (EvF.build (cs := cGm TX q gs s) rfl (ArgsP.cons rfl (ArgsP.cons rfl (ArgsP.cons rfl ArgsP.nil))) (te rfl) (Places.cons (te rfl) (Places.cons (te rfl) (Places.cons (te rfl) Places.nil))) Tryz.zeroValue119 rfl) rfl rfl ?_) | (refine Xg.call (EnF.st rfl (Args.cons rfl (Args.cons rfl Args.nil))) rfl rfl (choice_spec TX q sd s gs _ (hT1 [_, _, _, _]) hok h1 h2 h3) ?_; rintro _ H9 ⟨rfl, hH9⟩; subst H9) | (refine Xg.ev (EvF.move rfl rfl) rfl rfl ?_) | (refine Xg.ev (EvF.assign rfl rfl) rfl rfl ?_) | (refine Xg.ev (EvF.cmp rfl rfl rfl rfl) rfl rfl ?_) | (refine Xg.ev (EvF.loadV rfl rfl (LoadV.whole (te rfl) rfl (List.Mem.head _) rfl)) rfl rfl ?_) | (refine Xg.ev (EvF.loadV rfl rfl (LoadV.whole (te rfl) rfl (List.Mem.tail _ (List.Mem.tail _ (List.Mem.head _))) rfl)) rfl rfl ?_) | (refine Xg.ev (EvF.extract rfl rfl rfl) rfl rfl ?_))))) | (refine XO.done rfl ?_; refine hK _ _ ?_; clear hK K) | refine X.seq rfl ?_ | refine X.region rfl (fun K hK => ?_) | refine X.skip rfl ?_ | refine X.ret rfl ?_ | (refine X.ite rfl rfl (fun hc => ?_); (first | (with_reducible refine Xb.caseN hc (fun h => ?_) (fun h => ?_))) <;> clear hc))
    all_goals try (exfalso; contradiction)
    exact ret_three (by first | exact .inr rfl | exact .inl rfl) Tryz.results21 rfl rfl rfl (H' := H) (by (repeat (first | exact List.Sublist.refl _ | apply List.Sublist.cons)); done) ⟨rfl, rfl⟩
  · rw [if_neg h0, if_neg h0]
    repeat' (first | (refine XO.op rfl ?_; (first | ((first | refine Xo.ng rfl ?_); (first | (refine Xg.ev (EvF.move rfl rfl) rfl rfl ?_) | (refine Xg.ev (EvF.assign rfl rfl) rfl rfl ?_) | (refine Xg.ev (EvF.cmp rfl rfl rfl rfl) rfl rfl ?_) | (refine Xg.ev (EvF.loadV rfl rfl (LoadV.whole (te rfl) rfl (List.Mem.head _) rfl)) rfl rfl ?_) | (refine Xg.ev (EvF.loadV rfl rfl (LoadV.whole (te rfl) rfl (List.Mem.tail _ (List.Mem.tail _ (List.Mem.head _))) rfl)) rfl rfl ?_))))) | (refine XO.done rfl ?_; refine hK _ _ ?_; clear hK K) | refine X.seq rfl ?_ | refine X.region rfl (fun K hK => ?_) | refine X.skip rfl ?_ | refine X.ret rfl ?_ | (refine X.ite rfl rfl (fun hc => ?_); (first | (with_reducible refine Xb.caseN hc (fun h => ?_) (fun h => ?_))) <;> clear hc))
    all_goals try (exfalso; contradiction)
    exact ret_three (by first | exact .inr rfl | exact .inl rfl) Tryz.results21 rfl rfl rfl (H' := H) (by (repeat (first | exact List.Sublist.refl _ | apply List.Sublist.cons)); done) ⟨rfl, rfl⟩
end Go.Proofs.YtjejppodhpdckaaGreat
end
section
set_option linter.unusedVariables false
set_option linter.unusedSimpArgs false
namespace Go.Proofs.YtjejppodhpdckaaGreat
open Go Go.Fw
set_option maxRecDepth 10000
/-- what who says a grade gets at least -/
def gnL (T : Tm) (sd s : Int) (gs : Sp) : Int := minL ((outs T sd s gs (shA T sd s gs)).map (fun o => o.gets))
set_option maxHeartbeats 4000000 in
theorem gains_spec (T : Tm) (p : Pt) (sd s : Int) (gs : Sp) (H : List Row) (hT : TmOk H T p) (hok : tmOk T) (h1 : 1 ≤ sd ∧ sd ≤ 9) (h2 : 1 ≤ s ∧ s ≤ 9) (h3 : (1 ≤ gs.lo ∧ gs.lo ≤ gs.hi) ∧ gs.hi ≤ 9) :
    Fc Tryz.prog 96 [.agg (cGm T p gs s).toArray, .int .i64 sd] H (fun v H' => v = .int .i64 (gnL T sd s gs) ∧ H' = H) := by
  have hT1 : ∀ Z : List Row, TmOk (Z ++ H) T p := fun Z => hT.sub (fun _ h => List.mem_append_right _ h)
  have hch := fun H h => choice_spec T p sd s gs H h hok h1 h2 h3
  unfold gnL
  obtain ⟨ask, hask⟩ : ∃ a, shA T sd s gs = a := ⟨_, rfl⟩
  rw [hask] at hch ⊢
  have hl := outs_len T sd s gs ask
  have hl0 : ((outs T sd s gs ask).map (fun o => o.gets)).length = (outs T sd s gs ask).length := List.length_map ..
  have hmx := fun a c H h => minI_spec ((outs T sd s gs ask).map (fun o => o.gets)) a c H h (by rw [hl0, hl]; omega) (by rw [hl0, hl]; omega)
  rw [hl0] at hmx
  refine Fc.mk (callable Tryz.call96) Tryz.func96 rfl Tryz.ntmps96 rfl ?_; dsimp only [fr]
  repeat' (first | (refine XO.op rfl ?_; (first | ((first | refine Xo.ng rfl ?_); (first | (refine Xg.call (EnF.st rfl (Args.cons rfl (Args.cons rfl Args.nil))) rfl rfl (hch _ (hT1 [_])) ?_; rintro _ H9 ⟨rfl, hH9⟩; subst H9) | (refine Xg.call (EnF.st rfl (Args.cons rfl (Args.cons rfl (Args.cons rfl Args.nil)))) rfl rfl (outcomes_spec T p sd s gs ask _ (hT1 [_]) hok h1 h2 h3) ?_; rintro _ _ ⟨bo, qo, rfl, rfl⟩) | (refine Xg.call (EnF.st rfl (Args.cons rfl (Args.cons rfl Args.nil))) rfl rfl (numbersOut_spec 130 [] [] (fun o => o.gets) (outs T sd s gs ask) _ _ _ (SlE.ofRow (List.Mem.head _) (fun _ _ => rfl)) (by rw [hl]; omega) (by rw [hl]; omega) (fun e he Z => got_spec e _)) ?_; rintro _ _ ⟨bn, qn, rfl, rfl⟩) | (refine Xg.call (EnF.st rfl (Args.cons rfl Args.nil)) rfl rfl (hmx _ _ _ (SlE.ofRow (List.Mem.head _) (fun _ _ => rfl))) ?_; rintro _ H9 ⟨rfl, hH9⟩; subst H9) | (refine Xg.ev (EvF.move rfl rfl) rfl rfl ?_) | (refine Xg.ev (EvF.assign rfl rfl) rfl rfl ?_) | (refine Xg.ev (EvF.loadV rfl rfl (LoadV.whole (te rfl) rfl (List.Mem.head _) rfl)) rfl rfl ?_) | (refine Xg.ev (EvF.extract rfl rfl rfl) rfl rfl ?_) | (refine Xg.st (StF.boxAgg rfl rfl) rfl rfl ?_; rintro _ _ ⟨bx, rfl, rfl⟩))))) | (refine XO.done rfl ?_; refine hK _ _ ?_; clear hK K) | refine X.seq rfl ?_ | refine X.region rfl (fun K hK => ?_) | refine X.ret rfl ?_)
  exact ret_one (by first | exact .inr rfl | exact .inl rfl) Tryz.results96 rfl (H' := H) (by (repeat (first | exact List.Sublist.refl _ | apply List.Sublist.cons)); done) ⟨rfl, rfl⟩
end Go.Proofs.YtjejppodhpdckaaGreat
end
section
set_option linter.unusedVariables false
set_option linter.unusedSimpArgs false
namespace Go.Proofs.YtjejppodhpdckaaGreat
open Go Go.Fw
set_option maxRecDepth 10000
/-- the grade by which who delivers gets most, and that, of the first grades -/
def byS (T : Tm) (s : Int) (gs : Sp) : Nat → Int × Int
  | 0 => (0, 0)
  | k + 1 => if may T ⟨1 + k, s⟩ = true then (if (byS T s gs k).1 = 0 ∨ (byS T s gs k).2 < gnL T (1 + k) s gs then (1 + (k : Int), gnL T (1 + k) s gs) else byS T s gs k) else byS T s gs k
noncomputable def sayE (T : Tm) (s : Int) (gs : Sp) : Int := if tmOk T then (if partOk gs.lo gs.hi then (if 1 ≤ s ∧ s ≤ 9 then (if (byS T s gs 9).1 = 0 then 6 else 0) else 42) else 41) else 40
noncomputable def sayS (T : Tm) (s : Int) (gs : Sp) : Int := if sayE T s gs = 0 then (byS T s gs 9).1 else 0
noncomputable def sayG (T : Tm) (s : Int) (gs : Sp) : Int := if sayE T s gs = 0 then (byS T s gs 9).2 else 0
end Go.Proofs.YtjejppodhpdckaaGreat
end
section
set_option linter.unusedVariables false
set_option linter.unusedSimpArgs false
namespace Go.Proofs.YtjejppodhpdckaaGreat
open Go Go.Fw
set_option maxRecDepth 10000
theorem byS_none {T : Tm} {s : Int} {gs : Sp} (h : ¬ T.short ≤ s) : ∀ k, byS T s gs k = (0, 0)
  | 0 => rfl
  | k + 1 => by
    show (if may T ⟨1 + k, s⟩ = true then _ else _) = _
    rw [if_neg (by unfold may; rw [decide_eq_false (fun q => h q.2)]; decide), byS_none h k]
theorem byS_some {T : Tm} {s : Int} {gs : Sp} (hw : 1 ≤ T.worst) (h : T.short ≤ s) : ∀ k, 1 ≤ (byS T s gs (k + 1)).1
  | 0 => by
    show 1 ≤ (if may T ⟨1 + (0 : Nat), s⟩ = true then (if (byS T s gs 0).1 = 0 ∨ (byS T s gs 0).2 < gnL T (1 + (0 : Nat)) s gs then (1 + ((0 : Nat) : Int), gnL T (1 + (0 : Nat)) s gs) else byS T s gs 0) else byS T s gs 0).1
    rw [if_pos (by unfold may; exact decide_eq_true ⟨by dsimp only; omega, h⟩), if_pos (.inl rfl)]
    show (1 : Int) ≤ 1 + ((0 : Nat) : Int)
    omega
  | k + 1 => by
    have := byS_some (gs := gs) hw h k
    show 1 ≤ (if may T ⟨1 + (k + 1 : Nat), s⟩ = true then (if (byS T s gs (k + 1)).1 = 0 ∨ (byS T s gs (k + 1)).2 < gnL T (1 + (k + 1 : Nat)) s gs then (1 + ((k + 1 : Nat) : Int), gnL T (1 + (k + 1 : Nat)) s gs) else byS T s gs (k + 1)) else byS T s gs (k + 1)).1
    split
    · split
      · dsimp only; omega
      · exact this
    · exact this
def abY (s : Int) (gs : Sp) : Ab := ⟨[], [⟨gs.lo, gs.hi, s, s⟩], [], [⟨1, 9, s, s⟩]⟩
theorem cls_say {T : Tm} {s : Int} (hw : 1 ≤ T.worst) (h2 : 1 ≤ s ∧ s ≤ 9) : (cls T ⟨1, 9, s, s⟩).length ≠ 0 ↔ T.short ≤ s := by
  constructor
  · intro h
    by_cases hs : T.short ≤ s
    · exact hs
    · exfalso
      apply h
      rw [cls_all]
      rw [List.length_eq_zero_iff, List.filter_eq_nil_iff]
      intro c hc
      have hcs : c.s = s := by
        unfold allC allI rowA at hc
        obtain ⟨g, _, hc⟩ := List.mem_flatMap.1 hc
        obtain ⟨x, hx, rfl⟩ := List.mem_map.1 hc
        have := ir_bd hx
        dsimp only at this ⊢
        omega
      unfold may
      rw [decide_eq_false (fun q => hs (by rw [← hcs]; exact q.2))]
      decide
  · intro h h0
    have := mem_cls (T := T) (l := ⟨1, 9, s, s⟩) (c := ⟨1, s⟩) ⟨by dsimp only; omega, by dsimp only; omega⟩ ⟨Int.le_refl _, Int.le_refl _⟩ (by unfold may; exact decide_eq_true ⟨hw, h⟩)
    rw [List.length_eq_zero_iff] at h0
    rw [h0] at this
    cases this
theorem openSay (T : Tm) (s : Int) (gs : Sp) : openE T (abY s gs) = sayE T s gs := by
  unfold openE sayE
  have h1 : askD (abY s gs) := fun d hd => absurd hd List.not_mem_nil
  have h2 : askG (abY s gs) ↔ partOk gs.lo gs.hi := by simp [askG, abY]
  have h3 : askS (abY s gs) ↔ 1 ≤ s ∧ s ≤ 9 := by simp [askS, abY, partOk]
  have h4 : askM (abY s gs) := fun d hd => absurd hd List.not_mem_nil
  have h5 : askN T (abY s gs) ↔ (cls T ⟨1, 9, s, s⟩).length ≠ 0 := by simp [askN, abY]
  simp only [h1, h2, h3, h4, h5, if_true]
  by_cases hok : tmOk T
  · by_cases hp : partOk gs.lo gs.hi
    · by_cases hss : 1 ≤ s ∧ s ≤ 9
      · have hw : 1 ≤ T.worst := by have := hok.cls; omega
        rw [if_pos hok, if_pos hp, if_pos hss, if_pos hok, if_pos hp, if_pos hss]
        by_cases hsh : T.short ≤ s
        · rw [if_pos ((cls_say hw hss).2 hsh), if_neg (fun q => by have := byS_some (gs := gs) hw hsh 8; rw [show 8 + 1 = 9 from rfl, q] at this; omega)]
        · rw [if_neg (fun q => hsh ((cls_say hw hss).1 q)), if_pos (by rw [byS_none hsh])]
      · simp [hok, hp, hss]
    · simp [hok, hp]
  · simp [hok]
end Go.Proofs.YtjejppodhpdckaaGreat
end
