/- GradeChanges: for every desk, look and list of numbers the law returns true (the desks with a look more and without some, or the errors, are those of the reference, and nothing of what is handed in is changed or shared), and each argument reads afterwards as before. No condition. -/
import Derived.Test.YtminkpgacomicabW04
import Derived.Deep.Slices
import Derived.ChangeSame
import Derived.OpenShut
import Derived.ProofKit
import Derived.Test.YtminkpgacomicabRows
import Derived.WalkKit
import Derived.ChangeOld
import Derived.ShutString
section
set_option linter.unusedVariables false
set_option linter.unusedSimpArgs false
namespace Go.Proofs.Ytminkpgacomicab
open Go Go.Fw
set_option maxRecDepth 10000
set_option maxHeartbeats 8000000 in
theorem gradeChanges_spec (D : Dk) (p : Pd) (x : Lk) (l : List Int) (al : Option Addr) (cl : Nat) (H : List Row) (hD : DkOk H D p) (hl : SlE H al cI 1 l) (hc : D.looks.length ≤ p.c6) :
    Fc Try.prog 3 [.agg (cDk D p).toArray, .agg (cLk x).toArray, .slice al l.length cl] H (fun v _ => v = .bool true) := by
  have hD2 : ∀ r1 r2, DkOk (r1 :: r2 :: H) D p := fun r1 r2 => hD.sub (fun _ h => List.Mem.tail _ (List.Mem.tail _ h))
  refine Fc.mk (callable Try.call3) Try.func3 rfl Try.ntmps3 rfl ?_; dsimp only [fr]
  refine X.seq rfl ?_; refine X.region rfl (fun K hK => ?_); repeat' (first | (refine XO.op rfl ?_; (first | ((first | refine Xo.ng rfl ?_); (first | (refine Xg.ev (EvF.assign rfl rfl) rfl rfl ?_) | (refine Xg.st (StF.boxAgg rfl rfl) rfl rfl ?_; rintro _ _ ⟨bx, rfl, rfl⟩))))) | (refine XO.done rfl ?_; refine hK _ _ ?_; clear hK K))
  rename_i b3
  rename Nat => b4
  repeat' (first | (refine XO.op rfl ?_; (first | ((first | refine Xo.ng rfl ?_ | (refine Xo.g rfl rfl ?_; with_reducible refine Xw.ff ?_)); (first | (refine Xg.call (EnF.st rfl (by (repeat (first | exact Args.nil | refine Args.cons rfl ?_)); done)) rfl rfl (greatD_spec D p _) ?_; rintro _ H9 ⟨rfl, hH9⟩; subst H9) | (refine Xg.ev (EvF.move rfl rfl) rfl rfl ?_) | (refine Xg.ev (EvF.assign rfl rfl) rfl rfl ?_) | (refine Xg.ev (EvF.pickT rfl rfl rfl) rfl rfl ?_) | (refine Xg.ev (EvF.pickF rfl rfl rfl) rfl rfl ?_) | (refine Xg.ev (EvF.cmp rfl rfl rfl rfl) rfl rfl ?_) | (refine Xg.ev (EvF.lenSlice rfl rfl (te rfl)) rfl rfl ?_) | (refine Xg.ev (EvF.loadV rfl rfl (LoadV.whole (te rfl) rfl (List.Mem.tail _ (List.Mem.head _)) rfl)) rfl rfl ?_))) | (refine Xo.g rfl rfl ?_; (first | (with_reducible refine Xw.tf rfl rfl ?_) | (with_reducible refine Xw.case (fun h => ?_) (fun h => ?_) <;> simp only [h, decide_true, decide_false, Bool.not_true, Bool.not_false, and_self, and_true, true_and, and_false, false_and]))))) | (refine XO.done rfl ?_; refine hK _ _ ?_; clear hK K) | refine X.seq rfl ?_ | refine X.region rfl (fun K hK => ?_) | refine X.skip rfl ?_ | refine X.ret rfl ?_ | (refine X.ite rfl rfl (fun hc => ?_); (first | (with_reducible refine Xb.t hc ?_) | (with_reducible refine Xb.case hc (fun h => ?_) (fun h => ?_))) <;> clear hc))
  · exact ret_one (by first | exact .inr rfl | exact .inl rfl) Try.results3 rfl (List.Sublist.refl _) rfl
  · exact ret_one (by first | exact .inr rfl | exact .inl rfl) Try.results3 rfl (List.Sublist.refl _) rfl
  have hg : ¬ greatD D := by assumption
  have h1 : D.room.ages.length ≤ 1000 := by unfold greatD great at hg; omega
  have h2 : D.room.boxes.length ≤ 1000 := by unfold greatD great at hg; omega
  have h3 : D.room.mats.length ≤ 1000 := by unfold greatD great at hg; omega
  have h4 : D.bales.length ≤ 1000 := by unfold greatD great at hg; omega
  have h5 : D.cls.length ≤ 1000 := by unfold greatD great at hg; omega
  have h6 : D.looks.length ≤ 1000 := by unfold greatD great at hg; omega
  have h7 : l.length ≤ 1000 := by omega
  obtain ⟨q1, q2, q3, q4, q5, q6⟩ := smallD_put x ⟨h1, h2, h3, h4, h5, h6⟩
  obtain ⟨q7, q8, q9, qa, qb, qc⟩ := smallD_str l ⟨h1, h2, h3, h4, h5, h6⟩
  repeat' (first | (refine XO.op rfl ?_; (first | ((first | refine Xo.ng rfl ?_); (first | (refine Xg.call (EnF.st rfl (by (repeat (first | exact Args.nil | refine Args.cons rfl ?_)); done)) rfl rfl (twinD_spec D _ _ (hD2 _ _) (by omega) (by omega) (by omega) (by omega) (by omega) (by omega)) ?_; rintro _ _ ⟨t1, k1, t2, k2, t3, k3, t4, k4, t5, k5, t6, k6, rfl, rfl⟩) | (refine Xg.st (StF.buildNil rfl el55) rfl rfl ?_; rintro _ _ ⟨bz, rfl, rfl⟩) | (refine Xg.st (StF.appendSl (i := 0) rfl el55 rfl rfl rfl (hl.sub (fun _ hm => by repeat (first | exact hm | apply List.Mem.tail))) (fun e _ => one_i e) rfl (by decide) (by omega)) rfl rfl ?_; rintro _ _ ⟨bm, km, rfl, rfl⟩; dsimp only [List.eraseIdx]; simp only [Nat.zero_add, List.nil_append]) | (refine Xg.ev (EvF.move rfl rfl) rfl rfl ?_) | (refine Xg.ev (EvF.assign rfl rfl) rfl rfl ?_) | (refine Xg.ev (EvF.loadV rfl rfl (LoadV.whole (te rfl) rfl (List.Mem.head _) rfl)) rfl rfl ?_) | (refine Xg.st (StF.alloc rfl Try.zeroValue30 rfl) rfl rfl ?_; rintro _ _ ⟨bx, rfl, rfl⟩) | (refine Xg.st0 (StF.storeAll (i := 0) rfl rfl rfl (te rfl) rfl rfl rfl rfl) rfl ?_; rintro _ _ ⟨rfl, rfl⟩; dsimp only [List.set]))))) | (refine XO.done rfl ?_; refine hK _ _ ?_; clear hK K) | refine X.seq rfl ?_ | refine X.region rfl (fun K hK => ?_))
  rename Nat => b7
  obtain ⟨T3, hT3⟩ : ∃ T, T = ⟨bm, 0, l.flatMap cI, some 3, km * 1⟩ :: rAges D.room t1 k1 :: rBoxes D.room t2 k2 :: rMats D.room t3 k3 :: rInt D.bales t4 k4 :: rInt D.cls t5 k5 :: rLooks D t6 k6 :: H := ⟨_, rfl⟩
  have hDo : DkOk T3 D (plD t1 k1 t2 k2 t3 k3 t4 k4 t5 k5 t6 k6) := by
    rw [hT3]
    exact ⟨⟨ownSl (fun _ => rfl) (List.Mem.tail _ (List.Mem.head _)), ownSl (fun _ => rfl) (List.Mem.tail _ (List.Mem.tail _ (List.Mem.head _))), ownSl (fun _ => rfl) (List.Mem.tail _ (List.Mem.tail _ (List.Mem.tail _ (List.Mem.head _)))), by omega, by omega, by omega⟩, ownSl (fun _ => rfl) (List.Mem.tail _ (List.Mem.tail _ (List.Mem.tail _ (List.Mem.tail _ (List.Mem.head _))))), ownSl (fun _ => rfl) (List.Mem.tail _ (List.Mem.tail _ (List.Mem.tail _ (List.Mem.tail _ (List.Mem.tail _ (List.Mem.head _)))))), ownSl (fun _ => rfl) (List.Mem.tail _ (List.Mem.tail _ (List.Mem.tail _ (List.Mem.tail _ (List.Mem.tail _ (List.Mem.tail _ (List.Mem.head _))))))), by omega, by omega, by omega⟩
  have hDr : DkOk T3 D p := by rw [hT3]; exact hD.sub (fun _ h => (List.Mem.tail _ (List.Mem.tail _ (List.Mem.tail _ (List.Mem.tail _ (List.Mem.tail _ (List.Mem.tail _ (List.Mem.tail _ h))))))))
  have hll : SlE T3 al cI 1 l := by rw [hT3]; exact hl.sub (fun _ h => (List.Mem.tail _ (List.Mem.tail _ (List.Mem.tail _ (List.Mem.tail _ (List.Mem.tail _ (List.Mem.tail _ (List.Mem.tail _ h))))))))
  have hlm : SlE T3 (some ⟨bm, 0, none⟩) cI 1 l := by rw [hT3]; exact ownSl (fun _ => rfl) (List.Mem.head _)
  refine XO.permH (H' := ⟨b7, 0, cDk D (plD t1 k1 t2 k2 t3 k3 t4 k4 t5 k5 t6 k6), some 30, 9⟩ :: ⟨b4, 0, cLk x, some 32, 6⟩ :: ⟨b3, 0, cDk D p, some 30, 9⟩ :: T3) (by rw [hT3]; exact List.Perm.cons _ (List.perm_append_comm_assoc [_, _] [_, _, _, _, _, _, _] H)) ?_
  clear hT3
  repeat' (first | (refine XO.op rfl ?_; (first | ((first | refine Xo.ng rfl ?_); (first | (refine Xg.call (EnF.st rfl (by (repeat (first | exact Args.nil | refine Args.cons rfl ?_)); done)) rfl rfl (putD_spec D x ⟨t1, 0, none⟩ k1 ⟨t2, 0, none⟩ k2 ⟨t3, 0, none⟩ k3 ⟨t4, 0, none⟩ k4 ⟨t5, 0, none⟩ k5 ⟨t6, 0, none⟩ k6 _ (hDo.sub (fun r h => by simp [h])) (by omega) (by omega) (by omega) (by omega) (by omega) (by omega)) ?_; rintro _ _ ⟨pa, Za, rfl, rfl, ha⟩; dsimp only [tupD]) | (refine Xg.ev (EvF.move rfl rfl) rfl rfl ?_) | (refine Xg.ev (EvF.assign rfl rfl) rfl rfl ?_) | (refine Xg.ev (EvF.loadV rfl rfl (LoadV.whole (te rfl) rfl (List.Mem.tail _ (List.Mem.head _)) rfl)) rfl rfl ?_) | (refine Xg.ev (EvF.extract rfl rfl rfl) rfl rfl ?_) | (refine Xg.st (StF.alloc rfl Try.zeroValue30 rfl) rfl rfl ?_; rintro _ _ ⟨bx, rfl, rfl⟩) | (refine Xg.st0 (StF.storeAll (i := 0) rfl rfl rfl (te rfl) rfl rfl rfl rfl) rfl ?_; rintro _ _ ⟨rfl, rfl⟩; dsimp only [List.set]))))) | (refine XO.done rfl ?_; refine hK _ _ ?_; clear hK K) | refine X.seq rfl ?_ | refine X.region rfl (fun K hK => ?_))
  rename Nat => b9
  refine XO.permH (H' := ⟨b9, 0, cDk (gputF D x).1 pa, some 30, 9⟩ :: ⟨b7, 0, cDk D (plD t1 k1 t2 k2 t3 k3 t4 k4 t5 k5 t6 k6), some 30, 9⟩ :: ⟨b4, 0, cLk x, some 32, 6⟩ :: ⟨b3, 0, cDk D p, some 30, 9⟩ :: (Za ++ T3)) (List.Perm.cons _ (List.perm_append_comm_assoc [_, _, _] Za _)) ?_
  repeat' (first | (refine XO.op rfl ?_; (first | ((first | refine Xo.ng rfl ?_); (first | (refine Xg.call (EnF.st rfl (by (repeat (first | exact Args.nil | refine Args.cons rfl ?_)); done)) rfl rfl (refPutD_spec D p x _ (hDr.sub (fun r h => by simp [h])) (by omega) (by omega) (by omega) (by omega) (by omega) (by omega) hc) ?_; rintro _ _ ⟨pb, Zb, rfl, rfl, hb⟩; dsimp only [tupD]) | (refine Xg.ev (EvF.move rfl rfl) rfl rfl ?_) | (refine Xg.ev (EvF.assign rfl rfl) rfl rfl ?_) | (refine Xg.ev (EvF.loadV rfl rfl (LoadV.whole (te rfl) rfl (List.Mem.tail _ (List.Mem.tail _ (List.Mem.head _))) rfl)) rfl rfl ?_) | (refine Xg.ev (EvF.loadV rfl rfl (LoadV.whole (te rfl) rfl (List.Mem.tail _ (List.Mem.tail _ (List.Mem.tail _ (List.Mem.head _)))) rfl)) rfl rfl ?_) | (refine Xg.ev (EvF.extract rfl rfl rfl) rfl rfl ?_) | (refine Xg.st (StF.alloc rfl Try.zeroValue30 rfl) rfl rfl ?_; rintro _ _ ⟨bx, rfl, rfl⟩) | (refine Xg.st0 (StF.storeAll (i := 0) rfl rfl rfl (te rfl) rfl rfl rfl rfl) rfl ?_; rintro _ _ ⟨rfl, rfl⟩; dsimp only [List.set]))))) | (refine XO.done rfl ?_; refine hK _ _ ?_; clear hK K) | refine X.seq rfl ?_ | refine X.region rfl (fun K hK => ?_))
  rename Nat => b11
  refine XO.permH (H' := ⟨b11, 0, cDk (gputF D x).1 pb, some 30, 9⟩ :: ⟨b9, 0, cDk (gputF D x).1 pa, some 30, 9⟩ :: ⟨b7, 0, cDk D (plD t1 k1 t2 k2 t3 k3 t4 k4 t5 k5 t6 k6), some 30, 9⟩ :: ⟨b4, 0, cLk x, some 32, 6⟩ :: ⟨b3, 0, cDk D p, some 30, 9⟩ :: (Zb ++ (Za ++ T3))) (List.Perm.cons _ (List.perm_append_comm_assoc [_, _, _, _] Zb _)) ?_
  repeat' (first | (refine XO.op rfl ?_; (first | ((first | refine Xo.ng rfl ?_); (first | (refine Xg.call (EnF.st rfl (by (repeat (first | exact Args.nil | refine Args.cons rfl ?_)); done)) rfl rfl (strD_spec D l _ _ ⟨t1, 0, none⟩ k1 ⟨t2, 0, none⟩ k2 ⟨t3, 0, none⟩ k3 ⟨t4, 0, none⟩ k4 ⟨t5, 0, none⟩ k5 ⟨t6, 0, none⟩ k6 _ (hDo.sub (fun r h => by simp [h])) (by omega) (by omega) (by omega) (by omega) (by omega) (by omega) (hlm.sub (fun r h => by simp [h])) (by omega)) ?_; rintro _ _ ⟨pc, Zc, rfl, rfl, hc9⟩; dsimp only [tupD]) | (refine Xg.ev (EvF.move rfl rfl) rfl rfl ?_) | (refine Xg.ev (EvF.assign rfl rfl) rfl rfl ?_) | (refine Xg.ev (EvF.loadV rfl rfl (LoadV.whole (te rfl) rfl (List.Mem.tail _ (List.Mem.tail _ (List.Mem.head _))) rfl)) rfl rfl ?_) | (refine Xg.ev (EvF.extract rfl rfl rfl) rfl rfl ?_) | (refine Xg.st (StF.alloc rfl Try.zeroValue30 rfl) rfl rfl ?_; rintro _ _ ⟨bx, rfl, rfl⟩) | (refine Xg.st0 (StF.storeAll (i := 0) rfl rfl rfl (te rfl) rfl rfl rfl rfl) rfl ?_; rintro _ _ ⟨rfl, rfl⟩; dsimp only [List.set]))))) | (refine XO.done rfl ?_; refine hK _ _ ?_; clear hK K) | refine X.seq rfl ?_ | refine X.region rfl (fun K hK => ?_))
  rename Nat => b13
  refine XO.permH (H' := ⟨b13, 0, cDk (gstrF D l).1 pc, some 30, 9⟩ :: ⟨b11, 0, cDk (gputF D x).1 pb, some 30, 9⟩ :: ⟨b9, 0, cDk (gputF D x).1 pa, some 30, 9⟩ :: ⟨b7, 0, cDk D (plD t1 k1 t2 k2 t3 k3 t4 k4 t5 k5 t6 k6), some 30, 9⟩ :: ⟨b4, 0, cLk x, some 32, 6⟩ :: ⟨b3, 0, cDk D p, some 30, 9⟩ :: (Zc ++ (Zb ++ (Za ++ T3)))) (List.Perm.cons _ (List.perm_append_comm_assoc [_, _, _, _, _] Zc _)) ?_
  repeat' (first | (refine XO.op rfl ?_; (first | ((first | refine Xo.ng rfl ?_); (first | (refine Xg.call (EnF.st rfl (by (repeat (first | exact Args.nil | refine Args.cons rfl ?_)); done)) rfl rfl (refStrD_spec D p l _ _ _ (hDr.sub (fun r h => by simp [h])) (hll.sub (fun r h => by simp [h])) (by omega) (by omega) (by omega) (by omega) (by omega) (by omega) (by omega)) ?_; rintro _ _ ⟨pd, Zd, rfl, rfl, hd⟩; dsimp only [tupD]) | (refine Xg.ev (EvF.move rfl rfl) rfl rfl ?_) | (refine Xg.ev (EvF.assign rfl rfl) rfl rfl ?_) | (refine Xg.ev (EvF.loadV rfl rfl (LoadV.whole (te rfl) rfl (List.Mem.tail _ (List.Mem.tail _ (List.Mem.tail _ (List.Mem.tail _ (List.Mem.tail _ (List.Mem.head _)))))) rfl)) rfl rfl ?_) | (refine Xg.ev (EvF.extract rfl rfl rfl) rfl rfl ?_) | (refine Xg.st (StF.alloc rfl Try.zeroValue30 rfl) rfl rfl ?_; rintro _ _ ⟨bx, rfl, rfl⟩) | (refine Xg.st0 (StF.storeAll (i := 0) rfl rfl rfl (te rfl) rfl rfl rfl rfl) rfl ?_; rintro _ _ ⟨rfl, rfl⟩; dsimp only [List.set]))))) | (refine XO.done rfl ?_; refine hK _ _ ?_; clear hK K) | refine X.seq rfl ?_ | refine X.region rfl (fun K hK => ?_))
  rename Nat => b15
  refine XO.permH (H' := ⟨b15, 0, cDk (gstrF D l).1 pd, some 30, 9⟩ :: ⟨b13, 0, cDk (gstrF D l).1 pc, some 30, 9⟩ :: ⟨b11, 0, cDk (gputF D x).1 pb, some 30, 9⟩ :: ⟨b9, 0, cDk (gputF D x).1 pa, some 30, 9⟩ :: ⟨b7, 0, cDk D (plD t1 k1 t2 k2 t3 k3 t4 k4 t5 k5 t6 k6), some 30, 9⟩ :: ⟨b4, 0, cLk x, some 32, 6⟩ :: ⟨b3, 0, cDk D p, some 30, 9⟩ :: (Zd ++ (Zc ++ (Zb ++ (Za ++ T3))))) (List.Perm.cons _ (List.perm_append_comm_assoc [_, _, _, _, _, _] Zd _)) ?_
  have oa := ha.ok (by omega) (by omega) (by omega) (by omega) (by omega) (by omega)
  have oc := hc9.ok (by omega) (by omega) (by omega) (by omega) (by omega) (by omega)
  have e1 : ∀ S, (∀ r, r ∈ Za ∨ r ∈ Zb → r ∈ S) → Fc Try.prog 10 [.agg (cDk (gputF D x).1 pa).toArray, .agg (cDk (gputF D x).1 pb).toArray] S (fun v H' => v = .bool true ∧ H' = S) := fun S hS => sameD_self _ _ _ _ (oa.sub (fun r h => hS r (.inl h))) (hb.sub (fun r h => hS r (.inr h)))
  have e2 : ∀ S, (∀ r, r ∈ Zc ∨ r ∈ Zd → r ∈ S) → Fc Try.prog 10 [.agg (cDk (gstrF D l).1 pc).toArray, .agg (cDk (gstrF D l).1 pd).toArray] S (fun v H' => v = .bool true ∧ H' = S) := fun S hS => sameD_self _ _ _ _ (oc.sub (fun r h => hS r (.inl h))) (hd.sub (fun r h => hS r (.inr h)))
  repeat' (first | (refine XO.op rfl ?_; (first | ((first | refine Xo.ng rfl ?_); (first | (refine Xg.ev (EvF.loadV rfl rfl (LoadV.whole (te rfl) rfl (List.Mem.tail _ (List.Mem.tail _ (List.Mem.head _))) rfl)) rfl rfl ?_) | (refine Xg.ev (EvF.loadV rfl rfl (LoadV.whole (te rfl) rfl (List.Mem.tail _ (List.Mem.tail _ (List.Mem.tail _ (List.Mem.head _)))) rfl)) rfl rfl ?_))))))
  refine XO.op rfl ?_
  refine Xo.ng rfl ?_
  refine Xg.call (EnF.st rfl (Args.cons rfl (Args.cons rfl Args.nil))) rfl rfl (e1 _ (fun r h => by rcases h with h | h <;> simp [h])) ?_
  rintro _ H9 ⟨rfl, hH9⟩
  subst H9
  repeat' (first | (refine XO.op rfl ?_; (first | ((first | refine Xo.ng rfl ?_ | (refine Xo.g rfl rfl ?_; with_reducible refine Xw.tt ?_)); (first | (refine Xg.ev (EvF.cmpSelf rfl rfl rfl) rfl rfl ?_) | (refine Xg.ev (EvF.move rfl rfl) rfl rfl ?_) | (refine Xg.ev (EvF.pickT rfl rfl rfl) rfl rfl ?_) | (refine Xg.ev (EvF.loadV rfl rfl (LoadV.whole (te rfl) rfl (List.Mem.head _) rfl)) rfl rfl ?_) | (refine Xg.ev (EvF.loadV rfl rfl (LoadV.whole (te rfl) rfl (List.Mem.tail _ (List.Mem.head _)) rfl)) rfl rfl ?_))))))
  refine XO.op rfl ?_
  refine Xo.g rfl rfl ?_
  refine Xw.tt ?_
  refine Xg.call (EnF.st rfl (Args.cons rfl (Args.cons rfl Args.nil))) rfl rfl (e2 _ (fun r h => by rcases h with h | h <;> simp [h])) ?_
  rintro _ H9 ⟨rfl, hH9⟩
  subst H9
  repeat' (first | (refine XO.op rfl ?_; (first | ((first | refine Xo.ng rfl ?_ | (refine Xo.g rfl rfl ?_; with_reducible refine Xw.tt ?_)); (first | (refine Xg.ev (EvF.cmpSelf rfl rfl rfl) rfl rfl ?_) | (refine Xg.ev (EvF.move rfl rfl) rfl rfl ?_) | (refine Xg.ev (EvF.assign rfl rfl) rfl rfl ?_) | (refine Xg.ev (EvF.pickT rfl rfl rfl) rfl rfl ?_) | (refine Xg.ev (EvF.loadV rfl rfl (LoadV.whole (te rfl) rfl (List.Mem.tail _ (List.Mem.tail _ (List.Mem.tail _ (List.Mem.head _)))) rfl)) rfl rfl ?_))))) | (refine XO.done rfl ?_; refine hK _ _ ?_; clear hK K) | refine X.seq rfl ?_ | refine X.region rfl (fun K hK => ?_))
  have s1 : (Zc ++ (Za ++ T3)).Sublist (Zd ++ (Zc ++ (Zb ++ (Za ++ T3)))) :=
    (List.Sublist.append (List.Sublist.refl Zc) (List.sublist_append_right Zb _)).trans (List.sublist_append_right Zd _)
  refine XO.weakH (H' := ⟨b13, 0, cDk (gstrF D l).1 pc, some 30, 9⟩ :: ⟨b9, 0, cDk (gputF D x).1 pa, some 30, 9⟩ :: ⟨b7, 0, cDk D (plD t1 k1 t2 k2 t3 k3 t4 k4 t5 k5 t6 k6), some 30, 9⟩ :: ⟨b3, 0, cDk D p, some 30, 9⟩ :: (Zc ++ (Za ++ T3))) (List.Sublist.cons _ (List.Sublist.cons_cons _ (List.Sublist.cons _ (List.Sublist.cons_cons _ (List.Sublist.cons_cons _ (List.Sublist.cons _ (List.Sublist.cons_cons _ s1))))))) ?_
  refine XO.permH (H' := Za ++ (⟨b13, 0, cDk (gstrF D l).1 pc, some 30, 9⟩ :: ⟨b9, 0, cDk (gputF D x).1 pa, some 30, 9⟩ :: ⟨b7, 0, cDk D (plD t1 k1 t2 k2 t3 k3 t4 k4 t5 k5 t6 k6), some 30, 9⟩ :: ⟨b3, 0, cDk D p, some 30, 9⟩ :: (Zc ++ T3))) (perm1 (α := Row) [⟨b13, 0, cDk (gstrF D l).1 pc, some 30, 9⟩, ⟨b9, 0, cDk (gputF D x).1 pa, some 30, 9⟩, ⟨b7, 0, cDk D (plD t1 k1 t2 k2 t3 k3 t4 k4 t5 k5 t6 k6), some 30, 9⟩, ⟨b3, 0, cDk D p, some 30, 9⟩] Zc Za T3) ?_
  repeat' (first | (refine XO.op rfl ?_; (first | ((first | refine Xo.ng rfl ?_); (first | (refine Xg.call (EnF.st rfl (by (repeat (first | exact Args.nil | refine Args.cons rfl ?_)); done)) rfl rfl (spoilOwnD ha (by omega) (by omega) (by omega) (by omega) (by omega) (by omega) _) ?_; rintro _ H9 ⟨rfl, hH9⟩; subst H9) | (refine Xg.ev (EvF.loadV rfl rfl (LoadV.whole (te rfl) rfl (List.Mem.head _) rfl)) rfl rfl ?_))))) | (refine XO.done rfl ?_; refine hK _ _ ?_; clear hK K) | refine X.seq rfl ?_ | refine X.region rfl (fun K hK => ?_))
  refine XO.permH (H' := Zc ++ (⟨b13, 0, cDk (gstrF D l).1 pc, some 30, 9⟩ :: ⟨b9, 0, cDk (gputF D x).1 pa, some 30, 9⟩ :: ⟨b7, 0, cDk D (plD t1 k1 t2 k2 t3 k3 t4 k4 t5 k5 t6 k6), some 30, 9⟩ :: ⟨b3, 0, cDk D p, some 30, 9⟩ :: T3)) (List.perm_append_comm_assoc (α := Row) Zc [⟨b13, 0, cDk (gstrF D l).1 pc, some 30, 9⟩, ⟨b9, 0, cDk (gputF D x).1 pa, some 30, 9⟩, ⟨b7, 0, cDk D (plD t1 k1 t2 k2 t3 k3 t4 k4 t5 k5 t6 k6), some 30, 9⟩, ⟨b3, 0, cDk D p, some 30, 9⟩] T3) ?_
  repeat' (first | (refine XO.op rfl ?_; (first | ((first | refine Xo.ng rfl ?_ | (refine Xo.g rfl rfl ?_; with_reducible refine Xw.tt ?_)); (first | (refine Xg.call (EnF.st rfl (by (repeat (first | exact Args.nil | refine Args.cons rfl ?_)); done)) rfl rfl (spoilOwnD hc9 (by omega) (by omega) (by omega) (by omega) (by omega) (by omega) _) ?_; rintro _ H9 ⟨rfl, hH9⟩; subst H9) | (refine Xg.call (EnF.st rfl (by (repeat (first | exact Args.nil | refine Args.cons rfl ?_)); done)) rfl rfl (sameD_self D _ _ _ (hDo.sub (fun r h => by simp [h])) (hDr.sub (fun r h => by simp [h]))) ?_; rintro _ H9 ⟨rfl, hH9⟩; subst H9) | (refine Xg.call (EnF.st rfl (by (repeat (first | exact Args.nil | refine Args.cons rfl ?_)); done)) rfl rfl (sameIntsD_self l _ _ _ _ _ (hlm.sub (fun r h => by simp [h])) (hll.sub (fun r h => by simp [h])) (by omega)) ?_; rintro _ H9 ⟨rfl, hH9⟩; subst H9) | (refine Xg.ev (EvF.move rfl rfl) rfl rfl ?_) | (refine Xg.ev (EvF.assign rfl rfl) rfl rfl ?_) | (refine Xg.ev (EvF.pickT rfl rfl rfl) rfl rfl ?_) | (refine Xg.ev (EvF.loadV rfl rfl (LoadV.whole (te rfl) rfl (List.Mem.tail _ (List.Mem.tail _ (List.Mem.head _))) rfl)) rfl rfl ?_) | (refine Xg.ev (EvF.loadV rfl rfl (LoadV.whole (te rfl) rfl (List.Mem.tail _ (List.Mem.tail _ (List.Mem.tail _ (List.Mem.head _)))) rfl)) rfl rfl ?_))))) | (refine XO.done rfl ?_; refine hK _ _ ?_; clear hK K) | refine X.seq rfl ?_ | refine X.region rfl (fun K hK => ?_) | refine X.ret rfl ?_)
  exact ret_one (by first | exact .inr rfl | exact .inl rfl) Try.results3 rfl (List.Sublist.refl _) rfl
end Go.Proofs.Ytminkpgacomicab
end
section
set_option linter.unusedVariables false
namespace Go.Fw
open Go Go.RowKit Go.ChangeShapes Go.WideShapes Go.Deep
theorem flat_at {α : Type} {enc : α → List Value} {sz : Nat} : ∀ {l : List α}, (∀ e ∈ l, (enc e).length = sz) → ∀ (i : Nat) (e : α) (j : Nat) (v : Value), l[i]? = some e → (enc e)[j]? = some v → (l.flatMap enc)[i * sz + j]? = some v
  | [], _, i, e, j, v, hi, _ => by simp at hi
  | q :: l, hl, i, e, j, v, hi, hj => by
    rw [List.flatMap_cons, List.getElem?_append]
    have hq := hl q (List.mem_cons_self ..)
    cases i with
    | zero =>
      simp only [List.getElem?_cons_zero, Option.some.injEq] at hi
      subst hi
      rw [if_pos (by have := (List.getElem?_eq_some_iff.1 hj).1; omega)]
      simpa using hj
    | succ i =>
      rw [if_neg (by rw [hq, Nat.add_mul]; omega), hq, show (i + 1) * sz + j - sz = i * sz + j by rw [Nat.add_mul]; omega]
      exact flat_at (fun e he => hl e (List.mem_cons_of_mem _ he)) i e j v (by simpa using hi) hj
section
variable {H : Type} {enc : TypeId × Value → H} {P : Program} {w : World} {base : Nat} {spare : Nat → Bool} {held : Bool}
theorem cellsOf_ti {T : TypeId} {ti : TI} (h : tiOf P T = some ti) : P.cellsOf T = ti.size := by
  obtain ⟨i, d, hi, _, _, hs, _⟩ := ti_spec h
  simp [Program.cellsOf, hi, hs]
theorem trod_st {T : TypeId} {fs : List (Nat × TypeId)} {s y fuel : Nat} {cs : List Value} {x : DataW H × List MemPlace} (hT : tiOf P T = some ⟨.st fs, s, y⟩) (h : DataW.trod enc P w base spare held fuel T cs = some x) :
    cs.length = s ∧ ∀ (i o F : Nat) (ti : TI), fs[i]? = some (o, F) → tiOf P F = some ti → ∃ n x', DataW.trod enc P w base spare held n F ((cs.drop o).take ti.size) = some x' := by
  obtain ⟨fa, hu, hm⟩ := ti_struct hT
  obtain ⟨xs, n, _, _, hl, hxl, hf⟩ := DataW.trod_struct hu h
  refine ⟨by rw [hl, cellsOf_ti hT], fun i o F ti hi hF => ?_⟩
  rw [← hm] at hi
  simp only [List.getElem?_map, Option.map_eq_some_iff] at hi
  obtain ⟨f, h1, h2⟩ := hi
  simp only [Prod.mk.injEq] at h2
  obtain ⟨rfl, rfl⟩ := h2
  have h3 := hf i f (by simpa using h1)
  rw [cellsOf_ti hF] at h3
  have hlt : i < xs.length := by
    have := (List.getElem?_eq_some_iff.1 h1).1
    rw [hxl]; simpa using this
  exact ⟨n, xs[i], by rw [h3, List.getElem?_eq_getElem hlt]⟩
theorem trod_i {T : TypeId} {k : IntKind} {s y fuel : Nat} {cs : List Value} {x : DataW H × List MemPlace} (hT : tiOf P T = some ⟨.int k, s, y⟩) (h : DataW.trod enc P w base spare held fuel T cs = some x) : ∃ n, cs = [.int k n] ∧ (Lit.int k n).wf = true := by
  obtain ⟨i, d, _, hd, hk, _, _⟩ := ti_spec hT
  cases d <;> simp only [tkOf, reduceCtorEq, TK.int.injEq] at hk
  subst hk
  obtain ⟨n, h1, _, h2⟩ := DataW.trod_int hd h
  exact ⟨n, h1, h2⟩
/-- What is known of a slice that came in. -/
def InSl {α : Type} (w : World) (a : Option Addr) (e : α → List Value) (sz : Nat) (l : List α) : Prop :=
  (∀ q ∈ l, (e q).length = sz) ∧ l.length ≤ maxLen ∧ (0 < l.length → ∃ b off, a = some ⟨b, off, none⟩ ∧ b < w.heap.size ∧ ∀ i q j v, l[i]? = some q → (e q)[j]? = some v → w.cell? ⟨b, off + (i * sz + j), none⟩ = some v)
theorem open_sl {α : Type} [Inhabited α] {e : α → List Value} {ok : α → Prop} {T E sz s y : Nat} {ti : TI} {fuel : Nat} {v : Value} {x : DataW H × List MemPlace} (hT : tiOf P T = some ⟨.sl E, s, y⟩) (hE : tiOf P E = some ti) (hsz : ti.size = sz) (hpos : 0 < sz)
    (hel : ∀ n cs x, DataW.trod enc P w base spare held n E cs = some x → ∃ q : α, cs = e q ∧ ok q) (hlen : ∀ q, (e q).length = sz) (h : DataW.trod enc P w base spare held fuel T [v] = some x) :
    ∃ (l : List α) (a : Option Addr) (c : Nat), v = .slice a l.length c ∧ InSl w a e sz l ∧ (∀ q ∈ l, ok q) ∧ l.length ≤ c := by
  rcases open_slice (ti_slice hT) h with ⟨hc, _⟩ | ⟨a, len, cap, m, n, D, Pl, hcs, _, hl, hm, hmm, _, hi⟩
  · simp only [List.cons.injEq, and_true] at hc
    subst hc
    exact ⟨[], none, 0, rfl, ⟨by simp, by simp, by simp⟩, by simp, Nat.le_refl _⟩
  · simp only [List.cons.injEq, and_true] at hcs
    subst hcs
    have hlm : len ≤ m := by rw [hmm]; split <;> omega
    have hex : ∀ i, ∃ q : α, i < len → ok q ∧ w.cells? base (a.add (i * sz)) sz = some (e q) := by
      intro i
      by_cases hil : i < len
      · obtain ⟨cs', h1, h2⟩ := hi i (by omega)
        obtain ⟨q, rfl, hq⟩ := hel _ _ _ h2
        rw [cellsOf_ti hE, hsz] at h1
        exact ⟨q, fun _ => ⟨hq, h1⟩⟩
      · exact ⟨default, fun h => absurd h hil⟩
    let f : Nat → α := fun i => Classical.choose (hex i)
    have hf : ∀ i, i < len → ok (f i) ∧ w.cells? base (a.add (i * sz)) sz = some (e (f i)) := fun i => Classical.choose_spec (hex i)
    refine ⟨(List.range len).map f, some a, cap, by simp, ⟨fun q _ => hlen q, by simp; omega, fun hp => ?_⟩, ?_, by simp; omega⟩
    · simp only [List.length_map, List.length_range] at hp
      have h0 := (hf 0 hp).2
      obtain ⟨_, _, hat⟩ := World.cells?_some h0
      have hc0 := hat 0 hpos
      have hv0 : (e (f 0))[0]? = some ((e (f 0))[0]'(by rw [hlen]; exact hpos)) := List.getElem?_eq_getElem _
      rw [hv0, Nat.zero_mul] at hc0
      have hadd : ((a.add 0).add 0) = a := rfl
      rw [hadd] at hc0
      obtain ⟨b, off, sp⟩ := a
      have hsp : sp = none := by
        cases sp with
        | none => rfl
        | some q => unfold World.cell? at hc0; simp only at hc0; split at hc0 <;> simp at hc0
      subst hsp
      refine ⟨b, off, rfl, World.block_lt_of_cell? _ _ hc0, fun i q j v hq hj => ?_⟩
      have hil : i < len := by have := (List.getElem?_eq_some_iff.1 hq).1; simpa using this
      have hqe : f i = q := by
        rw [List.getElem?_map, List.getElem?_range hil] at hq
        simpa using hq
      obtain ⟨_, _, hat⟩ := World.cells?_some (hf i hil).2
      have hjl : j < sz := by have := (List.getElem?_eq_some_iff.1 hj).1; rw [hlen] at this; exact this
      have := hat j hjl
      rw [hqe, hj, add_none, add_none, Nat.add_assoc] at this
      exact this
    · intro q hq
      obtain ⟨i, hi, rfl⟩ := List.mem_map.1 hq
      exact (hf i (List.mem_range.1 hi)).1
end
/-- the row of a slice that came in -/
def rowsOf {α : Type} (a : Option Addr) (e : α → List Value) (l : List α) : List Row :=
  match a, l with
  | some ⟨b, off, _⟩, _ :: _ => [⟨b, off, l.flatMap e, none, 0⟩]
  | _, _ => []
theorem InSl.ok {α : Type} {w : World} {a : Option Addr} {e : α → List Value} {sz B : Nat} {l : List α} (h : InSl w a e sz l) : ∀ r ∈ rowsOf a e l, r.own = none ∧ r.ok B w := by
  intro r hr
  cases l with
  | nil => cases a with | none => cases hr | some a => cases hr
  | cons q l =>
    obtain ⟨b, off, rfl, hb, hc⟩ := h.2.2 (by simp)
    simp only [rowsOf, List.mem_singleton] at hr
    subst hr
    refine ⟨rfl, hb, fun j v hj => ?_⟩
    obtain ⟨i, q', k, rfl, hi, hk⟩ := flat_get h.1 hj
    exact hc i q' k v hi hk
theorem InSl.sl {α : Type} {w : World} {a : Option Addr} {e : α → List Value} {sz : Nat} {l : List α} {H : List Row} (h : InSl w a e sz l) (hs : ∀ r ∈ rowsOf a e l, r ∈ H) : SlE H a e sz l := by
  refine ⟨h.1, fun hp => ?_⟩
  obtain ⟨b, off, rfl, _, _⟩ := h.2.2 hp
  cases l with
  | nil => simp at hp
  | cons q l =>
    refine ⟨b, off, rfl, _, 0, hs _ (List.mem_singleton.2 rfl), rfl, rfl, fun i q' j v hi hj => ?_⟩
    rw [Nat.zero_add]
    exact flat_at h.1 i q' j v hi hj
/-- the start: only what came in is known -/
theorem St.start {w : World} {H : List Row} (h : ∀ r ∈ H, r.own = none ∧ r.ok w.heap.size w) : St w.heap.size w H w := by
  refine ⟨Below.refl _ _, Nat.le_refl _, fun r hr => (h r hr).2, ?_⟩
  rw [List.pairwise_iff_getElem]
  intro i j hi hj _ ho
  have h1 := (h _ (List.getElem_mem hi)).1
  have h2 := (h _ (List.getElem_mem hj)).1
  rw [h1, h2] at ho
  simp at ho
/-- from a contract to the call in a world -/
theorem Fc.calls {P : Program} {f : FuncId} {args : List Value} {H : List Row} {v : Value} {w : World} (h : Fc P f args H (fun u _ => u = v)) (hH : ∀ r ∈ H, r.own = none ∧ r.ok w.heap.size w) :
    Calls P f args.toArray w fun e w' => e = .returned v ∧ Below w.heap.size w w' := by
  unfold Fc at h
  refine (h.2 _ _ _ (St.start hH)).mono ?_
  rintro e w' ⟨u, H', rfl, rfl, hS⟩
  exact ⟨rfl, hS.below⟩
end Go.Fw
end
section
set_option linter.unusedVariables false
namespace Go.Proofs.Ytminkpgacomicab
open Go Go.Fw Go.ChangeShapes Go.WideShapes
set_option maxRecDepth 10000
instance : Inhabited Sp := ⟨⟨0, 0⟩⟩
instance : Inhabited Bx := ⟨⟨0, 0⟩⟩
instance : Inhabited Mt := ⟨⟨0, 0, 0, 0, 0, 0⟩⟩
def w64 (n : Int) : Prop := (Lit.int .i64 n).wf = true
section
variable {H : Type} {enc : TypeId × Value → H} {w : World} {base : Nat} {spare : Nat → Bool} {held : Bool} {fuel : Nat} {cs : List Value} {x : DataW H × List MemPlace}
theorem open_i (h : DataW.trod enc Try.prog w base spare held fuel 3 cs = some x) : ∃ q : Int, cs = cI q ∧ w64 q := trod_i (te rfl) h
theorem open_sp (h : DataW.trod enc Try.prog w base spare held fuel 57 cs = some x) : ∃ q : Sp, cs = cSp q ∧ (w64 q.lo ∧ w64 q.hi) := by
  obtain ⟨hl, hf⟩ := trod_st (te rfl) h
  obtain ⟨n0, y0, h0⟩ := hf 0 0 3 _ rfl (te rfl)
  obtain ⟨n1, y1, h1⟩ := hf 1 1 3 _ rfl (te rfl)
  match cs, hl with
  | [a, b], _ =>
    obtain ⟨lo, e0, w0⟩ := open_i h0
    obtain ⟨hi, e1, w1⟩ := open_i h1
    simp [cI] at e0 e1
    subst e0 e1
    exact ⟨⟨lo, hi⟩, rfl, w0, w1⟩
theorem open_bx (h : DataW.trod enc Try.prog w base spare held fuel 59 cs = some x) : ∃ q : Bx, cs = cBx q ∧ (w64 q.id ∧ w64 q.made) := by
  obtain ⟨hl, hf⟩ := trod_st (te rfl) h
  obtain ⟨n0, y0, h0⟩ := hf 0 0 3 _ rfl (te rfl)
  obtain ⟨n1, y1, h1⟩ := hf 1 1 3 _ rfl (te rfl)
  match cs, hl with
  | [a, b], _ =>
    obtain ⟨lo, e0, w0⟩ := open_i h0
    obtain ⟨hi, e1, w1⟩ := open_i h1
    simp [cI] at e0 e1
    subst e0 e1
    exact ⟨⟨lo, hi⟩, rfl, w0, w1⟩
theorem open_mt (h : DataW.trod enc Try.prog w base spare held fuel 61 cs = some x) : ∃ q : Mt, cs = cMt q ∧ (w64 q.number ∧ w64 q.month ∧ w64 q.a ∧ w64 q.b ∧ w64 q.lo ∧ w64 q.hi) := by
  obtain ⟨hl, hf⟩ := trod_st (te rfl) h
  obtain ⟨n0, y0, h0⟩ := hf 0 0 3 _ rfl (te rfl)
  obtain ⟨n1, y1, h1⟩ := hf 1 1 3 _ rfl (te rfl)
  obtain ⟨n2, y2, h2⟩ := hf 2 2 3 _ rfl (te rfl)
  obtain ⟨n3, y3, h3⟩ := hf 3 3 3 _ rfl (te rfl)
  obtain ⟨n4, y4, h4⟩ := hf 4 4 57 _ rfl (te rfl)
  match cs, hl with
  | [a, b, c, d, e, f], _ =>
    obtain ⟨q0, e0, w0⟩ := open_i h0
    obtain ⟨q1, e1, w1⟩ := open_i h1
    obtain ⟨q2, e2, w2⟩ := open_i h2
    obtain ⟨q3, e3, w3⟩ := open_i h3
    obtain ⟨q4, e4, w4⟩ := open_sp h4
    simp [cI, cSp] at e0 e1 e2 e3 e4
    obtain ⟨e4, e5⟩ := e4
    subst e0 e1 e2 e3 e4 e5
    exact ⟨⟨q0, q1, q2, q3, q4.lo, q4.hi⟩, rfl, w0, w1, w2, w3, w4.1, w4.2⟩
end
structure InRm (w : World) (R : Rm) (p : Pl) : Prop where
  ages : InSl w p.a1 cSp 2 R.ages
  boxes : InSl w p.a2 cBx 2 R.boxes
  mats : InSl w p.a3 cMt 6 R.mats
  mo : w64 R.months
  st : w64 R.step
  k1 : R.ages.length ≤ p.c1
  k2 : R.boxes.length ≤ p.c2
  k3 : R.mats.length ≤ p.c3
def rowsRm (R : Rm) (p : Pl) : List Row := rowsOf p.a1 cSp R.ages ++ (rowsOf p.a2 cBx R.boxes ++ rowsOf p.a3 cMt R.mats)
theorem InRm.rm {w : World} {R : Rm} {p : Pl} {H : List Row} (h : InRm w R p) (hs : ∀ r ∈ rowsRm R p, r ∈ H) : RmOk H R p where
  ages := h.ages.sl fun r hr => hs r (List.mem_append_left _ hr)
  boxes := h.boxes.sl fun r hr => hs r (List.mem_append_right _ (List.mem_append_left _ hr))
  mats := h.mats.sl fun r hr => hs r (List.mem_append_right _ (List.mem_append_right _ hr))
  l1 := by have := h.ages.2.1; unfold maxLen at this; omega
  l2 := by have := h.boxes.2.1; unfold maxLen at this; omega
  l3 := by have := h.mats.2.1; unfold maxLen at this; omega
theorem InRm.ok {w : World} {R : Rm} {p : Pl} {B : Nat} (h : InRm w R p) : ∀ r ∈ rowsRm R p, r.own = none ∧ r.ok B w := by
  intro r hr
  rcases List.mem_append.1 hr with hr | hr
  · exact h.ages.ok r hr
  · rcases List.mem_append.1 hr with hr | hr
    · exact h.boxes.ok r hr
    · exact h.mats.ok r hr
section
variable {H : Type} {enc : TypeId × Value → H} {w : World} {base : Nat} {spare : Nat → Bool} {held : Bool} {v : Value} {d : DataW H} {p : List MemPlace} {r : Reach} {b0 : Nat}
theorem open_list (hv : Value.okWide Try.prog w r b0 27 v) (h : DataW.Trod enc Try.prog w base spare held 27 v d p) : ∃ (l : List Int) (a : Option Addr) (c : Nat), v = .slice a l.length c ∧ InSl w a cI 1 l ∧ (∀ q ∈ l, w64 q) ∧ l.length ≤ c := by
  obtain ⟨a, len, cap, rfl⟩ := okWide_slice Try.underlying27 hv
  obtain ⟨fuel, hf⟩ := h
  exact open_sl (te rfl) (te rfl) rfl (by decide) (fun _ _ _ => open_i) (fun _ => rfl) hf
end
end Go.Proofs.Ytminkpgacomicab
end
section
set_option linter.unusedVariables false
namespace Go.Proofs.Ytminkpgacomicab
open Go Go.Fw Go.ChangeShapes Go.WideShapes
set_option maxRecDepth 10000
instance : Inhabited Lk := ⟨⟨0, 0, 0, 0, 0, 0⟩⟩
section
variable {H : Type} {enc : TypeId × Value → H} {w : World} {base : Nat} {spare : Nat → Bool} {held : Bool} {fuel : Nat} {cs : List Value} {x : DataW H × List MemPlace}
theorem open_lk (h : DataW.trod enc Try.prog w base spare held fuel 32 cs = some x) : ∃ q : Lk, cs = cLk q ∧ True := by
  obtain ⟨hl, hf⟩ := trod_st (te rfl) h
  obtain ⟨n0, y0, h0⟩ := hf 0 0 3 _ rfl (te rfl)
  obtain ⟨n1, y1, h1⟩ := hf 1 1 3 _ rfl (te rfl)
  obtain ⟨n2, y2, h2⟩ := hf 2 2 3 _ rfl (te rfl)
  obtain ⟨n3, y3, h3⟩ := hf 3 3 3 _ rfl (te rfl)
  obtain ⟨n4, y4, h4⟩ := hf 4 4 3 _ rfl (te rfl)
  obtain ⟨n5, y5, h5⟩ := hf 5 5 3 _ rfl (te rfl)
  match cs, hl with
  | [a, b, c, d, e, f], _ =>
    obtain ⟨q0, e0, w0⟩ := open_i h0
    obtain ⟨q1, e1, w1⟩ := open_i h1
    obtain ⟨q2, e2, w2⟩ := open_i h2
    obtain ⟨q3, e3, w3⟩ := open_i h3
    obtain ⟨q4, e4, w4⟩ := open_i h4
    obtain ⟨q5, e5, w5⟩ := open_i h5
    simp [cI] at e0 e1 e2 e3 e4 e5
    subst e0 e1 e2 e3 e4 e5
    exact ⟨⟨q0, q1, q2, q3, q4, q5⟩, rfl, trivial⟩
theorem open_rmT (h : DataW.trod enc Try.prog w base spare held fuel 26 cs = some x) : ∃ R pl, cs = cRm R pl ∧ InRm w R pl := by
  obtain ⟨hl, hf⟩ := trod_st (te rfl) h
  obtain ⟨n0, y0, h0⟩ := hf 0 0 3 _ rfl (te rfl)
  obtain ⟨n1, y1, h1⟩ := hf 1 1 3 _ rfl (te rfl)
  obtain ⟨n2, y2, h2⟩ := hf 2 2 22 _ rfl (te rfl)
  obtain ⟨n3, y3, h3⟩ := hf 3 3 23 _ rfl (te rfl)
  obtain ⟨n4, y4, h4⟩ := hf 4 4 24 _ rfl (te rfl)
  match cs, hl with
  | [a, b, c, d, e], _ =>
    obtain ⟨q0, e0, w0⟩ := open_i h0
    obtain ⟨q1, e1, w1⟩ := open_i h1
    simp [cI] at e0 e1
    obtain ⟨l2, a2, c2, e2, i2, _, k2⟩ := open_sl (te rfl) (te rfl) rfl (by decide) (fun _ _ _ => open_sp) (fun _ => rfl) h2
    obtain ⟨l3, a3, c3, e3, i3, _, k3⟩ := open_sl (te rfl) (te rfl) rfl (by decide) (fun _ _ _ => open_bx) (fun _ => rfl) h3
    obtain ⟨l4, a4, c4, e4, i4, _, k4⟩ := open_sl (te rfl) (te rfl) rfl (by decide) (fun _ _ _ => open_mt) (fun _ => rfl) h4
    subst e0 e1 e2 e3 e4
    exact ⟨⟨q0, q1, l2, l3, l4⟩, ⟨a2, c2, a3, c3, a4, c4⟩, rfl, i2, i3, i4, w0, w1, k2, k3, k4⟩
end
structure InDk (w : World) (D : Dk) (p : Pd) : Prop where
  room : InRm w D.room p.pr
  bales : InSl w p.a4 cI 1 D.bales
  cls : InSl w p.a5 cI 1 D.cls
  looks : InSl w p.a6 cLk 6 D.looks
  k6 : D.looks.length ≤ p.c6
def rowsDk (D : Dk) (p : Pd) : List Row := rowsRm D.room p.pr ++ (rowsOf p.a4 cI D.bales ++ (rowsOf p.a5 cI D.cls ++ rowsOf p.a6 cLk D.looks))
theorem InDk.dk {w : World} {D : Dk} {p : Pd} {H : List Row} (h : InDk w D p) (hs : ∀ r ∈ rowsDk D p, r ∈ H) : DkOk H D p where
  room := h.room.rm fun r hr => hs r (List.mem_append_left _ hr)
  bales := h.bales.sl fun r hr => hs r (List.mem_append_right _ (List.mem_append_left _ hr))
  cls := h.cls.sl fun r hr => hs r (List.mem_append_right _ (List.mem_append_right _ (List.mem_append_left _ hr)))
  looks := h.looks.sl fun r hr => hs r (List.mem_append_right _ (List.mem_append_right _ (List.mem_append_right _ hr)))
  l4 := by have := h.bales.2.1; unfold maxLen at this; omega
  l5 := by have := h.cls.2.1; unfold maxLen at this; omega
  l6 := by have := h.looks.2.1; unfold maxLen at this; omega
theorem InDk.ok {w : World} {D : Dk} {p : Pd} {B : Nat} (h : InDk w D p) : ∀ r ∈ rowsDk D p, r.own = none ∧ r.ok B w := by
  intro r hr
  rcases List.mem_append.1 hr with hr | hr
  · exact h.room.ok r hr
  rcases List.mem_append.1 hr with hr | hr
  · exact h.bales.ok r hr
  rcases List.mem_append.1 hr with hr | hr
  · exact h.cls.ok r hr
  · exact h.looks.ok r hr
section
variable {H : Type} {enc : TypeId × Value → H} {w : World} {base : Nat} {spare : Nat → Bool} {held : Bool} {v : Value} {d : DataW H} {p : List MemPlace} {r : Reach} {b0 : Nat}
theorem open_desk (hv : Value.okWide Try.prog w r b0 30 v) (h : DataW.Trod enc Try.prog w base spare held 30 v d p) : ∃ D pl, v = .agg (cDk D pl).toArray ∧ InDk w D pl := by
  obtain ⟨fa, hu, _⟩ := ti_struct (te (T := 30) rfl)
  obtain ⟨⟨cs⟩, rfl, _⟩ := okWide_struct hu hv
  obtain ⟨fuel, hf⟩ := h
  obtain ⟨hl, hf⟩ := trod_st (te rfl) hf
  obtain ⟨n0, y0, h0⟩ := hf 0 0 26 _ rfl (te rfl)
  obtain ⟨n1, y1, h1⟩ := hf 1 5 3 _ rfl (te rfl)
  obtain ⟨n2, y2, h2⟩ := hf 2 6 27 _ rfl (te rfl)
  obtain ⟨n3, y3, h3⟩ := hf 3 7 27 _ rfl (te rfl)
  obtain ⟨n4, y4, h4⟩ := hf 4 8 28 _ rfl (te rfl)
  match cs, hl with
  | [a, b, c, d, e, f, g, i, j], _ =>
    obtain ⟨R, pl, e0, i0⟩ := open_rmT h0
    obtain ⟨q1, e1, w1⟩ := open_i h1
    simp [cI, cRm, Value.cells] at e0 e1
    obtain ⟨l2, a2, c2, e2, i2, _, k2⟩ := open_sl (te rfl) (te rfl) rfl (by decide) (fun _ _ _ => open_i) (fun _ => rfl) h2
    obtain ⟨l3, a3, c3, e3, i3, _, k3⟩ := open_sl (te rfl) (te rfl) rfl (by decide) (fun _ _ _ => open_i) (fun _ => rfl) h3
    obtain ⟨l4, a4, c4, e4, i4, _, k4⟩ := open_sl (te rfl) (te rfl) rfl (by decide) (fun _ _ _ => open_lk) (fun _ => rfl) h4
    obtain ⟨ea, eb, ec, ed, ee⟩ := e0
    subst ea eb ec ed ee e1 e2 e3 e4
    exact ⟨⟨R, q1, l2, l3, l4⟩, ⟨pl, a2, c2, a3, c3, a4, c4⟩, rfl, i0, i2, i3, i4, k4⟩
theorem open_look (hv : Value.okWide Try.prog w r b0 32 v) (h : DataW.Trod enc Try.prog w base spare held 32 v d p) : ∃ q : Lk, v = .agg (cLk q).toArray := by
  obtain ⟨fa, hu, _⟩ := ti_struct (te (T := 32) rfl)
  obtain ⟨⟨cs⟩, rfl, _⟩ := okWide_struct hu hv
  obtain ⟨fuel, hf⟩ := h
  obtain ⟨q, e, _⟩ := open_lk hf
  simp only [Value.cells] at e
  exact ⟨q, by rw [← e]⟩
end
end Go.Proofs.Ytminkpgacomicab
end
section
set_option linter.unusedVariables false
namespace Go.Proofs.Ytminkpgacomicab
open Go Go.Fw Go.ChangeShapes Go.WideShapes Go.ChangeAt Go.RowKit
set_option linter.unusedVariables false
set_option maxRecDepth 100000
theorem ownK : ownKnob Try.prog.godebug = none := by kernel_rfl
theorem laidO : laidOutB Try.prog = true := by kernel_rfl
theorem gradeChanges_run (D : Dk) (p : Pd) (x : Lk) (l : List Int) (al : Option Addr) (cl : Nat) (w : World) (hD : InDk w D p) (hl : InSl w al cI 1 l) :
    Calls Try.prog 3 #[.agg (cDk D p).toArray, .agg (cLk x).toArray, .slice al l.length cl] w fun e w' => e = .returned (.bool true) ∧ Below w.heap.size w w' := by
  refine Fc.calls (H := rowsDk D p ++ rowsOf al cI l) (gradeChanges_spec D p x l al cl _ (hD.dk (fun r h => List.mem_append_left _ h)) (hl.sl (fun r h => List.mem_append_right _ h)) hD.k6) (fun r hr => ?_)
  rcases List.mem_append.1 hr with hr | hr
  · exact hD.ok r hr
  · exact hl.ok r hr
theorem lifted (os : Os) (started : os.Started) (H : Type) (enc : TypeId × Value → H) :
    ReturnsInHanded {} Try.checked os 3 .any (Rows.gradeChangesSpec.pre6 enc Try.prog Try.f3 Rows.gradeChangesRow.domain false) (Rows.gradeChangesSpec.post enc Try.prog Try.f3 false true false false) := by
  refine returnsInHanded_of_change (C := Try.checked) ownK started (by kernel_rfl) Try.func3
    (ChangeSpec.witness6 (enc := enc) (C := Try.checked) false ⟨#[], #[.agg (cDk Dz pzd).toArray, .agg (cLk ⟨0, 0, 0, 0, 0, 0⟩).toArray, .slice none 0 0], []⟩ 8 (by kernel_rfl) (by kernel_rfl) (by kernel_rfl) (by kernel_rfl)) ?_
  intro W base args ds gs before hval0 hW hcnd _
  have hval : ∀ (j : Nat) t v, Try.f3.params[j]? = some t → args[j]? = some v → Value.okWide Try.prog W .any base t v := hval0
  have hW' := hW
  obtain ⟨p, q, hA0, hV, rfl, hfz, hnd⟩ := hW
  have hA : DataW.TrodAll enc Try.prog W 0 (fun _ => true) true Try.f3.params.toList args.toList ds p := hA0
  rw [Try.params3] at hA hval
  obtain ⟨v0, vs0, d0, ds0, p0, q0, hargs, rfl, rfl, h0, r0⟩ := trodAll_cons hA
  obtain ⟨v1, vs1, d1, ds1, p1, q1, rfl, rfl, rfl, h1, r1⟩ := trodAll_cons r0
  obtain ⟨v2, vs2, d2, ds2, p2, q2, rfl, rfl, rfl, h2, r2⟩ := trodAll_cons r1
  obtain ⟨rfl, rfl, rfl⟩ := trodAll_nil r2
  obtain rfl : args = #[v0, v1, v2] := by cases args; simp_all
  obtain ⟨rfl, rfl⟩ := trodVars_none hV
  have lt : ∀ {t v d ps}, DataW.Trod enc Try.prog W 0 (fun _ => true) true t v d ps → ∀ x ∈ ps, x.block < W.heap.size := fun h => by obtain ⟨m, hm⟩ := h; exact DataW.trod_lt m _ _ _ hm
  obtain ⟨D, pl, rfl, hD⟩ := open_desk (hval 0 _ v0 rfl rfl) h0
  obtain ⟨x, rfl⟩ := open_look (hval 1 _ v1 rfl rfl) h1
  obtain ⟨l, al, cl, rfl, hl, _, _⟩ := open_list (hval 2 _ v2 rfl rfl) h2
  clear hA0 hval0
  refine (gradeChanges_run D pl x l al cl W hD hl).mono fun e W' ⟨he, bel⟩ => ?_
  subst he
  exact ⟨_, rfl, _, _, _, [], _, [], hW', trodAll_mk1 (shut_bool Try.underlying4 _), (trodAll_cons_mk (Below.trod laidO (by kernel_rfl) (of_decide_eq_true (by kernel_rfl)) h0 bel (lt h0)) (trodAll_cons_mk (Below.trod laidO (by kernel_rfl) (of_decide_eq_true (by kernel_rfl)) h1 bel (lt h1)) (trodAll_cons_mk (Below.trod laidO (by kernel_rfl) (of_decide_eq_true (by kernel_rfl)) h2 bel (lt h2)) trodAll_mk0))), rfl, bel.frame _, fun h => by cases h⟩
theorem over : Rows.gradeChangesRow.holds Try.pinned (OpenSpec.ofChange Rows.gradeChangesSpec) :=
  OpenClaim.holds_of_wide 3 Try.f3 rfl rfl rfl rfl rfl rfl rfl ⟨rfl, rfl, rfl, rfl, rfl⟩ rfl rfl rfl rfl rfl (by kernel_rfl) Try.func3 (by kernel_rfl)
    (of_decide_eq_true (by kernel_rfl)) (by unfold Func.isWrapper; first | (rw [if_pos (by decide +kernel)]; kernel_rfl) | (rw [if_neg (by decide +kernel)]; exact ⟨rfl, rfl⟩))
    (fun os started H enc _ => lifted os started H enc)
theorem gradeChanges_proved : Rows.GradeChangesSaid := over
#print axioms gradeChanges_proved
end Go.Proofs.Ytminkpgacomicab
end
