/- The law BoxChanges returns true from whatever memory. -/
import Derived.Test.YtmljpmcipcoaaaaQ3
import Derived.Test.YtmljpmcipcoaaaaP16
set_option linter.unusedSimpArgs false
namespace Go.Fw
open Go Go.RowKit
theorem Fc.perm {P : Program} {f : FuncId} {args : List Value} {H H' : List Row} {R : Value → List Row → Prop} (h : Fc P f args H R) (hp : H.Perm H') : Fc P f args H' R := by
  unfold Fc at *
  exact ⟨h.1, fun B w0 w hS => h.2 B w0 w (hS.perm hp)⟩
theorem XO.permH {P : Program} {n : Nat} {ops : Array Oper} {i : Nat} {F : FS} {H H' : List Row} {N : FS → List Row → Prop} (hp : H'.Perm H) (k : XO P n ops i F H' N) : XO P n ops i F H N := by
  unfold XO WO at *
  intro t ha B w0 w hS
  exact k t ha B w0 w (hS.perm hp)
theorem XO.weakH {P : Program} {n : Nat} {ops : Array Oper} {i : Nat} {F : FS} {H H' : List Row} {N : FS → List Row → Prop} (hp : H'.Sublist H) (k : XO P n ops i F H' N) : XO P n ops i F H N := by
  unfold XO WO at *
  intro t ha B w0 w hS
  exact k t ha B w0 w (hS.sub hp)
theorem permq {α : Type} (a b c d : α) (T : List α) : (d :: b :: a :: c :: T).Perm (a :: b :: c :: d :: T) :=
  (List.Perm.swap b d _).trans ((List.Perm.cons b (List.Perm.swap a d _)).trans ((List.Perm.swap a b _).trans (List.Perm.cons a (List.Perm.cons b (List.Perm.swap c d T)))))
theorem perm1 {α : Type} (V A Z T : List α) : (Z ++ (V ++ (A ++ T))).Perm (V ++ (A ++ (Z ++ T))) :=
  ((List.perm_append_comm_assoc Z V (A ++ T))).trans (List.Perm.append_left V (List.perm_append_comm_assoc Z A T))
theorem perm2 {α : Type} (V A B Z T : List α) : (Z ++ (V ++ (A ++ (B ++ T)))).Perm (V ++ (A ++ (B ++ (Z ++ T)))) :=
  ((List.perm_append_comm_assoc Z V (A ++ (B ++ T)))).trans (List.Perm.append_left V (perm1 A B Z T))
theorem EvF.cmpSelf {P : Program} {n : Nat} {H : List Row} {F : FS} {o : Oper} {T T' : TypeId} {x y : Operand} {k : IntKind} {p : Int} (h : o.op = .binOp .eql T x y T') (hx : evF F x = some (.int k p)) (hy : evF F y = some (.int k p)) : EvF P n H F o (.bool true) := by
  have := EvF.cmp (P := P) (n := n) (H := H) h hx hy rfl
  rwa [decide_eq_true rfl] at this
end Go.Fw
namespace Go.Proofs.Ytmljpmcipcoaaaa
open Go Go.Fw
set_option maxRecDepth 10000
theorem OwnRm.ok {Z : List Row} {R : Rm} {p : Pl} (h : OwnRm Z R p) (h1 : R.ages.length ≤ 9223372036854775807) (h2 : R.boxes.length ≤ 9223372036854775807) (h3 : R.mats.length ≤ 9223372036854775807) : RmOk Z R p := by
  rcases h with ⟨rfl, rfl, rfl⟩ | ⟨t1, k1, t2, k2, t3, k3, rfl, hp⟩
  · exact RmOk.zero _
  · exact ⟨ownSl (fun _ => rfl) (hp.mem_iff.2 (List.Mem.head _)), ownSl (fun _ => rfl) (hp.mem_iff.2 (List.Mem.tail _ (List.Mem.head _))), ownSl (fun _ => rfl) (hp.mem_iff.2 (List.Mem.tail _ (List.Mem.tail _ (List.Mem.head _)))), h1, h2, h3⟩
theorem spoilOwn {Z : List Row} {R : Rm} {p : Pl} (h : OwnRm Z R p) (h1 : R.ages.length ≤ 9223372036854775807) (h2 : R.boxes.length ≤ 9223372036854775807) (h3 : R.mats.length ≤ 9223372036854775807) (H : List Row) : Fc Try.prog 49 [.agg (cRm R p).toArray] (Z ++ H) (fun v H' => v = .tuple #[] ∧ H' = H) := by
  rcases h with ⟨rfl, rfl, rfl⟩ | ⟨t1, k1, t2, k2, t3, k3, rfl, hp⟩
  · exact spoil0_spec H
  · exact (spoil_spec R t1 k1 t2 k2 t3 k3 H h1 h2 h3).perm (List.Perm.append_right H hp.symm)
theorem same_self (R : Rm) (p q : Pl) (H : List Row) (hR : RmOk H R p) (hS : RmOk H R q) : Fc Try.prog 21 [.agg (cRm R p).toArray, .agg (cRm R q).toArray] H (fun v H' => v = .bool true ∧ H' = H) :=
  (same_spec R R p q H hR hS).mono (fun v H' ⟨h1, h2⟩ => ⟨by rw [h1, decide_eq_true rfl], h2⟩)
theorem sameInts_self (l : List Int) (a a' : Option Addr) (c c' : Nat) (H : List Row) (hl : SlE H a cI 1 l) (hm : SlE H a' cI 1 l) (hb : l.length ≤ 9223372036854775807) : Fc Try.prog 36 [.slice a l.length c, .slice a' l.length c'] H (fun v H' => v = .bool true ∧ H' = H) :=
  (sameInts_spec l l a a' c c' H hl hm hb).mono (fun v H' ⟨h1, h2⟩ => ⟨by rw [h1, decide_eq_true rfl], h2⟩)
theorem len_put (R : Rm) (x : Mt) (h1 : R.ages.length ≤ 1000) (h2 : R.boxes.length ≤ 1000) (h3 : R.mats.length ≤ 1000) : (putF R x).1.ages.length ≤ 1001 ∧ (putF R x).1.boxes.length ≤ 1001 ∧ (putF R x).1.mats.length ≤ 1001 := by
  have := insMt_len x R.mats
  unfold putF putRm
  split
  · split
    · simp [Rz]
    · split
      · dsimp only; omega
      · simp [Rz]
  · simp [Rz]
theorem len_add (R : Rm) (x : Bx) (h1 : R.ages.length ≤ 1000) (h2 : R.boxes.length ≤ 1000) (h3 : R.mats.length ≤ 1000) : (addF R x).1.ages.length ≤ 1001 ∧ (addF R x).1.boxes.length ≤ 1001 ∧ (addF R x).1.mats.length ≤ 1001 := by
  have := insBx_len x R.boxes
  unfold addF addRm
  split
  · split
    · simp [Rz]
    · split
      · dsimp only; omega
      · simp [Rz]
  · simp [Rz]
theorem len_str (R : Rm) (l : List Int) (h1 : R.ages.length ≤ 1000) (h2 : R.boxes.length ≤ 1000) (h3 : R.mats.length ≤ 1000) : (strF R l).1.ages.length ≤ 1001 ∧ (strF R l).1.boxes.length ≤ 1001 ∧ (strF R l).1.mats.length ≤ 1001 := by
  have : (leftMt R.mats l).length ≤ R.mats.length := List.length_filter_le _ _
  unfold strF strRm
  split
  · split
    · dsimp only; omega
    · simp [Rz]
  · simp [Rz]
set_option maxHeartbeats 8000000 in
theorem boxChanges_spec (R : Rm) (p : Pl) (x : Mt) (l : List Int) (al : Option Addr) (cl : Nat) (y : Bx) (H : List Row) (hR : RmOk H R p) (hl : SlE H al cI 1 l) (hc2 : R.boxes.length ≤ p.c2) (hc3 : R.mats.length ≤ p.c3) :
    Fc Try.prog 7 [.agg (cRm R p).toArray, .agg (cMt x).toArray, .slice al l.length cl, .agg (cBx y).toArray] H (fun v _ => v = .bool true) := by
  have hR3 : ∀ r1 r2 r3, RmOk (r1 :: r2 :: r3 :: H) R p := fun r1 r2 r3 => hR.sub (fun _ h => List.Mem.tail _ (List.Mem.tail _ (List.Mem.tail _ h)))
  have hl8 : ∀ r1 r2 r3 r4 r5 r6 r7, SlE (r1 :: r2 :: r3 :: r4 :: r5 :: r6 :: r7 :: H) al cI 1 l := fun r1 r2 r3 r4 r5 r6 r7 => hl.sub (fun _ h => List.Mem.tail _ (List.Mem.tail _ (List.Mem.tail _ (List.Mem.tail _ (List.Mem.tail _ (List.Mem.tail _ (List.Mem.tail _ h)))))))
  refine Fc.mk (callable Try.call7) Try.func7 rfl Try.ntmps7 rfl ?_; dsimp only [fr]
  refine X.seq rfl ?_; refine X.region rfl (fun K hK => ?_); repeat' (first | (refine XO.op rfl ?_; (first | ((first | refine Xo.ng rfl ?_); (first | (refine Xg.ev (EvF.assign rfl rfl) rfl rfl ?_) | (refine Xg.st (StF.boxAgg rfl rfl) rfl rfl ?_; rintro _ _ ⟨bx, rfl, rfl⟩))))) | (refine XO.done rfl ?_; refine hK _ _ ?_; clear hK K))
  rename_i b4 b5
  rename Nat => b7
  repeat' (first | (refine XO.op rfl ?_; (first | ((first | refine Xo.ng rfl ?_ | (refine Xo.g rfl rfl ?_; with_reducible refine Xw.ff ?_)); (first | (refine Xg.call (EnF.st rfl (by (repeat (first | exact Args.nil | refine Args.cons rfl ?_)); done)) rfl rfl (great_spec R p _) ?_; rintro _ H9 ⟨rfl, hH9⟩; subst H9) | (refine Xg.ev (EvF.move rfl rfl) rfl rfl ?_) | (refine Xg.ev (EvF.assign rfl rfl) rfl rfl ?_) | (refine Xg.ev (EvF.pickT rfl rfl rfl) rfl rfl ?_) | (refine Xg.ev (EvF.pickF rfl rfl rfl) rfl rfl ?_) | (refine Xg.ev (EvF.cmp rfl rfl rfl rfl) rfl rfl ?_) | (refine Xg.ev (EvF.lenSlice rfl rfl (te rfl)) rfl rfl ?_) | (refine Xg.ev (EvF.loadV rfl rfl (LoadV.whole (te rfl) rfl (List.Mem.tail _ (List.Mem.tail _ (List.Mem.head _))) rfl)) rfl rfl ?_))) | (refine Xo.g rfl rfl ?_; (first | (with_reducible refine Xw.tf rfl rfl ?_) | (with_reducible refine Xw.case (fun h => ?_) (fun h => ?_) <;> simp only [h, decide_true, decide_false, Bool.not_true, Bool.not_false, and_self, and_true, true_and, and_false, false_and]))))) | (refine XO.done rfl ?_; refine hK _ _ ?_; clear hK K) | refine X.seq rfl ?_ | refine X.region rfl (fun K hK => ?_) | refine X.skip rfl ?_ | refine X.ret rfl ?_ | (refine X.ite rfl rfl (fun hc => ?_); (first | (with_reducible refine Xb.t hc ?_) | (with_reducible refine Xb.case hc (fun h => ?_) (fun h => ?_))) <;> clear hc))
  · exact ret_one (by first | exact .inr rfl | exact .inl rfl) Try.results7 rfl (List.Sublist.refl _) rfl
  · exact ret_one (by first | exact .inr rfl | exact .inl rfl) Try.results7 rfl (List.Sublist.refl _) rfl
  have hg : ¬ great R := by assumption
  have h1 : R.ages.length ≤ 1000 := by unfold great at hg; omega
  have h2 : R.boxes.length ≤ 1000 := by unfold great at hg; omega
  have h3 : R.mats.length ≤ 1000 := by unfold great at hg; omega
  have h4 : l.length ≤ 1000 := by omega
  obtain ⟨q1, q2, q3⟩ := len_put R x h1 h2 h3
  obtain ⟨q4, q5, q6⟩ := len_str R l h1 h2 h3
  obtain ⟨q7, q8, q9⟩ := len_add R y h1 h2 h3
  repeat' (first | (refine XO.op rfl ?_; (first | ((first | refine Xo.ng rfl ?_); (first | (refine Xg.call (EnF.st rfl (by (repeat (first | exact Args.nil | refine Args.cons rfl ?_)); done)) rfl rfl (twin_spec R _ _ (hR3 _ _ _) (by omega) (by omega) (by omega)) ?_; rintro _ _ ⟨t1, k1, t2, k2, t3, k3, rfl, rfl⟩) | (refine Xg.st (StF.buildNil rfl el55) rfl rfl ?_; rintro _ _ ⟨bz, rfl, rfl⟩) | (refine Xg.st (StF.appendSl (i := 0) rfl el55 rfl rfl rfl (hl8 _ _ _ _ _ _ _) (fun e _ => one_i e) rfl (by decide) (by omega)) rfl rfl ?_; rintro _ _ ⟨bm, km, rfl, rfl⟩; dsimp only [List.eraseIdx]; simp only [Nat.zero_add, List.nil_append]) | (refine Xg.ev (EvF.move rfl rfl) rfl rfl ?_) | (refine Xg.ev (EvF.assign rfl rfl) rfl rfl ?_) | (refine Xg.ev (EvF.loadV rfl rfl (LoadV.whole (te rfl) rfl (List.Mem.head _) rfl)) rfl rfl ?_) | (refine Xg.ev (EvF.loadV rfl rfl (LoadV.whole (te rfl) rfl (List.Mem.tail _ (List.Mem.tail _ (List.Mem.tail _ (List.Mem.tail _ (List.Mem.tail _ (List.Mem.tail _ (List.Mem.head _))))))) rfl)) rfl rfl ?_) | (refine Xg.st (StF.alloc rfl Try.zeroValue26 rfl) rfl rfl ?_; rintro _ _ ⟨bx, rfl, rfl⟩) | (refine Xg.st0 (StF.storeAll (i := 0) rfl rfl rfl (te rfl) rfl rfl rfl rfl) rfl ?_; rintro _ _ ⟨rfl, rfl⟩; dsimp only [List.set]))))) | (refine XO.done rfl ?_; refine hK _ _ ?_; clear hK K) | refine X.seq rfl ?_ | refine X.region rfl (fun K hK => ?_))
  rename Nat => b9
  obtain ⟨T3, hT3⟩ : ∃ T, T = ⟨bm, 0, l.flatMap cI, some 3, km * 1⟩ :: ⟨t1, 0, R.ages.flatMap cSp, some 35, k1 * 2⟩ :: ⟨t2, 0, R.boxes.flatMap cBx, some 77, k2 * 2⟩ :: ⟨t3, 0, R.mats.flatMap cMt, some 75, k3 * 6⟩ :: H := ⟨_, rfl⟩
  have hRo : RmOk T3 R ⟨some ⟨t1, 0, none⟩, k1, some ⟨t2, 0, none⟩, k2, some ⟨t3, 0, none⟩, k3⟩ := by
    rw [hT3]
    exact ⟨ownSl (fun _ => rfl) (List.Mem.tail _ (List.Mem.head _)), ownSl (fun _ => rfl) (List.Mem.tail _ (List.Mem.tail _ (List.Mem.head _))), ownSl (fun _ => rfl) (List.Mem.tail _ (List.Mem.tail _ (List.Mem.tail _ (List.Mem.head _)))), by omega, by omega, by omega⟩
  have hRr : RmOk T3 R p := by rw [hT3]; exact hR.sub (fun _ h => List.Mem.tail _ (List.Mem.tail _ (List.Mem.tail _ (List.Mem.tail _ h))))
  have hll : SlE T3 al cI 1 l := by rw [hT3]; exact hl.sub (fun _ h => List.Mem.tail _ (List.Mem.tail _ (List.Mem.tail _ (List.Mem.tail _ h))))
  have hlm : SlE T3 (some ⟨bm, 0, none⟩) cI 1 l := by rw [hT3]; exact ownSl (fun _ => rfl) (List.Mem.head _)
  refine XO.permH (H' := ⟨b4, 0, cRm R p, some 26, 5⟩ :: ⟨b7, 0, cBx y, some 77, 2⟩ :: ⟨b9, 0, cRm R ⟨some ⟨t1, 0, none⟩, k1, some ⟨t2, 0, none⟩, k2, some ⟨t3, 0, none⟩, k3⟩, some 26, 5⟩ :: ⟨b5, 0, cMt x, some 75, 6⟩ :: T3) (by rw [hT3]; exact (permq _ _ _ _ _).trans (List.Perm.cons _ (List.perm_append_comm_assoc [_, _, _] [_, _, _, _] H))) ?_
  clear hT3
  repeat' (first | (refine XO.op rfl ?_; (first | ((first | refine Xo.ng rfl ?_); (first | (refine Xg.call (EnF.st rfl (by (repeat (first | exact Args.nil | refine Args.cons rfl ?_)); done)) rfl rfl (putB_spec R x _ _ _ _ _ _ _ (hRo.sub (fun r h => by simp [h])) (by omega) (by omega) (by omega)) ?_; rintro _ _ ⟨pa, Za, rfl, rfl, ha⟩; dsimp only [tup']) | (refine Xg.ev (EvF.move rfl rfl) rfl rfl ?_) | (refine Xg.ev (EvF.assign rfl rfl) rfl rfl ?_) | (refine Xg.ev (EvF.extract rfl rfl rfl) rfl rfl ?_) | (refine Xg.st (StF.alloc rfl Try.zeroValue26 rfl) rfl rfl ?_; rintro _ _ ⟨bx, rfl, rfl⟩) | (refine Xg.st0 (StF.storeAll (i := 0) rfl rfl rfl (te rfl) rfl rfl rfl rfl) rfl ?_; rintro _ _ ⟨rfl, rfl⟩; dsimp only [List.set]))))) | (refine XO.done rfl ?_; refine hK _ _ ?_; clear hK K) | refine X.seq rfl ?_ | refine X.region rfl (fun K hK => ?_))
  rename Nat => b11
  refine XO.permH (H' := ⟨b11, 0, cRm (putF R x).1 pa, some 26, 5⟩ :: ⟨b4, 0, cRm R p, some 26, 5⟩ :: ⟨b7, 0, cBx y, some 77, 2⟩ :: ⟨b9, 0, cRm R ⟨some ⟨t1, 0, none⟩, k1, some ⟨t2, 0, none⟩, k2, some ⟨t3, 0, none⟩, k3⟩, some 26, 5⟩ :: ⟨b5, 0, cMt x, some 75, 6⟩ :: (Za ++ T3)) (List.Perm.cons _ (List.perm_append_comm_assoc [_, _, _, _] Za _)) ?_
  repeat' (first | (refine XO.op rfl ?_; (first | ((first | refine Xo.ng rfl ?_); (first | (refine Xg.call (EnF.st rfl (by (repeat (first | exact Args.nil | refine Args.cons rfl ?_)); done)) rfl rfl (refputRm_spec R p x _ (hRr.sub (fun r h => by simp [h])) (by omega) (by omega) (by omega) hc3) ?_; rintro _ _ ⟨pb, Zb, rfl, rfl, hb⟩; dsimp only [tup']) | (refine Xg.ev (EvF.move rfl rfl) rfl rfl ?_) | (refine Xg.ev (EvF.assign rfl rfl) rfl rfl ?_) | (refine Xg.ev (EvF.loadV rfl rfl (LoadV.whole (te rfl) rfl (List.Mem.tail _ (List.Mem.head _)) rfl)) rfl rfl ?_) | (refine Xg.ev (EvF.loadV rfl rfl (LoadV.whole (te rfl) rfl (List.Mem.tail _ (List.Mem.tail _ (List.Mem.tail _ (List.Mem.tail _ (List.Mem.head _))))) rfl)) rfl rfl ?_) | (refine Xg.ev (EvF.extract rfl rfl rfl) rfl rfl ?_) | (refine Xg.st (StF.alloc rfl Try.zeroValue26 rfl) rfl rfl ?_; rintro _ _ ⟨bx, rfl, rfl⟩) | (refine Xg.st0 (StF.storeAll (i := 0) rfl rfl rfl (te rfl) rfl rfl rfl rfl) rfl ?_; rintro _ _ ⟨rfl, rfl⟩; dsimp only [List.set]))))) | (refine XO.done rfl ?_; refine hK _ _ ?_; clear hK K) | refine X.seq rfl ?_ | refine X.region rfl (fun K hK => ?_))
  rename Nat => b13
  refine XO.permH (H' := ⟨b13, 0, cRm (putF R x).1 pb, some 26, 5⟩ :: ⟨b11, 0, cRm (putF R x).1 pa, some 26, 5⟩ :: ⟨b4, 0, cRm R p, some 26, 5⟩ :: ⟨b7, 0, cBx y, some 77, 2⟩ :: ⟨b9, 0, cRm R ⟨some ⟨t1, 0, none⟩, k1, some ⟨t2, 0, none⟩, k2, some ⟨t3, 0, none⟩, k3⟩, some 26, 5⟩ :: ⟨b5, 0, cMt x, some 75, 6⟩ :: (Zb ++ (Za ++ T3))) (List.Perm.cons _ (List.perm_append_comm_assoc [_, _, _, _, _] Zb _)) ?_
  repeat' (first | (refine XO.op rfl ?_; (first | ((first | refine Xo.ng rfl ?_); (first | (refine Xg.call (EnF.st rfl (by (repeat (first | exact Args.nil | refine Args.cons rfl ?_)); done)) rfl rfl (strB_spec R l _ _ _ _ _ _ _ _ _ (hRo.sub (fun r h => by simp [h])) (by omega) (by omega) (by omega) (hlm.sub (fun r h => by simp [h])) (by omega)) ?_; rintro _ _ ⟨pc, Zc, rfl, rfl, hc⟩; dsimp only [tup']) | (refine Xg.ev (EvF.move rfl rfl) rfl rfl ?_) | (refine Xg.ev (EvF.assign rfl rfl) rfl rfl ?_) | (refine Xg.ev (EvF.loadV rfl rfl (LoadV.whole (te rfl) rfl (List.Mem.tail _ (List.Mem.tail _ (List.Mem.tail _ (List.Mem.tail _ (List.Mem.head _))))) rfl)) rfl rfl ?_) | (refine Xg.ev (EvF.extract rfl rfl rfl) rfl rfl ?_) | (refine Xg.st (StF.alloc rfl Try.zeroValue26 rfl) rfl rfl ?_; rintro _ _ ⟨bx, rfl, rfl⟩) | (refine Xg.st0 (StF.storeAll (i := 0) rfl rfl rfl (te rfl) rfl rfl rfl rfl) rfl ?_; rintro _ _ ⟨rfl, rfl⟩; dsimp only [List.set]))))) | (refine XO.done rfl ?_; refine hK _ _ ?_; clear hK K) | refine X.seq rfl ?_ | refine X.region rfl (fun K hK => ?_))
  rename Nat => b15
  refine XO.permH (H' := ⟨b15, 0, cRm (strF R l).1 pc, some 26, 5⟩ :: ⟨b13, 0, cRm (putF R x).1 pb, some 26, 5⟩ :: ⟨b11, 0, cRm (putF R x).1 pa, some 26, 5⟩ :: ⟨b4, 0, cRm R p, some 26, 5⟩ :: ⟨b7, 0, cBx y, some 77, 2⟩ :: ⟨b9, 0, cRm R ⟨some ⟨t1, 0, none⟩, k1, some ⟨t2, 0, none⟩, k2, some ⟨t3, 0, none⟩, k3⟩, some 26, 5⟩ :: ⟨b5, 0, cMt x, some 75, 6⟩ :: (Zc ++ (Zb ++ (Za ++ T3)))) (List.Perm.cons _ (List.perm_append_comm_assoc [_, _, _, _, _, _] Zc _)) ?_
  repeat' (first | (refine XO.op rfl ?_; (first | ((first | refine Xo.ng rfl ?_); (first | (refine Xg.call (EnF.st rfl (by (repeat (first | exact Args.nil | refine Args.cons rfl ?_)); done)) rfl rfl (refStr_spec R p l _ _ _ (hRr.sub (fun r h => by simp [h])) (hll.sub (fun r h => by simp [h])) (by omega) (by omega) (by omega) (by omega)) ?_; rintro _ _ ⟨pd, Zd, rfl, rfl, hd⟩; dsimp only [tup']) | (refine Xg.ev (EvF.move rfl rfl) rfl rfl ?_) | (refine Xg.ev (EvF.assign rfl rfl) rfl rfl ?_) | (refine Xg.ev (EvF.loadV rfl rfl (LoadV.whole (te rfl) rfl (List.Mem.tail _ (List.Mem.tail _ (List.Mem.tail _ (List.Mem.head _)))) rfl)) rfl rfl ?_) | (refine Xg.ev (EvF.extract rfl rfl rfl) rfl rfl ?_) | (refine Xg.st (StF.alloc rfl Try.zeroValue26 rfl) rfl rfl ?_; rintro _ _ ⟨bx, rfl, rfl⟩) | (refine Xg.st0 (StF.storeAll (i := 0) rfl rfl rfl (te rfl) rfl rfl rfl rfl) rfl ?_; rintro _ _ ⟨rfl, rfl⟩; dsimp only [List.set]))))) | (refine XO.done rfl ?_; refine hK _ _ ?_; clear hK K) | refine X.seq rfl ?_ | refine X.region rfl (fun K hK => ?_))
  rename Nat => b17
  refine XO.permH (H' := ⟨b17, 0, cRm (strF R l).1 pd, some 26, 5⟩ :: ⟨b15, 0, cRm (strF R l).1 pc, some 26, 5⟩ :: ⟨b13, 0, cRm (putF R x).1 pb, some 26, 5⟩ :: ⟨b11, 0, cRm (putF R x).1 pa, some 26, 5⟩ :: ⟨b4, 0, cRm R p, some 26, 5⟩ :: ⟨b7, 0, cBx y, some 77, 2⟩ :: ⟨b9, 0, cRm R ⟨some ⟨t1, 0, none⟩, k1, some ⟨t2, 0, none⟩, k2, some ⟨t3, 0, none⟩, k3⟩, some 26, 5⟩ :: ⟨b5, 0, cMt x, some 75, 6⟩ :: (Zd ++ (Zc ++ (Zb ++ (Za ++ T3))))) (List.Perm.cons _ (List.perm_append_comm_assoc [_, _, _, _, _, _, _] Zd _)) ?_
  repeat' (first | (refine XO.op rfl ?_; (first | ((first | refine Xo.ng rfl ?_); (first | (refine Xg.call (EnF.st rfl (by (repeat (first | exact Args.nil | refine Args.cons rfl ?_)); done)) rfl rfl (addB_spec R y _ _ _ _ _ _ _ (hRo.sub (fun r h => by simp [h])) (by omega) (by omega) (by omega)) ?_; rintro _ _ ⟨pp, Zp, rfl, rfl, hp⟩; dsimp only [tup']) | (refine Xg.ev (EvF.move rfl rfl) rfl rfl ?_) | (refine Xg.ev (EvF.assign rfl rfl) rfl rfl ?_) | (refine Xg.ev (EvF.loadV rfl rfl (LoadV.whole (te rfl) rfl (List.Mem.tail _ (List.Mem.tail _ (List.Mem.tail _ (List.Mem.tail _ (List.Mem.tail _ (List.Mem.head _)))))) rfl)) rfl rfl ?_) | (refine Xg.ev (EvF.loadV rfl rfl (LoadV.whole (te rfl) rfl (List.Mem.tail _ (List.Mem.tail _ (List.Mem.tail _ (List.Mem.tail _ (List.Mem.tail _ (List.Mem.tail _ (List.Mem.head _))))))) rfl)) rfl rfl ?_) | (refine Xg.ev (EvF.extract rfl rfl rfl) rfl rfl ?_) | (refine Xg.st (StF.alloc rfl Try.zeroValue26 rfl) rfl rfl ?_; rintro _ _ ⟨bx, rfl, rfl⟩) | (refine Xg.st0 (StF.storeAll (i := 0) rfl rfl rfl (te rfl) rfl rfl rfl rfl) rfl ?_; rintro _ _ ⟨rfl, rfl⟩; dsimp only [List.set]))))) | (refine XO.done rfl ?_; refine hK _ _ ?_; clear hK K) | refine X.seq rfl ?_ | refine X.region rfl (fun K hK => ?_))
  rename Nat => b19
  refine XO.permH (H' := ⟨b19, 0, cRm (addF R y).1 pp, some 26, 5⟩ :: ⟨b17, 0, cRm (strF R l).1 pd, some 26, 5⟩ :: ⟨b15, 0, cRm (strF R l).1 pc, some 26, 5⟩ :: ⟨b13, 0, cRm (putF R x).1 pb, some 26, 5⟩ :: ⟨b11, 0, cRm (putF R x).1 pa, some 26, 5⟩ :: ⟨b4, 0, cRm R p, some 26, 5⟩ :: ⟨b7, 0, cBx y, some 77, 2⟩ :: ⟨b9, 0, cRm R ⟨some ⟨t1, 0, none⟩, k1, some ⟨t2, 0, none⟩, k2, some ⟨t3, 0, none⟩, k3⟩, some 26, 5⟩ :: ⟨b5, 0, cMt x, some 75, 6⟩ :: (Zp ++ (Zd ++ (Zc ++ (Zb ++ (Za ++ T3)))))) (List.Perm.cons _ (List.perm_append_comm_assoc [_, _, _, _, _, _, _, _] Zp _)) ?_
  repeat' (first | (refine XO.op rfl ?_; (first | ((first | refine Xo.ng rfl ?_); (first | (refine Xg.call (EnF.st rfl (by (repeat (first | exact Args.nil | refine Args.cons rfl ?_)); done)) rfl rfl (refaddRm_spec R p y _ (hRr.sub (fun r h => by simp [h])) (by omega) (by omega) (by omega) hc2) ?_; rintro _ _ ⟨pq, Zq, rfl, rfl, hq⟩; dsimp only [tup']) | (refine Xg.ev (EvF.move rfl rfl) rfl rfl ?_) | (refine Xg.ev (EvF.assign rfl rfl) rfl rfl ?_) | (refine Xg.ev (EvF.loadV rfl rfl (LoadV.whole (te rfl) rfl (List.Mem.tail _ (List.Mem.tail _ (List.Mem.tail _ (List.Mem.tail _ (List.Mem.tail _ (List.Mem.head _)))))) rfl)) rfl rfl ?_) | (refine Xg.ev (EvF.loadV rfl rfl (LoadV.whole (te rfl) rfl (List.Mem.tail _ (List.Mem.tail _ (List.Mem.tail _ (List.Mem.tail _ (List.Mem.tail _ (List.Mem.tail _ (List.Mem.head _))))))) rfl)) rfl rfl ?_) | (refine Xg.ev (EvF.extract rfl rfl rfl) rfl rfl ?_) | (refine Xg.st (StF.alloc rfl Try.zeroValue26 rfl) rfl rfl ?_; rintro _ _ ⟨bx, rfl, rfl⟩) | (refine Xg.st0 (StF.storeAll (i := 0) rfl rfl rfl (te rfl) rfl rfl rfl rfl) rfl ?_; rintro _ _ ⟨rfl, rfl⟩; dsimp only [List.set]))))) | (refine XO.done rfl ?_; refine hK _ _ ?_; clear hK K) | refine X.seq rfl ?_ | refine X.region rfl (fun K hK => ?_))
  rename Nat => b21
  refine XO.permH (H' := ⟨b21, 0, cRm (addF R y).1 pq, some 26, 5⟩ :: ⟨b19, 0, cRm (addF R y).1 pp, some 26, 5⟩ :: ⟨b17, 0, cRm (strF R l).1 pd, some 26, 5⟩ :: ⟨b15, 0, cRm (strF R l).1 pc, some 26, 5⟩ :: ⟨b13, 0, cRm (putF R x).1 pb, some 26, 5⟩ :: ⟨b11, 0, cRm (putF R x).1 pa, some 26, 5⟩ :: ⟨b4, 0, cRm R p, some 26, 5⟩ :: ⟨b7, 0, cBx y, some 77, 2⟩ :: ⟨b9, 0, cRm R ⟨some ⟨t1, 0, none⟩, k1, some ⟨t2, 0, none⟩, k2, some ⟨t3, 0, none⟩, k3⟩, some 26, 5⟩ :: ⟨b5, 0, cMt x, some 75, 6⟩ :: (Zq ++ (Zp ++ (Zd ++ (Zc ++ (Zb ++ (Za ++ T3))))))) (List.Perm.cons _ (List.perm_append_comm_assoc [_, _, _, _, _, _, _, _, _] Zq _)) ?_
  have oa := ha.ok (by omega) (by omega) (by omega)
  have oc := hc.ok (by omega) (by omega) (by omega)
  have op := hp.ok (by omega) (by omega) (by omega)
  have e1 : ∀ S, (∀ r, r ∈ Za ∨ r ∈ Zb → r ∈ S) → Fc Try.prog 21 [.agg (cRm (putF R x).1 pa).toArray, .agg (cRm (putF R x).1 pb).toArray] S (fun v H' => v = .bool true ∧ H' = S) := fun S hS => same_self _ _ _ _ (oa.sub (fun r h => hS r (.inl h))) (hb.sub (fun r h => hS r (.inr h)))
  have e2 : ∀ S, (∀ r, r ∈ Zc ∨ r ∈ Zd → r ∈ S) → Fc Try.prog 21 [.agg (cRm (strF R l).1 pc).toArray, .agg (cRm (strF R l).1 pd).toArray] S (fun v H' => v = .bool true ∧ H' = S) := fun S hS => same_self _ _ _ _ (oc.sub (fun r h => hS r (.inl h))) (hd.sub (fun r h => hS r (.inr h)))
  have e3 : ∀ S, (∀ r, r ∈ Zp ∨ r ∈ Zq → r ∈ S) → Fc Try.prog 21 [.agg (cRm (addF R y).1 pp).toArray, .agg (cRm (addF R y).1 pq).toArray] S (fun v H' => v = .bool true ∧ H' = S) := fun S hS => same_self _ _ _ _ (op.sub (fun r h => hS r (.inl h))) (hq.sub (fun r h => hS r (.inr h)))
  repeat' (first | (refine XO.op rfl ?_; (first | ((first | refine Xo.ng rfl ?_); (first | (refine Xg.ev (EvF.loadV rfl rfl (LoadV.whole (te rfl) rfl (List.Mem.tail _ (List.Mem.tail _ (List.Mem.tail _ (List.Mem.tail _ (List.Mem.head _))))) rfl)) rfl rfl ?_) | (refine Xg.ev (EvF.loadV rfl rfl (LoadV.whole (te rfl) rfl (List.Mem.tail _ (List.Mem.tail _ (List.Mem.tail _ (List.Mem.tail _ (List.Mem.tail _ (List.Mem.head _)))))) rfl)) rfl rfl ?_))))))
  refine XO.op rfl ?_
  refine Xo.ng rfl ?_
  refine Xg.call (EnF.st rfl (Args.cons rfl (Args.cons rfl Args.nil))) rfl rfl (e1 _ (fun r h => by rcases h with h | h <;> simp [h])) ?_
  rintro _ H9 ⟨rfl, hH9⟩
  subst H9
  repeat' (first | (refine XO.op rfl ?_; (first | ((first | refine Xo.ng rfl ?_ | (refine Xo.g rfl rfl ?_; with_reducible refine Xw.tt ?_)); (first | (refine Xg.ev (EvF.cmpSelf rfl rfl rfl) rfl rfl ?_) | (refine Xg.ev (EvF.move rfl rfl) rfl rfl ?_) | (refine Xg.ev (EvF.pickT rfl rfl rfl) rfl rfl ?_) | (refine Xg.ev (EvF.loadV rfl rfl (LoadV.whole (te rfl) rfl (List.Mem.tail _ (List.Mem.tail _ (List.Mem.head _))) rfl)) rfl rfl ?_) | (refine Xg.ev (EvF.loadV rfl rfl (LoadV.whole (te rfl) rfl (List.Mem.tail _ (List.Mem.tail _ (List.Mem.tail _ (List.Mem.head _)))) rfl)) rfl rfl ?_))))))
  refine XO.op rfl ?_
  refine Xo.g rfl rfl ?_
  refine Xw.tt ?_
  refine Xg.call (EnF.st rfl (Args.cons rfl (Args.cons rfl Args.nil))) rfl rfl (e2 _ (fun r h => by rcases h with h | h <;> simp [h])) ?_
  rintro _ H9 ⟨rfl, hH9⟩
  subst H9
  repeat' (first | (refine XO.op rfl ?_; (first | ((first | refine Xo.ng rfl ?_ | (refine Xo.g rfl rfl ?_; with_reducible refine Xw.tt ?_)); (first | (refine Xg.ev (EvF.cmpSelf rfl rfl rfl) rfl rfl ?_) | (refine Xg.ev (EvF.move rfl rfl) rfl rfl ?_) | (refine Xg.ev (EvF.pickT rfl rfl rfl) rfl rfl ?_) | (refine Xg.ev (EvF.loadV rfl rfl (LoadV.whole (te rfl) rfl (List.Mem.head _) rfl)) rfl rfl ?_) | (refine Xg.ev (EvF.loadV rfl rfl (LoadV.whole (te rfl) rfl (List.Mem.tail _ (List.Mem.head _)) rfl)) rfl rfl ?_))))))
  refine XO.op rfl ?_
  refine Xo.g rfl rfl ?_
  refine Xw.tt ?_
  refine Xg.call (EnF.st rfl (Args.cons rfl (Args.cons rfl Args.nil))) rfl rfl (e3 _ (fun r h => by rcases h with h | h <;> simp [h])) ?_
  rintro _ H9 ⟨rfl, hH9⟩
  subst H9
  repeat' (first | (refine XO.op rfl ?_; (first | ((first | refine Xo.ng rfl ?_ | (refine Xo.g rfl rfl ?_; with_reducible refine Xw.tt ?_)); (first | (refine Xg.ev (EvF.cmpSelf rfl rfl rfl) rfl rfl ?_) | (refine Xg.ev (EvF.move rfl rfl) rfl rfl ?_) | (refine Xg.ev (EvF.assign rfl rfl) rfl rfl ?_) | (refine Xg.ev (EvF.pickT rfl rfl rfl) rfl rfl ?_) | (refine Xg.ev (EvF.loadV rfl rfl (LoadV.whole (te rfl) rfl (List.Mem.tail _ (List.Mem.tail _ (List.Mem.tail _ (List.Mem.tail _ (List.Mem.tail _ (List.Mem.head _)))))) rfl)) rfl rfl ?_))))) | (refine XO.done rfl ?_; refine hK _ _ ?_; clear hK K) | refine X.seq rfl ?_ | refine X.region rfl (fun K hK => ?_))
  have s1 : (Zp ++ (Zc ++ (Za ++ T3))).Sublist (Zq ++ (Zp ++ (Zd ++ (Zc ++ (Zb ++ (Za ++ T3)))))) :=
    (List.Sublist.append (List.Sublist.refl Zp) ((List.Sublist.append (List.Sublist.refl Zc) (List.sublist_append_right Zb _)).trans (List.sublist_append_right Zd _))).trans (List.sublist_append_right Zq _)
  refine XO.weakH (H' := ⟨b19, 0, cRm (addF R y).1 pp, some 26, 5⟩ :: ⟨b15, 0, cRm (strF R l).1 pc, some 26, 5⟩ :: ⟨b11, 0, cRm (putF R x).1 pa, some 26, 5⟩ :: ⟨b4, 0, cRm R p, some 26, 5⟩ :: ⟨b9, 0, cRm R ⟨some ⟨t1, 0, none⟩, k1, some ⟨t2, 0, none⟩, k2, some ⟨t3, 0, none⟩, k3⟩, some 26, 5⟩ :: (Zp ++ (Zc ++ (Za ++ T3)))) (List.Sublist.cons _ (List.Sublist.cons_cons _ (List.Sublist.cons _ (List.Sublist.cons_cons _ (List.Sublist.cons _ (List.Sublist.cons_cons _ (List.Sublist.cons_cons _ (List.Sublist.cons _ (List.Sublist.cons_cons _ (List.Sublist.cons _ s1)))))))))) ?_
  refine XO.permH (H' := Za ++ (⟨b19, 0, cRm (addF R y).1 pp, some 26, 5⟩ :: ⟨b15, 0, cRm (strF R l).1 pc, some 26, 5⟩ :: ⟨b11, 0, cRm (putF R x).1 pa, some 26, 5⟩ :: ⟨b4, 0, cRm R p, some 26, 5⟩ :: ⟨b9, 0, cRm R ⟨some ⟨t1, 0, none⟩, k1, some ⟨t2, 0, none⟩, k2, some ⟨t3, 0, none⟩, k3⟩, some 26, 5⟩ :: (Zp ++ (Zc ++ T3)))) (perm2 (α := Row) [⟨b19, 0, cRm (addF R y).1 pp, some 26, 5⟩, ⟨b15, 0, cRm (strF R l).1 pc, some 26, 5⟩, ⟨b11, 0, cRm (putF R x).1 pa, some 26, 5⟩, ⟨b4, 0, cRm R p, some 26, 5⟩, ⟨b9, 0, cRm R ⟨some ⟨t1, 0, none⟩, k1, some ⟨t2, 0, none⟩, k2, some ⟨t3, 0, none⟩, k3⟩, some 26, 5⟩] Zp Zc Za T3) ?_
  repeat' (first | (refine XO.op rfl ?_; (first | ((first | refine Xo.ng rfl ?_); (first | (refine Xg.call (EnF.st rfl (by (repeat (first | exact Args.nil | refine Args.cons rfl ?_)); done)) rfl rfl (spoilOwn ha (by omega) (by omega) (by omega) _) ?_; rintro _ H9 ⟨rfl, hH9⟩; subst H9) | (refine Xg.ev (EvF.loadV rfl rfl (LoadV.whole (te rfl) rfl (List.Mem.tail _ (List.Mem.head _)) rfl)) rfl rfl ?_))))) | (refine XO.done rfl ?_; refine hK _ _ ?_; clear hK K) | refine X.seq rfl ?_ | refine X.region rfl (fun K hK => ?_))
  refine XO.permH (H' := Zc ++ (⟨b19, 0, cRm (addF R y).1 pp, some 26, 5⟩ :: ⟨b15, 0, cRm (strF R l).1 pc, some 26, 5⟩ :: ⟨b11, 0, cRm (putF R x).1 pa, some 26, 5⟩ :: ⟨b4, 0, cRm R p, some 26, 5⟩ :: ⟨b9, 0, cRm R ⟨some ⟨t1, 0, none⟩, k1, some ⟨t2, 0, none⟩, k2, some ⟨t3, 0, none⟩, k3⟩, some 26, 5⟩ :: (Zp ++ T3))) (perm1 (α := Row) [⟨b19, 0, cRm (addF R y).1 pp, some 26, 5⟩, ⟨b15, 0, cRm (strF R l).1 pc, some 26, 5⟩, ⟨b11, 0, cRm (putF R x).1 pa, some 26, 5⟩, ⟨b4, 0, cRm R p, some 26, 5⟩, ⟨b9, 0, cRm R ⟨some ⟨t1, 0, none⟩, k1, some ⟨t2, 0, none⟩, k2, some ⟨t3, 0, none⟩, k3⟩, some 26, 5⟩] Zp Zc T3) ?_
  repeat' (first | (refine XO.op rfl ?_; (first | ((first | refine Xo.ng rfl ?_); (first | (refine Xg.call (EnF.st rfl (by (repeat (first | exact Args.nil | refine Args.cons rfl ?_)); done)) rfl rfl (spoilOwn hc (by omega) (by omega) (by omega) _) ?_; rintro _ H9 ⟨rfl, hH9⟩; subst H9) | (refine Xg.ev (EvF.loadV rfl rfl (LoadV.whole (te rfl) rfl (List.Mem.head _) rfl)) rfl rfl ?_))))) | (refine XO.done rfl ?_; refine hK _ _ ?_; clear hK K) | refine X.seq rfl ?_ | refine X.region rfl (fun K hK => ?_))
  refine XO.permH (H' := Zp ++ (⟨b19, 0, cRm (addF R y).1 pp, some 26, 5⟩ :: ⟨b15, 0, cRm (strF R l).1 pc, some 26, 5⟩ :: ⟨b11, 0, cRm (putF R x).1 pa, some 26, 5⟩ :: ⟨b4, 0, cRm R p, some 26, 5⟩ :: ⟨b9, 0, cRm R ⟨some ⟨t1, 0, none⟩, k1, some ⟨t2, 0, none⟩, k2, some ⟨t3, 0, none⟩, k3⟩, some 26, 5⟩ :: T3)) (List.perm_append_comm_assoc (α := Row) Zp [⟨b19, 0, cRm (addF R y).1 pp, some 26, 5⟩, ⟨b15, 0, cRm (strF R l).1 pc, some 26, 5⟩, ⟨b11, 0, cRm (putF R x).1 pa, some 26, 5⟩, ⟨b4, 0, cRm R p, some 26, 5⟩, ⟨b9, 0, cRm R ⟨some ⟨t1, 0, none⟩, k1, some ⟨t2, 0, none⟩, k2, some ⟨t3, 0, none⟩, k3⟩, some 26, 5⟩] T3) ?_
  repeat' (first | (refine XO.op rfl ?_; (first | ((first | refine Xo.ng rfl ?_ | (refine Xo.g rfl rfl ?_; with_reducible refine Xw.tt ?_)); (first | (refine Xg.call (EnF.st rfl (by (repeat (first | exact Args.nil | refine Args.cons rfl ?_)); done)) rfl rfl (spoilOwn hp (by omega) (by omega) (by omega) _) ?_; rintro _ H9 ⟨rfl, hH9⟩; subst H9) | (refine Xg.call (EnF.st rfl (by (repeat (first | exact Args.nil | refine Args.cons rfl ?_)); done)) rfl rfl (same_self R _ _ _ (hRo.sub (fun r h => by simp [h])) (hRr.sub (fun r h => by simp [h]))) ?_; rintro _ H9 ⟨rfl, hH9⟩; subst H9) | (refine Xg.call (EnF.st rfl (by (repeat (first | exact Args.nil | refine Args.cons rfl ?_)); done)) rfl rfl (sameInts_self l _ _ _ _ _ (hlm.sub (fun r h => by simp [h])) (hll.sub (fun r h => by simp [h])) (by omega)) ?_; rintro _ H9 ⟨rfl, hH9⟩; subst H9) | (refine Xg.ev (EvF.move rfl rfl) rfl rfl ?_) | (refine Xg.ev (EvF.assign rfl rfl) rfl rfl ?_) | (refine Xg.ev (EvF.pickT rfl rfl rfl) rfl rfl ?_) | (refine Xg.ev (EvF.loadV rfl rfl (LoadV.whole (te rfl) rfl (List.Mem.tail _ (List.Mem.tail _ (List.Mem.tail _ (List.Mem.head _)))) rfl)) rfl rfl ?_) | (refine Xg.ev (EvF.loadV rfl rfl (LoadV.whole (te rfl) rfl (List.Mem.tail _ (List.Mem.tail _ (List.Mem.tail _ (List.Mem.tail _ (List.Mem.head _))))) rfl)) rfl rfl ?_))))) | (refine XO.done rfl ?_; refine hK _ _ ?_; clear hK K) | refine X.seq rfl ?_ | refine X.region rfl (fun K hK => ?_) | refine X.ret rfl ?_)
  exact ret_one (by first | exact .inr rfl | exact .inl rfl) Try.results7 rfl (List.Sublist.refl _) rfl
end Go.Proofs.Ytmljpmcipcoaaaa
