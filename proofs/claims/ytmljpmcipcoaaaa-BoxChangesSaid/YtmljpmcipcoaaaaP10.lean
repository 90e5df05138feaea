/- The program: Insert. -/
import Derived.Test.YtmljpmcipcoaaaaP9
set_option linter.unusedSimpArgs false
namespace Go.Proofs.Ytmljpmcipcoaaaa
open Go Go.Fw
set_option maxRecDepth 10000
theorem lenBx (l : List Bx) : (l.flatMap cBx).length = l.length * 2 := flat_len (fun _ _ => rfl)
def ts135b : List TOp := [⟨some 46, [], [], []⟩, ⟨some 47, [], [], []⟩, ⟨some 48, [], [], []⟩, ⟨some 49, [1, 2], [1, 2], []⟩, ⟨some 50, [0, 1, 2, 3], [0, 3], []⟩, ⟨some 51, [], [], []⟩, ⟨some 52, [], [], []⟩, ⟨some 53, [5, 6], [5, 6], []⟩, ⟨some 54, [0, 1, 2, 3, 4, 5, 6, 7], [4, 7], [9]⟩, ⟨none, [], [], []⟩]
def ts135c : List TOp := [⟨some 69, [], [], []⟩, ⟨some 70, [], [], []⟩, ⟨some 71, [], [], []⟩, ⟨some 72, [1, 2], [1, 2], []⟩, ⟨some 73, [0, 1, 2, 3], [0, 3], []⟩, ⟨some 74, [], [], []⟩, ⟨some 75, [], [], []⟩, ⟨some 76, [5, 6], [5, 6], []⟩, ⟨some 77, [0, 1, 2, 3, 4, 5, 6, 7], [4, 7], [9]⟩, ⟨none, [], [], []⟩]
theorem locL (ts : List TOp) (vs : List Value) (m : Nat) (a b : Row) : ∀ k env i p, i ≠ k → (tAt ts k).sup.contains i = false → valL vs k (upd env i p) = valL vs k env ∧ rowsL m a b k (upd env i p) = rowsL m a b k env := fun _ _ _ _ _ _ => ⟨rfl, rfl⟩
set_option maxHeartbeats 4000000 in
theorem insert_specMt (l : List Mt) (x : Mt) (k b c bv : Nat) (H : List Row) (hk : k ≤ l.length) (hb : l.length ≤ 1000000) :
    Fc Try.prog 135 [.slice (some ⟨b, 0, none⟩) l.length c, .int .i64 (k : Nat), .slice (some ⟨bv, 0, none⟩) 1 1] (⟨bv, 0, cMt x, some 75, 1 * 6⟩ :: ⟨b, 0, l.flatMap cMt, some 75, c * 6⟩ :: H)
      (fun v H' => ∃ b' c', v = .slice (some ⟨b', 0, none⟩) (l.length + 1) c' ∧ H' = ⟨b', 0, (l.take k ++ [x] ++ l.drop k).flatMap cMt, some 75, c' * 6⟩ :: H) := by
  have hlen := lenMt l
  have hT : ((l.take k).flatMap cMt).length = k * 6 := by rw [lenMt, List.length_take]; omega
  have hD : ((l.drop k).flatMap cMt).length = (l.length - k) * 6 := by rw [lenMt, List.length_drop]
  have hTD : l.flatMap cMt = (l.take k).flatMap cMt ++ (l.drop k).flatMap cMt := by rw [← List.flatMap_append, List.take_append_drop]
  have hall : ((l.drop k).flatMap cMt).all (·.oneCell') = true := by
    rw [List.all_flatMap]
    exact List.all_eq_true.2 (fun e _ => one_mt e)
  refine Fc.mk (callable Try.call135) Try.func135 rfl Try.ntmps135 rfl ?_; dsimp only [fr]
  refine X.reveal (q := 1) rfl (fun rest hrest => ?_)
  refine X.forget (q := 1) (cs := l.flatMap cMt) (cs' := rest) rfl ?_
  dsimp only [List.set]
  have hlc : l.length ≤ c := by
    rw [List.length_append, hlen] at hrest
    omega
  clear hrest
  repeat' (first | (refine XO.op rfl ?_; (first | ((first | refine Xo.ng rfl ?_); (first | (refine Xg.ev (EvF.capSlice rfl rfl (te rfl)) rfl rfl ?_) | (refine Xg.ev (EvF.sliceTo (hh := k) rfl rfl (te rfl) (te rfl) rfl (by omega)) rfl rfl ?_) | (refine Xg.ev (EvF.sliceTo (hh := l.length + 1) rfl rfl (te rfl) (te rfl) rfl (by omega)) rfl rfl ?_) | (refine Xg.ev (EvF.sliceFromL (lo := k + 1) rfl rfl (te rfl) (te rfl) rfl (by omega) (by omega) (by omega)) rfl rfl ?_) | (refine Xg.ev (EvF.sliceFrom rfl rfl (te rfl) (te rfl) rfl hk hlc) rfl rfl ?_) | (refine Xg.st (StF.appendOwn (i := 1) rfl el24 rfl rfl rfl hlen rfl (Rd.own (List.Mem.head _)) rfl (by omega)) rfl rfl ?_; rintro _ _ ⟨bn, kn, rfl, rfl⟩; dsimp only [List.eraseIdx]) | (refine Xg.st (StF.apart (TR := 4) (p := 0) (q := 1) rfl Try.func149 (by kernel_rfl) (by kernel_rfl) (by kernel_rfl) (by kernel_rfl) el24 rfl rfl rfl rfl (by decide) (by omega)) rfl rfl ?_; rintro _ _ ⟨rfl, rfl⟩) | (refine Xg.ev (EvF.move rfl rfl) rfl rfl ?_) | (refine Xg.ev (EvF.assign rfl rfl) rfl rfl ?_) | (refine Xg.ev (EvF.cmp rfl rfl rfl rfl) rfl rfl ?_) | (refine Xg.ev (EvF.add64 rfl rfl rfl (by omega) (by omega)) rfl rfl ?_) | (refine Xg.ev (EvF.sub64 rfl rfl rfl (by omega) (by omega)) rfl rfl ?_) | (refine Xg.ev (EvF.not rfl rfl) rfl rfl ?_) | (refine Xg.ev (EvF.lenSlice rfl rfl (te rfl)) rfl rfl ?_))))) | (refine XO.done rfl ?_; refine hK _ _ ?_; clear hK K) | refine X.seq rfl ?_ | refine X.region rfl (fun K hK => ?_) | refine X.skip rfl ?_ | refine X.ret rfl ?_ | (refine X.ite rfl rfl (fun hc => ?_); (first | (with_reducible refine Xb.case hc (fun h => ?_) (fun h => ?_)) | (with_reducible refine Xb.caseB hc (fun h => ?_) (fun h => ?_))) <;> clear hc))
  · exfalso; omega
  · refine ret_one (by first | exact .inr rfl | exact .inl rfl) Try.results135 rfl (H' := ⟨bn, 0, l.flatMap cMt ++ cMt x, some 75, kn * 6⟩ :: H) (by (repeat (first | exact List.Sublist.refl _ | apply List.Sublist.cons_cons | apply List.Sublist.cons)); done) ⟨bn, kn, rfl, ?_⟩
    obtain rfl : k = l.length := by omega
    simp [List.flatMap_append]
  · refine XO.op rfl ?_
    refine Xo.ng rfl ?_
    refine Xg.st (StF.appendMake (xs := (l.take k).flatMap cMt) (k := k) (q := l.length + 1 - k) rfl el24 (te rfl) rfl (congrArg (fun z => some (Value.int .i64 z)) (by omega : ((l.length : Int) + ((1 : Nat) : Int) - (k : Int)) = ((l.length + 1 - k : Nat) : Int))) (Rd.piece (xs := []) (zs := (l.drop k).flatMap cMt) (by rw [List.nil_append, ← hTD]; exact List.Mem.tail _ (List.Mem.head _)) rfl) hT (by decide) (by omega) (by omega) (by omega)) rfl rfl ?_
    rintro _ _ ⟨bn, kn, zs, rfl, hz, hkn, rfl⟩
    rw [show k + (l.length + 1 - k) = l.length + 1 by omega] at hkn ⊢
    repeat' (first | (refine XO.op rfl ?_; (first | ((first | refine Xo.ng rfl ?_); (first | (refine Xg.ev (EvF.sliceFromL (lo := k) rfl rfl (te rfl) (te rfl) rfl (by omega) (by omega) (by omega)) rfl rfl ?_) | (refine Xg.st (StF.copyOwn (q := 0) (j := 0 + k * 6) (m := 1) rfl el24 rfl rfl rfl (Nat.min_eq_left (by omega)) rfl (Rd.own (List.Mem.tail _ (List.Mem.head _))) rfl (by rw [List.length_append, hT, hz]; show 0 + k * 6 + 6 ≤ _; omega)) rfl rfl ?_; rintro _ _ ⟨rfl, rfl⟩; dsimp only [List.set]) | (refine Xg.ev (EvF.move rfl rfl) rfl rfl ?_) | (refine Xg.ev (EvF.assign rfl rfl) rfl rfl ?_))))) | (refine XO.done rfl ?_; refine hK _ _ ?_; clear hK K) | refine X.seq rfl ?_ | refine X.region rfl (fun K hK => ?_))
    obtain ⟨z2, hz2, e1⟩ : ∃ z2 : List Value, z2.length = (l.length - k) * 6 ∧ splice ((l.take k).flatMap cMt ++ zs) (0 + k * 6) (cMt x) = (l.take k).flatMap cMt ++ cMt x ++ z2 := by
      refine ⟨zs.drop 6, by rw [List.length_drop, hz]; omega, ?_⟩
      have := splice_at (xs := (l.take k).flatMap cMt) (ys := zs.take 6) (zs := zs.drop 6) (vs := cMt x) (j := 0 + k * 6) (by omega) (by rw [List.length_take, hz]; show 6 = _; omega)
      rwa [List.append_assoc, List.take_append_drop] at this
    rw [e1]
    have e2 : splice ((l.take k).flatMap cMt ++ cMt x ++ z2) (0 + (k + 1) * 6) ((l.drop k).flatMap cMt) = (l.take k ++ [x] ++ l.drop k).flatMap cMt := by
      have := splice_at (xs := (l.take k).flatMap cMt ++ cMt x) (ys := z2) (zs := []) (vs := (l.drop k).flatMap cMt) (j := 0 + (k + 1) * 6) (by rw [List.length_append, hT]; show k * 6 + 6 = _; omega) (by rw [hD, hz2])
      rw [List.append_nil, List.append_nil] at this
      rw [this, List.flatMap_append, List.flatMap_append]
      simp
    refine X.regionOb ts135b [9, 1, 7, 0] [(9, .slice (some ⟨bn, 0, none⟩) (l.length + 1) kn), (1, .int .i64 k), (7, .int .i64 (1 : Nat)), (0, .slice (some ⟨b, 0, none⟩) l.length c)]
      (valL [.slice (some ⟨bn, 0, none⟩) (l.length + 1) kn, .int .i64 k, .int .i64 (1 : Nat), .int .i64 (k + 1 : Nat), .slice (some ⟨bn, 0 + (k + 1) * 6, none⟩) (l.length + 1 - (k + 1)) (kn - (k + 1)), .slice (some ⟨b, 0, none⟩) l.length c, .int .i64 k, .slice (some ⟨b, 0 + k * 6, none⟩) (l.length - k) (c - k), .int .i64 (l.length - k : Nat)])
      (rowsL 8 ⟨bn, 0, splice ((l.take k).flatMap cMt ++ cMt x ++ z2) (0 + (k + 1) * 6) ((l.drop k).flatMap cMt), some 75, kn * 6⟩ ⟨bn, 0, (l.take k).flatMap cMt ++ cMt x ++ z2, some 75, kn * 6⟩) (fun _ => (0, 0)) (⟨bv, 0, cMt x, some 75, 1 * 6⟩ :: ⟨b, 0, l.flatMap cMt, some 75, c * 6⟩ :: H) rfl mixed (by (repeat (first | exact Sub.nil _ | refine Sub.cons rfl ?_)); done) rfl (by kernel_rfl) (locL _ _ _ _ _) (List.Sublist.refl _) ?_ ?_
    · repeat' (first | exact AllF.done rfl | (refine AllF.step rfl ?_ ?_; · (first | fail | ((first | refine Ob.ng rfl ?_); (first | exact ObK.pure (fun env R hR => by exact ⟨_, EvF.move rfl rfl, rfl⟩) rfl (fun _ => rfl) | (exact ObK.pure (fun env S hS => ⟨_, EvF.add64 rfl rfl rfl (by omega) (by omega), rfl⟩) rfl (fun _ => rfl)) | (exact ObK.pure (fun env S hS => ⟨_, EvF.sliceFromL (lo := k + 1) rfl rfl (te rfl) (te rfl) rfl (by omega) (by omega) (by omega), rfl⟩) rfl (fun _ => rfl)) | (exact ObK.pure (fun env S hS => ⟨_, EvF.sliceFromL (lo := k) rfl rfl (te rfl) (te rfl) rfl (by omega) (by omega) (by omega), rfl⟩) rfl (fun _ => rfl)) | (exact fun env S hS => (StF.copyOwn (q := 0) (j := 0 + (k + 1) * 6) (m := l.length - k) (vs := (l.drop k).flatMap cMt) rfl el24 rfl rfl rfl ((Nat.min_eq_left (by omega)).trans (by omega)) hD (Rd.piece (xs := (l.take k).flatMap cMt) (zs := []) (by rw [List.append_nil, ← hTD]; exact List.Mem.tail _ (hS _ (List.Mem.tail _ (List.Mem.head _)))) hT) hall (by rw [List.length_append, List.length_append, hT, hz2, hD]; show _ ≤ k * 6 + 6 + _; omega)).op.mono (fun v H' ⟨hv, hH⟩ => ⟨(0, 0), fun _ => hv, by rw [hH]; exact List.Perm.refl _⟩)))))))
    · intro env t ha hv
      refine ⟨_, ha, ?_⟩
      show X _ _ _ _ (⟨bn, 0, splice ((l.take k).flatMap cMt ++ cMt x ++ z2) (0 + (k + 1) * 6) ((l.drop k).flatMap cMt), some 75, kn * 6⟩ :: ⟨bv, 0, cMt x, some 75, 1 * 6⟩ :: ⟨b, 0, l.flatMap cMt, some 75, c * 6⟩ :: H) _
      rw [e2]
      repeat' (first | (refine XO.op rfl ?_; (first | ((first | refine Xo.ng rfl ?_); (first | (refine Xg.ev (EvF.move rfl rfl) rfl rfl ?_) | (refine Xg.ev (EvF.assign rfl rfl) rfl rfl ?_))))) | (refine XO.done rfl ?_; refine hK _ _ ?_; clear hK K) | refine X.seq rfl ?_ | refine X.region rfl (fun K hK => ?_) | refine X.ret rfl ?_)
      exact ret_one (by first | exact .inr rfl | exact .inl rfl) Try.results135 rfl (H' := ⟨bn, 0, (l.take k ++ [x] ++ l.drop k).flatMap cMt, some 75, kn * 6⟩ :: H) (by (repeat (first | exact List.Sublist.refl _ | apply List.Sublist.cons_cons | apply List.Sublist.cons)); done) ⟨bn, kn, rfl, rfl⟩
  · refine X.reveal (q := 1) rfl (fun rst hrst => ?_)
    dsimp only [List.set]
    have hkl : k < l.length := by omega
    have hroom : l.length + 1 ≤ c := by omega
    have hrl : rst.length = (c - l.length) * 6 := by
      rw [List.length_append, hlen] at hrst
      omega
    rw [hTD]
    obtain ⟨d1, d2, r2, hd1, hd2, hdr⟩ : ∃ d1 d2 r2 : List Value, d1.length = 6 ∧ d2.length = (l.length - k) * 6 ∧ (l.drop k).flatMap cMt ++ rst = d1 ++ d2 ++ r2 := by
      refine ⟨((l.drop k).flatMap cMt ++ rst).take 6, (((l.drop k).flatMap cMt ++ rst).drop 6).take ((l.length - k) * 6), (((l.drop k).flatMap cMt ++ rst).drop 6).drop ((l.length - k) * 6), ?_, ?_, ?_⟩
      · rw [List.length_take, List.length_append, hD, hrl]; omega
      · rw [List.length_take, List.length_drop, List.length_append, hD, hrl]; omega
      · rw [List.append_assoc, List.take_append_drop, List.take_append_drop]
    have e1 : splice ((l.take k).flatMap cMt ++ (l.drop k).flatMap cMt ++ rst) (0 + (k + 1) * 6) ((l.drop k).flatMap cMt) = (l.take k).flatMap cMt ++ d1 ++ ((l.drop k).flatMap cMt ++ r2) := by
      have := splice_at (xs := (l.take k).flatMap cMt ++ d1) (ys := d2) (zs := r2) (vs := (l.drop k).flatMap cMt) (j := 0 + (k + 1) * 6) (by rw [List.length_append, hT, hd1]; omega) (by rw [hD, hd2])
      rw [List.append_assoc ((l.take k).flatMap cMt), hdr]
      rw [← List.append_assoc, ← List.append_assoc, this, List.append_assoc]
    have e2 : splice ((l.take k).flatMap cMt ++ d1 ++ ((l.drop k).flatMap cMt ++ r2)) (0 + k * 6) (cMt x) = (l.take k ++ [x] ++ l.drop k).flatMap cMt ++ r2 := by
      rw [splice_at (by rw [hT]; omega) (by rw [hd1]; rfl), List.flatMap_append, List.flatMap_append]
      simp
    refine X.permH (List.Perm.swap _ _ _) ?_
    refine X.regionOb ts135c [0, 1, 7, 2] [(0, .slice (some ⟨b, 0, none⟩) (l.length + 1) c), (1, .int .i64 k), (7, .int .i64 (1 : Nat)), (2, .slice (some ⟨bv, 0, none⟩) 1 1)]
      (valL [.slice (some ⟨b, 0, none⟩) (l.length + 1) c, .int .i64 k, .int .i64 (1 : Nat), .int .i64 (k + 1 : Nat), .slice (some ⟨b, 0 + (k + 1) * 6, none⟩) (l.length + 1 - (k + 1)) (c - (k + 1)), .slice (some ⟨b, 0, none⟩) (l.length + 1) c, .int .i64 k, .slice (some ⟨b, 0 + k * 6, none⟩) (l.length + 1 - k) (c - k), .int .i64 (l.length - k : Nat)])
      (rowsL 8 ⟨b, 0, splice ((l.take k).flatMap cMt ++ (l.drop k).flatMap cMt ++ rst) (0 + (k + 1) * 6) ((l.drop k).flatMap cMt), some 75, c * 6⟩ ⟨b, 0, (l.take k).flatMap cMt ++ (l.drop k).flatMap cMt ++ rst, some 75, c * 6⟩) (fun _ => (0, 0)) (⟨bv, 0, cMt x, some 75, 1 * 6⟩ :: H) rfl mixed (by (repeat (first | exact Sub.nil _ | refine Sub.cons rfl ?_)); done) rfl (by kernel_rfl) (locL _ _ _ _ _) (List.Sublist.refl _) ?_ ?_
    · repeat' (first | exact AllF.done rfl | (refine AllF.step rfl ?_ ?_; · (first | fail | ((first | refine Ob.ng rfl ?_); (first | exact ObK.pure (fun env R hR => by exact ⟨_, EvF.move rfl rfl, rfl⟩) rfl (fun _ => rfl) | (exact ObK.pure (fun env S hS => ⟨_, EvF.add64 rfl rfl rfl (by omega) (by omega), rfl⟩) rfl (fun _ => rfl)) | (exact ObK.pure (fun env S hS => ⟨_, EvF.sliceFromL (lo := k + 1) rfl rfl (te rfl) (te rfl) rfl (by omega) (by omega) (by omega), rfl⟩) rfl (fun _ => rfl)) | (exact ObK.pure (fun env S hS => ⟨_, EvF.sliceFromL (lo := k) rfl rfl (te rfl) (te rfl) rfl (by omega) (by omega) (by omega), rfl⟩) rfl (fun _ => rfl)) | (exact fun env S hS => (StF.copyOwn (q := 0) (j := 0 + (k + 1) * 6) (m := l.length - k) (vs := (l.drop k).flatMap cMt) rfl el24 rfl rfl rfl ((Nat.min_eq_right (by omega)).trans (by omega)) hD (Rd.piece (xs := (l.take k).flatMap cMt) (zs := rst) (List.Mem.head _) hT) hall (by rw [List.length_append, List.length_append, hT, hrl, hD]; omega)).op.mono (fun v H' ⟨hv, hH⟩ => ⟨(0, 0), fun _ => hv, by rw [hH]; exact List.Perm.refl _⟩)))))))
    · intro env t ha hv
      refine ⟨_, ha, ?_⟩
      show X _ _ _ _ (⟨b, 0, splice ((l.take k).flatMap cMt ++ (l.drop k).flatMap cMt ++ rst) (0 + (k + 1) * 6) ((l.drop k).flatMap cMt), some 75, c * 6⟩ :: ⟨bv, 0, cMt x, some 75, 1 * 6⟩ :: H) _
      rw [e1]
      refine X.seq rfl ?_; refine X.region rfl (fun K hK => ?_); repeat' (first | (refine XO.op rfl ?_; (first | ((first | refine Xo.ng rfl ?_); (first | (refine Xg.ev (EvF.sliceFromL (lo := k) rfl rfl (te rfl) (te rfl) rfl (by omega) (by omega) (by omega)) rfl rfl ?_) | (refine Xg.st (StF.copyOwn (q := 0) (j := 0 + k * 6) (m := 1) rfl el24 rfl rfl rfl (Nat.min_eq_left (by omega)) rfl (Rd.own (List.Mem.tail _ (List.Mem.head _))) rfl (by rw [List.length_append, List.length_append, hT, hd1]; show 0 + k * 6 + 6 ≤ _; omega)) rfl rfl ?_; rintro _ _ ⟨rfl, rfl⟩; dsimp only [List.set]) | (refine Xg.ev (EvF.move rfl rfl) rfl rfl ?_))))) | (refine XO.done rfl ?_; refine hK _ _ ?_; clear hK K))
      rw [e2]
      refine X.forget (q := 0) rfl ?_
      dsimp only [List.set]
      repeat' (first | (refine XO.op rfl ?_; (first | ((first | refine Xo.ng rfl ?_); (first | (refine Xg.ev (EvF.move rfl rfl) rfl rfl ?_) | (refine Xg.ev (EvF.assign rfl rfl) rfl rfl ?_))))) | (refine XO.done rfl ?_; refine hK _ _ ?_; clear hK K) | refine X.seq rfl ?_ | refine X.region rfl (fun K hK => ?_) | refine X.ret rfl ?_)
      exact ret_one (by first | exact .inr rfl | exact .inl rfl) Try.results135 rfl (H' := ⟨b, 0, (l.take k ++ [x] ++ l.drop k).flatMap cMt, some 75, c * 6⟩ :: H) (by (repeat (first | exact List.Sublist.refl _ | apply List.Sublist.cons_cons | apply List.Sublist.cons)); done) ⟨b, c, rfl, rfl⟩
  · rename_i h _
    cases h
set_option maxHeartbeats 4000000 in
theorem insert_specBx (l : List Bx) (x : Bx) (k b c bv : Nat) (H : List Row) (hk : k ≤ l.length) (hb : l.length ≤ 1000000) :
    Fc Try.prog 139 [.slice (some ⟨b, 0, none⟩) l.length c, .int .i64 (k : Nat), .slice (some ⟨bv, 0, none⟩) 1 1] (⟨bv, 0, cBx x, some 77, 1 * 2⟩ :: ⟨b, 0, l.flatMap cBx, some 77, c * 2⟩ :: H)
      (fun v H' => ∃ b' c', v = .slice (some ⟨b', 0, none⟩) (l.length + 1) c' ∧ H' = ⟨b', 0, (l.take k ++ [x] ++ l.drop k).flatMap cBx, some 77, c' * 2⟩ :: H) := by
  have hlen := lenBx l
  have hT : ((l.take k).flatMap cBx).length = k * 2 := by rw [lenBx, List.length_take]; omega
  have hD : ((l.drop k).flatMap cBx).length = (l.length - k) * 2 := by rw [lenBx, List.length_drop]
  have hTD : l.flatMap cBx = (l.take k).flatMap cBx ++ (l.drop k).flatMap cBx := by rw [← List.flatMap_append, List.take_append_drop]
  have hall : ((l.drop k).flatMap cBx).all (·.oneCell') = true := by
    rw [List.all_flatMap]
    exact List.all_eq_true.2 (fun e _ => one_bx e)
  refine Fc.mk (callable Try.call139) Try.func139 rfl Try.ntmps139 rfl ?_; dsimp only [fr]
  refine X.reveal (q := 1) rfl (fun rest hrest => ?_)
  refine X.forget (q := 1) (cs := l.flatMap cBx) (cs' := rest) rfl ?_
  dsimp only [List.set]
  have hlc : l.length ≤ c := by
    rw [List.length_append, hlen] at hrest
    omega
  clear hrest
  repeat' (first | (refine XO.op rfl ?_; (first | ((first | refine Xo.ng rfl ?_); (first | (refine Xg.ev (EvF.capSlice rfl rfl (te rfl)) rfl rfl ?_) | (refine Xg.ev (EvF.sliceTo (hh := k) rfl rfl (te rfl) (te rfl) rfl (by omega)) rfl rfl ?_) | (refine Xg.ev (EvF.sliceTo (hh := l.length + 1) rfl rfl (te rfl) (te rfl) rfl (by omega)) rfl rfl ?_) | (refine Xg.ev (EvF.sliceFromL (lo := k + 1) rfl rfl (te rfl) (te rfl) rfl (by omega) (by omega) (by omega)) rfl rfl ?_) | (refine Xg.ev (EvF.sliceFrom rfl rfl (te rfl) (te rfl) rfl hk hlc) rfl rfl ?_) | (refine Xg.st (StF.appendOwn (i := 1) rfl el23 rfl rfl rfl hlen rfl (Rd.own (List.Mem.head _)) rfl (by omega)) rfl rfl ?_; rintro _ _ ⟨bn, kn, rfl, rfl⟩; dsimp only [List.eraseIdx]) | (refine Xg.st (StF.apart (TR := 4) (p := 0) (q := 1) rfl Try.func151 (by kernel_rfl) (by kernel_rfl) (by kernel_rfl) (by kernel_rfl) el23 rfl rfl rfl rfl (by decide) (by omega)) rfl rfl ?_; rintro _ _ ⟨rfl, rfl⟩) | (refine Xg.ev (EvF.move rfl rfl) rfl rfl ?_) | (refine Xg.ev (EvF.assign rfl rfl) rfl rfl ?_) | (refine Xg.ev (EvF.cmp rfl rfl rfl rfl) rfl rfl ?_) | (refine Xg.ev (EvF.add64 rfl rfl rfl (by omega) (by omega)) rfl rfl ?_) | (refine Xg.ev (EvF.sub64 rfl rfl rfl (by omega) (by omega)) rfl rfl ?_) | (refine Xg.ev (EvF.not rfl rfl) rfl rfl ?_) | (refine Xg.ev (EvF.lenSlice rfl rfl (te rfl)) rfl rfl ?_))))) | (refine XO.done rfl ?_; refine hK _ _ ?_; clear hK K) | refine X.seq rfl ?_ | refine X.region rfl (fun K hK => ?_) | refine X.skip rfl ?_ | refine X.ret rfl ?_ | (refine X.ite rfl rfl (fun hc => ?_); (first | (with_reducible refine Xb.case hc (fun h => ?_) (fun h => ?_)) | (with_reducible refine Xb.caseB hc (fun h => ?_) (fun h => ?_))) <;> clear hc))
  · exfalso; omega
  · refine ret_one (by first | exact .inr rfl | exact .inl rfl) Try.results139 rfl (H' := ⟨bn, 0, l.flatMap cBx ++ cBx x, some 77, kn * 2⟩ :: H) (by (repeat (first | exact List.Sublist.refl _ | apply List.Sublist.cons_cons | apply List.Sublist.cons)); done) ⟨bn, kn, rfl, ?_⟩
    obtain rfl : k = l.length := by omega
    simp [List.flatMap_append]
  · refine XO.op rfl ?_
    refine Xo.ng rfl ?_
    refine Xg.st (StF.appendMake (xs := (l.take k).flatMap cBx) (k := k) (q := l.length + 1 - k) rfl el23 (te rfl) rfl (congrArg (fun z => some (Value.int .i64 z)) (by omega : ((l.length : Int) + ((1 : Nat) : Int) - (k : Int)) = ((l.length + 1 - k : Nat) : Int))) (Rd.piece (xs := []) (zs := (l.drop k).flatMap cBx) (by rw [List.nil_append, ← hTD]; exact List.Mem.tail _ (List.Mem.head _)) rfl) hT (by decide) (by omega) (by omega) (by omega)) rfl rfl ?_
    rintro _ _ ⟨bn, kn, zs, rfl, hz, hkn, rfl⟩
    rw [show k + (l.length + 1 - k) = l.length + 1 by omega] at hkn ⊢
    repeat' (first | (refine XO.op rfl ?_; (first | ((first | refine Xo.ng rfl ?_); (first | (refine Xg.ev (EvF.sliceFromL (lo := k) rfl rfl (te rfl) (te rfl) rfl (by omega) (by omega) (by omega)) rfl rfl ?_) | (refine Xg.st (StF.copyOwn (q := 0) (j := 0 + k * 2) (m := 1) rfl el23 rfl rfl rfl (Nat.min_eq_left (by omega)) rfl (Rd.own (List.Mem.tail _ (List.Mem.head _))) rfl (by rw [List.length_append, hT, hz]; show 0 + k * 2 + 2 ≤ _; omega)) rfl rfl ?_; rintro _ _ ⟨rfl, rfl⟩; dsimp only [List.set]) | (refine Xg.ev (EvF.move rfl rfl) rfl rfl ?_) | (refine Xg.ev (EvF.assign rfl rfl) rfl rfl ?_))))) | (refine XO.done rfl ?_; refine hK _ _ ?_; clear hK K) | refine X.seq rfl ?_ | refine X.region rfl (fun K hK => ?_))
    obtain ⟨z2, hz2, e1⟩ : ∃ z2 : List Value, z2.length = (l.length - k) * 2 ∧ splice ((l.take k).flatMap cBx ++ zs) (0 + k * 2) (cBx x) = (l.take k).flatMap cBx ++ cBx x ++ z2 := by
      refine ⟨zs.drop 2, by rw [List.length_drop, hz]; omega, ?_⟩
      have := splice_at (xs := (l.take k).flatMap cBx) (ys := zs.take 2) (zs := zs.drop 2) (vs := cBx x) (j := 0 + k * 2) (by omega) (by rw [List.length_take, hz]; show 2 = _; omega)
      rwa [List.append_assoc, List.take_append_drop] at this
    rw [e1]
    have e2 : splice ((l.take k).flatMap cBx ++ cBx x ++ z2) (0 + (k + 1) * 2) ((l.drop k).flatMap cBx) = (l.take k ++ [x] ++ l.drop k).flatMap cBx := by
      have := splice_at (xs := (l.take k).flatMap cBx ++ cBx x) (ys := z2) (zs := []) (vs := (l.drop k).flatMap cBx) (j := 0 + (k + 1) * 2) (by rw [List.length_append, hT]; show k * 2 + 2 = _; omega) (by rw [hD, hz2])
      rw [List.append_nil, List.append_nil] at this
      rw [this, List.flatMap_append, List.flatMap_append]
      simp
    refine X.regionOb ts135b [9, 1, 7, 0] [(9, .slice (some ⟨bn, 0, none⟩) (l.length + 1) kn), (1, .int .i64 k), (7, .int .i64 (1 : Nat)), (0, .slice (some ⟨b, 0, none⟩) l.length c)]
      (valL [.slice (some ⟨bn, 0, none⟩) (l.length + 1) kn, .int .i64 k, .int .i64 (1 : Nat), .int .i64 (k + 1 : Nat), .slice (some ⟨bn, 0 + (k + 1) * 2, none⟩) (l.length + 1 - (k + 1)) (kn - (k + 1)), .slice (some ⟨b, 0, none⟩) l.length c, .int .i64 k, .slice (some ⟨b, 0 + k * 2, none⟩) (l.length - k) (c - k), .int .i64 (l.length - k : Nat)])
      (rowsL 8 ⟨bn, 0, splice ((l.take k).flatMap cBx ++ cBx x ++ z2) (0 + (k + 1) * 2) ((l.drop k).flatMap cBx), some 77, kn * 2⟩ ⟨bn, 0, (l.take k).flatMap cBx ++ cBx x ++ z2, some 77, kn * 2⟩) (fun _ => (0, 0)) (⟨bv, 0, cBx x, some 77, 1 * 2⟩ :: ⟨b, 0, l.flatMap cBx, some 77, c * 2⟩ :: H) rfl mixed (by (repeat (first | exact Sub.nil _ | refine Sub.cons rfl ?_)); done) rfl (by kernel_rfl) (locL _ _ _ _ _) (List.Sublist.refl _) ?_ ?_
    · repeat' (first | exact AllF.done rfl | (refine AllF.step rfl ?_ ?_; · (first | fail | ((first | refine Ob.ng rfl ?_); (first | exact ObK.pure (fun env R hR => by exact ⟨_, EvF.move rfl rfl, rfl⟩) rfl (fun _ => rfl) | (exact ObK.pure (fun env S hS => ⟨_, EvF.add64 rfl rfl rfl (by omega) (by omega), rfl⟩) rfl (fun _ => rfl)) | (exact ObK.pure (fun env S hS => ⟨_, EvF.sliceFromL (lo := k + 1) rfl rfl (te rfl) (te rfl) rfl (by omega) (by omega) (by omega), rfl⟩) rfl (fun _ => rfl)) | (exact ObK.pure (fun env S hS => ⟨_, EvF.sliceFromL (lo := k) rfl rfl (te rfl) (te rfl) rfl (by omega) (by omega) (by omega), rfl⟩) rfl (fun _ => rfl)) | (exact fun env S hS => (StF.copyOwn (q := 0) (j := 0 + (k + 1) * 2) (m := l.length - k) (vs := (l.drop k).flatMap cBx) rfl el23 rfl rfl rfl ((Nat.min_eq_left (by omega)).trans (by omega)) hD (Rd.piece (xs := (l.take k).flatMap cBx) (zs := []) (by rw [List.append_nil, ← hTD]; exact List.Mem.tail _ (hS _ (List.Mem.tail _ (List.Mem.head _)))) hT) hall (by rw [List.length_append, List.length_append, hT, hz2, hD]; show _ ≤ k * 2 + 2 + _; omega)).op.mono (fun v H' ⟨hv, hH⟩ => ⟨(0, 0), fun _ => hv, by rw [hH]; exact List.Perm.refl _⟩)))))))
    · intro env t ha hv
      refine ⟨_, ha, ?_⟩
      show X _ _ _ _ (⟨bn, 0, splice ((l.take k).flatMap cBx ++ cBx x ++ z2) (0 + (k + 1) * 2) ((l.drop k).flatMap cBx), some 77, kn * 2⟩ :: ⟨bv, 0, cBx x, some 77, 1 * 2⟩ :: ⟨b, 0, l.flatMap cBx, some 77, c * 2⟩ :: H) _
      rw [e2]
      repeat' (first | (refine XO.op rfl ?_; (first | ((first | refine Xo.ng rfl ?_); (first | (refine Xg.ev (EvF.move rfl rfl) rfl rfl ?_) | (refine Xg.ev (EvF.assign rfl rfl) rfl rfl ?_))))) | (refine XO.done rfl ?_; refine hK _ _ ?_; clear hK K) | refine X.seq rfl ?_ | refine X.region rfl (fun K hK => ?_) | refine X.ret rfl ?_)
      exact ret_one (by first | exact .inr rfl | exact .inl rfl) Try.results139 rfl (H' := ⟨bn, 0, (l.take k ++ [x] ++ l.drop k).flatMap cBx, some 77, kn * 2⟩ :: H) (by (repeat (first | exact List.Sublist.refl _ | apply List.Sublist.cons_cons | apply List.Sublist.cons)); done) ⟨bn, kn, rfl, rfl⟩
  · refine X.reveal (q := 1) rfl (fun rst hrst => ?_)
    dsimp only [List.set]
    have hkl : k < l.length := by omega
    have hroom : l.length + 1 ≤ c := by omega
    have hrl : rst.length = (c - l.length) * 2 := by
      rw [List.length_append, hlen] at hrst
      omega
    rw [hTD]
    obtain ⟨d1, d2, r2, hd1, hd2, hdr⟩ : ∃ d1 d2 r2 : List Value, d1.length = 2 ∧ d2.length = (l.length - k) * 2 ∧ (l.drop k).flatMap cBx ++ rst = d1 ++ d2 ++ r2 := by
      refine ⟨((l.drop k).flatMap cBx ++ rst).take 2, (((l.drop k).flatMap cBx ++ rst).drop 2).take ((l.length - k) * 2), (((l.drop k).flatMap cBx ++ rst).drop 2).drop ((l.length - k) * 2), ?_, ?_, ?_⟩
      · rw [List.length_take, List.length_append, hD, hrl]; omega
      · rw [List.length_take, List.length_drop, List.length_append, hD, hrl]; omega
      · rw [List.append_assoc, List.take_append_drop, List.take_append_drop]
    have e1 : splice ((l.take k).flatMap cBx ++ (l.drop k).flatMap cBx ++ rst) (0 + (k + 1) * 2) ((l.drop k).flatMap cBx) = (l.take k).flatMap cBx ++ d1 ++ ((l.drop k).flatMap cBx ++ r2) := by
      have := splice_at (xs := (l.take k).flatMap cBx ++ d1) (ys := d2) (zs := r2) (vs := (l.drop k).flatMap cBx) (j := 0 + (k + 1) * 2) (by rw [List.length_append, hT, hd1]; omega) (by rw [hD, hd2])
      rw [List.append_assoc ((l.take k).flatMap cBx), hdr]
      rw [← List.append_assoc, ← List.append_assoc, this, List.append_assoc]
    have e2 : splice ((l.take k).flatMap cBx ++ d1 ++ ((l.drop k).flatMap cBx ++ r2)) (0 + k * 2) (cBx x) = (l.take k ++ [x] ++ l.drop k).flatMap cBx ++ r2 := by
      rw [splice_at (by rw [hT]; omega) (by rw [hd1]; rfl), List.flatMap_append, List.flatMap_append]
      simp
    refine X.permH (List.Perm.swap _ _ _) ?_
    refine X.regionOb ts135c [0, 1, 7, 2] [(0, .slice (some ⟨b, 0, none⟩) (l.length + 1) c), (1, .int .i64 k), (7, .int .i64 (1 : Nat)), (2, .slice (some ⟨bv, 0, none⟩) 1 1)]
      (valL [.slice (some ⟨b, 0, none⟩) (l.length + 1) c, .int .i64 k, .int .i64 (1 : Nat), .int .i64 (k + 1 : Nat), .slice (some ⟨b, 0 + (k + 1) * 2, none⟩) (l.length + 1 - (k + 1)) (c - (k + 1)), .slice (some ⟨b, 0, none⟩) (l.length + 1) c, .int .i64 k, .slice (some ⟨b, 0 + k * 2, none⟩) (l.length + 1 - k) (c - k), .int .i64 (l.length - k : Nat)])
      (rowsL 8 ⟨b, 0, splice ((l.take k).flatMap cBx ++ (l.drop k).flatMap cBx ++ rst) (0 + (k + 1) * 2) ((l.drop k).flatMap cBx), some 77, c * 2⟩ ⟨b, 0, (l.take k).flatMap cBx ++ (l.drop k).flatMap cBx ++ rst, some 77, c * 2⟩) (fun _ => (0, 0)) (⟨bv, 0, cBx x, some 77, 1 * 2⟩ :: H) rfl mixed (by (repeat (first | exact Sub.nil _ | refine Sub.cons rfl ?_)); done) rfl (by kernel_rfl) (locL _ _ _ _ _) (List.Sublist.refl _) ?_ ?_
    · repeat' (first | exact AllF.done rfl | (refine AllF.step rfl ?_ ?_; · (first | fail | ((first | refine Ob.ng rfl ?_); (first | exact ObK.pure (fun env R hR => by exact ⟨_, EvF.move rfl rfl, rfl⟩) rfl (fun _ => rfl) | (exact ObK.pure (fun env S hS => ⟨_, EvF.add64 rfl rfl rfl (by omega) (by omega), rfl⟩) rfl (fun _ => rfl)) | (exact ObK.pure (fun env S hS => ⟨_, EvF.sliceFromL (lo := k + 1) rfl rfl (te rfl) (te rfl) rfl (by omega) (by omega) (by omega), rfl⟩) rfl (fun _ => rfl)) | (exact ObK.pure (fun env S hS => ⟨_, EvF.sliceFromL (lo := k) rfl rfl (te rfl) (te rfl) rfl (by omega) (by omega) (by omega), rfl⟩) rfl (fun _ => rfl)) | (exact fun env S hS => (StF.copyOwn (q := 0) (j := 0 + (k + 1) * 2) (m := l.length - k) (vs := (l.drop k).flatMap cBx) rfl el23 rfl rfl rfl ((Nat.min_eq_right (by omega)).trans (by omega)) hD (Rd.piece (xs := (l.take k).flatMap cBx) (zs := rst) (List.Mem.head _) hT) hall (by rw [List.length_append, List.length_append, hT, hrl, hD]; omega)).op.mono (fun v H' ⟨hv, hH⟩ => ⟨(0, 0), fun _ => hv, by rw [hH]; exact List.Perm.refl _⟩)))))))
    · intro env t ha hv
      refine ⟨_, ha, ?_⟩
      show X _ _ _ _ (⟨b, 0, splice ((l.take k).flatMap cBx ++ (l.drop k).flatMap cBx ++ rst) (0 + (k + 1) * 2) ((l.drop k).flatMap cBx), some 77, c * 2⟩ :: ⟨bv, 0, cBx x, some 77, 1 * 2⟩ :: H) _
      rw [e1]
      refine X.seq rfl ?_; refine X.region rfl (fun K hK => ?_); repeat' (first | (refine XO.op rfl ?_; (first | ((first | refine Xo.ng rfl ?_); (first | (refine Xg.ev (EvF.sliceFromL (lo := k) rfl rfl (te rfl) (te rfl) rfl (by omega) (by omega) (by omega)) rfl rfl ?_) | (refine Xg.st (StF.copyOwn (q := 0) (j := 0 + k * 2) (m := 1) rfl el23 rfl rfl rfl (Nat.min_eq_left (by omega)) rfl (Rd.own (List.Mem.tail _ (List.Mem.head _))) rfl (by rw [List.length_append, List.length_append, hT, hd1]; show 0 + k * 2 + 2 ≤ _; omega)) rfl rfl ?_; rintro _ _ ⟨rfl, rfl⟩; dsimp only [List.set]) | (refine Xg.ev (EvF.move rfl rfl) rfl rfl ?_))))) | (refine XO.done rfl ?_; refine hK _ _ ?_; clear hK K))
      rw [e2]
      refine X.forget (q := 0) rfl ?_
      dsimp only [List.set]
      repeat' (first | (refine XO.op rfl ?_; (first | ((first | refine Xo.ng rfl ?_); (first | (refine Xg.ev (EvF.move rfl rfl) rfl rfl ?_) | (refine Xg.ev (EvF.assign rfl rfl) rfl rfl ?_))))) | (refine XO.done rfl ?_; refine hK _ _ ?_; clear hK K) | refine X.seq rfl ?_ | refine X.region rfl (fun K hK => ?_) | refine X.ret rfl ?_)
      exact ret_one (by first | exact .inr rfl | exact .inl rfl) Try.results139 rfl (H' := ⟨b, 0, (l.take k ++ [x] ++ l.drop k).flatMap cBx, some 77, c * 2⟩ :: H) (by (repeat (first | exact List.Sublist.refl _ | apply List.Sublist.cons_cons | apply List.Sublist.cons)); done) ⟨b, c, rfl, rfl⟩
  · rename_i h _
    cases h
end Go.Proofs.Ytmljpmcipcoaaaa
