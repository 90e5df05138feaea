/- The program: copied. -/
import Derived.Test.YtmljpmcipcoaaaaP2
import Derived.Test.YtmljpmcipcoaaaaFw6
set_option linter.unusedSimpArgs false
namespace Go.Proofs.Ytmljpmcipcoaaaa
open Go Go.Fw
set_option maxRecDepth 10000
def ts101 : List TOp := [⟨some 3, [], [], []⟩, ⟨some 4, [0], [0], []⟩, ⟨some 5, [0, 1], [1], []⟩, ⟨some 6, [], [], []⟩, ⟨some 7, [3], [3], []⟩, ⟨some 8, [0, 1, 2, 3, 4], [4], []⟩, ⟨some 9, [], [], []⟩, ⟨some 10, [6], [6], []⟩, ⟨some 11, [0, 1, 2, 3, 4, 5, 6, 7], [7], []⟩, ⟨some 12, [0, 1, 2, 3, 4, 6, 7], [], []⟩, ⟨none, [0, 1, 2, 3, 4, 5, 6, 7, 8, 9], [9, 2], [16]⟩, ⟨some 13, [0, 1, 2, 3, 4, 5, 6, 7, 8, 9, 10], [], []⟩, ⟨none, [0, 1, 2, 3, 4, 5, 6, 7, 8, 9, 10, 11], [11, 5], [10]⟩, ⟨some 14, [0, 1, 2, 3, 4, 5, 6, 7, 8, 9, 10, 11, 12], [], []⟩, ⟨none, [0, 1, 2, 3, 4, 5, 6, 7, 8, 9, 10, 11, 12, 13], [13, 8], [12]⟩, ⟨none, [], [], []⟩, ⟨none, [], [], []⟩]
def rd101 (k : Nat) : List Nat := match k with
  | 1 => [16]
  | 4 => [16]
  | 7 => [16]
  | _ => []
def val101 (b1 : Nat) (R : Rm) (d1 : Addr) (c1 : Nat) (d2 : Addr) (c2 : Nat) (d3 : Addr) (c3 : Nat) (k : Nat) (env : Env) : Value :=
  match k with
  | 0 => .pointer (some ⟨b1, 2, none⟩)
  | 1 => .slice (some d1) R.ages.length c1
  | 2 => .slice (some ⟨(env 2).1, 0, none⟩) R.ages.length (env 2).2
  | 3 => .pointer (some ⟨b1, 3, none⟩)
  | 4 => .slice (some d2) R.boxes.length c2
  | 5 => .slice (some ⟨(env 5).1, 0, none⟩) R.boxes.length (env 5).2
  | 6 => .pointer (some ⟨b1, 4, none⟩)
  | 7 => .slice (some d3) R.mats.length c3
  | 8 => .slice (some ⟨(env 8).1, 0, none⟩) R.mats.length (env 8).2
  | 9 => .pointer (some ⟨b1, 2, none⟩)
  | 11 => .pointer (some ⟨b1, 3, none⟩)
  | 13 => .pointer (some ⟨b1, 4, none⟩)
  | _ => undef
def rows101 (b1 b2 : Nat) (R : Rm) (d1 : Addr) (c1 : Nat) (d2 : Addr) (c2 : Nat) (d3 : Addr) (c3 : Nat) (k : Nat) (env : Env) : List Row :=
  match k with
  | 2 => [⟨(env 2).1, 0, R.ages.flatMap cSp, some 35, (env 2).2 * 2⟩]
  | 5 => [⟨(env 5).1, 0, R.boxes.flatMap cBx, some 77, (env 5).2 * 2⟩]
  | 8 => [⟨(env 8).1, 0, R.mats.flatMap cMt, some 75, (env 8).2 * 6⟩]
  | 10 => [⟨b1, 0, cRm R ⟨some ⟨(env 2).1, 0, none⟩, (env 2).2, some d2, c2, some d3, c3⟩, some 26, 5⟩]
  | 12 => [⟨b1, 0, cRm R ⟨some ⟨(env 2).1, 0, none⟩, (env 2).2, some ⟨(env 5).1, 0, none⟩, (env 5).2, some d3, c3⟩, some 26, 5⟩]
  | 14 => [⟨b1, 0, cRm R ⟨some ⟨(env 2).1, 0, none⟩, (env 2).2, some ⟨(env 5).1, 0, none⟩, (env 5).2, some ⟨(env 8).1, 0, none⟩, (env 8).2⟩, some 26, 5⟩]
  | 15 => [⟨b2, 0, [.int .i64 0, .int .i64 0, .slice none 0 0, .slice none 0 0, .slice none 0 0], some 26, 5⟩]
  | 16 => [⟨b1, 0, cRm R ⟨some d1, c1, some d2, c2, some d3, c3⟩, some 26, 5⟩]
  | _ => []
theorem loc101 (b1 b2 : Nat) (R : Rm) (d1 : Addr) (c1 : Nat) (d2 : Addr) (c2 : Nat) (d3 : Addr) (c3 : Nat) : ∀ k env i q9, i ≠ k → (tAt ts101 k).sup.contains i = false → val101 b1 R d1 c1 d2 c2 d3 c3 k (upd env i q9) = val101 b1 R d1 c1 d2 c2 d3 c3 k env ∧ rows101 b1 b2 R d1 c1 d2 c2 d3 c3 k (upd env i q9) = rows101 b1 b2 R d1 c1 d2 c2 d3 c3 k env := by
  intro k env i q hk hs
  have hu : ∀ j, j ≠ i → upd env i q j = env j := fun j hj => by unfold upd; rw [if_neg hj]
  match k, hk, hs with
  | 0, _, _ => exact ⟨rfl, rfl⟩
  | 1, _, _ => exact ⟨rfl, rfl⟩
  | 2, hk, hs => exact ⟨by simp only [val101, hu 2 (fun e => hk e.symm)], by simp only [rows101, hu 2 (fun e => hk e.symm)]⟩
  | 3, _, _ => exact ⟨rfl, rfl⟩
  | 4, _, _ => exact ⟨rfl, rfl⟩
  | 5, hk, hs => exact ⟨by simp only [val101, hu 5 (fun e => hk e.symm)], by simp only [rows101, hu 5 (fun e => hk e.symm)]⟩
  | 6, _, _ => exact ⟨rfl, rfl⟩
  | 7, _, _ => exact ⟨rfl, rfl⟩
  | 8, hk, hs => exact ⟨by simp only [val101, hu 8 (fun e => hk e.symm)], by simp only [rows101, hu 8 (fun e => hk e.symm)]⟩
  | 9, _, _ => exact ⟨rfl, rfl⟩
  | 10, hk, hs => exact ⟨by simp only [val101, hu 2 (by rintro rfl; cases hs)], by simp only [rows101, hu 2 (by rintro rfl; cases hs)]⟩
  | 11, _, _ => exact ⟨rfl, rfl⟩
  | 12, hk, hs => exact ⟨by simp only [val101, hu 2 (by rintro rfl; cases hs), hu 5 (by rintro rfl; cases hs)], by simp only [rows101, hu 2 (by rintro rfl; cases hs), hu 5 (by rintro rfl; cases hs)]⟩
  | 13, _, _ => exact ⟨rfl, rfl⟩
  | 14, hk, hs => exact ⟨by simp only [val101, hu 2 (by rintro rfl; cases hs), hu 5 (by rintro rfl; cases hs), hu 8 (by rintro rfl; cases hs)], by simp only [rows101, hu 2 (by rintro rfl; cases hs), hu 5 (by rintro rfl; cases hs), hu 8 (by rintro rfl; cases hs)]⟩
  | 15, _, _ => exact ⟨rfl, rfl⟩
  | 16, _, _ => exact ⟨rfl, rfl⟩
  | _ + 17, _, _ => exact ⟨rfl, rfl⟩
set_option maxHeartbeats 2000000 in
theorem copied_spec (R : Rm) (d1 : Addr) (c1 : Nat) (d2 : Addr) (c2 : Nat) (d3 : Addr) (c3 : Nat) (H : List Row) (hR : RmOk H R ⟨some d1, c1, some d2, c2, some d3, c3⟩) (h1 : R.ages.length ≤ 1000000) (h2 : R.boxes.length ≤ 1000000) (h3 : R.mats.length ≤ 1000000) :
    Fc Try.prog 101 [.agg (cRm R ⟨some d1, c1, some d2, c2, some d3, c3⟩).toArray] H (fun v H' => ∃ b1 k1 b2 k2 b3 k3, v = .agg (cRm R ⟨some ⟨b1, 0, none⟩, k1, some ⟨b2, 0, none⟩, k2, some ⟨b3, 0, none⟩, k3⟩).toArray ∧
    H' = ⟨b1, 0, R.ages.flatMap cSp, some 35, k1 * 2⟩ :: ⟨b2, 0, R.boxes.flatMap cBx, some 77, k2 * 2⟩ :: ⟨b3, 0, R.mats.flatMap cMt, some 75, k3 * 6⟩ :: H) := by
  refine Fc.mk (callable Try.call101) Try.func101 rfl Try.ntmps101 rfl ?_; dsimp only [fr]
  refine X.seq rfl ?_; refine X.region rfl (fun K hK => ?_); repeat' (first | (refine XO.op rfl ?_; (first | ((first | refine Xo.ng rfl ?_); (first | (refine Xg.st (StF.boxAgg rfl rfl) rfl rfl ?_; rintro _ _ ⟨bx, rfl, rfl⟩) | (refine Xg.st (StF.alloc rfl Try.zeroValue26 rfl) rfl rfl ?_; rintro _ _ ⟨bx, rfl, rfl⟩))))) | (refine XO.done rfl ?_; refine hK _ _ ?_; clear hK K))
  rename_i b1
  rename Nat => b2
  refine X.seq rfl ?_
  refine X.regionRd ts101 rd101 [1, 2] [(1, .pointer (some ⟨b1, 0, none⟩)), (2, .pointer (some ⟨b2, 0, none⟩))] (val101 b1 R d1 c1 d2 c2 d3 c3) (rows101 b1 b2 R d1 c1 d2 c2 d3 c3) (fun _ => (0, 0)) H rfl mixed (by (repeat (first | exact Sub.nil _ | refine Sub.cons rfl ?_)); done) rfl (by kernel_rfl) (by kernel_rfl) (loc101 b1 b2 R d1 c1 d2 c2 d3 c3) (List.Sublist.refl _) ?_ ?_
  · repeat' (first | exact AllF.done rfl | (refine AllF.step rfl ?_ ?_; · (first | exact (Ob.ng rfl (ObK.pure (fun env R hR => by exact ⟨_, EvF.fieldAddr rfl rfl (te rfl) rfl (te rfl) (by decide), rfl⟩) rfl (fun _ => rfl))).toR | (refine ObR.ng rfl ?_; (first | (exact fun env S hS hrd => (StF.ofEv (EvF.loadV rfl rfl (LoadV.own (te rfl) rfl (hrd 16 (List.Mem.head _) _ (List.Mem.head _)) rfl))).op.mono (fun v H' ⟨hv, hH⟩ => ⟨(0, 0), fun _ => hv, by rw [hH]; exact List.Perm.refl _⟩)) | (exact fun env S hS hrd => (OpF.call (EnF.st rfl (by (repeat (first | exact Args.nil | refine Args.cons rfl ?_)); done)) (clone_specSp R.ages d1 c1 _ (hR.ages.sub (fun r hr => hS r hr)) h1)).mono (fun v H' ⟨b, k, hv, hH⟩ => ⟨(b, k), fun _ => hv, by rw [hH]; exact List.Perm.refl _⟩)) | (exact fun env S hS hrd => (OpF.call (EnF.st rfl (by (repeat (first | exact Args.nil | refine Args.cons rfl ?_)); done)) (clone_specBx R.boxes d2 c2 _ (hR.boxes.sub (fun r hr => hS r hr)) h2)).mono (fun v H' ⟨b, k, hv, hH⟩ => ⟨(b, k), fun _ => hv, by rw [hH]; exact List.Perm.refl _⟩)) | (exact fun env S hS hrd => (OpF.call (EnF.st rfl (by (repeat (first | exact Args.nil | refine Args.cons rfl ?_)); done)) (clone_specMt R.mats d3 c3 _ (hR.mats.sub (fun r hr => hS r hr)) h3)).mono (fun v H' ⟨b, k, hv, hH⟩ => ⟨(b, k), fun _ => hv, by rw [hH]; exact List.Perm.refl _⟩)) | (exact fun env S hS hrd => (StF.storeOne (i := 0) rfl rfl rfl rfl (te rfl) rfl rfl (Nat.le_of_ble_eq_true rfl)).op.mono (fun v H' ⟨hv, hH⟩ => ⟨(0, 0), fun h => absurd rfl h, by rw [hH]; exact List.Perm.refl _⟩)))))))
  · intro env t ha hv
    refine ⟨[(1, .pointer (some ⟨b1, 0, none⟩)), (2, .pointer (some ⟨b2, 0, none⟩))], ha, ?_⟩
    show X _ _ _ _ (⟨(env 2).1, 0, R.ages.flatMap cSp, some 35, (env 2).2 * 2⟩ :: ⟨(env 5).1, 0, R.boxes.flatMap cBx, some 77, (env 5).2 * 2⟩ :: ⟨(env 8).1, 0, R.mats.flatMap cMt, some 75, (env 8).2 * 6⟩ ::
      ⟨b1, 0, cRm R ⟨some ⟨(env 2).1, 0, none⟩, (env 2).2, some ⟨(env 5).1, 0, none⟩, (env 5).2, some ⟨(env 8).1, 0, none⟩, (env 8).2⟩, some 26, 5⟩ :: ⟨b2, 0, [.int .i64 0, .int .i64 0, .slice none 0 0, .slice none 0 0, .slice none 0 0], some 26, 5⟩ :: H) _
    repeat' (first | (refine XO.op rfl ?_; (first | ((first | refine Xo.ng rfl ?_); (first | (refine Xg.ev (EvF.loadV rfl rfl (LoadV.whole (te rfl) rfl (List.Mem.tail _ (List.Mem.tail _ (List.Mem.tail _ (List.Mem.head _)))) rfl)) rfl rfl ?_) | (refine Xg.st0 (StF.storeAll (i := 4) rfl rfl rfl (te rfl) rfl rfl rfl rfl) rfl ?_; rintro _ _ ⟨rfl, rfl⟩; dsimp only [List.set]))))) | (refine XO.done rfl ?_; refine hK _ _ ?_; clear hK K) | refine X.seq rfl ?_ | refine X.region rfl (fun K hK => ?_) | refine X.ret rfl ?_)
    exact ret_one (.inr rfl) Try.results101 ⟨_, rfl, LoadV.whole (te rfl) rfl (List.Mem.tail _ (List.Mem.tail _ (List.Mem.tail _ (List.Mem.tail _ (List.Mem.head _))))) rfl⟩ (H' := ⟨(env 2).1, 0, R.ages.flatMap cSp, some 35, (env 2).2 * 2⟩ :: ⟨(env 5).1, 0, R.boxes.flatMap cBx, some 77, (env 5).2 * 2⟩ :: ⟨(env 8).1, 0, R.mats.flatMap cMt, some 75, (env 8).2 * 6⟩ :: H)
      (List.Sublist.cons_cons _ (List.Sublist.cons_cons _ (List.Sublist.cons_cons _ (List.Sublist.cons _ (List.Sublist.cons _ (List.Sublist.refl _)))))) ⟨_, _, _, _, _, _, rfl, rfl⟩
end Go.Proofs.Ytmljpmcipcoaaaa
