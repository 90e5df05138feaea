/- Own work: contracts of functions, from rows of what is known of the memory; contracts of functions, from rows of what is known of the memory; contracts of functions, from rows of what is known of the memory; contracts of functions, from rows of what is known of the memory; contracts of functions, from rows of what is known of the memory; contracts of functions, from rows of what is known of the memory; contracts of functions, from rows of what is known of the memory; contracts of functions, from rows of what is known of the memory; contracts of functions, from rows of what is known of the memory; contracts of functions, from rows of what is known of the memory; contracts of functions, from rows of what is known of the memory; contracts of functions, from rows of what is known of the memory; contract -/
import Derived.Test.YtjejppodhpdckaaW01
import Derived.Test.YtjejppodhpdckaaChecked
import Derived.Tactics2
import Derived.OpenShut
import Derived.ProofKit
import Derived.Test.YtjejppodhpdckaaRows
import Derived.WalkKit
import Derived.ChangeOld
import Derived.ShutString
import Derived.Maps.RangeRun
section
set_option linter.unusedVariables false
set_option linter.unusedSimpArgs false
namespace Go.Proofs.Ytjejppodhpdckaa
open Go Go.Fw
set_option maxRecDepth 10000
def tsHc : List TOp := [⟨some 3, [], [], []⟩, ⟨some 4, [], [], []⟩, ⟨some 5, [1], [1], []⟩, ⟨some 6, [1, 2], [2], []⟩, ⟨some 7, [1, 2, 3], [3], []⟩, ⟨some 8, [0, 1, 2, 3, 4], [0, 4], [4]⟩, ⟨some 9, [0, 1, 2, 3, 4, 5], [5], []⟩, ⟨some 10, [0, 1, 2, 3, 4, 5, 6], [], []⟩, ⟨some 11, [0, 1, 2, 3, 4, 5, 6], [], []⟩, ⟨some 12, [0, 1, 2, 3, 4, 5, 6, 8], [8], []⟩, ⟨some 13, [0, 1, 2, 3, 4, 5, 6, 8, 9], [9], []⟩, ⟨some 14, [0, 1, 2, 3, 4, 5, 6, 8, 9, 10], [10], []⟩, ⟨some 15, [0, 1, 2, 3, 4, 5, 6, 7, 8, 9, 10, 11], [7, 11], [11]⟩, ⟨some 16, [0, 1, 2, 3, 4, 5, 6, 7, 8, 9, 10, 11, 12], [6, 12], []⟩, ⟨some 17, [0, 1, 2, 3, 4, 5, 6, 7, 8, 9, 10, 11, 12, 13], [13], []⟩, ⟨some 18, [0, 1, 2, 3, 4, 5, 6, 7, 8, 9, 10, 11, 12, 13, 14], [], []⟩, ⟨some 19, [0, 1, 2, 3, 4, 5, 6, 7, 8, 9, 10, 11, 12, 13, 14, 15], [15], []⟩, ⟨some 20, [0, 1, 2, 3, 4, 5, 6, 7, 8, 9, 10, 11, 12, 13, 14, 15, 16], [16], []⟩, ⟨some 21, [0, 1, 2, 3, 4, 5, 6, 7, 8, 9, 10, 11, 12, 13, 14, 15, 16, 17], [17], []⟩, ⟨some 22, [0, 1, 2, 3, 4, 5, 6, 7, 8, 9, 10, 11, 12, 13, 14], [], []⟩, ⟨some 23, [0, 1, 2, 3, 4, 5, 6, 7, 8, 9, 10, 11, 12, 13, 14, 19], [19], []⟩, ⟨some 24, [0, 1, 2, 3, 4, 5, 6, 7, 8, 9, 10, 11, 12, 13, 14, 19, 20], [20], []⟩, ⟨some 25, [0, 1, 2, 3, 4, 5, 6, 7, 8, 9, 10, 11, 12, 13, 14, 15, 16, 17, 18, 19, 20, 21], [18, 21], [21]⟩, ⟨some 26, [0, 1, 2, 3, 4, 5, 6, 7, 8, 9, 10, 11, 12, 13, 14, 15, 16, 17, 18, 19, 20, 21, 22], [14, 22], []⟩, ⟨some 27, [0, 1, 2, 3, 4, 5, 6, 7, 8, 9, 10, 11, 12, 13, 14, 15, 16, 17, 18, 19, 20, 21, 22, 23], [23], []⟩, ⟨some 28, [0, 1, 2, 3, 4, 5, 6, 7, 8, 9, 10, 11, 12, 13, 14, 15, 16, 17, 18, 19, 20, 21, 22, 23, 24], [], []⟩, ⟨some 29, [0, 1, 2, 3, 4, 5, 6, 7, 8, 9, 10, 11, 12, 13, 14, 15, 16, 17, 18, 19, 20, 21, 22, 23, 24, 25], [25], []⟩, ⟨some 30, [0, 1, 2, 3, 4, 5, 6, 7, 8, 9, 10, 11, 12, 13, 14, 15, 16, 17, 18, 19, 20, 21, 22, 23, 24, 25, 26], [26], []⟩, ⟨some 31, [0, 1, 2, 3, 4, 5, 6, 7, 8, 9, 10, 11, 12, 13, 14, 15, 16, 17, 18, 19, 20, 21, 22, 23, 24, 25, 26, 27], [27], []⟩, ⟨some 32, [0, 1, 2, 3, 4, 5, 6, 7, 8, 9, 10, 11, 12, 13, 14, 15, 16, 17, 18, 19, 20, 21, 22, 23, 24], [], []⟩, ⟨some 33, [0, 1, 2, 3, 4, 5, 6, 7, 8, 9, 10, 11, 12, 13, 14, 15, 16, 17, 18, 19, 20, 21, 22, 23, 24, 29], [29], []⟩, ⟨some 34, [0, 1, 2, 3, 4, 5, 6, 7, 8, 9, 10, 11, 12, 13, 14, 15, 16, 17, 18, 19, 20, 21, 22, 23, 24, 29, 30], [30], []⟩, ⟨some 35, [0, 1, 2, 3, 4, 5, 6, 7, 8, 9, 10, 11, 12, 13, 14, 15, 16, 17, 18, 19, 20, 21, 22, 23, 24, 25, 26, 27, 28, 29, 30, 31], [28, 31], [31]⟩, ⟨some 36, [0, 1, 2, 3, 4, 5, 6, 7, 8, 9, 10, 11, 12, 13, 14, 15, 16, 17, 18, 19, 20, 21, 22, 23, 24, 25, 26, 27, 28, 29, 30, 31, 32], [24, 32], []⟩, ⟨some 2, [0, 1, 2, 3, 4, 5, 6, 7, 8, 9, 10, 11, 12, 13, 14, 15, 16, 17, 18, 19, 20, 21, 22, 23, 24, 25, 26, 27, 28, 29, 30, 31, 32, 33], [33], []⟩]
def valHc (b1 : Nat) (T : Tm) (p : Pt) (w0 w1 w2 w3 : Bool) (k : Nat) (env : Env) : Value :=
  match k with
  | 0 => .agg (cSp ⟨1, 9⟩).toArray
  | 1 => .pointer (some ⟨b1, 0, none⟩)
  | 2 => .pointer (some ⟨b1, 0, none⟩)
  | 3 => .int .i64 T.g
  | 4 => .slice (some ⟨(env 4).1, 0, none⟩) 1 1
  | 5 => .bool w0
  | 6 => .bool w0
  | 7 => gt (!w0) (.agg (cSp ⟨1, 9⟩).toArray)
  | 8 => gt (!w0) (.pointer (some ⟨b1, 0, none⟩))
  | 9 => gt (!w0) (.pointer (some ⟨b1, 1, none⟩))
  | 10 => gt (!w0) (.int .i64 T.s)
  | 11 => gt (!w0) (.slice (some ⟨(env 11).1, 0, none⟩) 1 1)
  | 12 => gt (!w0) (.bool w1)
  | 13 => .bool (w0 && w1)
  | 14 => .bool (w0 && w1)
  | 15 => gt (!(w0 && w1)) (.pointer (some ⟨b1, 0, none⟩))
  | 16 => gt (!(w0 && w1)) (.pointer (some ⟨b1, 0, none⟩))
  | 17 => gt (!(w0 && w1)) (.int .i64 T.g)
  | 18 => gt (!(w0 && w1)) (.agg (cSp ⟨T.g, 9⟩).toArray)
  | 19 => gt (!(w0 && w1)) (.pointer (some ⟨b1, 3, none⟩))
  | 20 => gt (!(w0 && w1)) (.int .i64 T.worst)
  | 21 => gt (!(w0 && w1)) (.slice (some ⟨(env 21).1, 0, none⟩) 1 1)
  | 22 => gt (!(w0 && w1)) (.bool w2)
  | 23 => .bool ((w0 && w1) && w2)
  | 24 => .bool ((w0 && w1) && w2)
  | 25 => gt (!((w0 && w1) && w2)) (.pointer (some ⟨b1, 0, none⟩))
  | 26 => gt (!((w0 && w1) && w2)) (.pointer (some ⟨b1, 1, none⟩))
  | 27 => gt (!((w0 && w1) && w2)) (.int .i64 T.s)
  | 28 => gt (!((w0 && w1) && w2)) (.agg (cSp ⟨1, T.s⟩).toArray)
  | 29 => gt (!((w0 && w1) && w2)) (.pointer (some ⟨b1, 4, none⟩))
  | 30 => gt (!((w0 && w1) && w2)) (.int .i64 T.short)
  | 31 => gt (!((w0 && w1) && w2)) (.slice (some ⟨(env 31).1, 0, none⟩) 1 1)
  | 32 => gt (!((w0 && w1) && w2)) (.bool w3)
  | 33 => .bool (((w0 && w1) && w2) && w3)
  | 34 => .bool (((w0 && w1) && w2) && w3)
  | _ => undef
def rowsHc (b1 : Nat) (T : Tm) (p : Pt) (w0 w1 w2 w3 : Bool) (k : Nat) (env : Env) : List Row :=
  match k with
  | 4 => [⟨(env 4).1, 0, [.int .i64 T.g], some 3, 1 * 1⟩]
  | 11 => gr (!w0) [⟨(env 11).1, 0, [.int .i64 T.s], some 3, 1 * 1⟩]
  | 21 => gr (!(w0 && w1)) [⟨(env 21).1, 0, [.int .i64 T.worst], some 3, 1 * 1⟩]
  | 31 => gr (!((w0 && w1) && w2)) [⟨(env 31).1, 0, [.int .i64 T.short], some 3, 1 * 1⟩]
  | _ => []
theorem locHc (b1 : Nat) (T : Tm) (p : Pt) (w0 w1 w2 w3 : Bool) : ∀ k env i q9, i ≠ k → (tAt tsHc k).sup.contains i = false → valHc b1 T p w0 w1 w2 w3 k (upd env i q9) = valHc b1 T p w0 w1 w2 w3 k env ∧ rowsHc b1 T p w0 w1 w2 w3 k (upd env i q9) = rowsHc b1 T p w0 w1 w2 w3 k env := by
  intro k env i q hk hs
  have hu : ∀ j, j ≠ i → upd env i q j = env j := fun j hj => by unfold upd; rw [if_neg hj]
  match k, hk, hs with
  | 0, _, _ => exact ⟨rfl, rfl⟩
  | 1, _, _ => exact ⟨rfl, rfl⟩
  | 2, _, _ => exact ⟨rfl, rfl⟩
  | 3, _, _ => exact ⟨rfl, rfl⟩
  | 4, hk, hs => exact ⟨by simp only [valHc, hu 4 (fun e => hk e.symm)], by simp only [rowsHc, hu 4 (fun e => hk e.symm)]⟩
  | 5, _, _ => exact ⟨rfl, rfl⟩
  | 6, _, _ => exact ⟨rfl, rfl⟩
  | 7, _, _ => exact ⟨rfl, rfl⟩
  | 8, _, _ => exact ⟨rfl, rfl⟩
  | 9, _, _ => exact ⟨rfl, rfl⟩
  | 10, _, _ => exact ⟨rfl, rfl⟩
  | 11, hk, hs => exact ⟨by simp only [valHc, hu 11 (fun e => hk e.symm)], by simp only [rowsHc, hu 11 (fun e => hk e.symm)]⟩
  | 12, _, _ => exact ⟨rfl, rfl⟩
  | 13, _, _ => exact ⟨rfl, rfl⟩
  | 14, _, _ => exact ⟨rfl, rfl⟩
  | 15, _, _ => exact ⟨rfl, rfl⟩
  | 16, _, _ => exact ⟨rfl, rfl⟩
  | 17, _, _ => exact ⟨rfl, rfl⟩
  | 18, _, _ => exact ⟨rfl, rfl⟩
  | 19, _, _ => exact ⟨rfl, rfl⟩
  | 20, _, _ => exact ⟨rfl, rfl⟩
  | 21, hk, hs => exact ⟨by simp only [valHc, hu 21 (fun e => hk e.symm)], by simp only [rowsHc, hu 21 (fun e => hk e.symm)]⟩
  | 22, _, _ => exact ⟨rfl, rfl⟩
  | 23, _, _ => exact ⟨rfl, rfl⟩
  | 24, _, _ => exact ⟨rfl, rfl⟩
  | 25, _, _ => exact ⟨rfl, rfl⟩
  | 26, _, _ => exact ⟨rfl, rfl⟩
  | 27, _, _ => exact ⟨rfl, rfl⟩
  | 28, _, _ => exact ⟨rfl, rfl⟩
  | 29, _, _ => exact ⟨rfl, rfl⟩
  | 30, _, _ => exact ⟨rfl, rfl⟩
  | 31, hk, hs => exact ⟨by simp only [valHc, hu 31 (fun e => hk e.symm)], by simp only [rowsHc, hu 31 (fun e => hk e.symm)]⟩
  | 32, _, _ => exact ⟨rfl, rfl⟩
  | 33, _, _ => exact ⟨rfl, rfl⟩
  | 34, _, _ => exact ⟨rfl, rfl⟩
  | _ + 35, _, _ => exact ⟨rfl, rfl⟩
set_option maxHeartbeats 8000000 in
theorem hasClasses_spec (T : Tm) (p : Pt) (H : List Row) : Fc Try.prog 62 [.agg (cTm T p).toArray] H (fun v H' => v = .bool (decide ((1 ≤ T.g ∧ T.g ≤ 9) ∧ (1 ≤ T.s ∧ T.s ≤ 9) ∧ (T.g ≤ T.worst ∧ T.worst ≤ 9) ∧ (1 ≤ T.short ∧ T.short ≤ T.s))) ∧ H' = H) := by
  obtain ⟨w0, e0⟩ : ∃ b, decide (1 ≤ T.g ∧ T.g ≤ 9) = b := ⟨_, rfl⟩
  obtain ⟨w1, e1⟩ : ∃ b, decide (1 ≤ T.s ∧ T.s ≤ 9) = b := ⟨_, rfl⟩
  obtain ⟨w2, e2⟩ : ∃ b, decide (T.g ≤ T.worst ∧ T.worst ≤ 9) = b := ⟨_, rfl⟩
  obtain ⟨w3, e3⟩ : ∃ b, decide (1 ≤ T.short ∧ T.short ≤ T.s) = b := ⟨_, rfl⟩
  refine Fc.mk (callable Try.call62) Try.func62 rfl Try.ntmps62 rfl ?_; dsimp only [fr]
  refine X.seq rfl ?_; refine X.region rfl (fun K hK => ?_); repeat' (first | (refine XO.op rfl ?_; (first | ((first | refine Xo.ng rfl ?_); (first | (refine Xg.ev (EvF.assign rfl rfl) rfl rfl ?_) | (refine Xg.st (StF.boxAgg rfl rfl) rfl rfl ?_; rintro _ _ ⟨bx, rfl, rfl⟩))))) | (refine XO.done rfl ?_; refine hK _ _ ?_; clear hK K))
  rename Nat => b1
  refine X.seq rfl ?_
  refine X.regionOb tsHc [1] [(1, .pointer (some ⟨b1, 0, none⟩))] (valHc b1 T p w0 w1 w2 w3) (rowsHc b1 T p w0 w1 w2 w3) (fun _ => (0, 0)) (⟨b1, 0, cTm T p, some 28, 11⟩ :: H) rfl mixed (by (repeat (first | exact Sub.nil _ | refine Sub.cons rfl ?_)); done) rfl (by kernel_rfl) (locHc b1 T p w0 w1 w2 w3) (List.Sublist.refl _) ?_ ?_
  · cases w0; rotate_left; cases w1; rotate_left; cases w2; rotate_left; cases w3
    all_goals repeat' (first | exact AllF.done rfl | (refine AllF.step rfl ?_ ?_; · (first | exact Ob.sk rfl rfl (fun _ => rfl) (fun _ => rfl) (fun _ => rfl) (fun _ => rfl) | ((first | refine Ob.ng rfl ?_ | refine Ob.g rfl rfl (fun _ => rfl) ?_); (first | exact ObK.pure (fun env R hR => by exact ⟨_, EvF.move rfl rfl, rfl⟩) rfl (fun _ => rfl) | exact ObK.pure (fun env R hR => by exact ⟨_, EvF.assign rfl rfl, rfl⟩) rfl (fun _ => rfl) | exact ObK.pure (fun env R hR => by exact ⟨_, EvF.pickT rfl rfl rfl, rfl⟩) rfl (fun _ => rfl) | exact ObK.pure (fun env R hR => by exact ⟨_, EvF.pickF rfl rfl rfl, rfl⟩) rfl (fun _ => rfl) | exact ObK.pure (fun env R hR => by exact ⟨_, EvF.fieldAddr rfl rfl (te rfl) rfl (te rfl) (by decide), rfl⟩) rfl (fun _ => rfl) | exact ObK.pure (fun env R hR => by exact ⟨_, EvF.loadV rfl rfl (LoadV.own (te rfl) rfl (hR _ (List.Mem.head _)) rfl), rfl⟩) rfl (fun _ => rfl) | (exact fun env S hS => (StF.buildOne rfl elI rfl rfl rfl (by decide) (by decide)).op.mono (fun v H' ⟨b, hv, hH⟩ => ⟨(b, 0), fun _ => hv, by rw [hH]; exact List.Perm.refl _⟩)) | (exact ObK.pure (fun env S hS => ⟨_, EvF.build (cs := cSp ⟨T.g, 9⟩) rfl (ArgsP.cons rfl (ArgsP.cons rfl ArgsP.nil)) (te rfl) (Places.cons (te rfl) (Places.cons (te rfl) Places.nil)) Try.zeroValue26 rfl, rfl⟩) rfl (fun _ => rfl)) | (exact ObK.pure (fun env S hS => ⟨_, EvF.build (cs := cSp ⟨1, T.s⟩) rfl (ArgsP.cons rfl (ArgsP.cons rfl ArgsP.nil)) (te rfl) (Places.cons (te rfl) (Places.cons (te rfl) Places.nil)) Try.zeroValue26 rfl, rfl⟩) rfl (fun _ => rfl)) | (exact fun env S hS => OpF.callV (Z := []) (EnF.st rfl Args.nil) (anyGrade_spec _) rfl rfl) | (exact fun env S hS => OpF.callV (Z := []) (EnF.st rfl Args.nil) (anyStaple_spec _) rfl rfl) | (exact fun env S hS => OpF.callV (EnF.st rfl (Args.cons rfl (Args.cons rfl Args.nil))) (within1_spec ⟨1, 9⟩ T.g _ _ _ _ _ (List.Mem.head _)) (by rw [e0]; rfl) rfl) | (exact fun env S hS => OpF.callV (EnF.st rfl (Args.cons rfl (Args.cons rfl Args.nil))) (within1_spec ⟨1, 9⟩ T.s _ _ _ _ _ (List.Mem.head _)) (by rw [e1]; rfl) rfl) | (exact fun env S hS => OpF.callV (EnF.st rfl (Args.cons rfl (Args.cons rfl Args.nil))) (within1_spec ⟨T.g, 9⟩ T.worst _ _ _ _ _ (List.Mem.head _)) (by rw [e2]; rfl) rfl) | (exact fun env S hS => OpF.callV (EnF.st rfl (Args.cons rfl (Args.cons rfl Args.nil))) (within1_spec ⟨1, T.s⟩ T.short _ _ _ _ _ (List.Mem.head _)) (by rw [e3]; rfl) rfl))))))
  · intro env t ha hv
    refine ⟨[(2, .bool (((w0 && w1) && w2) && w3))], ?_, ?_⟩
    · exact (ha.sub (F' := []) (Sub.nil _)).cons (hv 34 2 (Nat.le_of_ble_eq_true rfl) rfl)
    · show X _ _ _ _ (⟨b1, 0, cTm T p, some 28, 11⟩ :: H) _
      repeat' (first | refine X.ret rfl ?_)
      refine ret_one (by first | exact .inr rfl | exact .inl rfl) Try.results62 rfl (H' := H) (by (repeat (first | exact List.Sublist.refl _ | apply List.Sublist.cons)); done) ?_; simp only [and_true, true_and]
      rw [← e0, ← e1, ← e2, ← e3]
      simp [and_assoc, Bool.and_assoc]
theorem hasNumbers_spec (T : Tm) (p : Pt) (H : List Row) : Fc Try.prog 63 [.agg (cTm T p).toArray] H (fun v H' => v = .bool (decide ((1 ≤ T.price ∧ T.price ≤ 1000000) ∧ (T.dl ≤ T.dh ∧ 0 ≤ T.dl ∧ T.dh ≤ 60) ∧ (1 ≤ T.bales ∧ T.bales ≤ 20) ∧ (0 ≤ T.fee ∧ T.fee ≤ 1000))) ∧ H' = H) := by
  refine Fc.mk (callable Try.call63) Try.func63 rfl Try.ntmps63 rfl ?_; dsimp only [fr]
  repeat' (first | (refine XO.op rfl ?_; (first | ((first | refine Xo.ng rfl ?_ | (refine Xo.g rfl rfl ?_; with_reducible refine Xw.tt ?_)); (first | (refine Xg.ev (EvF.build (cs := cSp ⟨1, 1000000⟩) rfl (ArgsP.cons rfl (ArgsP.cons rfl ArgsP.nil)) (te rfl) (Places.cons (te rfl) (Places.cons (te rfl) Places.nil)) Try.zeroValue26 rfl) rfl rfl ?_) | (refine Xg.ev (EvF.build (cs := cSp ⟨1, 20⟩) rfl (ArgsP.cons rfl (ArgsP.cons rfl ArgsP.nil)) (te rfl) (Places.cons (te rfl) (Places.cons (te rfl) Places.nil)) Try.zeroValue26 rfl) rfl rfl ?_) | (refine Xg.ev (EvF.build (cs := cSp ⟨0, 1000⟩) rfl (ArgsP.cons rfl (ArgsP.cons rfl ArgsP.nil)) (te rfl) (Places.cons (te rfl) (Places.cons (te rfl) Places.nil)) Try.zeroValue26 rfl) rfl rfl ?_) | (refine Xg.st (StF.buildOne rfl elI rfl rfl rfl (by decide) (by decide)) rfl rfl ?_; rintro _ _ ⟨bs, rfl, rfl⟩) | (refine Xg.call (EnF.st rfl (Args.cons rfl (Args.cons rfl Args.nil))) rfl rfl (within1_spec ⟨1, 1000000⟩ _ _ _ _ _ _ (List.Mem.head _)) ?_; rintro _ H9 ⟨rfl, hH9⟩; subst H9) | (refine Xg.call (EnF.st rfl (Args.cons rfl (Args.cons rfl Args.nil))) rfl rfl (within1_spec ⟨1, 20⟩ _ _ _ _ _ _ (List.Mem.head _)) ?_; rintro _ H9 ⟨rfl, hH9⟩; subst H9) | (refine Xg.call (EnF.st rfl (Args.cons rfl (Args.cons rfl Args.nil))) rfl rfl (within1_spec ⟨0, 1000⟩ _ _ _ _ _ _ (List.Mem.head _)) ?_; rintro _ H9 ⟨rfl, hH9⟩; subst H9) | (refine Xg.call (EnF.st rfl (Args.cons rfl (Args.cons rfl (Args.cons rfl Args.nil)))) rfl rfl (part_spec ⟨T.dl, T.dh⟩ _ _ _) ?_; rintro _ H9 ⟨rfl, hH9⟩; subst H9) | (refine Xg.ev (EvF.move rfl rfl) rfl rfl ?_) | (refine Xg.ev (EvF.assign rfl rfl) rfl rfl ?_) | (refine Xg.ev (EvF.pickT rfl rfl rfl) rfl rfl ?_) | (refine Xg.ev (EvF.pickF rfl rfl rfl) rfl rfl ?_) | (refine Xg.ev (EvF.fieldAddr rfl rfl (te rfl) rfl (te rfl) (by decide)) rfl rfl ?_) | (refine Xg.ev (EvF.loadV rfl rfl (LoadV.own (te rfl) rfl (List.Mem.head _) rfl)) rfl rfl ?_) | (refine Xg.ev (EvF.loadV rfl rfl (LoadV.own (te rfl) rfl (List.Mem.tail _ (List.Mem.head _)) rfl)) rfl rfl ?_) | (refine Xg.ev (EvF.loadV rfl rfl (LoadV.own (te rfl) rfl (List.Mem.tail _ (List.Mem.tail _ (List.Mem.head _))) rfl)) rfl rfl ?_) | (refine Xg.ev (EvF.loadV rfl rfl (LoadV.ownAgg (te rfl) rfl (List.Mem.tail _ (List.Mem.head _)) rfl rfl)) rfl rfl ?_) | (refine Xg.st (StF.boxAgg rfl rfl) rfl rfl ?_; rintro _ _ ⟨bx, rfl, rfl⟩))) | (refine Xo.g rfl rfl ?_; (first | (with_reducible refine Xw.ft rfl rfl ?_) | (with_reducible refine Xw.case (fun h => ?_) (fun h => ?_) <;> simp only [h, decide_true, decide_false, Bool.not_true, Bool.not_false, and_self, and_true, true_and, and_false, false_and]))))) | (refine XO.done rfl ?_; refine hK _ _ ?_; clear hK K) | refine X.seq rfl ?_ | refine X.region rfl (fun K hK => ?_) | refine X.ret rfl ?_)
  all_goals (refine ret_one (by first | exact .inr rfl | exact .inl rfl) Try.results63 rfl (H' := H) (by (repeat (first | exact List.Sublist.refl _ | apply List.Sublist.cons)); done) ?_; simp only [and_true, true_and])
  all_goals (congr 1; (try dsimp only at *); (try simp [*]))
  all_goals try omega
theorem areTables_spec (l m : List Int) (a a' : Option Addr) (c c' : Nat) (H : List Row) (hl : SlE H a cI 1 l) (hm : SlE H a' cI 1 m) (h1 : l.length ≤ 1000000) (h2 : m.length ≤ 1000000) :
    Fc Try.prog 107 [.slice a l.length c, .slice a' m.length c'] H (fun v H' => v = .bool (decide (l.length = 9 ∧ m.length = 9 ∧ (∀ n ∈ l, -1000 ≤ n ∧ n ≤ 1000) ∧ (∀ n ∈ m, -1000 ≤ n ∧ n ≤ 1000))) ∧ H' = H) := by
  refine Fc.mk (callable Try.call107) Try.func107 rfl Try.ntmps107 rfl ?_; dsimp only [fr]
  repeat' (first | (refine XO.op rfl ?_; (first | ((first | refine Xo.ng rfl ?_ | (refine Xo.g rfl rfl ?_; with_reducible refine Xw.tt ?_)); (first | (refine Xg.ev (EvF.build (cs := cSp ⟨-1000, 1000⟩) rfl (ArgsP.cons rfl (ArgsP.cons rfl ArgsP.nil)) (te rfl) (Places.cons (te rfl) (Places.cons (te rfl) Places.nil)) Try.zeroValue26 rfl) rfl rfl ?_) | (refine Xg.call (EnF.st rfl (Args.cons rfl (Args.cons rfl Args.nil))) rfl rfl (withinL_spec ⟨-1000, 1000⟩ l a c _ (hl.sub (fun _ h => List.Mem.tail _ h)) (by omega)) ?_; rintro _ H9 ⟨rfl, hH9⟩; subst H9) | (refine Xg.call (EnF.st rfl (Args.cons rfl (Args.cons rfl Args.nil))) rfl rfl (withinL_spec ⟨-1000, 1000⟩ m a' c' _ (hm.sub (fun _ h => List.Mem.tail _ h)) (by omega)) ?_; rintro _ H9 ⟨rfl, hH9⟩; subst H9) | (refine Xg.ev (EvF.move rfl rfl) rfl rfl ?_) | (refine Xg.ev (EvF.assign rfl rfl) rfl rfl ?_) | (refine Xg.ev (EvF.pickT rfl rfl rfl) rfl rfl ?_) | (refine Xg.ev (EvF.pickF rfl rfl rfl) rfl rfl ?_) | (refine Xg.ev (EvF.cmp rfl rfl rfl rfl) rfl rfl ?_) | (refine Xg.ev (EvF.lenSlice rfl rfl (te rfl)) rfl rfl ?_) | (refine Xg.ev (EvF.loadV rfl rfl (LoadV.whole (te rfl) rfl (List.Mem.head _) rfl)) rfl rfl ?_) | (refine Xg.st (StF.alloc rfl Try.zeroValue26 rfl) rfl rfl ?_; rintro _ _ ⟨bx, rfl, rfl⟩) | (refine Xg.st0 (StF.storeAll (i := 0) rfl rfl rfl (te rfl) rfl rfl rfl rfl) rfl ?_; rintro _ _ ⟨rfl, rfl⟩; dsimp only [List.set]))) | (refine Xo.g rfl rfl ?_; (first | (with_reducible refine Xw.ft rfl rfl ?_) | (with_reducible refine Xw.case (fun h => ?_) (fun h => ?_) <;> simp only [h, decide_true, decide_false, Bool.not_true, Bool.not_false, and_self, and_true, true_and, and_false, false_and]) | (with_reducible refine Xw.caseB (fun h => ?_) (fun h => ?_) <;> simp only [h, decide_true, decide_false, Bool.not_true, Bool.not_false, and_self, and_true, true_and, and_false, false_and]))))) | (refine XO.done rfl ?_; refine hK _ _ ?_; clear hK K) | refine X.seq rfl ?_ | refine X.region rfl (fun K hK => ?_) | refine X.ret rfl ?_)
  all_goals (refine ret_one (by first | exact .inr rfl | exact .inl rfl) Try.results107 rfl (H' := H) (by (repeat (first | exact List.Sublist.refl _ | apply List.Sublist.cons)); done) ?_; simp only [and_true, true_and])
  all_goals (try dsimp only at *)
  all_goals first
    | (congr 1; exact decide_eq_decide.2 ⟨fun q => ⟨by omega, by omega, by assumption, q⟩, fun q => q.2.2.2⟩)
    | (congr 1; exact (decide_eq_false (fun q => by first | omega | (exact absurd q.2.2.1 (by assumption)) | (simp_all; done))).symm)
    | (exfalso; simp_all; done)
theorem cloneI_spec (l : List Int) (ad : Addr) (c : Nat) (H : List Row) (hl : SlE H (some ad) cI 1 l) (hb : l.length ≤ 1000000) :
    Fc Try.prog 108 [.slice (some ad) l.length c] H (fun v H' => ∃ b k, v = .slice (some ⟨b, 0, none⟩) l.length k ∧ H' = ⟨b, 0, l.flatMap cI, some 3, k * 1⟩ :: H) := by
  refine Fc.mk (callable Try.call108) Try.func108 rfl Try.ntmps108 rfl ?_; dsimp only [fr]
  repeat' (first | (refine XO.op rfl ?_; (first | ((first | refine Xo.ng rfl ?_); (first | (refine Xg.ev (EvF.eqNil rfl rfl (te rfl)) rfl rfl ?_) | (refine Xg.st (StF.buildNil rfl elI) rfl rfl ?_; rintro _ _ ⟨bn, rfl, rfl⟩) | (refine Xg.st (StF.appendSl (i := 0) rfl elI rfl rfl rfl (hl.sub (fun _ h => List.mem_cons_of_mem _ h)) (fun e _ => one_i e) rfl (by decide) (by omega)) rfl rfl ?_; rintro _ _ ⟨b, k, rfl, rfl⟩; dsimp only [List.eraseIdx]) | (refine Xg.ev (EvF.move rfl rfl) rfl rfl ?_) | (refine Xg.ev (EvF.assign rfl rfl) rfl rfl ?_))))) | (refine XO.done rfl ?_; refine hK _ _ ?_; clear hK K) | refine X.seq rfl ?_ | refine X.region rfl (fun K hK => ?_) | refine X.skip rfl ?_ | refine X.ret rfl ?_ | (refine X.ite rfl rfl (fun hc => ?_); (first | (with_reducible refine Xb.f hc ?_)) <;> clear hc))
  exact ret_one (by first | exact .inr rfl | exact .inl rfl) Try.results108 rfl (H' := _) (List.Sublist.refl _) ⟨_, _, by rw [Nat.zero_add], rfl⟩
end Go.Proofs.Ytjejppodhpdckaa
end
section
set_option linter.unusedVariables false
set_option linter.unusedSimpArgs false
namespace Go.Proofs.Ytjejppodhpdckaa
open Go Go.Fw
set_option maxRecDepth 10000
def tsRv : List TOp := [⟨some 14, [], [], []⟩, ⟨some 15, [], [], []⟩, ⟨some 16, [], [], []⟩, ⟨some 17, [], [], []⟩, ⟨some 18, [], [], []⟩, ⟨some 19, [], [], []⟩, ⟨some 20, [4, 5], [4, 5], []⟩, ⟨some 21, [4, 5, 6], [6], []⟩, ⟨some 22, [], [], []⟩, ⟨some 23, [], [], []⟩, ⟨some 24, [8, 9], [8, 9], []⟩, ⟨some 25, [8, 9, 10], [10], []⟩, ⟨some 26, [0, 1, 4, 5, 6, 7, 8, 9, 10, 11], [0, 1], []⟩, ⟨none, [0, 1, 4, 5, 6, 7, 8, 9, 10, 11, 12], [12, 7], [16]⟩, ⟨some 27, [0, 1, 2, 3, 4, 5, 6, 7, 8, 9, 10, 11, 12, 13], [2, 3], []⟩, ⟨none, [0, 1, 2, 3, 4, 5, 6, 7, 8, 9, 10, 11, 12, 13, 14], [14, 11], [13]⟩, ⟨none, [], [], []⟩]
def valRv (b n kc ii jj : Nat) (c : List Int) (x y : Int) (k : Nat) (env : Env) : Value :=
  match k with
  | 0 => .slice (some ⟨b, 0, none⟩) n kc
  | 1 => .int .i64 ii
  | 2 => .slice (some ⟨b, 0, none⟩) n kc
  | 3 => .int .i64 jj
  | 4 => .slice (some ⟨b, 0, none⟩) n kc
  | 5 => .int .i64 jj
  | 6 => .pointer (some ⟨b, 0 + jj * 1, none⟩)
  | 7 => .int .i64 y
  | 8 => .slice (some ⟨b, 0, none⟩) n kc
  | 9 => .int .i64 ii
  | 10 => .pointer (some ⟨b, 0 + ii * 1, none⟩)
  | 11 => .int .i64 x
  | 12 => .pointer (some ⟨b, 0 + ii * 1, none⟩)
  | 13 => undef
  | 14 => .pointer (some ⟨b, 0 + jj * 1, none⟩)
  | 15 => undef
  | _ => undef
def rowsRv (b n kc ii jj : Nat) (c : List Int) (x y : Int) (k : Nat) (env : Env) : List Row :=
  match k with
  | 13 => [⟨b, 0, (c.set ii y).flatMap cI, some 3, kc * 1⟩]
  | 15 => [⟨b, 0, ((c.set ii y).set jj x).flatMap cI, some 3, kc * 1⟩]
  | 16 => [⟨b, 0, c.flatMap cI, some 3, kc * 1⟩]
  | _ => []
theorem locRv (b n kc ii jj : Nat) (c : List Int) (x y : Int) : ∀ k env i q9, i ≠ k → (tAt tsRv k).sup.contains i = false → valRv b n kc ii jj c x y k (upd env i q9) = valRv b n kc ii jj c x y k env ∧ rowsRv b n kc ii jj c x y k (upd env i q9) = rowsRv b n kc ii jj c x y k env := by
  intro k env i q hk hs
  have hu : ∀ j, j ≠ i → upd env i q j = env j := fun j hj => by unfold upd; rw [if_neg hj]
  match k, hk, hs with
  | 0, _, _ => exact ⟨rfl, rfl⟩
  | 1, _, _ => exact ⟨rfl, rfl⟩
  | 2, _, _ => exact ⟨rfl, rfl⟩
  | 3, _, _ => exact ⟨rfl, rfl⟩
  | 4, _, _ => exact ⟨rfl, rfl⟩
  | 5, _, _ => exact ⟨rfl, rfl⟩
  | 6, _, _ => exact ⟨rfl, rfl⟩
  | 7, _, _ => exact ⟨rfl, rfl⟩
  | 8, _, _ => exact ⟨rfl, rfl⟩
  | 9, _, _ => exact ⟨rfl, rfl⟩
  | 10, _, _ => exact ⟨rfl, rfl⟩
  | 11, _, _ => exact ⟨rfl, rfl⟩
  | 12, _, _ => exact ⟨rfl, rfl⟩
  | 13, _, _ => exact ⟨rfl, rfl⟩
  | 14, _, _ => exact ⟨rfl, rfl⟩
  | 15, _, _ => exact ⟨rfl, rfl⟩
  | 16, _, _ => exact ⟨rfl, rfl⟩
  | _ + 17, _, _ => exact ⟨rfl, rfl⟩
def rdRv (k : Nat) : List Nat := match k with
  | 7 => [16]
  | 11 => [16]
  | _ => []
/-- the first i numbers and the last i ones have changed places -/
def swp (l c : List Int) (i : Nat) : Prop := c.length = l.length ∧ ∀ q, q < l.length → c[q]? = (if q < i ∨ l.length ≤ q + i then l[l.length - 1 - q]? else l[q]?)
theorem swp_end {l c : List Int} {i : Nat} (h : swp l c i) (hi : l.length ≤ i + i + 1) : c = l.reverse := by
  apply List.ext_getElem?
  intro q
  by_cases hq : q < l.length
  · rw [h.2 q hq, List.getElem?_reverse hq]
    split
    · rfl
    · rw [show l.length - 1 - q = q by omega]
  · rw [List.getElem?_eq_none (by rw [h.1]; omega), List.getElem?_eq_none (by rw [List.length_reverse]; omega)]
theorem swp_step {l c : List Int} {i j : Nat} {x y : Int} (h : swp l c i) (hj : j + i + 1 = l.length) (hij : i < j) (hx : c[i]? = some x) (hy : c[j]? = some y) : swp l ((c.set i y).set j x) (i + 1) := by
  refine ⟨by simp [h.1], fun q hq => ?_⟩
  have h1 := h.1
  have e1 := h.2 i (by omega)
  have e2 := h.2 j (by omega)
  rw [if_neg (by omega)] at e1 e2
  rw [hx] at e1; rw [hy] at e2
  rw [List.getElem?_set, List.getElem?_set]
  by_cases q1 : j = q
  · subst q1
    rw [if_pos rfl, if_pos (by simp; omega), if_pos (by omega), show l.length - 1 - j = i by omega]; exact e1
  · rw [if_neg q1]
    by_cases q2 : i = q
    · subst q2
      rw [if_pos rfl, if_pos (by omega), if_pos (by omega), show l.length - 1 - i = j by omega]; exact e2
    · rw [if_neg q2, h.2 q hq]
      by_cases q3 : q < i ∨ l.length ≤ q + i
      · rw [if_pos q3, if_pos (by omega)]
      · rw [if_neg q3, if_neg (by omega)]
set_option maxHeartbeats 4000000 in
theorem reverse_spec (l : List Int) (b kc : Nat) (H : List Row) (hb : l.length ≤ 1000000) (hk : l.length ≤ kc) :
    Fc Try.prog 109 [.slice (some ⟨b, 0, none⟩) l.length kc] (⟨b, 0, l.flatMap cI, some 3, kc * 1⟩ :: H) (fun _ H' => H' = ⟨b, 0, l.reverse.flatMap cI, some 3, kc * 1⟩ :: H) := by
  refine Fc.mk (callable Try.call109) Try.func109 rfl Try.ntmps109 rfl ?_; dsimp only [fr]
  repeat' (first | (refine XO.op rfl ?_; (first | ((first | refine Xo.ng rfl ?_); (first | (refine Xg.ev (EvF.move rfl rfl) rfl rfl ?_) | (refine Xg.ev (EvF.assign rfl rfl) rfl rfl ?_) | (refine Xg.ev (EvF.add64 rfl rfl rfl (by omega) (by omega)) rfl rfl ?_) | (refine Xg.ev (EvF.sub64 rfl rfl rfl (by omega) (by omega)) rfl rfl ?_) | (refine Xg.ev (EvF.lenSlice rfl rfl (te rfl)) rfl rfl ?_))))) | (refine XO.done rfl ?_; refine hK _ _ ?_; clear hK K) | refine X.seq rfl ?_ | refine X.region rfl (fun K hK => ?_) | refine X.block rfl ?_)
  refine X.lp rfl (fun m F' H' => ∃ (i : Nat) (c : List Int), m = l.length - i ∧ i ≤ l.length ∧ swp l c i ∧ H' = ⟨b, 0, c.flatMap cI, some 3, kc * 1⟩ :: H ∧
      F' = [(0, .slice (some ⟨b, 0, none⟩) l.length kc), (2, .int .i64 i), (3, .int .i64 ((l.length : Int) - 1 - i))])
    l.length [(0, .slice (some ⟨b, 0, none⟩) l.length kc), (2, .int .i64 (0 : Nat)), (3, .int .i64 ((l.length : Int) - 1 - (0 : Nat)))] _ (by rw [show (l.length : Int) - 1 - ((0 : Nat) : Int) = l.length - 1 by omega]; exact (by (repeat (first | exact Sub.nil _ | refine Sub.cons rfl ?_)); done)) (List.Sublist.refl _) ⟨0, l, by omega, by omega, ⟨rfl, fun q hq => by rw [if_neg (by omega)]⟩, rfl, rfl⟩ ?_
  rintro _ _ _ ⟨i, c, rfl, hi, hs, rfl, rfl⟩
  repeat' (first | (refine XO.op rfl ?_; (first | ((first | refine Xo.ng rfl ?_); (first | (refine Xg.ev (EvF.move rfl rfl) rfl rfl ?_) | (refine Xg.ev (EvF.cmp rfl rfl rfl rfl) rfl rfl ?_))))) | (refine XO.done rfl ?_; refine hK _ _ ?_; clear hK K) | refine X.seq rfl ?_ | refine X.region rfl (fun K hK => ?_) | refine X.block rfl ?_ | (refine X.brk rfl ?_; repeat (first | refine blockX_hit rfl ?_ | refine blockX_miss (by decide) ?_)) | refine X.skip rfl ?_ | (refine X.ite rfl rfl (fun hc => ?_); (first | (with_reducible refine Xb.case hc (fun h => ?_) (fun h => ?_))) <;> clear hc))
  · have hlt : (i : Int) < (l.length : Int) - 1 - i := by assumption
    obtain ⟨j, hj⟩ : ∃ j : Nat, (j : Int) = (l.length : Int) - 1 - i := ⟨(l.length - 1 - i), by omega⟩
    have hcl := hs.1
    have hx : c[i]? = some (c[i]'(by omega)) := List.getElem?_eq_getElem _
    have hy : c[j]? = some (c[j]'(by omega)) := List.getElem?_eq_getElem _
    generalize c[i]'(by omega) = x at hx
    generalize c[j]'(by omega) = y at hy
    have hst := swp_step hs (by omega) (by omega) hx hy
    rw [← hj]
    obtain ⟨ii, rfl⟩ : ∃ ii, ii = i := ⟨_, rfl⟩
    obtain ⟨jj, rfl⟩ : ∃ jj, jj = j := ⟨_, rfl⟩
    obtain ⟨n, hn⟩ : ∃ n, l.length = n := ⟨_, rfl⟩
    have e0 : (Value.slice (some ⟨b, 0, none⟩) l.length kc) = .slice (some ⟨b, 0, none⟩) n kc := by rw [hn]
    rw [e0]
    refine X.regionRd tsRv rdRv [0, 2, 3] [(0, .slice (some ⟨b, 0, none⟩) n kc), (2, .int .i64 ii), (3, .int .i64 jj)] (valRv b n kc ii jj c x y) (rowsRv b n kc ii jj c x y) (fun _ => (0, 0)) (H) rfl mixed (by (repeat (first | exact Sub.nil _ | refine Sub.cons rfl ?_)); done) rfl (by kernel_rfl) (by kernel_rfl) (locRv b n kc ii jj c x y) (List.Sublist.refl _) ?_ ?_
    · have hi1 : ii < c.length := by omega
      have hj1 : jj < (c.set ii y).length := by simp; omega
      have hi2 : (ii : Int) < n := by omega
      have hj2 : (jj : Int) < n := by omega
      repeat' (first | exact AllF.done rfl | (refine AllF.step rfl ?_ ?_; · (first | exact (Ob.ng rfl (ObK.pure (fun env R hR => by exact ⟨_, EvF.move rfl rfl, rfl⟩) rfl (fun _ => rfl))).toR | (refine ObR.ng rfl ?_; (first | (exact fun env S hS hrd => (StF.ofEv (EvF.loadV rfl rfl (LoadV.ownI (te rfl) rfl (hrd 16 (List.Mem.head _) _ (List.Mem.head _)) (by omega) hy))).op.mono (fun v H' ⟨hv, hH⟩ => ⟨(0, 0), fun _ => hv, by rw [hH]; exact List.Perm.refl _⟩)) | (exact fun env S hS hrd => (StF.ofEv (EvF.loadV rfl rfl (LoadV.ownI (te rfl) rfl (hrd 16 (List.Mem.head _) _ (List.Mem.head _)) (by omega) hx))).op.mono (fun v H' ⟨hv, hH⟩ => ⟨(0, 0), fun _ => hv, by rw [hH]; exact List.Perm.refl _⟩)) | (exact fun env S hS hrd => (StF.storeI (q := 0) (c := c) rfl rfl rfl (te rfl) rfl rfl (by omega) hi1).op.mono (fun v H' ⟨hv, hH⟩ => ⟨(0, 0), fun h => absurd rfl h, by rw [hH]; exact List.Perm.refl _⟩)) | (exact fun env S hS hrd => (StF.storeI (q := 0) (c := c.set ii y) rfl rfl rfl (te rfl) rfl rfl (by omega) hj1).op.mono (fun v H' ⟨hv, hH⟩ => ⟨(0, 0), fun h => absurd rfl h, by rw [hH]; exact List.Perm.refl _⟩)) | ((refine fun env S hS hrd => (StF.ofEv (v := .pointer (some ⟨b, 0 + jj * 1, none⟩)) ?_).op.mono (fun v H' ⟨hv, hH⟩ => ⟨(0, 0), fun _ => hv, by rw [hH]; exact List.Perm.refl _⟩); exact EvF.indexSlice (i := (jj : Int)) (off := 0) (b := b) (T := 24) (e := 3) (len := n) (ti := ⟨.int .i64, 1, 8⟩) rfl rfl rfl (te rfl) (te rfl) (by omega) hj2)) | ((refine fun env S hS hrd => (StF.ofEv (v := .pointer (some ⟨b, 0 + ii * 1, none⟩)) ?_).op.mono (fun v H' ⟨hv, hH⟩ => ⟨(0, 0), fun _ => hv, by rw [hH]; exact List.Perm.refl _⟩); exact EvF.indexSlice (i := (ii : Int)) (off := 0) (b := b) (T := 24) (e := 3) (len := n) (ti := ⟨.int .i64, 1, 8⟩) rfl rfl rfl (te rfl) (te rfl) (by omega) hi2)))))))
    · intro env t ha hv
      refine ⟨_, ha, ?_⟩
      show X _ _ _ _ (⟨b, 0, ((c.set ii y).set jj x).flatMap cI, some 3, kc * 1⟩ :: H) _
      repeat' (first | (refine XO.op rfl ?_; (first | ((first | refine Xo.ng rfl ?_); (first | (refine Xg.ev (EvF.move rfl rfl) rfl rfl ?_) | (refine Xg.ev (EvF.assign rfl rfl) rfl rfl ?_) | (refine Xg.ev (EvF.add64 rfl rfl rfl (by omega) (by omega)) rfl rfl ?_) | (refine Xg.ev (EvF.sub64 rfl rfl rfl (by omega) (by omega)) rfl rfl ?_) | (refine Xg.ev (EvF.lenSlice rfl rfl (te rfl)) rfl rfl ?_))))) | (refine XO.done rfl ?_; refine hK _ _ ?_; clear hK K) | refine X.seq rfl ?_ | refine X.region rfl (fun K hK => ?_) | refine X.block rfl ?_)
      refine ⟨_, [(0, .slice (some ⟨b, 0, none⟩) n kc), (2, .int .i64 (ii + 1 : Nat)), (3, .int .i64 ((n : Int) - 1 - (ii + 1 : Nat)))], _, (by rw [show ((n : Int) - 1 - (ii + 1 : Nat)) = (jj : Int) - 1 by omega]; exact (by (repeat (first | exact Sub.nil _ | refine Sub.cons rfl ?_)); done)), List.Sublist.refl _, ⟨ii + 1, _, rfl, by omega, hst, rfl, by rw [hn]⟩, by omega⟩
  · have he := swp_end hs (by omega)
    subst he
    exact ret_none (by first | exact .inr rfl | exact .inl rfl) Try.results109 (H' := _) (List.Sublist.refl _) rfl
end Go.Proofs.Ytjejppodhpdckaa
end
section
set_option linter.unusedVariables false
set_option linter.unusedSimpArgs false
namespace Go.Proofs.Ytjejppodhpdckaa
open Go Go.Fw
set_option maxRecDepth 10000
/-- a table among others -/
structure TB where
  a : Option Addr
  l : List Int
  c : Nat
def cTB (t : TB) : List Value := [.slice t.a t.l.length t.c]
theorem grows_iff : ∀ (l : List Int), grows l ↔ ∀ q a b, l[q]? = some a → l[q + 1]? = some b → a ≤ b
  | [] => by simp [grows]
  | [x] => by
    refine ⟨fun _ q a b h1 h2 => ?_, fun _ => trivial⟩
    simp at h2
  | x :: y :: l => by
    have ih := grows_iff (y :: l)
    show (x ≤ y ∧ grows (y :: l)) ↔ _
    rw [ih]
    constructor
    · rintro ⟨h1, h2⟩ q a b ha hb
      cases q with
      | zero => simp at ha hb; subst ha hb; exact h1
      | succ q => exact h2 q a b (by simpa using ha) (by simpa using hb)
    · intro h
      exact ⟨h 0 x y rfl rfl, fun q a b ha hb => h (q + 1) a b (by simpa using ha) (by simpa using hb)⟩
noncomputable instance (l : List Int) : Decidable (grows l) := Classical.propDecidable _
noncomputable def risen (ts : List TB) : Int := ((ts.filter (fun t => decide (grows t.l))).length : Nat)
set_option maxHeartbeats 4000000 in
theorem rising_spec (ts : List TB) (a : Option Addr) (c : Nat) (H : List Row) (hl : SlE H a cTB 1 ts) (hb : ts.length ≤ 1000) (ht : ∀ t ∈ ts, SlE H t.a cI 1 t.l ∧ t.l.length ≤ 1000000) :
    Fc Try.prog 110 [.slice a ts.length c] H (fun v H' => v = .int .i64 (risen ts) ∧ H' = H) := by
  refine Fc.mk (callable Try.call110) Try.func110 rfl Try.ntmps110 rfl ?_; dsimp only [fr]
  repeat' (first | (refine XO.op rfl ?_; (first | ((first | refine Xo.ng rfl ?_); (first | (refine Xg.ev (EvF.move rfl rfl) rfl rfl ?_) | (refine Xg.ev (EvF.assign rfl rfl) rfl rfl ?_) | (refine Xg.ev (EvF.cmp rfl rfl rfl rfl) rfl rfl ?_) | (refine Xg.ev (EvF.add64 rfl rfl rfl (by omega) (by omega)) rfl rfl ?_) | (refine Xg.ev (EvF.lenSlice rfl rfl (te rfl)) rfl rfl ?_))))) | (refine XO.done rfl ?_; refine hK _ _ ?_; clear hK K) | (refine XQ.op rfl ?_; (first | ((first | refine Yo.ng rfl ?_); (first | (refine Yg.ev (EvF.move rfl rfl) rfl rfl ?_) | (refine Yg.ev (EvF.add64 rfl rfl rfl (by omega) (by omega)) rfl rfl ?_))))) | refine X.seq rfl ?_ | refine X.region rfl (fun K hK => ?_) | refine X.regionD rfl mixed (by kernel_rfl) (fun K hK => ?_) | refine X.block rfl ?_ | (refine X.brk rfl ?_; repeat (first | refine blockX_hit rfl ?_ | refine blockX_miss (by decide) ?_)) | refine X.label rfl ?_ | refine X.scope rfl ?_ | refine X.skip rfl ?_ | refine X.ret rfl ?_ | (refine X.ite rfl rfl (fun hc => ?_); (first | (with_reducible refine Xb.case hc (fun h => ?_) (fun h => ?_))) <;> clear hc))
  refine X.lp rfl (fun m F' H' => ∃ k : Nat, m = ts.length - k ∧ k ≤ ts.length ∧ H = H' ∧
      F' = [(7, .slice a ts.length c), (8, .int .i64 ts.length), (9, .int .i64 k), (3, .int .i64 (risen (ts.take k)))])
    ts.length [(7, .slice a ts.length c), (8, .int .i64 ts.length), (9, .int .i64 (0 : Nat)), (3, .int .i64 (risen (ts.take 0)))] _ (by (repeat (first | exact Sub.nil _ | refine Sub.cons rfl ?_)); done) (by (repeat (first | exact List.Sublist.refl _ | apply List.Sublist.cons_cons | apply List.Sublist.cons)); done) ⟨0, by omega, by omega, rfl, rfl⟩ ?_
  rintro _ _ H2 ⟨k, rfl, hk, hH, rfl⟩
  subst hH
  repeat' (first | (refine XO.op rfl ?_; (first | ((first | refine Xo.ng rfl ?_); (first | (refine Xg.ev (EvF.move rfl rfl) rfl rfl ?_) | (refine Xg.ev (EvF.assign rfl rfl) rfl rfl ?_) | (refine Xg.ev (EvF.cmp rfl rfl rfl rfl) rfl rfl ?_) | (refine Xg.ev (EvF.add64 rfl rfl rfl (by omega) (by omega)) rfl rfl ?_) | (refine Xg.ev (EvF.lenSlice rfl rfl (te rfl)) rfl rfl ?_))))) | (refine XO.done rfl ?_; refine hK _ _ ?_; clear hK K) | (refine XQ.op rfl ?_; (first | ((first | refine Yo.ng rfl ?_); (first | (refine Yg.ev (EvF.move rfl rfl) rfl rfl ?_) | (refine Yg.ev (EvF.add64 rfl rfl rfl (by omega) (by omega)) rfl rfl ?_))))) | refine X.seq rfl ?_ | refine X.region rfl (fun K hK => ?_) | refine X.regionD rfl mixed (by kernel_rfl) (fun K hK => ?_) | refine X.block rfl ?_ | (refine X.brk rfl ?_; repeat (first | refine blockX_hit rfl ?_ | refine blockX_miss (by decide) ?_)) | refine X.label rfl ?_ | refine X.scope rfl ?_ | refine X.skip rfl ?_ | refine X.ret rfl ?_ | (refine X.ite rfl rfl (fun hc => ?_); (first | (with_reducible refine Xb.case hc (fun h => ?_) (fun h => ?_))) <;> clear hc))
  · obtain ⟨b, off, t, rfl, he⟩ := hl.elem (i := k) (by omega)
    obtain ⟨hsl, hln⟩ := ht t (List.mem_of_getElem? he)
    have hrk : risen (ts.take (k + 1)) = risen (ts.take k) + (if grows t.l then 1 else 0) := by
      unfold risen
      rw [take_snoc he, List.filter_append, List.length_append, List.filter_cons]
      split <;> simp_all
    have hr0 : 0 ≤ risen (ts.take k) ∧ risen (ts.take k) ≤ 1000 := by
      unfold risen
      have := List.length_filter_le (fun t : TB => decide (grows t.l)) (ts.take k)
      rw [List.length_take] at this
      omega
    repeat' (first | (refine XO.op rfl ?_; (first | ((first | refine Xo.ng rfl ?_); (first | (refine Xg.ev (EvF.loadV rfl rfl (LoadV.el0 hl he (te rfl) rfl (fun _ hm => hm) rfl)) rfl rfl ?_) | (refine Xg.ev (EvF.move rfl rfl) rfl rfl ?_) | (refine Xg.ev (EvF.assign rfl rfl) rfl rfl ?_) | (refine Xg.ev (EvF.sub64 rfl rfl rfl (by omega) (by omega)) rfl rfl ?_) | (refine Xg.ev (EvF.lenSlice rfl rfl (te rfl)) rfl rfl ?_) | (refine Xg.ev (EvF.indexSlice rfl rfl rfl (te rfl) (te rfl) (by omega) (by omega)) rfl rfl ?_))))) | (refine XO.done rfl ?_; refine hK _ _ ?_; clear hK K) | refine X.seq rfl ?_ | refine X.region rfl (fun K hK => ?_) | refine X.block rfl ?_)
    refine X.lp rfl (fun m F' H' => ∃ q : Nat, m = t.l.length - q ∧ (q ≤ t.l.length - 1) ∧ (∀ j x y, j < q → t.l[j]? = some x → t.l[j + 1]? = some y → x ≤ y) ∧ H = H' ∧
        F' = [(7, .slice (some ⟨b, off, none⟩) ts.length c), (8, .int .i64 ts.length), (9, .int .i64 k), (3, .int .i64 (risen (ts.take k))), (5, .slice t.a t.l.length t.c), (15, .int .i64 ((t.l.length : Int) - 1)), (16, .int .i64 q)])
      t.l.length [(7, .slice (some ⟨b, off, none⟩) ts.length c), (8, .int .i64 ts.length), (9, .int .i64 k), (3, .int .i64 (risen (ts.take k))), (5, .slice t.a t.l.length t.c), (15, .int .i64 ((t.l.length : Int) - 1)), (16, .int .i64 (0 : Nat))] _ (by (repeat (first | exact Sub.nil _ | refine Sub.cons rfl ?_)); done) (by (repeat (first | exact List.Sublist.refl _ | apply List.Sublist.cons_cons | apply List.Sublist.cons)); done) ⟨0, by omega, by omega, (fun j x y hj => absurd hj (by omega)), rfl, rfl⟩ ?_
    rintro _ _ H2 ⟨q, rfl, hq, hn, hH, rfl⟩
    subst hH
    repeat' (first | (refine XO.op rfl ?_; (first | ((first | refine Xo.ng rfl ?_); (first | (refine Xg.ev (EvF.move rfl rfl) rfl rfl ?_) | (refine Xg.ev (EvF.assign rfl rfl) rfl rfl ?_) | (refine Xg.ev (EvF.cmp rfl rfl rfl rfl) rfl rfl ?_) | (refine Xg.ev (EvF.add64 rfl rfl rfl (by omega) (by omega)) rfl rfl ?_) | (refine Xg.ev (EvF.lenSlice rfl rfl (te rfl)) rfl rfl ?_))))) | (refine XO.done rfl ?_; refine hK _ _ ?_; clear hK K) | (refine XQ.op rfl ?_; (first | ((first | refine Yo.ng rfl ?_); (first | (refine Yg.ev (EvF.move rfl rfl) rfl rfl ?_) | (refine Yg.ev (EvF.add64 rfl rfl rfl (by omega) (by omega)) rfl rfl ?_))))) | refine X.seq rfl ?_ | refine X.region rfl (fun K hK => ?_) | refine X.regionD rfl mixed (by kernel_rfl) (fun K hK => ?_) | refine X.block rfl ?_ | (refine X.brk rfl ?_; repeat (first | refine blockX_hit rfl ?_ | refine blockX_miss (by decide) ?_)) | refine X.label rfl ?_ | refine X.scope rfl ?_ | refine X.skip rfl ?_ | refine X.ret rfl ?_ | (refine X.ite rfl rfl (fun hc => ?_); (first | (with_reducible refine Xb.case hc (fun h => ?_) (fun h => ?_))) <;> clear hc))
    · have hq1 : (q : Int) < (t.l.length : Int) - 1 := by assumption
      obtain ⟨b2, off2, e, hea, he1⟩ := hsl.elem (i := q) (by omega)
      obtain ⟨_, _, f, _, hf1⟩ := hsl.elem (i := q + 1) (by omega)
      rw [hea]
      rw [hea] at hsl
      repeat' (first | (refine XO.op rfl ?_; (first | ((first | refine Xo.ng rfl ?_); (first | (refine Xg.ev (EvF.move rfl rfl) rfl rfl ?_) | (refine Xg.ev (EvF.add64 rfl rfl rfl (by omega) (by omega)) rfl rfl ?_))))) | (refine XO.done rfl ?_; refine hK _ _ ?_; clear hK K) | (refine XQ.op rfl ?_; (first | ((first | refine Yo.ng rfl ?_); (first | (refine Yg.ev (EvF.indexSlice rfl rfl rfl (te rfl) (te rfl) (by omega) (by omega)) rfl rfl ?_) | (refine Yg.ev (EvF.loadV rfl rfl (LoadV.el0 hsl he1 (te rfl) rfl (fun _ hm => hm) rfl)) rfl rfl ?_) | (refine Yg.ev (EvF.loadV rfl rfl (LoadV.el0 (n := q + 1) hsl hf1 (te rfl) rfl (fun _ h => h) rfl)) rfl rfl ?_) | (refine Yg.ev (EvF.move rfl rfl) rfl rfl ?_) | (refine Yg.ev (EvF.cmp rfl rfl rfl rfl) rfl rfl ?_))))) | (refine XQ.done rfl ?_; refine hK _ ?_; clear hK K) | refine X.region rfl (fun K hK => ?_) | (refine X.brk rfl ?_; repeat (first | refine blockX_hit rfl ?_ | refine blockX_miss (by decide) ?_)) | refine X.skip rfl ?_ | (refine X.ite rfl rfl (fun hc => ?_); (first | (with_reducible refine Xb.case hc (fun h => ?_) (fun h => ?_))) <;> clear hc))
      · have hng : ¬ grows t.l := fun hg => by
          have := (grows_iff t.l).1 hg q e f he1 hf1
          omega
        rw [if_neg hng, Int.add_zero] at hrk
        refine ⟨_, [(7, .slice (some ⟨b, off, none⟩) ts.length c), (8, .int .i64 ts.length), (9, .int .i64 (k + 1 : Nat)), (3, .int .i64 (risen (ts.take (k + 1))))], _, (by rw [hrk]; exact (by (repeat (first | exact Sub.nil _ | refine Sub.cons rfl ?_)); done)), (by (repeat (first | exact List.Sublist.refl _ | apply List.Sublist.cons_cons | apply List.Sublist.cons)); done), ⟨k + 1, rfl, by omega, rfl, rfl⟩, by omega⟩
      · refine ⟨_, [(7, .slice (some ⟨b, off, none⟩) ts.length c), (8, .int .i64 ts.length), (9, .int .i64 k), (3, .int .i64 (risen (ts.take k))), (5, .slice t.a t.l.length t.c), (15, .int .i64 ((t.l.length : Int) - 1)), (16, .int .i64 (q + 1 : Nat))], _, (by rw [hea]; exact (by (repeat (first | exact Sub.nil _ | refine Sub.cons rfl ?_)); done)), (by (repeat (first | exact List.Sublist.refl _ | apply List.Sublist.cons_cons | apply List.Sublist.cons)); done), ⟨q + 1, rfl, by omega, (fun j x y hj hx hy => ?_), rfl, rfl⟩, by omega⟩
        rcases Nat.lt_or_ge j q with h1 | h1
        · exact hn j x y h1 hx hy
        · obtain rfl : j = q := by omega
          rw [he1] at hx; rw [hf1] at hy
          cases hx; cases hy
          omega
    · have hg : grows t.l := (grows_iff t.l).2 (fun j x y hx hy => hn j x y (by have := (List.getElem?_eq_some_iff.1 hy).1; omega) hx hy)
      rw [if_pos hg] at hrk
      refine ⟨_, [(7, .slice (some ⟨b, off, none⟩) ts.length c), (8, .int .i64 ts.length), (9, .int .i64 (k + 1 : Nat)), (3, .int .i64 (risen (ts.take (k + 1))))], _, (by rw [hrk]; exact (by (repeat (first | exact Sub.nil _ | refine Sub.cons rfl ?_)); done)), (by (repeat (first | exact List.Sublist.refl _ | apply List.Sublist.cons_cons | apply List.Sublist.cons)); done), ⟨k + 1, rfl, by omega, rfl, rfl⟩, by omega⟩
  · rw [List.take_of_length_le (by omega)]
    refine ret_one (by first | exact .inr rfl | exact .inl rfl) Try.results110 rfl (H' := H) (by (repeat (first | exact List.Sublist.refl _ | apply List.Sublist.cons)); done) ?_; simp only [and_true, true_and]
end Go.Proofs.Ytjejppodhpdckaa
end
section
set_option linter.unusedVariables false
set_option linter.unusedSimpArgs false
namespace Go.Proofs.Ytjejppodhpdckaa
open Go Go.Fw
set_option maxRecDepth 10000
theorem elSS : ElT Try.prog 196 24 1 24 := ⟨Try.underlying196, Try.t24, .slice none 0 0, by kernel_rfl, by kernel_rfl, by kernel_rfl, by kernel_rfl, rfl⟩
theorem rising2_spec (l m : List Int) (b kc : Nat) (a2 : Option Addr) (c2 n bt cap : Nat) (ow : Option Kd) (H : List Row) (hl : SlE H (some ⟨b, 0, none⟩) cI 1 l) (hm : SlE H a2 cI 1 m) (hn : l.length = n) (h1 : l.length ≤ 1000000) (h2 : m.length ≤ 1000000) (hr : ⟨bt, 0, [.slice (some ⟨b, 0, none⟩) n kc, .slice a2 m.length c2], ow, cap⟩ ∈ H) :
    Fc Try.prog 110 [.slice (some ⟨bt, 0, none⟩) 2 2] H (fun v H' => v = .int .i64 ((if grows l then 1 else 0) + (if grows m then 1 else 0)) ∧ H' = H) := by
  subst hn
  have h := rising_spec [⟨some ⟨b, 0, none⟩, l, kc⟩, ⟨a2, m, c2⟩] (some ⟨bt, 0, none⟩) 2 H (SlE.ofRow (cap := cap) (ow := ow) hr (fun _ _ => rfl)) (by simp) (fun t ht => by
    simp only [List.mem_cons, List.not_mem_nil, or_false] at ht
    rcases ht with rfl | rfl
    · exact ⟨hl, h1⟩
    · exact ⟨hm, h2⟩)
  have e : risen [⟨some ⟨b, 0, none⟩, l, kc⟩, ⟨a2, m, c2⟩] = (if grows l then 1 else 0) + (if grows m then 1 else 0) := by
    unfold risen
    simp only [List.filter_cons, List.filter_nil]
    by_cases g1 : grows l <;> by_cases g2 : grows m <;> simp [g1, g2]
  rw [e] at h
  exact h
theorem falls_iff (l : List Int) : grows l.reverse ↔ falls l := by
  have key : ∀ (l : List Int), falls l ↔ ∀ q a b, l[q]? = some a → l[q + 1]? = some b → b ≤ a := by
    intro l
    induction l with
    | nil => simp [falls]
    | cons x l ih =>
      cases l with
      | nil => exact ⟨fun _ q a b _ h2 => by simp at h2, fun _ => trivial⟩
      | cons y l =>
        show (y ≤ x ∧ falls (y :: l)) ↔ _
        rw [ih]
        constructor
        · rintro ⟨h1, h2⟩ q a b ha hb
          cases q with
          | zero => simp at ha hb; subst ha hb; exact h1
          | succ q => exact h2 q a b (by simpa using ha) (by simpa using hb)
        · intro h
          exact ⟨h 0 x y rfl rfl, fun q a b ha hb => h (q + 1) a b (by simpa using ha) (by simpa using hb)⟩
  rw [grows_iff, key]
  constructor
  · intro h q a b ha hb
    have hq := (List.getElem?_eq_some_iff.1 hb).1
    refine h (l.length - 2 - q) b a ?_ ?_
    · rw [List.getElem?_reverse (by omega), show l.length - 1 - (l.length - 2 - q) = q + 1 by omega]; exact hb
    · rw [List.getElem?_reverse (by omega), show l.length - 1 - (l.length - 2 - q + 1) = q by omega]; exact ha
  · intro h q a b ha hb
    have hq := (List.getElem?_eq_some_iff.1 hb).1
    rw [List.length_reverse] at hq
    rw [List.getElem?_reverse (by omega)] at ha hb
    refine h (l.length - 1 - (q + 1)) b a hb ?_
    rw [show l.length - 1 - (q + 1) + 1 = l.length - 1 - q by omega]; exact ha
def tablesOk (T : Tm) : Prop := tab T.G ∧ tab T.S ∧ (falls T.G ∧ grows T.S) ∧ at1 T.G T.g = 0 ∧ at1 T.S T.s = 0
noncomputable instance (T : Tm) : Decidable (tablesOk T) := Classical.propDecidable _
set_option maxHeartbeats 4000000 in
theorem hasTables_spec (T : Tm) (p : Pt) (H : List Row) (hT : TmOk H T p) (hg : 1 ≤ T.g ∧ T.g ≤ 9) (hs : 1 ≤ T.s ∧ T.s ≤ 9) :
    Fc Try.prog 64 [.agg (cTm T p).toArray] H (fun v H' => v = .bool (decide (tablesOk T)) ∧ H' = H) := by
  have l1 := hT.l1
  have l2 := hT.l2
  obtain ⟨a1, c1, a2, c2⟩ := p
  refine Fc.mk (callable Try.call64) Try.func64 rfl Try.ntmps64 rfl ?_; dsimp only [fr]
  repeat' (first | (refine XO.op rfl ?_; (first | ((first | refine Xo.ng rfl ?_); (first | (refine Xg.call (EnF.st rfl (Args.cons rfl (Args.cons rfl Args.nil))) rfl rfl (areTables_spec T.G T.S a1 a2 c1 c2 _ (hT.gr.sub (fun _ h => List.Mem.tail _ h)) (hT.st.sub (fun _ h => List.Mem.tail _ h)) l1 l2) ?_; rintro _ H9 ⟨rfl, hH9⟩; subst H9) | (refine Xg.ev (EvF.assign rfl rfl) rfl rfl ?_) | (refine Xg.ev (EvF.not rfl rfl) rfl rfl ?_) | (refine Xg.ev (EvF.fieldAddr rfl rfl (te rfl) rfl (te rfl) (by decide)) rfl rfl ?_) | (refine Xg.ev (EvF.loadV rfl rfl (LoadV.own (te rfl) rfl (List.Mem.head _) rfl)) rfl rfl ?_) | (refine Xg.st (StF.boxAgg rfl rfl) rfl rfl ?_; rintro _ _ ⟨bx, rfl, rfl⟩))))) | (refine XO.done rfl ?_; refine hK _ _ ?_; clear hK K) | refine X.seq rfl ?_ | refine X.region rfl (fun K hK => ?_) | refine X.skip rfl ?_ | refine X.ret rfl ?_ | (refine X.ite rfl rfl (fun hc => ?_); (first | (with_reducible refine Xb.caseN hc (fun h => ?_) (fun h => ?_))) <;> clear hc))
  · refine ret_one (by first | exact .inr rfl | exact .inl rfl) Try.results64 rfl (H' := H) (by (repeat (first | exact List.Sublist.refl _ | apply List.Sublist.cons)); done) ?_; simp only [and_true, true_and]
    congr 1; symm
    refine decide_eq_false (fun q => ?_)
    exact h ⟨q.1.1, q.2.1.1, q.1.2, q.2.1.2⟩
  · obtain ⟨g1, g2, g3, g4⟩ := h
    have hG : tab T.G := ⟨g1, g3⟩
    have hS : tab T.S := ⟨g2, g4⟩
    have q1 := at1_get hg g1
    have q2 := at1_get hs g2
    obtain ⟨b1, o1, _, he1, _⟩ := hT.gr.elem (i := 0) (by omega)
    obtain ⟨b2, o2, _, he2, _⟩ := hT.st.elem (i := 0) (by omega)
    simp only at he1 he2
    subst he1 he2
    repeat' (first | (refine XO.op rfl ?_; (first | ((first | refine Xo.ng rfl ?_); (first | (refine Xg.call (EnF.st rfl (Args.cons rfl Args.nil)) rfl rfl (cloneI_spec T.G _ c1 _ (hT.gr.sub (fun _ h => List.Mem.tail _ h)) l1).caps ?_; rintro _ _ ⟨⟨b, kc, rfl, rfl⟩, hcap⟩) | (refine Xg.ev (EvF.move rfl rfl) rfl rfl ?_) | (refine Xg.ev (EvF.assign rfl rfl) rfl rfl ?_))))) | (refine XO.done rfl ?_; refine hK _ _ ?_; clear hK K) | refine X.seq rfl ?_ | refine X.region rfl (fun K hK => ?_))
    have hkc : T.G.length ≤ kc := by
      have := hcap _ _ _ _ _ (List.Mem.head _)
      rw [lenI] at this; omega
    clear hcap
    have hri : ((if grows T.G.reverse then (1 : Int) else 0) + (if grows T.S then 1 else 0) = 2) ↔ (falls T.G ∧ grows T.S) := by
      rw [← falls_iff]; by_cases a : grows T.G.reverse <;> by_cases b : grows T.S <;> simp [a, b]
    have hst : ∀ Z : List Row, SlE (Z ++ H) (some ⟨b2, o2, none⟩) cI 1 T.S := fun Z => hT.st.sub (fun _ h => List.mem_append_right _ h)
    have hgr : ∀ Z : List Row, SlE (Z ++ H) (some ⟨b1, o1, none⟩) cI 1 T.G := fun Z => hT.gr.sub (fun _ h => List.mem_append_right _ h)
    repeat' (first | (refine XO.op rfl ?_; (first | ((first | refine Xo.ng rfl ?_ | (refine Xo.g rfl rfl ?_; with_reducible refine Xw.tt ?_)); (first | (refine Xg.call (EnF.st rfl (Args.cons rfl Args.nil)) rfl rfl (reverse_spec T.G b kc _ l1 hkc) ?_; rintro _ _ rfl) | (refine Xg.st (StF.buildTwo rfl elSS rfl rfl rfl rfl rfl rfl (by decide) (by decide)) rfl rfl ?_; rintro _ _ ⟨bt, rfl, rfl⟩) | (refine Xg.call (EnF.st rfl (Args.cons rfl Args.nil)) rfl rfl (rising2_spec T.G.reverse T.S b kc _ _ _ bt _ _ _ (SlE.ofRow (List.Mem.tail _ (List.Mem.head _)) (fun _ _ => rfl)) (hst [_, _, _]) (by rw [List.length_reverse]) (by rw [List.length_reverse]; omega) l2 (List.Mem.head _)) ?_; rintro _ H9 ⟨rfl, hH9⟩; subst H9) | (refine Xg.ev (EvF.indexSlice rfl rfl rfl (te rfl) (te rfl) (by omega) (by omega)) rfl rfl ?_) | (refine Xg.ev (EvF.loadV rfl rfl (LoadV.el0 (hgr [_, _, _]) q1 (te rfl) rfl (fun _ hm => hm) rfl)) rfl rfl ?_) | (refine Xg.ev (EvF.loadV rfl rfl (LoadV.el0 (hst [_, _, _]) q2 (te rfl) rfl (fun _ hm => hm) rfl)) rfl rfl ?_) | (refine Xg.ev (EvF.move rfl rfl) rfl rfl ?_) | (refine Xg.ev (EvF.assign rfl rfl) rfl rfl ?_) | (refine Xg.ev (EvF.pickT rfl rfl rfl) rfl rfl ?_) | (refine Xg.ev (EvF.pickF rfl rfl rfl) rfl rfl ?_) | (refine Xg.ev (EvF.cmp rfl rfl rfl rfl) rfl rfl ?_) | (refine Xg.ev (EvF.sub64 rfl rfl rfl (by omega) (by omega)) rfl rfl ?_) | (refine Xg.ev (EvF.fieldAddr rfl rfl (te rfl) rfl (te rfl) (by decide)) rfl rfl ?_) | (refine Xg.ev (EvF.loadV rfl rfl (LoadV.own (te rfl) rfl (List.Mem.tail _ (List.Mem.head _)) rfl)) rfl rfl ?_) | (refine Xg.ev (EvF.loadV rfl rfl (LoadV.own (te rfl) rfl (List.Mem.tail _ (List.Mem.tail _ (List.Mem.head _))) rfl)) rfl rfl ?_))) | (refine Xo.g rfl rfl ?_; (first | (with_reducible refine Xw.ft rfl rfl ?_) | (with_reducible refine Xw.case (fun h => ?_) (fun h => ?_) <;> simp only [h, decide_true, decide_false, Bool.not_true, Bool.not_false, and_self, and_true, true_and, and_false, false_and]))))) | (refine XO.done rfl ?_; refine hK _ _ ?_; clear hK K) | refine X.seq rfl ?_ | refine X.region rfl (fun K hK => ?_) | refine X.ret rfl ?_)
    · refine ret_one (by first | exact .inr rfl | exact .inl rfl) Try.results64 rfl (H' := H) (by (repeat (first | exact List.Sublist.refl _ | apply List.Sublist.cons)); done) ?_; simp only [and_true, true_and]
      congr 1; exact decide_eq_decide.2 ⟨fun q => ⟨hG, hS, hri.1 (by assumption), by assumption, q⟩, fun q => q.2.2.2.2⟩
    · refine ret_one (by first | exact .inr rfl | exact .inl rfl) Try.results64 rfl (H' := H) (by (repeat (first | exact List.Sublist.refl _ | apply List.Sublist.cons)); done) ?_; simp only [and_true, true_and]
      congr 1; symm; exact decide_eq_false (fun q => absurd q.2.2.2.1 (by assumption))
    · refine ret_one (by first | exact .inr rfl | exact .inl rfl) Try.results64 rfl (H' := H) (by (repeat (first | exact List.Sublist.refl _ | apply List.Sublist.cons)); done) ?_; simp only [and_true, true_and]
      congr 1; symm; exact decide_eq_false (fun q => absurd (hri.2 q.2.2.1) (by assumption))
theorem leastInvoice_spec (T : Tm) (p : Pt) (H : List Row) (hT : TmOk H T p) (hG : tab T.G) (hS : tab T.S) (hp : -10000000 ≤ T.price ∧ T.price ≤ 10000000) (hg : 1 ≤ T.worst ∧ T.worst ≤ 9) (hs : 1 ≤ T.short ∧ T.short ≤ 9) :
    Fc Try.prog 65 [.agg (cTm T p).toArray] H (fun v H' => v = .int .i64 (val T T.worst T.short) ∧ H' = H) := by
  refine Fc.mk (callable Try.call65) Try.func65 rfl Try.ntmps65 rfl ?_; dsimp only [fr]
  repeat' (first | (refine XO.op rfl ?_; (first | ((first | refine Xo.ng rfl ?_); (first | (refine Xg.ev (EvF.assign rfl rfl) rfl rfl ?_) | (refine Xg.st (StF.boxAgg rfl rfl) rfl rfl ?_; rintro _ _ ⟨bx, rfl, rfl⟩))))) | (refine XO.done rfl ?_; refine hK _ _ ?_; clear hK K) | (refine XQ.op rfl ?_; (first | ((first | refine Yo.ng rfl ?_); (first | (refine Yg.ev (EvF.build (cs := cTm T p) rfl (ArgsP.cons rfl ArgsP.nil) (te rfl) (Places.cons (te rfl) Places.nil) Try.zeroValue111 rfl) rfl rfl ?_) | (refine Yg.call (EnF.st rfl (Args.cons rfl (Args.cons rfl Args.nil))) rfl rfl (class_spec _ _ _) ?_) | (refine Yg.call (EnF.st rfl (Args.cons rfl (Args.cons rfl Args.nil))) rfl rfl (value_spec T p ⟨T.worst, T.short⟩ _ (hT.sub (fun _ h => List.Mem.tail _ h)) hG hS hp hg hs) ?_) | (refine Yg.ev (EvF.assign rfl rfl) rfl rfl ?_) | (refine Yg.ev (EvF.fieldAddr rfl rfl (te rfl) rfl (te rfl) (by decide)) rfl rfl ?_) | (refine Yg.ev (EvF.loadV rfl rfl (LoadV.own (te rfl) rfl (List.Mem.head _) rfl)) rfl rfl ?_) | (refine Yg.ev (EvF.loadV rfl rfl (LoadV.whole (te rfl) rfl (List.Mem.head _) rfl)) rfl rfl ?_))))) | (refine XQ.done rfl ?_; refine hK _ ?_; clear hK K) | refine X.seq rfl ?_ | refine X.region rfl (fun K hK => ?_) | refine X.regionD rfl mixed (by kernel_rfl) (fun K hK => ?_) | refine X.ret rfl ?_)
  refine ret_one (by first | exact .inr rfl | exact .inl rfl) Try.results65 rfl (H' := H) (by (repeat (first | exact List.Sublist.refl _ | apply List.Sublist.cons)); done) ?_; simp only [and_true, true_and]
set_option maxHeartbeats 4000000 in
theorem check_spec (T : Tm) (p : Pt) (H : List Row) (hT : TmOk H T p) :
    Fc Try.prog 16 [.agg (cTm T p).toArray] H (fun v H' => v = .int .i64 (if tmOk T then 0 else 40) ∧ H' = H) := by
  have hT1 : ∀ r, TmOk (r :: H) T p := fun r => hT.sub (fun _ h => List.Mem.tail _ h)
  by_cases h1 : (1 ≤ T.g ∧ T.g ≤ 9) ∧ (1 ≤ T.s ∧ T.s ≤ 9) ∧ (T.g ≤ T.worst ∧ T.worst ≤ 9) ∧ (1 ≤ T.short ∧ T.short ≤ T.s)
  · by_cases h2 : (1 ≤ T.price ∧ T.price ≤ 1000000) ∧ (T.dl ≤ T.dh ∧ 0 ≤ T.dl ∧ T.dh ≤ 60) ∧ (1 ≤ T.bales ∧ T.bales ≤ 20) ∧ (0 ≤ T.fee ∧ T.fee ≤ 1000)
    · by_cases h3 : tablesOk T
      · have c1 := hasClasses_spec T p
        have c2 := hasNumbers_spec T p
        have c3 := fun H h => hasTables_spec T p H h h1.1 h1.2.1
        simp only [decide_eq_true h1] at c1
        simp only [decide_eq_true h2] at c2
        simp only [decide_eq_true h3] at c3
        have c4 := fun H h => leastInvoice_spec T p H h h3.1 h3.2.1 (by omega) (by omega) (by omega)
        refine Fc.mk (callable Try.call16) Try.func16 rfl Try.ntmps16 rfl ?_; dsimp only [fr]
        repeat' (first | (refine XO.op rfl ?_; (first | ((first | refine Xo.ng rfl ?_ | (refine Xo.g rfl rfl ?_; with_reducible refine Xw.ff ?_)); (first | (refine Xg.call (EnF.st rfl (Args.cons rfl Args.nil)) rfl rfl (c1 _) ?_; rintro _ H9 ⟨rfl, hH9⟩; subst H9) | (refine Xg.call (EnF.st rfl (Args.cons rfl Args.nil)) rfl rfl (c2 _) ?_; rintro _ H9 ⟨rfl, hH9⟩; subst H9) | (refine Xg.call (EnF.st rfl (Args.cons rfl Args.nil)) rfl rfl (c3 _ (hT1 _)) ?_; rintro _ H9 ⟨rfl, hH9⟩; subst H9) | (refine Xg.call (EnF.st rfl (Args.cons rfl Args.nil)) rfl rfl (c4 _ (hT1 _)) ?_; rintro _ H9 ⟨rfl, hH9⟩; subst H9) | (refine Xg.ev (EvF.move rfl rfl) rfl rfl ?_) | (refine Xg.ev (EvF.assign rfl rfl) rfl rfl ?_) | (refine Xg.ev (EvF.pickT rfl rfl rfl) rfl rfl ?_) | (refine Xg.ev (EvF.pickF rfl rfl rfl) rfl rfl ?_) | (refine Xg.ev (EvF.cmp rfl rfl rfl rfl) rfl rfl ?_) | (refine Xg.ev (EvF.not rfl rfl) rfl rfl ?_) | (refine Xg.ev (EvF.loadV rfl rfl (LoadV.whole (te rfl) rfl (List.Mem.head _) rfl)) rfl rfl ?_) | (refine Xg.st (StF.boxAgg rfl rfl) rfl rfl ?_; rintro _ _ ⟨bx, rfl, rfl⟩))) | (refine Xo.g rfl rfl ?_; (first | (with_reducible refine Xw.tf rfl rfl ?_) | (with_reducible refine Xw.caseB (fun h => ?_) (fun h => ?_) <;> simp only [h, decide_true, decide_false, Bool.not_true, Bool.not_false, and_self, and_true, true_and, and_false, false_and]))))) | (refine XO.done rfl ?_; refine hK _ _ ?_; clear hK K) | refine X.seq rfl ?_ | refine X.region rfl (fun K hK => ?_) | refine X.skip rfl ?_ | refine X.ret rfl ?_ | (refine X.ite rfl rfl (fun hc => ?_); (first | (with_reducible refine Xb.t hc ?_) | (with_reducible refine Xb.case hc (fun h => ?_) (fun h => ?_))) <;> clear hc))
        all_goals try (exfalso; contradiction)
        all_goals refine ret_one (by first | exact .inr rfl | exact .inl rfl) Try.results16 rfl (H' := H) (by (repeat (first | exact List.Sublist.refl _ | apply List.Sublist.cons)); done) ?_; simp only [and_true, true_and]
        all_goals first
          | (have hno : ¬ 1 ≤ val T T.worst T.short := by omega
             rw [if_neg (fun q => hno q.least)])
          | rw [if_pos ⟨h1, h2, h3.1, h3.2.1, h3.2.2.1, h3.2.2.2, by omega⟩]
      · have c1 := hasClasses_spec T p
        have c2 := hasNumbers_spec T p
        have c3 := fun H h => hasTables_spec T p H h h1.1 h1.2.1
        simp only [decide_eq_true h1] at c1
        simp only [decide_eq_true h2] at c2
        simp only [decide_eq_false h3] at c3
        refine Fc.mk (callable Try.call16) Try.func16 rfl Try.ntmps16 rfl ?_; dsimp only [fr]
        repeat' (first | (refine XO.op rfl ?_; (first | ((first | refine Xo.ng rfl ?_ | (refine Xo.g rfl rfl ?_; with_reducible refine Xw.ff ?_)); (first | (refine Xg.call (EnF.st rfl (Args.cons rfl Args.nil)) rfl rfl (c1 _) ?_; rintro _ H9 ⟨rfl, hH9⟩; subst H9) | (refine Xg.call (EnF.st rfl (Args.cons rfl Args.nil)) rfl rfl (c2 _) ?_; rintro _ H9 ⟨rfl, hH9⟩; subst H9) | (refine Xg.call (EnF.st rfl (Args.cons rfl Args.nil)) rfl rfl (c3 _ (hT1 _)) ?_; rintro _ H9 ⟨rfl, hH9⟩; subst H9) | (refine Xg.ev (EvF.move rfl rfl) rfl rfl ?_) | (refine Xg.ev (EvF.assign rfl rfl) rfl rfl ?_) | (refine Xg.ev (EvF.pickT rfl rfl rfl) rfl rfl ?_) | (refine Xg.ev (EvF.pickF rfl rfl rfl) rfl rfl ?_) | (refine Xg.ev (EvF.not rfl rfl) rfl rfl ?_) | (refine Xg.ev (EvF.loadV rfl rfl (LoadV.whole (te rfl) rfl (List.Mem.head _) rfl)) rfl rfl ?_) | (refine Xg.st (StF.boxAgg rfl rfl) rfl rfl ?_; rintro _ _ ⟨bx, rfl, rfl⟩))) | (refine Xo.g rfl rfl ?_; (first | (with_reducible refine Xw.tf rfl rfl ?_) | (with_reducible refine Xw.caseB (fun h => ?_) (fun h => ?_) <;> simp only [h, decide_true, decide_false, Bool.not_true, Bool.not_false, and_self, and_true, true_and, and_false, false_and]))))) | (refine XO.done rfl ?_; refine hK _ _ ?_; clear hK K) | refine X.seq rfl ?_ | refine X.region rfl (fun K hK => ?_) | refine X.ret rfl ?_ | (refine X.ite rfl rfl (fun hc => ?_); (first | (with_reducible refine Xb.t hc ?_)) <;> clear hc))
        all_goals try (exfalso; contradiction)
        refine ret_one (by first | exact .inr rfl | exact .inl rfl) Try.results16 rfl (H' := H) (by (repeat (first | exact List.Sublist.refl _ | apply List.Sublist.cons)); done) ?_; simp only [and_true, true_and]
        rw [if_neg (fun q => h3 ⟨q.gr, q.st, q.ord, q.zero⟩)]
    · have c1 := hasClasses_spec T p
      have c2 := hasNumbers_spec T p
      simp only [decide_eq_true h1] at c1
      simp only [decide_eq_false h2] at c2
      refine Fc.mk (callable Try.call16) Try.func16 rfl Try.ntmps16 rfl ?_; dsimp only [fr]
      repeat' (first | (refine XO.op rfl ?_; (first | ((first | refine Xo.ng rfl ?_ | (refine Xo.g rfl rfl ?_; with_reducible refine Xw.ff ?_)); (first | (refine Xg.call (EnF.st rfl (Args.cons rfl Args.nil)) rfl rfl (c1 _) ?_; rintro _ H9 ⟨rfl, hH9⟩; subst H9) | (refine Xg.call (EnF.st rfl (Args.cons rfl Args.nil)) rfl rfl (c2 _) ?_; rintro _ H9 ⟨rfl, hH9⟩; subst H9) | (refine Xg.ev (EvF.move rfl rfl) rfl rfl ?_) | (refine Xg.ev (EvF.assign rfl rfl) rfl rfl ?_) | (refine Xg.ev (EvF.pickT rfl rfl rfl) rfl rfl ?_) | (refine Xg.ev (EvF.pickF rfl rfl rfl) rfl rfl ?_) | (refine Xg.ev (EvF.not rfl rfl) rfl rfl ?_) | (refine Xg.ev (EvF.loadV rfl rfl (LoadV.whole (te rfl) rfl (List.Mem.head _) rfl)) rfl rfl ?_) | (refine Xg.st (StF.boxAgg rfl rfl) rfl rfl ?_; rintro _ _ ⟨bx, rfl, rfl⟩))) | (refine Xo.g rfl rfl ?_; (first | (with_reducible refine Xw.tf rfl rfl ?_) | (with_reducible refine Xw.caseB (fun h => ?_) (fun h => ?_) <;> simp only [h, decide_true, decide_false, Bool.not_true, Bool.not_false, and_self, and_true, true_and, and_false, false_and]))))) | (refine XO.done rfl ?_; refine hK _ _ ?_; clear hK K) | refine X.seq rfl ?_ | refine X.region rfl (fun K hK => ?_) | refine X.ret rfl ?_ | (refine X.ite rfl rfl (fun hc => ?_); (first | (with_reducible refine Xb.t hc ?_)) <;> clear hc))
      all_goals try (exfalso; contradiction)
      refine ret_one (by first | exact .inr rfl | exact .inl rfl) Try.results16 rfl (H' := H) (by (repeat (first | exact List.Sublist.refl _ | apply List.Sublist.cons)); done) ?_; simp only [and_true, true_and]
      rw [if_neg (fun q => h2 q.num)]
  · have c1 := hasClasses_spec T p
    simp only [decide_eq_false h1] at c1
    refine Fc.mk (callable Try.call16) Try.func16 rfl Try.ntmps16 rfl ?_; dsimp only [fr]
    repeat' (first | (refine XO.op rfl ?_; (first | ((first | refine Xo.ng rfl ?_ | (refine Xo.g rfl rfl ?_; with_reducible refine Xw.ff ?_)); (first | (refine Xg.call (EnF.st rfl (Args.cons rfl Args.nil)) rfl rfl (c1 _) ?_; rintro _ H9 ⟨rfl, hH9⟩; subst H9) | (refine Xg.ev (EvF.move rfl rfl) rfl rfl ?_) | (refine Xg.ev (EvF.assign rfl rfl) rfl rfl ?_) | (refine Xg.ev (EvF.pickT rfl rfl rfl) rfl rfl ?_) | (refine Xg.ev (EvF.not rfl rfl) rfl rfl ?_) | (refine Xg.ev (EvF.loadV rfl rfl (LoadV.whole (te rfl) rfl (List.Mem.head _) rfl)) rfl rfl ?_) | (refine Xg.st (StF.boxAgg rfl rfl) rfl rfl ?_; rintro _ _ ⟨bx, rfl, rfl⟩))) | (refine Xo.g rfl rfl ?_; (first | (with_reducible refine Xw.tf rfl rfl ?_) | (with_reducible refine Xw.caseB (fun h => ?_) (fun h => ?_) <;> simp only [h, decide_true, decide_false, Bool.not_true, Bool.not_false, and_self, and_true, true_and, and_false, false_and]))))) | (refine XO.done rfl ?_; refine hK _ _ ?_; clear hK K) | refine X.seq rfl ?_ | refine X.region rfl (fun K hK => ?_) | refine X.ret rfl ?_ | (refine X.ite rfl rfl (fun hc => ?_); (first | (with_reducible refine Xb.t hc ?_)) <;> clear hc))
    all_goals try (exfalso; contradiction)
    refine ret_one (by first | exact .inr rfl | exact .inl rfl) Try.results16 rfl (H' := H) (by (repeat (first | exact List.Sublist.refl _ | apply List.Sublist.cons)); done) ?_; simp only [and_true, true_and]
    rw [if_neg (fun q => h1 q.cls)]
end Go.Proofs.Ytjejppodhpdckaa
end
section
set_option linter.unusedVariables false
set_option linter.unusedSimpArgs false
namespace Go.Proofs.Ytjejppodhpdckaa
open Go Go.Fw
set_option maxRecDepth 10000
/-- a day, with where its tables lie -/
structure Dy where
  price : Int
  G : List Int
  S : List Int
  a1 : Option Addr
  c1 : Nat
  a2 : Option Addr
  c2 : Nat
def cDy (d : Dy) : List Value := [.int .i64 d.price, .slice d.a1 d.G.length d.c1, .slice d.a2 d.S.length d.c2]
structure DyOk (H : List Row) (d : Dy) : Prop where
  gr : SlE H d.a1 cI 1 d.G
  st : SlE H d.a2 cI 1 d.S
  l1 : d.G.length ≤ 1000000
  l2 : d.S.length ≤ 1000000
theorem DyOk.sub {H H' : List Row} {d : Dy} (h : DyOk H d) (hs : ∀ r ∈ H, r ∈ H') : DyOk H' d := ⟨h.gr.sub hs, h.st.sub hs, h.l1, h.l2⟩
/-- what a call is about -/
structure Ab where
  days : List Dy
  lots : List Lo
  months : List Int
  some : List Lo
structure Pa where
  a0 : Option Addr
  c0 : Nat
  a1 : Option Addr
  c1 : Nat
  a2 : Option Addr
  c2 : Nat
  a3 : Option Addr
  c3 : Nat
def cAb (A : Ab) (p : Pa) : List Value := [.slice p.a0 A.days.length p.c0, .slice p.a1 A.lots.length p.c1, .slice p.a2 A.months.length p.c2, .slice p.a3 A.some.length p.c3]
structure AbOk (H : List Row) (A : Ab) (p : Pa) : Prop where
  days : SlE H p.a0 cDy 3 A.days
  lots : SlE H p.a1 cLo 4 A.lots
  months : SlE H p.a2 cI 1 A.months
  some : SlE H p.a3 cLo 4 A.some
  each : ∀ d ∈ A.days, DyOk H d
  l0 : A.days.length ≤ 1000000
  l1 : A.lots.length ≤ 1000000
  l2 : A.months.length ≤ 1000000
  l3 : A.some.length ≤ 1000000
theorem AbOk.sub {H H' : List Row} {A : Ab} {p : Pa} (h : AbOk H A p) (hs : ∀ r ∈ H, r ∈ H') : AbOk H' A p := ⟨h.days.sub hs, h.lots.sub hs, h.months.sub hs, h.some.sub hs, fun d hd => (h.each d hd).sub hs, h.l0, h.l1, h.l2, h.l3⟩
theorem indexFunc_specLo (l : List Lo) (a : Option Addr) (c g : Nat) (p : Lo → Bool) (cap : List Value) (H : List Row) (hl : SlE H a cLo 4 l) (hb : l.length ≤ 9223372036854775807) (hf : ∀ e ∈ l, Fc Try.prog g ([.agg (cLo e).toArray] ++ cap) H (fun v H' => v = .bool (p e) ∧ H' = H)) :
    Fc Try.prog 154 [.slice a l.length c, .func (.func g) #[] cap.toArray] H (fun v H' => (∃ z, v = .int .i64 z ∧ IdxR p l z) ∧ H' = H) := by
  refine Fc.mk (callable Try.call154) Try.func154 rfl Try.ntmps154 rfl ?_; dsimp only [fr]
  repeat' (first | (refine XO.op rfl ?_; (first | ((first | refine Xo.ng rfl ?_); (first | (refine Xg.ev (EvF.move rfl rfl) rfl rfl ?_) | (refine Xg.ev (EvF.assign rfl rfl) rfl rfl ?_) | (refine Xg.ev (EvF.cmp rfl rfl rfl rfl) rfl rfl ?_) | (refine Xg.ev (EvF.lenSlice rfl rfl (te rfl)) rfl rfl ?_))))) | (refine XO.done rfl ?_; refine hK _ _ ?_; clear hK K) | refine X.seq rfl ?_ | refine X.region rfl (fun K hK => ?_) | refine X.block rfl ?_ | (refine X.brk rfl ?_; repeat (first | refine blockX_hit rfl ?_ | refine blockX_miss (by decide) ?_)) | refine X.skip rfl ?_ | refine X.ret rfl ?_ | (refine X.ite rfl rfl (fun hc => ?_); (first | (with_reducible refine Xb.case hc (fun h => ?_) (fun h => ?_))) <;> clear hc))
  refine X.lp rfl (fun q F' H' => ∃ k : Nat, q = l.length - k ∧ k ≤ l.length ∧ (∀ i e, i < k → l[i]? = some e → p e = false) ∧ H = H' ∧
      F' = [(0, .slice a l.length c), (1, .func (.func g) #[] cap.toArray), (7, .int .i64 l.length), (8, .int .i64 k)])
    l.length [(0, .slice a l.length c), (1, .func (.func g) #[] cap.toArray), (7, .int .i64 l.length), (8, .int .i64 (0 : Nat))] _ (by (repeat (first | exact Sub.nil _ | refine Sub.cons rfl ?_)); done) (by (repeat (first | exact List.Sublist.refl _ | apply List.Sublist.cons_cons | apply List.Sublist.cons)); done) ⟨0, by omega, by omega, (fun i e hi => absurd hi (by omega)), rfl, rfl⟩ ?_
  rintro _ _ H2 ⟨k, rfl, hk, hn, hH, rfl⟩
  subst hH
  repeat' (first | (refine XO.op rfl ?_; (first | ((first | refine Xo.ng rfl ?_); (first | (refine Xg.ev (EvF.move rfl rfl) rfl rfl ?_) | (refine Xg.ev (EvF.assign rfl rfl) rfl rfl ?_) | (refine Xg.ev (EvF.cmp rfl rfl rfl rfl) rfl rfl ?_) | (refine Xg.ev (EvF.lenSlice rfl rfl (te rfl)) rfl rfl ?_))))) | (refine XO.done rfl ?_; refine hK _ _ ?_; clear hK K) | refine X.seq rfl ?_ | refine X.region rfl (fun K hK => ?_) | refine X.block rfl ?_ | (refine X.brk rfl ?_; repeat (first | refine blockX_hit rfl ?_ | refine blockX_miss (by decide) ?_)) | refine X.skip rfl ?_ | refine X.ret rfl ?_ | (refine X.ite rfl rfl (fun hc => ?_); (first | (with_reducible refine Xb.case hc (fun h => ?_) (fun h => ?_))) <;> clear hc))
  · obtain ⟨b, off, e, rfl, he⟩ := hl.elem (i := k) (by omega)
    repeat' (first | (refine XO.op rfl ?_; (first | ((first | refine Xo.ng rfl ?_); (first | (refine Xg.ev (EvF.loadV rfl rfl (LoadV.elA0 hl he (te rfl) rfl (fun _ hm => hm) rfl)) rfl rfl ?_) | (refine Xg.call (EnF.dyn0 rfl rfl (by (repeat (first | exact Args.nil | refine Args.cons rfl ?_)); done)) rfl rfl (hf e (List.mem_of_getElem? he)) ?_; rintro _ H9 ⟨rfl, hH9⟩; subst H9) | (refine Xg.ev (EvF.move rfl rfl) rfl rfl ?_) | (refine Xg.ev (EvF.assign rfl rfl) rfl rfl ?_) | (refine Xg.ev (EvF.add64 rfl rfl rfl (by omega) (by omega)) rfl rfl ?_) | (refine Xg.ev (EvF.indexSlice rfl rfl rfl (te rfl) (te rfl) (by omega) (by omega)) rfl rfl ?_))))) | (refine XO.done rfl ?_; refine hK _ _ ?_; clear hK K) | refine X.seq rfl ?_ | refine X.region rfl (fun K hK => ?_) | refine X.skip rfl ?_ | refine X.ret rfl ?_ | (refine X.ite rfl rfl (fun hc => ?_); (first | (with_reducible refine Xb.caseB hc (fun h => ?_) (fun h => ?_))) <;> clear hc))
    · refine ret_one (by first | exact .inr rfl | exact .inl rfl) Try.results154 rfl (H' := H) (by (repeat (first | exact List.Sublist.refl _ | apply List.Sublist.cons)); done) ?_; simp only [and_true, true_and]
      exact ⟨_, rfl, .inr ⟨k, e, rfl, he, by assumption, hn⟩⟩
    · refine ⟨_, _, _, (by (repeat (first | exact Sub.nil _ | refine Sub.cons rfl ?_)); done), (by (repeat (first | exact List.Sublist.refl _ | apply List.Sublist.cons_cons | apply List.Sublist.cons)); done), ⟨k + 1, rfl, by omega, (fun i e' hi he' => ?_), rfl, rfl⟩, by omega⟩
      rcases Nat.lt_or_ge i k with h1 | h1
      · exact hn i e' h1 he'
      · obtain rfl : i = k := by omega
        rw [he] at he'; cases he'; assumption
  · refine ret_one (by first | exact .inr rfl | exact .inl rfl) Try.results154 rfl (H' := H) (by (repeat (first | exact List.Sublist.refl _ | apply List.Sublist.cons)); done) ?_; simp only [and_true, true_and]
    refine ⟨_, rfl, .inl ⟨rfl, fun e he => ?_⟩⟩
    obtain ⟨i, hi, rfl⟩ := List.mem_iff_getElem.1 he
    exact hn i _ (by omega) (List.getElem?_eq_getElem hi)
theorem containsFunc_specLo (l : List Lo) (a : Option Addr) (c g : Nat) (p : Lo → Bool) (cap : List Value) (H : List Row) (hl : SlE H a cLo 4 l) (hb : l.length ≤ 9223372036854775807) (hf : ∀ e ∈ l, Fc Try.prog g ([.agg (cLo e).toArray] ++ cap) H (fun v H' => v = .bool (p e) ∧ H' = H)) :
    Fc Try.prog 150 [.slice a l.length c, .func (.func g) #[] cap.toArray] H (fun v H' => v = .bool (decide (∃ e ∈ l, p e = true)) ∧ H' = H) := by
  refine Fc.mk (callable Try.call150) Try.func150 rfl Try.ntmps150 rfl ?_; dsimp only [fr]
  repeat' (first | (refine XO.op rfl ?_; (first | ((first | refine Xo.ng rfl ?_); (first | (refine Xg.call (EnF.st rfl (Args.cons rfl (Args.cons rfl Args.nil))) rfl rfl (indexFunc_specLo l a c g p cap H hl hb hf) ?_; rintro _ H9 ⟨⟨z, rfl, hz⟩, hH9⟩; subst H9) | (refine Xg.ev (EvF.move rfl rfl) rfl rfl ?_) | (refine Xg.ev (EvF.assign rfl rfl) rfl rfl ?_) | (refine Xg.ev (EvF.cmp rfl rfl rfl rfl) rfl rfl ?_))))) | (refine XO.done rfl ?_; refine hK _ _ ?_; clear hK K) | refine X.seq rfl ?_ | refine X.region rfl (fun K hK => ?_) | refine X.ret rfl ?_)
  refine ret_one (by first | exact .inr rfl | exact .inl rfl) Try.results150 rfl (H' := H) (by (repeat (first | exact List.Sublist.refl _ | apply List.Sublist.cons)); done) ?_; simp only [and_true, true_and]
  congr 1
  exact decide_eq_decide.2 hz.ge
theorem indexFunc_specDy (l : List Dy) (a : Option Addr) (c g : Nat) (p : Dy → Bool) (cap : List Value) (H : List Row) (hl : SlE H a cDy 3 l) (hb : l.length ≤ 9223372036854775807) (hf : ∀ e ∈ l, Fc Try.prog g ([.agg (cDy e).toArray] ++ cap) H (fun v H' => v = .bool (p e) ∧ H' = H)) :
    Fc Try.prog 149 [.slice a l.length c, .func (.func g) #[] cap.toArray] H (fun v H' => (∃ z, v = .int .i64 z ∧ IdxR p l z) ∧ H' = H) := by
  refine Fc.mk (callable Try.call149) Try.func149 rfl Try.ntmps149 rfl ?_; dsimp only [fr]
  repeat' (first | (refine XO.op rfl ?_; (first | ((first | refine Xo.ng rfl ?_); (first | (refine Xg.ev (EvF.move rfl rfl) rfl rfl ?_) | (refine Xg.ev (EvF.assign rfl rfl) rfl rfl ?_) | (refine Xg.ev (EvF.cmp rfl rfl rfl rfl) rfl rfl ?_) | (refine Xg.ev (EvF.lenSlice rfl rfl (te rfl)) rfl rfl ?_))))) | (refine XO.done rfl ?_; refine hK _ _ ?_; clear hK K) | refine X.seq rfl ?_ | refine X.region rfl (fun K hK => ?_) | refine X.block rfl ?_ | (refine X.brk rfl ?_; repeat (first | refine blockX_hit rfl ?_ | refine blockX_miss (by decide) ?_)) | refine X.skip rfl ?_ | refine X.ret rfl ?_ | (refine X.ite rfl rfl (fun hc => ?_); (first | (with_reducible refine Xb.case hc (fun h => ?_) (fun h => ?_))) <;> clear hc))
  refine X.lp rfl (fun q F' H' => ∃ k : Nat, q = l.length - k ∧ k ≤ l.length ∧ (∀ i e, i < k → l[i]? = some e → p e = false) ∧ H = H' ∧
      F' = [(0, .slice a l.length c), (1, .func (.func g) #[] cap.toArray), (7, .int .i64 l.length), (8, .int .i64 k)])
    l.length [(0, .slice a l.length c), (1, .func (.func g) #[] cap.toArray), (7, .int .i64 l.length), (8, .int .i64 (0 : Nat))] _ (by (repeat (first | exact Sub.nil _ | refine Sub.cons rfl ?_)); done) (by (repeat (first | exact List.Sublist.refl _ | apply List.Sublist.cons_cons | apply List.Sublist.cons)); done) ⟨0, by omega, by omega, (fun i e hi => absurd hi (by omega)), rfl, rfl⟩ ?_
  rintro _ _ H2 ⟨k, rfl, hk, hn, hH, rfl⟩
  subst hH
  repeat' (first | (refine XO.op rfl ?_; (first | ((first | refine Xo.ng rfl ?_); (first | (refine Xg.ev (EvF.move rfl rfl) rfl rfl ?_) | (refine Xg.ev (EvF.assign rfl rfl) rfl rfl ?_) | (refine Xg.ev (EvF.cmp rfl rfl rfl rfl) rfl rfl ?_) | (refine Xg.ev (EvF.lenSlice rfl rfl (te rfl)) rfl rfl ?_))))) | (refine XO.done rfl ?_; refine hK _ _ ?_; clear hK K) | refine X.seq rfl ?_ | refine X.region rfl (fun K hK => ?_) | refine X.block rfl ?_ | (refine X.brk rfl ?_; repeat (first | refine blockX_hit rfl ?_ | refine blockX_miss (by decide) ?_)) | refine X.skip rfl ?_ | refine X.ret rfl ?_ | (refine X.ite rfl rfl (fun hc => ?_); (first | (with_reducible refine Xb.case hc (fun h => ?_) (fun h => ?_))) <;> clear hc))
  · obtain ⟨b, off, e, rfl, he⟩ := hl.elem (i := k) (by omega)
    repeat' (first | (refine XO.op rfl ?_; (first | ((first | refine Xo.ng rfl ?_); (first | (refine Xg.ev (EvF.loadV rfl rfl (LoadV.elA0 hl he (te rfl) rfl (fun _ hm => hm) rfl)) rfl rfl ?_) | (refine Xg.call (EnF.dyn0 rfl rfl (by (repeat (first | exact Args.nil | refine Args.cons rfl ?_)); done)) rfl rfl (hf e (List.mem_of_getElem? he)) ?_; rintro _ H9 ⟨rfl, hH9⟩; subst H9) | (refine Xg.ev (EvF.move rfl rfl) rfl rfl ?_) | (refine Xg.ev (EvF.assign rfl rfl) rfl rfl ?_) | (refine Xg.ev (EvF.add64 rfl rfl rfl (by omega) (by omega)) rfl rfl ?_) | (refine Xg.ev (EvF.indexSlice rfl rfl rfl (te rfl) (te rfl) (by omega) (by omega)) rfl rfl ?_))))) | (refine XO.done rfl ?_; refine hK _ _ ?_; clear hK K) | refine X.seq rfl ?_ | refine X.region rfl (fun K hK => ?_) | refine X.skip rfl ?_ | refine X.ret rfl ?_ | (refine X.ite rfl rfl (fun hc => ?_); (first | (with_reducible refine Xb.caseB hc (fun h => ?_) (fun h => ?_))) <;> clear hc))
    · refine ret_one (by first | exact .inr rfl | exact .inl rfl) Try.results149 rfl (H' := H) (by (repeat (first | exact List.Sublist.refl _ | apply List.Sublist.cons)); done) ?_; simp only [and_true, true_and]
      exact ⟨_, rfl, .inr ⟨k, e, rfl, he, by assumption, hn⟩⟩
    · refine ⟨_, _, _, (by (repeat (first | exact Sub.nil _ | refine Sub.cons rfl ?_)); done), (by (repeat (first | exact List.Sublist.refl _ | apply List.Sublist.cons_cons | apply List.Sublist.cons)); done), ⟨k + 1, rfl, by omega, (fun i e' hi he' => ?_), rfl, rfl⟩, by omega⟩
      rcases Nat.lt_or_ge i k with h1 | h1
      · exact hn i e' h1 he'
      · obtain rfl : i = k := by omega
        rw [he] at he'; cases he'; assumption
  · refine ret_one (by first | exact .inr rfl | exact .inl rfl) Try.results149 rfl (H' := H) (by (repeat (first | exact List.Sublist.refl _ | apply List.Sublist.cons)); done) ?_; simp only [and_true, true_and]
    refine ⟨_, rfl, .inl ⟨rfl, fun e he => ?_⟩⟩
    obtain ⟨i, hi, rfl⟩ := List.mem_iff_getElem.1 he
    exact hn i _ (by omega) (List.getElem?_eq_getElem hi)
theorem containsFunc_specDy (l : List Dy) (a : Option Addr) (c g : Nat) (p : Dy → Bool) (cap : List Value) (H : List Row) (hl : SlE H a cDy 3 l) (hb : l.length ≤ 9223372036854775807) (hf : ∀ e ∈ l, Fc Try.prog g ([.agg (cDy e).toArray] ++ cap) H (fun v H' => v = .bool (p e) ∧ H' = H)) :
    Fc Try.prog 128 [.slice a l.length c, .func (.func g) #[] cap.toArray] H (fun v H' => v = .bool (decide (∃ e ∈ l, p e = true)) ∧ H' = H) := by
  refine Fc.mk (callable Try.call128) Try.func128 rfl Try.ntmps128 rfl ?_; dsimp only [fr]
  repeat' (first | (refine XO.op rfl ?_; (first | ((first | refine Xo.ng rfl ?_); (first | (refine Xg.call (EnF.st rfl (Args.cons rfl (Args.cons rfl Args.nil))) rfl rfl (indexFunc_specDy l a c g p cap H hl hb hf) ?_; rintro _ H9 ⟨⟨z, rfl, hz⟩, hH9⟩; subst H9) | (refine Xg.ev (EvF.move rfl rfl) rfl rfl ?_) | (refine Xg.ev (EvF.assign rfl rfl) rfl rfl ?_) | (refine Xg.ev (EvF.cmp rfl rfl rfl rfl) rfl rfl ?_))))) | (refine XO.done rfl ?_; refine hK _ _ ?_; clear hK K) | refine X.seq rfl ?_ | refine X.region rfl (fun K hK => ?_) | refine X.ret rfl ?_)
  refine ret_one (by first | exact .inr rfl | exact .inl rfl) Try.results128 rfl (H' := H) (by (repeat (first | exact List.Sublist.refl _ | apply List.Sublist.cons)); done) ?_; simp only [and_true, true_and]
  congr 1
  exact decide_eq_decide.2 hz.ge
def partOk (a b : Int) : Prop := a ≤ b ∧ (1 ≤ a ∧ a ≤ 9) ∧ (1 ≤ b ∧ b ≤ 9)
instance (a b : Int) : Decidable (partOk a b) := by unfold partOk; infer_instance
theorem areGrades1_spec (l : Lo) (H : List Row) : Fc Try.prog 151 ([.agg (cLo l).toArray] ++ []) H (fun v H' => v = .bool (!decide (partOk l.g1 l.g2)) ∧ H' = H) := by
  show Fc Try.prog 151 [.agg (cLo l).toArray] H _
  refine Fc.mk (callable Try.call151) Try.func151 rfl Try.ntmps151 rfl ?_; dsimp only [fr]
  repeat' (first | (refine XO.op rfl ?_; (first | ((first | refine Xo.ng rfl ?_); (first | (refine Xg.call (EnF.st rfl (Args.cons rfl (Args.cons rfl (Args.cons rfl Args.nil)))) rfl rfl (part_spec ⟨l.g1, l.g2⟩ _ _ _) ?_; rintro _ H9 ⟨rfl, hH9⟩; subst H9) | (refine Xg.ev (EvF.loadV rfl rfl (LoadV.ownAgg (vs := cSp ⟨l.g1, l.g2⟩) (te rfl) rfl (List.Mem.head _) rfl rfl)) rfl rfl ?_) | (refine Xg.ev (EvF.assign rfl rfl) rfl rfl ?_) | (refine Xg.ev (EvF.not rfl rfl) rfl rfl ?_) | (refine Xg.ev (EvF.fieldAddr rfl rfl (te rfl) rfl (te rfl) (by decide)) rfl rfl ?_) | (refine Xg.st (StF.boxAgg rfl rfl) rfl rfl ?_; rintro _ _ ⟨bx, rfl, rfl⟩))))) | (refine XO.done rfl ?_; refine hK _ _ ?_; clear hK K) | refine X.seq rfl ?_ | refine X.region rfl (fun K hK => ?_) | refine X.ret rfl ?_)
  refine ret_one (by first | exact .inr rfl | exact .inl rfl) Try.results151 rfl (H' := H) (by (repeat (first | exact List.Sublist.refl _ | apply List.Sublist.cons)); done) ?_; simp only [and_true, true_and]
  rfl
theorem areStaples1_spec (l : Lo) (H : List Row) : Fc Try.prog 152 ([.agg (cLo l).toArray] ++ []) H (fun v H' => v = .bool (!decide (partOk l.s1 l.s2)) ∧ H' = H) := by
  show Fc Try.prog 152 [.agg (cLo l).toArray] H _
  refine Fc.mk (callable Try.call152) Try.func152 rfl Try.ntmps152 rfl ?_; dsimp only [fr]
  repeat' (first | (refine XO.op rfl ?_; (first | ((first | refine Xo.ng rfl ?_); (first | (refine Xg.call (EnF.st rfl (Args.cons rfl (Args.cons rfl (Args.cons rfl Args.nil)))) rfl rfl (part_spec ⟨l.s1, l.s2⟩ _ _ _) ?_; rintro _ H9 ⟨rfl, hH9⟩; subst H9) | (refine Xg.ev (EvF.loadV rfl rfl (LoadV.ownAgg (vs := cSp ⟨l.s1, l.s2⟩) (te rfl) rfl (List.Mem.head _) rfl rfl)) rfl rfl ?_) | (refine Xg.ev (EvF.assign rfl rfl) rfl rfl ?_) | (refine Xg.ev (EvF.not rfl rfl) rfl rfl ?_) | (refine Xg.ev (EvF.fieldAddr rfl rfl (te rfl) rfl (te rfl) (by decide)) rfl rfl ?_) | (refine Xg.st (StF.boxAgg rfl rfl) rfl rfl ?_; rintro _ _ ⟨bx, rfl, rfl⟩))))) | (refine XO.done rfl ?_; refine hK _ _ ?_; clear hK K) | refine X.seq rfl ?_ | refine X.region rfl (fun K hK => ?_) | refine X.ret rfl ?_)
  refine ret_one (by first | exact .inr rfl | exact .inl rfl) Try.results152 rfl (H' := H) (by (repeat (first | exact List.Sublist.refl _ | apply List.Sublist.cons)); done) ?_; simp only [and_true, true_and]
  rfl
def inb (l : Lo) : Prop := (1 ≤ l.g1 ∧ l.g1 ≤ 9) ∧ (1 ≤ l.g2 ∧ l.g2 ≤ 9) ∧ (1 ≤ l.s1 ∧ l.s1 ≤ 9) ∧ (1 ≤ l.s2 ∧ l.s2 ≤ 9)
theorem flatMap_le {α β : Type} {f : α → List β} {n : Nat} : ∀ (l : List α), (∀ x ∈ l, (f x).length ≤ n) → (l.flatMap f).length ≤ l.length * n
  | [], _ => by simp
  | x :: l, h => by
    rw [List.flatMap_cons, List.length_append, List.length_cons, Nat.succ_mul]
    have := flatMap_le l (fun y hy => h y (List.mem_cons_of_mem _ hy))
    have := h x List.mem_cons_self
    omega
theorem cls_len (T : Tm) {l : Lo} (h : inb l) : (cls T l).length ≤ 81 := by
  unfold inb at h
  have h1 : (cls T l).length ≤ (ir l.g1 l.g2).length * 9 := flatMap_le _ (fun g _ => by
    unfold rowC
    refine Nat.le_trans (List.length_filter_le _ _) ?_
    rw [List.length_map, ir_len]; omega)
  rw [ir_len] at h1
  have : (l.g2 - l.g1 + 1).toNat ≤ 9 := by omega
  have := Nat.mul_le_mul_right 9 this
  omega
theorem allowSome1_spec (T : Tm) (p : Pt) (l : Lo) (b cap : Nat) (ow : Option Kd) (H : List Row) (hm : ⟨b, 0, cTm T p, ow, cap⟩ ∈ H) (h : inb l) : Fc Try.prog 153 ([.agg (cLo l).toArray] ++ [.pointer (some ⟨b, 0, none⟩)]) H (fun v H' => v = .bool (decide ((cls T l).length = 0)) ∧ H' = H) := by
  show Fc Try.prog 153 [.agg (cLo l).toArray, .pointer (some ⟨b, 0, none⟩)] H _
  have hc := cls_len T h
  refine Fc.mk (callable Try.call153) Try.func153 rfl Try.ntmps153 rfl ?_; dsimp only [fr]
  repeat' (first | (refine XO.op rfl ?_; (first | ((first | refine Xo.ng rfl ?_); (first | (refine Xg.ev (EvF.loadV rfl rfl (LoadV.whole (te rfl) rfl (List.Mem.tail _ hm) rfl)) rfl rfl ?_) | (refine Xg.ev (EvF.build (cs := cTm T p) rfl (ArgsP.cons rfl ArgsP.nil) (te rfl) (Places.cons (te rfl) Places.nil) Try.zeroValue111 rfl) rfl rfl ?_) | (refine Xg.call (EnF.st rfl (Args.cons rfl (Args.cons rfl Args.nil))) rfl rfl (count_spec T p l _ h (by omega)) ?_; rintro _ H9 ⟨rfl, hH9⟩; subst H9) | (refine Xg.ev (EvF.assign rfl rfl) rfl rfl ?_) | (refine Xg.ev (EvF.cmp rfl rfl rfl rfl) rfl rfl ?_) | (refine Xg.ev (EvF.loadV rfl rfl (LoadV.whole (te rfl) rfl (List.Mem.head _) rfl)) rfl rfl ?_) | (refine Xg.st (StF.boxAgg rfl rfl) rfl rfl ?_; rintro _ _ ⟨bx, rfl, rfl⟩))))) | (refine XO.done rfl ?_; refine hK _ _ ?_; clear hK K) | refine X.seq rfl ?_ | refine X.region rfl (fun K hK => ?_) | refine X.ret rfl ?_)
  refine ret_one (by first | exact .inr rfl | exact .inl rfl) Try.results153 rfl (H' := H) (by (repeat (first | exact List.Sublist.refl _ | apply List.Sublist.cons)); done) ?_; simp only [and_true, true_and]
  simp
end Go.Proofs.Ytjejppodhpdckaa
end
section
set_option linter.unusedVariables false
set_option linter.unusedSimpArgs false
namespace Go.Proofs.Ytjejppodhpdckaa
open Go Go.Fw
set_option maxRecDepth 10000
def dayOk (d : Dy) : Prop := (0 ≤ d.price ∧ d.price ≤ 1000000) ∧ tab d.G ∧ tab d.S ∧ ∀ g s, 1 ≤ g ∧ g ≤ 9 → 1 ≤ s ∧ s ≤ 9 → 0 ≤ d.price + at1 d.G g + at1 d.S s
noncomputable instance (d : Dy) : Decidable (dayOk d) := Classical.propDecidable _
def askD (A : Ab) : Prop := ∀ d ∈ A.days, dayOk d
def askG (A : Ab) : Prop := ∀ l ∈ A.lots, partOk l.g1 l.g2
def askS (A : Ab) : Prop := ∀ l ∈ A.lots, partOk l.s1 l.s2
def askM (A : Ab) : Prop := ∀ n ∈ A.months, 0 ≤ n ∧ n ≤ 60
def askN (T : Tm) (A : Ab) : Prop := ∀ l ∈ A.some, (cls T l).length ≠ 0
noncomputable instance (A : Ab) : Decidable (askD A) := Classical.propDecidable _
noncomputable instance (A : Ab) : Decidable (askG A) := Classical.propDecidable _
noncomputable instance (A : Ab) : Decidable (askS A) := Classical.propDecidable _
noncomputable instance (A : Ab) : Decidable (askM A) := Classical.propDecidable _
noncomputable instance (T : Tm) (A : Ab) : Decidable (askN T A) := Classical.propDecidable _
theorem areValid_spec (T : Tm) (p : Pt) (A : Ab) (q : Pa) (H : List Row) (hT : TmOk H T p) : Fc Try.prog 135 ([.agg (cTm T p).toArray, .agg (cAb A q).toArray] ++ []) H (fun v H' => v = .bool (decide (tmOk T)) ∧ H' = H) := by
  show Fc Try.prog 135 [.agg (cTm T p).toArray, .agg (cAb A q).toArray] H _
  refine Fc.mk (callable Try.call135) Try.func135 rfl Try.ntmps135 rfl ?_; dsimp only [fr]
  repeat' (first | (refine XO.op rfl ?_; (first | ((first | refine Xo.ng rfl ?_); (first | (refine Xg.call (EnF.st rfl (Args.cons rfl Args.nil)) rfl rfl (check_spec T p _ (hT.sub (fun _ h => List.Mem.tail _ (List.Mem.tail _ h)))) ?_; rintro _ H9 ⟨rfl, hH9⟩; subst H9) | (refine Xg.ev (EvF.assign rfl rfl) rfl rfl ?_) | (refine Xg.ev (EvF.cmp rfl rfl rfl rfl) rfl rfl ?_) | (refine Xg.ev (EvF.loadV rfl rfl (LoadV.whole (te rfl) rfl (List.Mem.tail _ (List.Mem.head _)) rfl)) rfl rfl ?_) | (refine Xg.st (StF.boxAgg rfl rfl) rfl rfl ?_; rintro _ _ ⟨bx, rfl, rfl⟩))))) | (refine XO.done rfl ?_; refine hK _ _ ?_; clear hK K) | refine X.seq rfl ?_ | refine X.region rfl (fun K hK => ?_) | refine X.ret rfl ?_)
  refine ret_one (by first | exact .inr rfl | exact .inl rfl) Try.results135 rfl (H' := H) (by (repeat (first | exact List.Sublist.refl _ | apply List.Sublist.cons)); done) ?_; simp only [and_true, true_and]
  congr 1
  by_cases h : tmOk T <;> simp [h]
theorem areDays_spec (T : Tm) (p : Pt) (A : Ab) (q : Pa) (H : List Row) (hA : AbOk H A q) (hd : ∀ d ∈ A.days, ∀ H', DyOk H' d → Fc Try.prog 129 ([.agg (cDy d).toArray] ++ []) H' (fun v H'' => v = .bool (!decide (dayOk d)) ∧ H'' = H')) : Fc Try.prog 97 ([.agg (cTm T p).toArray, .agg (cAb A q).toArray] ++ []) H (fun v H' => v = .bool (decide (askD A)) ∧ H' = H) := by
  show Fc Try.prog 97 [.agg (cTm T p).toArray, .agg (cAb A q).toArray] H _
  refine Fc.mk (callable Try.call97) Try.func97 rfl Try.ntmps97 rfl ?_; dsimp only [fr]
  repeat' (first | (refine XO.op rfl ?_; (first | ((first | refine Xo.ng rfl ?_); (first | (refine Xg.call (EnF.st rfl (Args.cons rfl (Args.cons rfl Args.nil))) rfl rfl (containsFunc_specDy A.days q.a0 q.c0 _ _ [] _ (hA.days.sub (fun _ h => List.Mem.tail _ (List.Mem.tail _ h))) (by have := hA.l0; omega) (fun e he => hd e he _ ((hA.each e he).sub (fun _ h => List.Mem.tail _ (List.Mem.tail _ h))))) ?_; rintro _ H9 ⟨rfl, hH9⟩; subst H9) | (refine Xg.ev (EvF.assign rfl rfl) rfl rfl ?_) | (refine Xg.ev (EvF.not rfl rfl) rfl rfl ?_) | (refine Xg.ev (EvF.fieldAddr rfl rfl (te rfl) rfl (te rfl) (by decide)) rfl rfl ?_) | (refine Xg.ev (EvF.loadV rfl rfl (LoadV.own (te rfl) rfl (List.Mem.head _) rfl)) rfl rfl ?_) | (refine Xg.st (StF.boxAgg rfl rfl) rfl rfl ?_; rintro _ _ ⟨bx, rfl, rfl⟩))))) | (refine XO.done rfl ?_; refine hK _ _ ?_; clear hK K) | refine X.seq rfl ?_ | refine X.region rfl (fun K hK => ?_) | refine X.ret rfl ?_)
  refine ret_one (by first | exact .inr rfl | exact .inl rfl) Try.results97 rfl (H' := H) (by (repeat (first | exact List.Sublist.refl _ | apply List.Sublist.cons)); done) ?_; simp only [and_true, true_and]
  exact congrArg _ (all_dec (fun e => by simp) Iff.rfl)
theorem areGrades_spec (T : Tm) (p : Pt) (A : Ab) (q : Pa) (H : List Row) (hA : AbOk H A q) : Fc Try.prog 136 ([.agg (cTm T p).toArray, .agg (cAb A q).toArray] ++ []) H (fun v H' => v = .bool (decide (askG A)) ∧ H' = H) := by
  show Fc Try.prog 136 [.agg (cTm T p).toArray, .agg (cAb A q).toArray] H _
  refine Fc.mk (callable Try.call136) Try.func136 rfl Try.ntmps136 rfl ?_; dsimp only [fr]
  repeat' (first | (refine XO.op rfl ?_; (first | ((first | refine Xo.ng rfl ?_); (first | (refine Xg.call (EnF.st rfl (Args.cons rfl (Args.cons rfl Args.nil))) rfl rfl (containsFunc_specLo A.lots q.a1 q.c1 _ _ [] _ (hA.lots.sub (fun _ h => List.Mem.tail _ (List.Mem.tail _ h))) (by have := hA.l1; omega) (fun e he => areGrades1_spec e _)) ?_; rintro _ H9 ⟨rfl, hH9⟩; subst H9) | (refine Xg.ev (EvF.assign rfl rfl) rfl rfl ?_) | (refine Xg.ev (EvF.not rfl rfl) rfl rfl ?_) | (refine Xg.ev (EvF.fieldAddr rfl rfl (te rfl) rfl (te rfl) (by decide)) rfl rfl ?_) | (refine Xg.ev (EvF.loadV rfl rfl (LoadV.own (te rfl) rfl (List.Mem.head _) rfl)) rfl rfl ?_) | (refine Xg.st (StF.boxAgg rfl rfl) rfl rfl ?_; rintro _ _ ⟨bx, rfl, rfl⟩))))) | (refine XO.done rfl ?_; refine hK _ _ ?_; clear hK K) | refine X.seq rfl ?_ | refine X.region rfl (fun K hK => ?_) | refine X.ret rfl ?_)
  refine ret_one (by first | exact .inr rfl | exact .inl rfl) Try.results136 rfl (H' := H) (by (repeat (first | exact List.Sublist.refl _ | apply List.Sublist.cons)); done) ?_; simp only [and_true, true_and]
  exact congrArg _ (all_dec (fun e => by simp) Iff.rfl)
theorem areStaples_spec (T : Tm) (p : Pt) (A : Ab) (q : Pa) (H : List Row) (hA : AbOk H A q) : Fc Try.prog 137 ([.agg (cTm T p).toArray, .agg (cAb A q).toArray] ++ []) H (fun v H' => v = .bool (decide (askS A)) ∧ H' = H) := by
  show Fc Try.prog 137 [.agg (cTm T p).toArray, .agg (cAb A q).toArray] H _
  refine Fc.mk (callable Try.call137) Try.func137 rfl Try.ntmps137 rfl ?_; dsimp only [fr]
  repeat' (first | (refine XO.op rfl ?_; (first | ((first | refine Xo.ng rfl ?_); (first | (refine Xg.call (EnF.st rfl (Args.cons rfl (Args.cons rfl Args.nil))) rfl rfl (containsFunc_specLo A.lots q.a1 q.c1 _ _ [] _ (hA.lots.sub (fun _ h => List.Mem.tail _ (List.Mem.tail _ h))) (by have := hA.l1; omega) (fun e he => areStaples1_spec e _)) ?_; rintro _ H9 ⟨rfl, hH9⟩; subst H9) | (refine Xg.ev (EvF.assign rfl rfl) rfl rfl ?_) | (refine Xg.ev (EvF.not rfl rfl) rfl rfl ?_) | (refine Xg.ev (EvF.fieldAddr rfl rfl (te rfl) rfl (te rfl) (by decide)) rfl rfl ?_) | (refine Xg.ev (EvF.loadV rfl rfl (LoadV.own (te rfl) rfl (List.Mem.head _) rfl)) rfl rfl ?_) | (refine Xg.st (StF.boxAgg rfl rfl) rfl rfl ?_; rintro _ _ ⟨bx, rfl, rfl⟩))))) | (refine XO.done rfl ?_; refine hK _ _ ?_; clear hK K) | refine X.seq rfl ?_ | refine X.region rfl (fun K hK => ?_) | refine X.ret rfl ?_)
  refine ret_one (by first | exact .inr rfl | exact .inl rfl) Try.results137 rfl (H' := H) (by (repeat (first | exact List.Sublist.refl _ | apply List.Sublist.cons)); done) ?_; simp only [and_true, true_and]
  exact congrArg _ (all_dec (fun e => by simp) Iff.rfl)
theorem areMonths_spec (T : Tm) (p : Pt) (A : Ab) (q : Pa) (H : List Row) (hA : AbOk H A q) : Fc Try.prog 138 ([.agg (cTm T p).toArray, .agg (cAb A q).toArray] ++ []) H (fun v H' => v = .bool (decide (askM A)) ∧ H' = H) := by
  show Fc Try.prog 138 [.agg (cTm T p).toArray, .agg (cAb A q).toArray] H _
  refine Fc.mk (callable Try.call138) Try.func138 rfl Try.ntmps138 rfl ?_; dsimp only [fr]
  repeat' (first | (refine XO.op rfl ?_; (first | ((first | refine Xo.ng rfl ?_); (first | (refine Xg.ev (EvF.build (cs := cSp ⟨0, 60⟩) rfl (ArgsP.cons rfl (ArgsP.cons rfl ArgsP.nil)) (te rfl) (Places.cons (te rfl) (Places.cons (te rfl) Places.nil)) Try.zeroValue26 rfl) rfl rfl ?_) | (refine Xg.call (EnF.st rfl (Args.cons rfl (Args.cons rfl Args.nil))) rfl rfl (withinL_spec ⟨0, 60⟩ A.months q.a2 q.c2 _ (hA.months.sub (fun _ h => List.Mem.tail _ (List.Mem.tail _ h))) (by have := hA.l2; omega)) ?_; rintro _ H9 ⟨rfl, hH9⟩; subst H9) | (refine Xg.ev (EvF.assign rfl rfl) rfl rfl ?_) | (refine Xg.ev (EvF.fieldAddr rfl rfl (te rfl) rfl (te rfl) (by decide)) rfl rfl ?_) | (refine Xg.ev (EvF.loadV rfl rfl (LoadV.own (te rfl) rfl (List.Mem.head _) rfl)) rfl rfl ?_) | (refine Xg.st (StF.boxAgg rfl rfl) rfl rfl ?_; rintro _ _ ⟨bx, rfl, rfl⟩))))) | (refine XO.done rfl ?_; refine hK _ _ ?_; clear hK K) | refine X.seq rfl ?_ | refine X.region rfl (fun K hK => ?_) | refine X.ret rfl ?_)
  refine ret_one (by first | exact .inr rfl | exact .inl rfl) Try.results138 rfl (H' := H) (by (repeat (first | exact List.Sublist.refl _ | apply List.Sublist.cons)); done) ?_; simp only [and_true, true_and]
  exact congrArg _ (decide_eq_decide.2 Iff.rfl)
theorem allowSome_spec (T : Tm) (p : Pt) (A : Ab) (q : Pa) (H : List Row) (hA : AbOk H A q) (hi : ∀ l ∈ A.some, inb l) : Fc Try.prog 139 ([.agg (cTm T p).toArray, .agg (cAb A q).toArray] ++ []) H (fun v H' => v = .bool (decide (askN T A)) ∧ H' = H) := by
  show Fc Try.prog 139 [.agg (cTm T p).toArray, .agg (cAb A q).toArray] H _
  refine Fc.mk (callable Try.call139) Try.func139 rfl Try.ntmps139 rfl ?_; dsimp only [fr]
  repeat' (first | (refine XO.op rfl ?_; (first | ((first | refine Xo.ng rfl ?_); (first | (refine Xg.ev (EvF.makeFunc rfl Args.nil (Args.cons rfl Args.nil)) rfl rfl ?_) | (refine Xg.call (EnF.st rfl (Args.cons rfl (Args.cons rfl Args.nil))) rfl rfl (containsFunc_specLo A.some q.a3 q.c3 _ (fun l => decide ((cls T l).length = 0)) [_] _ (hA.some.sub (fun _ h => List.Mem.tail _ (List.Mem.tail _ h))) (by have := hA.l3; omega) (fun e he => allowSome1_spec T p e _ _ _ _ (List.Mem.tail _ (List.Mem.head _)) (hi e he))) ?_; rintro _ H9 ⟨rfl, hH9⟩; subst H9) | (refine Xg.ev (EvF.assign rfl rfl) rfl rfl ?_) | (refine Xg.ev (EvF.not rfl rfl) rfl rfl ?_) | (refine Xg.ev (EvF.fieldAddr rfl rfl (te rfl) rfl (te rfl) (by decide)) rfl rfl ?_) | (refine Xg.ev (EvF.loadV rfl rfl (LoadV.own (te rfl) rfl (List.Mem.head _) rfl)) rfl rfl ?_) | (refine Xg.st (StF.boxAgg rfl rfl) rfl rfl ?_; rintro _ _ ⟨bx, rfl, rfl⟩))))) | (refine XO.done rfl ?_; refine hK _ _ ?_; clear hK K) | refine X.seq rfl ?_ | refine X.region rfl (fun K hK => ?_) | refine X.ret rfl ?_)
  refine ret_one (by first | exact .inr rfl | exact .inl rfl) Try.results139 rfl (H' := H) (by (repeat (first | exact List.Sublist.refl _ | apply List.Sublist.cons)); done) ?_; simp only [and_true, true_and]
  exact congrArg _ (all_dec (fun e => by simp) Iff.rfl)
/-- a question and its error -/
structure Qn where
  f : Nat
  e : Int
def cQn (q : Qn) : List Value := [.func (.func q.f) #[] #[], .int .i64 q.e]
def qs6 : List Qn := [⟨135, 40⟩, ⟨97, 43⟩, ⟨136, 41⟩, ⟨137, 42⟩, ⟨138, 44⟩, ⟨139, 6⟩]
def cQ6 : List Value := qs6.flatMap cQn
theorem questions_spec (H : List Row) : Fc Try.prog 116 [] H (fun v H' => v = .agg cQ6.toArray ∧ H' = H) := by
  refine Fc.mk (callable Try.call116) Try.func116 rfl Try.ntmps116 rfl ?_; dsimp only [fr]
  repeat' (first | (refine XO.op rfl ?_; (first | ((first | refine Xo.ng rfl ?_); (first | (refine Xg.ev (EvF.build (cs := cQn ⟨135, 40⟩) rfl (ArgsP.cons rfl (ArgsP.cons rfl ArgsP.nil)) (te rfl) (Places.cons (te rfl) (Places.cons (te rfl) Places.nil)) Try.zeroValue171 rfl) rfl rfl ?_) | (refine Xg.ev (EvF.build (cs := cQn ⟨97, 43⟩) rfl (ArgsP.cons rfl (ArgsP.cons rfl ArgsP.nil)) (te rfl) (Places.cons (te rfl) (Places.cons (te rfl) Places.nil)) Try.zeroValue171 rfl) rfl rfl ?_) | (refine Xg.ev (EvF.build (cs := cQn ⟨136, 41⟩) rfl (ArgsP.cons rfl (ArgsP.cons rfl ArgsP.nil)) (te rfl) (Places.cons (te rfl) (Places.cons (te rfl) Places.nil)) Try.zeroValue171 rfl) rfl rfl ?_) | (refine Xg.ev (EvF.build (cs := cQn ⟨137, 42⟩) rfl (ArgsP.cons rfl (ArgsP.cons rfl ArgsP.nil)) (te rfl) (Places.cons (te rfl) (Places.cons (te rfl) Places.nil)) Try.zeroValue171 rfl) rfl rfl ?_) | (refine Xg.ev (EvF.build (cs := cQn ⟨138, 44⟩) rfl (ArgsP.cons rfl (ArgsP.cons rfl ArgsP.nil)) (te rfl) (Places.cons (te rfl) (Places.cons (te rfl) Places.nil)) Try.zeroValue171 rfl) rfl rfl ?_) | (refine Xg.ev (EvF.build (cs := cQn ⟨139, 6⟩) rfl (ArgsP.cons rfl (ArgsP.cons rfl ArgsP.nil)) (te rfl) (Places.cons (te rfl) (Places.cons (te rfl) Places.nil)) Try.zeroValue171 rfl) rfl rfl ?_) | (refine Xg.ev (EvF.buildArr (cs := cQ6) rfl (ArgsP.cons rfl (ArgsP.cons rfl (ArgsP.cons rfl (ArgsP.cons rfl (ArgsP.cons rfl (ArgsP.cons rfl ArgsP.nil)))))) (te rfl) (te rfl) Try.zeroValue172 rfl) rfl rfl ?_) | (refine Xg.st (StF.alloc rfl Try.zeroValue172 rfl) rfl rfl ?_; rintro _ _ ⟨bx, rfl, rfl⟩) | (refine Xg.st0 (StF.storeAll (i := 0) rfl rfl rfl (te rfl) rfl rfl rfl rfl) rfl ?_; rintro _ _ ⟨rfl, rfl⟩; dsimp only [List.set]))))) | (refine XO.done rfl ?_; refine hK _ _ ?_; clear hK K) | refine X.seq rfl ?_ | refine X.region rfl (fun K hK => ?_) | refine X.ret rfl ?_)
  exact ret_one (by first | exact .inr rfl | exact .inl rfl) Try.results116 ⟨_, rfl, LoadV.whole (te rfl) rfl (List.Mem.head _) rfl⟩ (H' := H) (by (repeat (first | exact List.Sublist.refl _ | apply List.Sublist.cons)); done) ⟨rfl, rfl⟩
set_option maxHeartbeats 4000000 in
theorem asked_spec (T : Tm) (p : Pt) (A : Ab) (q : Pa) (qs : List Qn) (a : Option Addr) (c : Nat) (ok : Nat → Bool) (H : List Row) (hq : SlE H a cQn 2 qs) (hb : qs.length ≤ 1000)
    (hf : ∀ k x, qs[k]? = some x → (∀ j, j < k → ok j = true) → ∀ Z : List Row, Fc Try.prog x.f ([.agg (cTm T p).toArray, .agg (cAb A q).toArray] ++ []) (Z ++ H) (fun v H' => v = .bool (ok k) ∧ H' = Z ++ H)) :
    Fc Try.prog 117 [.agg (cTm T p).toArray, .agg (cAb A q).toArray, .slice a qs.length c] H (fun v H' => ((v = .int .i64 0 ∧ ∀ j, j < qs.length → ok j = true) ∨ ∃ k x, qs[k]? = some x ∧ ok k = false ∧ (∀ j, j < k → ok j = true) ∧ v = .int .i64 x.e) ∧ H' = H) := by
  refine Fc.mk (callable Try.call117) Try.func117 rfl Try.ntmps117 rfl ?_; dsimp only [fr]
  repeat' (first | (refine XO.op rfl ?_; (first | ((first | refine Xo.ng rfl ?_); (first | (refine Xg.ev (EvF.move rfl rfl) rfl rfl ?_) | (refine Xg.ev (EvF.assign rfl rfl) rfl rfl ?_) | (refine Xg.ev (EvF.cmp rfl rfl rfl rfl) rfl rfl ?_) | (refine Xg.ev (EvF.lenSlice rfl rfl (te rfl)) rfl rfl ?_) | (refine Xg.st (StF.boxAgg rfl rfl) rfl rfl ?_; rintro _ _ ⟨bx, rfl, rfl⟩))))) | (refine XO.done rfl ?_; refine hK _ _ ?_; clear hK K) | refine X.seq rfl ?_ | refine X.region rfl (fun K hK => ?_) | refine X.block rfl ?_ | (refine X.brk rfl ?_; repeat (first | refine blockX_hit rfl ?_ | refine blockX_miss (by decide) ?_)) | refine X.skip rfl ?_ | refine X.ret rfl ?_ | (refine X.ite rfl rfl (fun hc => ?_); (first | (with_reducible refine Xb.case hc (fun h => ?_) (fun h => ?_))) <;> clear hc))
  rename_i b1; rename Nat => b2
  refine X.lp rfl (fun m F' H' => ∃ k : Nat, m = qs.length - k ∧ k ≤ qs.length ∧ (∀ j, j < k → ok j = true) ∧ ⟨b2, 0, cAb A q, some 109, 4⟩ :: ⟨b1, 0, cTm T p, some 28, 11⟩ :: H = H' ∧
      F' = [(3, .pointer (some ⟨b1, 0, none⟩)), (4, .pointer (some ⟨b2, 0, none⟩)), (9, .slice a qs.length c), (10, .int .i64 qs.length), (11, .int .i64 k)])
    qs.length [(3, .pointer (some ⟨b1, 0, none⟩)), (4, .pointer (some ⟨b2, 0, none⟩)), (9, .slice a qs.length c), (10, .int .i64 qs.length), (11, .int .i64 (0 : Nat))] _ (by (repeat (first | exact Sub.nil _ | refine Sub.cons rfl ?_)); done) (by (repeat (first | exact List.Sublist.refl _ | apply List.Sublist.cons_cons | apply List.Sublist.cons)); done) ⟨0, by omega, by omega, (fun j hj => absurd hj (by omega)), rfl, rfl⟩ ?_
  rintro _ _ H2 ⟨k, rfl, hk, hn, hH, rfl⟩
  subst hH
  repeat' (first | (refine XO.op rfl ?_; (first | ((first | refine Xo.ng rfl ?_); (first | (refine Xg.ev (EvF.move rfl rfl) rfl rfl ?_) | (refine Xg.ev (EvF.assign rfl rfl) rfl rfl ?_) | (refine Xg.ev (EvF.cmp rfl rfl rfl rfl) rfl rfl ?_) | (refine Xg.ev (EvF.lenSlice rfl rfl (te rfl)) rfl rfl ?_) | (refine Xg.st (StF.boxAgg rfl rfl) rfl rfl ?_; rintro _ _ ⟨bx, rfl, rfl⟩))))) | (refine XO.done rfl ?_; refine hK _ _ ?_; clear hK K) | refine X.seq rfl ?_ | refine X.region rfl (fun K hK => ?_) | refine X.block rfl ?_ | (refine X.brk rfl ?_; repeat (first | refine blockX_hit rfl ?_ | refine blockX_miss (by decide) ?_)) | refine X.skip rfl ?_ | refine X.ret rfl ?_ | (refine X.ite rfl rfl (fun hc => ?_); (first | (with_reducible refine Xb.case hc (fun h => ?_) (fun h => ?_))) <;> clear hc))
  · obtain ⟨b, off, e, rfl, he⟩ := hq.elem (i := k) (by omega)
    have hq2 : ∀ r1 r2, SlE (r1 :: r2 :: H) (some ⟨b, off, none⟩) cQn 2 qs := fun r1 r2 => hq.sub (fun _ h => List.Mem.tail _ (List.Mem.tail _ h))
    obtain ⟨f, er⟩ := e
    repeat' (first | (refine XO.op rfl ?_; (first | ((first | refine Xo.ng rfl ?_); (first | (refine Xg.ev (EvF.loadV rfl rfl (LoadV.elA0 (hq2 _ _) he (te rfl) rfl (fun _ hm => hm) rfl)) rfl rfl ?_) | (refine Xg.call (EnF.dyn0 rfl rfl (by (repeat (first | exact Args.nil | refine Args.cons rfl ?_)); done)) rfl rfl (hf k ⟨f, er⟩ he hn [_, _, _]) ?_; rintro _ H9 ⟨rfl, hH9⟩; subst H9) | (refine Xg.ev (EvF.move rfl rfl) rfl rfl ?_) | (refine Xg.ev (EvF.assign rfl rfl) rfl rfl ?_) | (refine Xg.ev (EvF.add64 rfl rfl rfl (by omega) (by omega)) rfl rfl ?_) | (refine Xg.ev (EvF.not rfl rfl) rfl rfl ?_) | (refine Xg.ev (EvF.fieldAddr rfl rfl (te rfl) rfl (te rfl) (by decide)) rfl rfl ?_) | (refine Xg.ev (EvF.indexSlice rfl rfl rfl (te rfl) (te rfl) (by omega) (by omega)) rfl rfl ?_) | (refine Xg.ev (EvF.loadV rfl rfl (LoadV.own (te rfl) rfl (List.Mem.head _) rfl)) rfl rfl ?_) | (refine Xg.ev (EvF.loadV rfl rfl (LoadV.whole (te rfl) rfl (List.Mem.tail _ (List.Mem.head _)) rfl)) rfl rfl ?_) | (refine Xg.ev (EvF.loadV rfl rfl (LoadV.whole (te rfl) rfl (List.Mem.tail _ (List.Mem.tail _ (List.Mem.head _))) rfl)) rfl rfl ?_) | (refine Xg.st (StF.alloc rfl Try.zeroValue171 rfl) rfl rfl ?_; rintro _ _ ⟨bx, rfl, rfl⟩) | (refine Xg.st0 (StF.storeAll (i := 0) rfl rfl rfl (te rfl) rfl rfl rfl rfl) rfl ?_; rintro _ _ ⟨rfl, rfl⟩; dsimp only [List.set]))))) | (refine XO.done rfl ?_; refine hK _ _ ?_; clear hK K) | refine X.seq rfl ?_ | refine X.region rfl (fun K hK => ?_) | refine X.skip rfl ?_ | refine X.ret rfl ?_ | (refine X.ite rfl rfl (fun hc => ?_); (first | (with_reducible refine Xb.caseB hc (fun h => ?_) (fun h => ?_))) <;> clear hc))
    · refine ret_one (by first | exact .inr rfl | exact .inl rfl) Try.results117 rfl (H' := H) (by simp only [List.cons_append, List.nil_append]; exact (by (repeat (first | exact List.Sublist.refl _ | apply List.Sublist.cons)); done)) ⟨.inr ⟨k, _, he, ?_, hn, rfl⟩, rfl⟩
      simpa using (by assumption : (!ok k) = true)
    · refine ⟨_, _, _, (by (repeat (first | exact Sub.nil _ | refine Sub.cons rfl ?_)); done), (by simp only [List.cons_append, List.nil_append]; exact (by (repeat (first | exact List.Sublist.refl _ | apply List.Sublist.cons_cons | apply List.Sublist.cons)); done)), ⟨k + 1, rfl, by omega, (fun j hj => ?_), rfl, rfl⟩, by omega⟩
      rcases Nat.lt_or_ge j k with h1 | h1
      · exact hn j h1
      · obtain rfl : j = k := by omega
        simpa using (by assumption : (!ok j) = false)
  · refine ret_one (by first | exact .inr rfl | exact .inl rfl) Try.results117 rfl (H' := H) (by (repeat (first | exact List.Sublist.refl _ | apply List.Sublist.cons)); done) ⟨.inl ⟨rfl, fun j hj => hn j (by omega)⟩, rfl⟩
noncomputable def openE (T : Tm) (A : Ab) : Int := if tmOk T then (if askD A then (if askG A then (if askS A then (if askM A then (if askN T A then 0 else 6) else 44) else 42) else 41) else 43) else 40
noncomputable def okQ (T : Tm) (A : Ab) : Nat → Bool
  | 0 => decide (tmOk T)
  | 1 => decide (askD A)
  | 2 => decide (askG A)
  | 3 => decide (askS A)
  | 4 => decide (askM A)
  | 5 => decide (askN T A)
  | _ => true
def Tz : Tm := ⟨0, 0, 0, 0, 0, [], [], 0, 0, 0, 0⟩
def pz : Pt := ⟨none, 0, none, 0⟩
set_option maxHeartbeats 4000000 in
theorem asked6_spec (T : Tm) (p : Pt) (A : Ab) (q : Pa) (b cap : Nat) (ow : Option Kd) (H : List Row) (hT : TmOk H T p) (hA : AbOk H A q) (hm : ⟨b, 0, cQ6, ow, cap⟩ ∈ H)
    (hd : ∀ d ∈ A.days, ∀ H', DyOk H' d → Fc Try.prog 129 ([.agg (cDy d).toArray] ++ []) H' (fun v H'' => v = .bool (!decide (dayOk d)) ∧ H'' = H')) (hi : askG A → askS A → ∀ l ∈ A.some, inb l) :
    Fc Try.prog 117 [.agg (cTm T p).toArray, .agg (cAb A q).toArray, .slice (some ⟨b, 0, none⟩) 6 6] H (fun v H' => v = .int .i64 (openE T A) ∧ H' = H) := by
  refine (asked_spec T p A q qs6 (some ⟨b, 0, none⟩) 6 (okQ T A) H (SlE.ofRow (cap := cap) (ow := ow) hm (fun _ _ => rfl)) (by decide) ?_).mono ?_
  · intro k x hx hok Z
    have hT' : TmOk (Z ++ H) T p := hT.sub (fun _ h => List.mem_append_right _ h)
    have hA' : AbOk (Z ++ H) A q := hA.sub (fun _ h => List.mem_append_right _ h)
    rcases (show k = 0 ∨ k = 1 ∨ k = 2 ∨ k = 3 ∨ k = 4 ∨ k = 5 by have := (List.getElem?_eq_some_iff.1 hx).1; simp [qs6] at this; omega) with rfl | rfl | rfl | rfl | rfl | rfl
    all_goals (simp [qs6] at hx; subst hx)
    · exact areValid_spec T p A q _ hT'
    · exact areDays_spec T p A q _ hA' hd
    · exact areGrades_spec T p A q _ hA'
    · exact areStaples_spec T p A q _ hA'
    · exact areMonths_spec T p A q _ hA'
    · exact allowSome_spec T p A q _ hA' (hi (of_decide_eq_true (hok 2 (by decide))) (of_decide_eq_true (hok 3 (by decide))))
  · rintro v H' ⟨⟨rfl, hok⟩ | ⟨k, x, hx, hno, hok, rfl⟩, rfl⟩
    · refine ⟨?_, rfl⟩
      have h0 := of_decide_eq_true (hok 0 (by decide)); have h1 := of_decide_eq_true (hok 1 (by decide)); have h2 := of_decide_eq_true (hok 2 (by decide)); have h3 := of_decide_eq_true (hok 3 (by decide)); have h4 := of_decide_eq_true (hok 4 (by decide)); have h5 := of_decide_eq_true (hok 5 (by decide))
      unfold openE
      rw [if_pos h0, if_pos h1, if_pos h2, if_pos h3, if_pos h4, if_pos h5]
    · refine ⟨?_, rfl⟩
      have hk : ∀ j, j < k → okQ T A j = true := hok
      rcases (show k = 0 ∨ k = 1 ∨ k = 2 ∨ k = 3 ∨ k = 4 ∨ k = 5 by have := (List.getElem?_eq_some_iff.1 hx).1; simp [qs6] at this; omega) with rfl | rfl | rfl | rfl | rfl | rfl
      all_goals (simp [qs6] at hx; subst hx; unfold openE)
      · rw [if_neg (of_decide_eq_false hno)]
      · rw [if_pos (of_decide_eq_true (hk 0 (by decide))), if_neg (of_decide_eq_false hno)]
      · rw [if_pos (of_decide_eq_true (hk 0 (by decide))), if_pos (of_decide_eq_true (hk 1 (by decide))), if_neg (of_decide_eq_false hno)]
      · rw [if_pos (of_decide_eq_true (hk 0 (by decide))), if_pos (of_decide_eq_true (hk 1 (by decide))), if_pos (of_decide_eq_true (hk 2 (by decide))), if_neg (of_decide_eq_false hno)]
      · rw [if_pos (of_decide_eq_true (hk 0 (by decide))), if_pos (of_decide_eq_true (hk 1 (by decide))), if_pos (of_decide_eq_true (hk 2 (by decide))), if_pos (of_decide_eq_true (hk 3 (by decide))), if_neg (of_decide_eq_false hno)]
      · rw [if_pos (of_decide_eq_true (hk 0 (by decide))), if_pos (of_decide_eq_true (hk 1 (by decide))), if_pos (of_decide_eq_true (hk 2 (by decide))), if_pos (of_decide_eq_true (hk 3 (by decide))), if_pos (of_decide_eq_true (hk 4 (by decide))), if_neg (of_decide_eq_false hno)]
abbrev HD (A : Ab) : Prop := ∀ d ∈ A.days, ∀ H', DyOk H' d → Fc Try.prog 129 ([.agg (cDy d).toArray] ++ []) H' (fun v H'' => v = .bool (!decide (dayOk d)) ∧ H'' = H')
abbrev HI (A : Ab) : Prop := askG A → askS A → ∀ l ∈ A.some, inb l
set_option maxHeartbeats 4000000 in
theorem open_spec (T : Tm) (p : Pt) (A : Ab) (q : Pa) (H : List Row) (hT : TmOk H T p) (hA : AbOk H A q) (hd : HD A) (hi : HI A) :
    Fc Try.prog 81 [.agg (cTm T p).toArray, .agg (cAb A q).toArray] H (fun v H' => ((openE T A = 0 ∧ v = .tuple #[.agg (cTm T p).toArray, .int .i64 0]) ∨ (openE T A ≠ 0 ∧ v = .tuple #[.agg (cTm Tz pz).toArray, .int .i64 (openE T A)])) ∧ H' = H) := by
  have hT4 : ∀ r1 r2 r3 r4, TmOk (r1 :: r2 :: r3 :: r4 :: H) T p := fun r1 r2 r3 r4 => hT.sub (fun _ h => List.Mem.tail _ (List.Mem.tail _ (List.Mem.tail _ (List.Mem.tail _ h))))
  have hA4 : ∀ r1 r2 r3 r4, AbOk (r1 :: r2 :: r3 :: r4 :: H) A q := fun r1 r2 r3 r4 => hA.sub (fun _ h => List.Mem.tail _ (List.Mem.tail _ (List.Mem.tail _ (List.Mem.tail _ h))))
  refine Fc.mk (callable Try.call81) Try.func81 rfl Try.ntmps81 rfl ?_; dsimp only [fr]
  repeat' (first | (refine XO.op rfl ?_; (first | ((first | refine Xo.ng rfl ?_); (first | (refine Xg.call (EnF.st rfl (by (repeat (first | exact Args.nil | refine Args.cons rfl ?_)); done)) rfl rfl (questions_spec _) ?_; rintro _ H9 ⟨rfl, hH9⟩; subst H9) | (refine Xg.st (StF.alloc rfl Try.zeroValue172 rfl) rfl rfl ?_; rintro _ _ ⟨bx, rfl, rfl⟩) | (refine Xg.st0 (StF.storeAll (i := 0) (vs := cQ6) rfl rfl rfl (te rfl) rfl rfl rfl rfl) rfl ?_; rintro _ _ ⟨rfl, rfl⟩; dsimp only [List.set]) | (refine Xg.ev (EvF.build (cs := cTm T p) rfl (ArgsP.cons rfl ArgsP.nil) (te rfl) (Places.cons (te rfl) Places.nil) Try.zeroValue111 rfl) rfl rfl ?_) | (refine Xg.ev (EvF.build (cs := cTm Tz pz) rfl ArgsP.nil (te rfl) (Places.cons (te rfl) Places.nil) Try.zeroValue111 rfl) rfl rfl ?_) | (refine Xg.ev (EvF.move rfl rfl) rfl rfl ?_) | (refine Xg.ev (EvF.assign rfl rfl) rfl rfl ?_) | (refine Xg.ev (EvF.cmp rfl rfl rfl rfl) rfl rfl ?_) | (refine Xg.ev (EvF.loadV rfl rfl (LoadV.whole (te rfl) rfl (List.Mem.tail _ (List.Mem.tail _ (List.Mem.tail _ (List.Mem.head _)))) rfl)) rfl rfl ?_) | (refine Xg.st (StF.boxAgg rfl rfl) rfl rfl ?_; rintro _ _ ⟨bx, rfl, rfl⟩) | (refine Xg.st (StF.alloc rfl Try.zeroValue28 rfl) rfl rfl ?_; rintro _ _ ⟨bx, rfl, rfl⟩) | (refine Xg.st0 (StF.storeAll (i := 1) rfl rfl rfl (te rfl) rfl rfl rfl rfl) rfl ?_; rintro _ _ ⟨rfl, rfl⟩; dsimp only [List.set]))))) | (refine XO.done rfl ?_; refine hK _ _ ?_; clear hK K) | (refine XQ.op rfl ?_; (first | ((first | refine Yo.ng rfl ?_); (first | (refine Yg.ev (EvF.sliceArrAll rfl rfl (te rfl) (te rfl)) rfl rfl ?_) | (refine Yg.call (EnF.st rfl (Args.cons rfl (Args.cons rfl (Args.cons rfl Args.nil)))) rfl rfl (asked6_spec T p A q _ _ _ _ (hT4 _ _ _ _) (hA4 _ _ _ _) (List.Mem.head _) hd hi) ?_) | (refine Yg.ev (EvF.assign rfl rfl) rfl rfl ?_) | (refine Yg.ev (EvF.loadV rfl rfl (LoadV.whole (te rfl) rfl (List.Mem.tail _ (List.Mem.tail _ (List.Mem.head _))) rfl)) rfl rfl ?_) | (refine Yg.ev (EvF.loadV rfl rfl (LoadV.whole (te rfl) rfl (List.Mem.tail _ (List.Mem.tail _ (List.Mem.tail _ (List.Mem.head _)))) rfl)) rfl rfl ?_))))) | (refine XQ.done rfl ?_; refine hK _ ?_; clear hK K) | refine X.seq rfl ?_ | refine X.region rfl (fun K hK => ?_) | refine X.regionD rfl mixed (by kernel_rfl) (fun K hK => ?_) | refine X.skip rfl ?_ | refine X.ret rfl ?_ | (refine X.ite rfl rfl (fun hc => ?_); (first | (with_reducible refine Xb.caseN hc (fun h => ?_) (fun h => ?_))) <;> clear hc))
  · exact ret_two (by first | exact .inr rfl | exact .inl rfl) Try.results81 ⟨_, rfl, LoadV.whole (te rfl) rfl (List.Mem.tail _ (List.Mem.head _)) rfl⟩ rfl (H' := H) (by (repeat (first | exact List.Sublist.refl _ | apply List.Sublist.cons)); done) ⟨.inr ⟨by assumption, rfl⟩, rfl⟩
  · exact ret_two (by first | exact .inr rfl | exact .inl rfl) Try.results81 ⟨_, rfl, LoadV.whole (te rfl) rfl (List.Mem.tail _ (List.Mem.head _)) rfl⟩ rfl (H' := H) (by (repeat (first | exact List.Sublist.refl _ | apply List.Sublist.cons)); done) ⟨.inl ⟨by assumption, rfl⟩, rfl⟩
end Go.Proofs.Ytjejppodhpdckaa
end
section
set_option linter.unusedVariables false
set_option linter.unusedSimpArgs false
namespace Go.Proofs.Ytjejppodhpdckaa
open Go Go.Fw
set_option maxRecDepth 10000
theorem open_fn (T : Tm) (p : Pt) (A : Ab) (hd : HD A) (hi : HI A) : ∃ (TX : Tm) (q : Pt), (openE T A = 0 → TX = T ∧ q = p) ∧ ∀ (pa : Pa) (H : List Row), TmOk H T p → AbOk H A pa →
    Fc Try.prog 81 [.agg (cTm T p).toArray, .agg (cAb A pa).toArray] H (fun v H' => v = .tuple #[.agg (cTm TX q).toArray, .int .i64 (openE T A)] ∧ H' = H) := by
  by_cases h : openE T A = 0
  · refine ⟨T, p, fun _ => ⟨rfl, rfl⟩, fun pa H hT hA => (open_spec T p A pa H hT hA hd hi).mono fun v H' ⟨h1, h2⟩ => ⟨?_, h2⟩⟩
    rcases h1 with ⟨_, h1⟩ | ⟨h0, _⟩
    · rw [h1, h]
    · exact absurd h h0
  · refine ⟨Tz, pz, fun h0 => absurd h0 h, fun pa H hT hA => (open_spec T p A pa H hT hA hd hi).mono fun v H' ⟨h1, h2⟩ => ⟨?_, h2⟩⟩
    rcases h1 with ⟨h0, _⟩ | ⟨_, h1⟩
    · exact absurd h0 h
    · exact h1
end Go.Proofs.Ytjejppodhpdckaa
end
section
set_option linter.unusedVariables false
set_option linter.unusedSimpArgs false
namespace Go.Proofs.Ytjejppodhpdckaa
open Go Go.Fw
set_option maxRecDepth 10000
def lo1 (c : Cl) : Lo := ⟨c.g, c.g, c.s, c.s⟩
end Go.Proofs.Ytjejppodhpdckaa
end
section
set_option linter.unusedVariables false
set_option linter.unusedSimpArgs false
namespace Go.Proofs.Ytjejppodhpdckaa
open Go Go.Fw
set_option maxRecDepth 10000
theorem ask1 {c : Cl} {A : Ab} (hl : lo1 c ∈ A.lots) (hG : askG A) (hS : askS A) : (1 ≤ c.g ∧ c.g ≤ 9) ∧ (1 ≤ c.s ∧ c.s ≤ 9) := by
  have h1 := hG _ hl
  have h2 := hS _ hl
  unfold partOk lo1 at h1 h2
  exact ⟨h1.2.1, h2.2.1⟩
theorem HI1 {c : Cl} {d : List Dy} {m : List Int} {l : List Lo} : HI ⟨d, lo1 c :: l, m, [lo1 c]⟩ := by
  intro hG hS l hl
  simp only [List.mem_cons, List.not_mem_nil, or_false] at hl
  subst hl
  obtain ⟨h1, h2⟩ := ask1 (c := c) List.mem_cons_self hG hS
  exact ⟨h1, h1, h2, h2⟩
theorem w4_spec (n lo hi : Int) (H : List Row) : Fc Try.prog 56 [.int .i64 n, .int .i64 lo, .int .i64 hi] H (fun v H' => v = .bool (decide (lo ≤ n ∧ n ≤ hi)) ∧ H' = H) := by
  refine Fc.mk (callable Try.call56) Try.func56 rfl Try.ntmps56 rfl ?_; dsimp only [fr]
  repeat' (first | (refine XO.op rfl ?_; (first | ((first | refine Xo.ng rfl ?_ | (refine Xo.g rfl rfl ?_; with_reducible refine Xw.tt ?_)); (first | (refine Xg.ev (EvF.move rfl rfl) rfl rfl ?_) | (refine Xg.ev (EvF.assign rfl rfl) rfl rfl ?_) | (refine Xg.ev (EvF.pickT rfl rfl rfl) rfl rfl ?_) | (refine Xg.ev (EvF.pickF rfl rfl rfl) rfl rfl ?_) | (refine Xg.ev (EvF.cmp rfl rfl rfl rfl) rfl rfl ?_) | (refine Xg.ev (EvF.fieldAddr rfl rfl (te rfl) rfl (te rfl) (by decide)) rfl rfl ?_) | (refine Xg.ev (EvF.lenSlice rfl rfl (te rfl)) rfl rfl ?_) | (refine Xg.ev (EvF.loadV rfl rfl (LoadV.own (te rfl) rfl (List.Mem.head _) rfl)) rfl rfl ?_) | (refine Xg.ev (EvF.loadV rfl rfl (LoadV.own (te rfl) rfl (List.Mem.tail _ (List.Mem.head _)) rfl)) rfl rfl ?_) | (refine Xg.st (StF.boxAgg rfl rfl) rfl rfl ?_; rintro _ _ ⟨bx, rfl, rfl⟩))) | (refine Xo.g rfl rfl ?_; (first | (with_reducible refine Xw.ft rfl rfl ?_) | (with_reducible refine Xw.case (fun h => ?_) (fun h => ?_) <;> simp only [h, decide_true, decide_false, Bool.not_true, Bool.not_false, and_self, and_true, true_and, and_false, false_and]))))) | (refine XO.done rfl ?_; refine hK _ _ ?_; clear hK K) | refine X.seq rfl ?_ | refine X.region rfl (fun K hK => ?_) | refine X.block rfl ?_ | (refine X.brk rfl ?_; repeat (first | refine blockX_hit rfl ?_ | refine blockX_miss (by decide) ?_)) | refine X.skip rfl ?_ | refine X.ret rfl ?_ | (refine X.ite rfl rfl (fun hc => ?_); (first | (with_reducible refine Xb.case hc (fun h => ?_) (fun h => ?_)) | (with_reducible refine Xb.caseN hc (fun h => ?_) (fun h => ?_))) <;> clear hc))
  all_goals (refine ret_one (by first | exact .inr rfl | exact .inl rfl) Try.results56 rfl (H' := H) (by (repeat (first | exact List.Sublist.refl _ | apply List.Sublist.cons)); done) ?_; simp only [and_true, true_and])
  all_goals simp [*]
theorem rvalue_spec (T : Tm) (p : Pt) (c : Cl) (H : List Row) (hT : TmOk H T p) (hG : tab T.G) (hS : tab T.S) (hp : -10000000 ≤ T.price ∧ T.price ≤ 10000000) (hg : 1 ≤ c.g ∧ c.g ≤ 9) (hs : 1 ≤ c.s ∧ c.s ≤ 9) :
    Fc Try.prog 61 [.agg (cTm T p).toArray, .agg (cCl c).toArray] H (fun v H' => v = .int .i64 (val T c.g c.s) ∧ H' = H) := by
  have h1 := at1_get hg hG.1
  have h2 := at1_get hs hS.1
  have q1 := hG.at1 hg
  have q2 := hS.at1 hs
  have lg := hG.1
  have ls := hS.1
  obtain ⟨b1, o1, e1, he1, _⟩ := hT.gr.elem (i := 0) (by omega)
  obtain ⟨b2, o2, e2, he2, _⟩ := hT.st.elem (i := 0) (by omega)
  have hT2 : ∀ r1 r2, TmOk (r1 :: r2 :: H) T p := fun r1 r2 => hT.sub (fun _ h => List.Mem.tail _ (List.Mem.tail _ h))
  obtain ⟨a1, c1, a2, c2⟩ := p
  simp only at he1 he2
  subst he1 he2
  refine Fc.mk (callable Try.call61) Try.func61 rfl Try.ntmps61 rfl ?_; dsimp only [fr]
  repeat' (first | (refine XO.op rfl ?_; (first | ((first | refine Xo.ng rfl ?_); (first | (refine Xg.ev (EvF.assign rfl rfl) rfl rfl ?_) | (refine Xg.st (StF.boxAgg rfl rfl) rfl rfl ?_; rintro _ _ ⟨bx, rfl, rfl⟩))))) | (refine XO.done rfl ?_; refine hK _ _ ?_; clear hK K) | (refine XQ.op rfl ?_; (first | ((first | refine Yo.ng rfl ?_); (first | (refine Yg.ev (EvF.indexSlice rfl rfl rfl (te rfl) (te rfl) (by omega) (by omega)) rfl rfl ?_) | (refine Yg.ev (EvF.loadV rfl rfl (LoadV.el0 (hT2 _ _).gr h1 (te rfl) rfl (fun _ hm => hm) rfl)) rfl rfl ?_) | (refine Yg.ev (EvF.loadV rfl rfl (LoadV.el0 (hT2 _ _).st h2 (te rfl) rfl (fun _ hm => hm) rfl)) rfl rfl ?_) | (refine Yg.ev (EvF.assign rfl rfl) rfl rfl ?_) | (refine Yg.ev (EvF.add64 rfl rfl rfl (by omega) (by omega)) rfl rfl ?_) | (refine Yg.ev (EvF.sub64 rfl rfl rfl (by omega) (by omega)) rfl rfl ?_) | (refine Yg.ev (EvF.fieldAddr rfl rfl (te rfl) rfl (te rfl) (by decide)) rfl rfl ?_) | (refine Yg.ev (EvF.loadV rfl rfl (LoadV.own (te rfl) rfl (List.Mem.head _) rfl)) rfl rfl ?_) | (refine Yg.ev (EvF.loadV rfl rfl (LoadV.own (te rfl) rfl (List.Mem.tail _ (List.Mem.head _)) rfl)) rfl rfl ?_))))) | (refine XQ.done rfl ?_; refine hK _ ?_; clear hK K) | refine X.seq rfl ?_ | refine X.region rfl (fun K hK => ?_) | refine X.regionD rfl mixed (by kernel_rfl) (fun K hK => ?_) | refine X.ret rfl ?_)
  refine ret_one (by first | exact .inr rfl | exact .inl rfl) Try.results61 rfl (H' := H) (by (repeat (first | exact List.Sublist.refl _ | apply List.Sublist.cons)); done) ?_; simp only [and_true, true_and]
  rfl
theorem rmay_spec (T : Tm) (p : Pt) (c : Cl) (H : List Row) :
    Fc Try.prog 57 [.agg (cTm T p).toArray, .agg (cCl c).toArray] H (fun v H' => v = .bool (may T c) ∧ H' = H) := by
  refine Fc.mk (callable Try.call57) Try.func57 rfl Try.ntmps57 rfl ?_; dsimp only [fr]
  repeat' (first | (refine XO.op rfl ?_; (first | ((first | refine Xo.ng rfl ?_ | (refine Xo.g rfl rfl ?_; with_reducible refine Xw.tt ?_)); (first | (refine Xg.ev (EvF.move rfl rfl) rfl rfl ?_) | (refine Xg.ev (EvF.assign rfl rfl) rfl rfl ?_) | (refine Xg.ev (EvF.pickT rfl rfl rfl) rfl rfl ?_) | (refine Xg.ev (EvF.pickF rfl rfl rfl) rfl rfl ?_) | (refine Xg.ev (EvF.cmp rfl rfl rfl rfl) rfl rfl ?_) | (refine Xg.ev (EvF.fieldAddr rfl rfl (te rfl) rfl (te rfl) (by decide)) rfl rfl ?_) | (refine Xg.ev (EvF.lenSlice rfl rfl (te rfl)) rfl rfl ?_) | (refine Xg.ev (EvF.loadV rfl rfl (LoadV.own (te rfl) rfl (List.Mem.head _) rfl)) rfl rfl ?_) | (refine Xg.ev (EvF.loadV rfl rfl (LoadV.own (te rfl) rfl (List.Mem.tail _ (List.Mem.head _)) rfl)) rfl rfl ?_) | (refine Xg.st (StF.boxAgg rfl rfl) rfl rfl ?_; rintro _ _ ⟨bx, rfl, rfl⟩))) | (refine Xo.g rfl rfl ?_; (first | (with_reducible refine Xw.ft rfl rfl ?_) | (with_reducible refine Xw.case (fun h => ?_) (fun h => ?_) <;> simp only [h, decide_true, decide_false, Bool.not_true, Bool.not_false, and_self, and_true, true_and, and_false, false_and]))))) | (refine XO.done rfl ?_; refine hK _ _ ?_; clear hK K) | refine X.seq rfl ?_ | refine X.region rfl (fun K hK => ?_) | refine X.block rfl ?_ | (refine X.brk rfl ?_; repeat (first | refine blockX_hit rfl ?_ | refine blockX_miss (by decide) ?_)) | refine X.skip rfl ?_ | refine X.ret rfl ?_ | (refine X.ite rfl rfl (fun hc => ?_); (first | (with_reducible refine Xb.case hc (fun h => ?_) (fun h => ?_)) | (with_reducible refine Xb.caseN hc (fun h => ?_) (fun h => ?_))) <;> clear hc))
  all_goals (refine ret_one (by first | exact .inr rfl | exact .inl rfl) Try.results57 rfl (H' := H) (by (repeat (first | exact List.Sublist.refl _ | apply List.Sublist.cons)); done) ?_; simp only [and_true, true_and])
  all_goals (unfold may; congr 1; simp [*])
noncomputable instance (l : List Int) : Decidable (tab l) := Classical.propDecidable _
theorem nine_spec (l : List Int) (a : Option Addr) (c : Nat) (H : List Row) (hl : SlE H a cI 1 l) (hb : l.length ≤ 1000000) : Fc Try.prog 111 [.slice a l.length c] H (fun v H' => v = .bool (decide (tab l)) ∧ H' = H) := by
  refine Fc.mk (callable Try.call111) Try.func111 rfl Try.ntmps111 rfl ?_; dsimp only [fr]
  repeat' (first | (refine XO.op rfl ?_; (first | ((first | refine Xo.ng rfl ?_ | (refine Xo.g rfl rfl ?_; with_reducible refine Xw.tt ?_)); (first | (refine Xg.ev (EvF.move rfl rfl) rfl rfl ?_) | (refine Xg.ev (EvF.assign rfl rfl) rfl rfl ?_) | (refine Xg.ev (EvF.pickT rfl rfl rfl) rfl rfl ?_) | (refine Xg.ev (EvF.pickF rfl rfl rfl) rfl rfl ?_) | (refine Xg.ev (EvF.cmp rfl rfl rfl rfl) rfl rfl ?_) | (refine Xg.ev (EvF.fieldAddr rfl rfl (te rfl) rfl (te rfl) (by decide)) rfl rfl ?_) | (refine Xg.ev (EvF.lenSlice rfl rfl (te rfl)) rfl rfl ?_) | (refine Xg.ev (EvF.loadV rfl rfl (LoadV.own (te rfl) rfl (List.Mem.head _) rfl)) rfl rfl ?_) | (refine Xg.ev (EvF.loadV rfl rfl (LoadV.own (te rfl) rfl (List.Mem.tail _ (List.Mem.head _)) rfl)) rfl rfl ?_) | (refine Xg.st (StF.boxAgg rfl rfl) rfl rfl ?_; rintro _ _ ⟨bx, rfl, rfl⟩))) | (refine Xo.g rfl rfl ?_; (first | (with_reducible refine Xw.ft rfl rfl ?_) | (with_reducible refine Xw.case (fun h => ?_) (fun h => ?_) <;> simp only [h, decide_true, decide_false, Bool.not_true, Bool.not_false, and_self, and_true, true_and, and_false, false_and]))))) | (refine XO.done rfl ?_; refine hK _ _ ?_; clear hK K) | refine X.seq rfl ?_ | refine X.region rfl (fun K hK => ?_) | refine X.block rfl ?_ | (refine X.brk rfl ?_; repeat (first | refine blockX_hit rfl ?_ | refine blockX_miss (by decide) ?_)) | refine X.skip rfl ?_ | refine X.ret rfl ?_ | (refine X.ite rfl rfl (fun hc => ?_); (first | (with_reducible refine Xb.case hc (fun h => ?_) (fun h => ?_)) | (with_reducible refine Xb.caseN hc (fun h => ?_) (fun h => ?_))) <;> clear hc))
  · refine ret_one (by first | exact .inr rfl | exact .inl rfl) Try.results111 rfl (H' := H) (by (repeat (first | exact List.Sublist.refl _ | apply List.Sublist.cons)); done) ?_; simp only [and_true, true_and]
    congr 1; symm; exact decide_eq_false (fun q => by have := q.1; omega)
  refine X.lp rfl (fun q F' H' => ∃ k : Nat, q = l.length - k ∧ k ≤ l.length ∧ (∀ j x, j < k → l[j]? = some x → -1000 ≤ x ∧ x ≤ 1000) ∧ H = H' ∧
      F' = [(8, .slice a l.length c), (9, .int .i64 l.length), (10, .int .i64 k)])
    l.length [(8, .slice a l.length c), (9, .int .i64 l.length), (10, .int .i64 (0 : Nat))] _ (by (repeat (first | exact Sub.nil _ | refine Sub.cons rfl ?_)); done) (by (repeat (first | exact List.Sublist.refl _ | apply List.Sublist.cons_cons | apply List.Sublist.cons)); done) ⟨0, by omega, by omega, (fun j x hj => absurd hj (by omega)), rfl, rfl⟩ ?_
  rintro _ _ H2 ⟨k, rfl, hk, hn, hH, rfl⟩
  subst hH
  repeat' (first | (refine XO.op rfl ?_; (first | ((first | refine Xo.ng rfl ?_ | (refine Xo.g rfl rfl ?_; with_reducible refine Xw.tt ?_)); (first | (refine Xg.ev (EvF.move rfl rfl) rfl rfl ?_) | (refine Xg.ev (EvF.assign rfl rfl) rfl rfl ?_) | (refine Xg.ev (EvF.pickT rfl rfl rfl) rfl rfl ?_) | (refine Xg.ev (EvF.pickF rfl rfl rfl) rfl rfl ?_) | (refine Xg.ev (EvF.cmp rfl rfl rfl rfl) rfl rfl ?_) | (refine Xg.ev (EvF.fieldAddr rfl rfl (te rfl) rfl (te rfl) (by decide)) rfl rfl ?_) | (refine Xg.ev (EvF.lenSlice rfl rfl (te rfl)) rfl rfl ?_) | (refine Xg.ev (EvF.loadV rfl rfl (LoadV.own (te rfl) rfl (List.Mem.head _) rfl)) rfl rfl ?_) | (refine Xg.ev (EvF.loadV rfl rfl (LoadV.own (te rfl) rfl (List.Mem.tail _ (List.Mem.head _)) rfl)) rfl rfl ?_) | (refine Xg.st (StF.boxAgg rfl rfl) rfl rfl ?_; rintro _ _ ⟨bx, rfl, rfl⟩))) | (refine Xo.g rfl rfl ?_; (first | (with_reducible refine Xw.ft rfl rfl ?_) | (with_reducible refine Xw.case (fun h => ?_) (fun h => ?_) <;> simp only [h, decide_true, decide_false, Bool.not_true, Bool.not_false, and_self, and_true, true_and, and_false, false_and]))))) | (refine XO.done rfl ?_; refine hK _ _ ?_; clear hK K) | refine X.seq rfl ?_ | refine X.region rfl (fun K hK => ?_) | refine X.block rfl ?_ | (refine X.brk rfl ?_; repeat (first | refine blockX_hit rfl ?_ | refine blockX_miss (by decide) ?_)) | refine X.skip rfl ?_ | refine X.ret rfl ?_ | (refine X.ite rfl rfl (fun hc => ?_); (first | (with_reducible refine Xb.case hc (fun h => ?_) (fun h => ?_)) | (with_reducible refine Xb.caseN hc (fun h => ?_) (fun h => ?_))) <;> clear hc))
  · obtain ⟨b, off, e, rfl, he⟩ := hl.elem (i := k) (by omega)
    repeat' (first | (refine XO.op rfl ?_; (first | ((first | refine Xo.ng rfl ?_); (first | (refine Xg.ev (EvF.loadV rfl rfl (LoadV.el0 hl he (te rfl) rfl (fun _ hm => hm) rfl)) rfl rfl ?_) | (refine Xg.call (EnF.st rfl (Args.cons rfl (Args.cons rfl (Args.cons rfl Args.nil)))) rfl rfl (w4_spec _ _ _ _) ?_; rintro _ H9 ⟨rfl, hH9⟩; subst H9) | (refine Xg.ev (EvF.move rfl rfl) rfl rfl ?_) | (refine Xg.ev (EvF.assign rfl rfl) rfl rfl ?_) | (refine Xg.ev (EvF.add64 rfl rfl rfl (by omega) (by omega)) rfl rfl ?_) | (refine Xg.ev (EvF.not rfl rfl) rfl rfl ?_) | (refine Xg.ev (EvF.indexSlice rfl rfl rfl (te rfl) (te rfl) (by omega) (by omega)) rfl rfl ?_))))) | (refine XO.done rfl ?_; refine hK _ _ ?_; clear hK K) | refine X.seq rfl ?_ | refine X.region rfl (fun K hK => ?_) | refine X.skip rfl ?_ | refine X.ret rfl ?_ | (refine X.ite rfl rfl (fun hc => ?_); (first | (with_reducible refine Xb.caseN hc (fun h => ?_) (fun h => ?_))) <;> clear hc))
    all_goals first
      | (refine ret_one (by first | exact .inr rfl | exact .inl rfl) Try.results111 rfl (H' := H) (by (repeat (first | exact List.Sublist.refl _ | apply List.Sublist.cons)); done) ?_; simp only [and_true, true_and]; congr 1; symm; exact decide_eq_false (fun q => by have := q.2 e (List.mem_of_getElem? he); omega))
      | (refine ⟨_, _, _, (by (repeat (first | exact Sub.nil _ | refine Sub.cons rfl ?_)); done), (by (repeat (first | exact List.Sublist.refl _ | apply List.Sublist.cons_cons | apply List.Sublist.cons)); done), ⟨k + 1, rfl, by omega, (fun j x hj hx => ?_), rfl, rfl⟩, by omega⟩
         rcases Nat.lt_or_ge j k with h1 | h1
         · exact hn j x h1 hx
         · obtain rfl : j = k := by omega
           rw [he] at hx; cases hx; omega)
  · refine ret_one (by first | exact .inr rfl | exact .inl rfl) Try.results111 rfl (H' := H) (by (repeat (first | exact List.Sublist.refl _ | apply List.Sublist.cons)); done) ?_; simp only [and_true, true_and]
    congr 1; symm
    refine decide_eq_true ⟨by omega, fun x hx => ?_⟩
    obtain ⟨i, hi, rfl⟩ := List.mem_iff_getElem.1 hx
    exact hn i _ (by omega) (List.getElem?_eq_getElem hi)
end Go.Proofs.Ytjejppodhpdckaa
end
section
set_option linter.unusedVariables false
set_option linter.unusedSimpArgs false
namespace Go.Proofs.Ytjejppodhpdckaa
open Go Go.Fw
set_option maxRecDepth 10000
theorem falls_iff' : ∀ (l : List Int), falls l ↔ ∀ q a b, l[q]? = some a → l[q + 1]? = some b → b ≤ a
  | [] => by simp [falls]
  | [x] => ⟨fun _ q a b _ h2 => by simp at h2, fun _ => trivial⟩
  | x :: y :: l => by
    have ih := falls_iff' (y :: l)
    show (y ≤ x ∧ falls (y :: l)) ↔ _
    rw [ih]
    constructor
    · rintro ⟨h1, h2⟩ q a b ha hb
      cases q with
      | zero => simp at ha hb; subst ha hb; exact h1
      | succ q => exact h2 q a b (by simpa using ha) (by simpa using hb)
    · intro h
      exact ⟨h 0 x y rfl rfl, fun q a b ha hb => h (q + 1) a b (by simpa using ha) (by simpa using hb)⟩
set_option maxHeartbeats 8000000 in
theorem rterms_spec (T : Tm) (p : Pt) (H : List Row) (hT : TmOk H T p) : Fc Try.prog 66 [.agg (cTm T p).toArray] H (fun v H' => v = .bool (decide (tmOk T)) ∧ H' = H) := by
  have l1 := hT.l1
  have l2 := hT.l2
  have hT1 : ∀ Z : List Row, TmOk (Z ++ H) T p := fun Z => hT.sub (fun _ h => List.mem_append_right _ h)
  obtain ⟨a1, c1, a2, c2⟩ := p
  refine Fc.mk (callable Try.call66) Try.func66 rfl Try.ntmps66 rfl ?_; dsimp only [fr]
  repeat' (first | (refine XO.op rfl ?_; (first | ((first | refine Xo.ng rfl ?_ | (refine Xo.g rfl rfl ?_; with_reducible refine Xw.ff ?_)); (first | (refine Xg.call (EnF.st rfl (Args.cons rfl (Args.cons rfl (Args.cons rfl Args.nil)))) rfl rfl (w4_spec _ _ _ _) ?_; rintro _ H9 ⟨rfl, hH9⟩; subst H9) | (refine Xg.call (EnF.st rfl (Args.cons rfl Args.nil)) rfl rfl (nine_spec T.G a1 c1 _ (hT1 [_]).gr l1) ?_; rintro _ H9 ⟨rfl, hH9⟩; subst H9) | (refine Xg.call (EnF.st rfl (Args.cons rfl Args.nil)) rfl rfl (nine_spec T.S a2 c2 _ (hT1 [_]).st l2) ?_; rintro _ H9 ⟨rfl, hH9⟩; subst H9) | (refine Xg.ev (EvF.move rfl rfl) rfl rfl ?_) | (refine Xg.ev (EvF.assign rfl rfl) rfl rfl ?_) | (refine Xg.ev (EvF.pickT rfl rfl rfl) rfl rfl ?_) | (refine Xg.ev (EvF.pickF rfl rfl rfl) rfl rfl ?_) | (refine Xg.ev (EvF.not rfl rfl) rfl rfl ?_) | (refine Xg.ev (EvF.fieldAddr rfl rfl (te rfl) rfl (te rfl) (by decide)) rfl rfl ?_) | (refine Xg.ev (EvF.loadV rfl rfl (LoadV.own (te rfl) rfl (List.Mem.head _) rfl)) rfl rfl ?_) | (refine Xg.st (StF.boxAgg rfl rfl) rfl rfl ?_; rintro _ _ ⟨bx, rfl, rfl⟩))) | (refine Xo.g rfl rfl ?_; (first | (with_reducible refine Xw.tf rfl rfl ?_) | (with_reducible refine Xw.caseN (fun h => ?_) (fun h => ?_) <;> simp only [h, decide_true, decide_false, Bool.not_true, Bool.not_false, and_self, and_true, true_and, and_false, false_and]))))) | (refine XO.done rfl ?_; refine hK _ _ ?_; clear hK K) | refine X.seq rfl ?_ | refine X.region rfl (fun K hK => ?_) | refine X.block rfl ?_ | refine X.skip rfl ?_ | refine X.ret rfl ?_ | (refine X.ite rfl rfl (fun hc => ?_); (first | (with_reducible refine Xb.t hc ?_) | (with_reducible refine Xb.caseN hc (fun h => ?_) (fun h => ?_))) <;> clear hc))
  any_goals (refine ret_one (by first | exact .inr rfl | exact .inl rfl) Try.results66 rfl (H' := H) (by (repeat (first | exact List.Sublist.refl _ | apply List.Sublist.cons)); done) ?_; simp only [and_true, true_and]; congr 1; symm; exact decide_eq_false (fun q => by have := q.cls; have := q.num; first | omega | exact absurd q.gr (by assumption) | exact absurd q.st (by assumption)))
  have hG : tab T.G := by assumption
  have hS : tab T.S := by assumption
  have hg9 : 1 ≤ T.g ∧ T.g ≤ 9 := by assumption
  have hs9 : 1 ≤ T.s ∧ T.s ≤ 9 := by assumption
  have hpr : 1 ≤ T.price ∧ T.price ≤ 1000000 := by assumption
  have g1 := hG.1
  have g2 := hS.1
  obtain ⟨b1, o1, _, he1, _⟩ := hT.gr.elem (i := 0) (by omega)
  obtain ⟨b2, o2, _, he2, _⟩ := hT.st.elem (i := 0) (by omega)
  simp only at he1 he2
  subst he1 he2
  refine X.lp rfl (fun m F' H' => ∃ k : Nat, m = 9 - k ∧ k < 9 ∧ (∀ j x y, j < k → T.G[j]? = some x → T.G[j + 1]? = some y → y ≤ x) ∧ (∀ j x y, j < k → T.S[j]? = some x → T.S[j + 1]? = some y → x ≤ y) ∧ H' = ⟨bx, 0, cTm T ⟨some ⟨b1, o1, none⟩, c1, some ⟨b2, o2, none⟩, c2⟩, some 28, 11⟩ :: H ∧
      F' = [(1, .pointer (some ⟨bx, 0, none⟩)), (3, .int .i64 (k + 1 : Nat))])
    9 [(1, .pointer (some ⟨bx, 0, none⟩)), (3, .int .i64 (0 + 1 : Nat))] _ (by (repeat (first | exact Sub.nil _ | refine Sub.cons rfl ?_)); done) (List.Sublist.refl _) ⟨0, by omega, by omega, (fun j x y hj => absurd hj (by omega)), (fun j x y hj => absurd hj (by omega)), rfl, rfl⟩ ?_
  rintro _ _ _ ⟨k, rfl, hk, hn, hn2, rfl, rfl⟩
  repeat' (first | (refine XO.op rfl ?_; (first | ((first | refine Xo.ng rfl ?_); (first | (refine Xg.ev (EvF.move rfl rfl) rfl rfl ?_) | (refine Xg.ev (EvF.cmp rfl rfl rfl rfl) rfl rfl ?_) | (refine Xg.ev (EvF.sub64 rfl rfl rfl (by omega) (by omega)) rfl rfl ?_) | (refine Xg.ev (EvF.fieldAddr rfl rfl (te rfl) rfl (te rfl) (by decide)) rfl rfl ?_) | (refine Xg.ev (EvF.indexSlice rfl rfl rfl (te rfl) (te rfl) (by omega) (by omega)) rfl rfl ?_) | (refine Xg.ev (EvF.loadV rfl rfl (LoadV.own (te rfl) rfl (List.Mem.head _) rfl)) rfl rfl ?_))))) | (refine XO.done rfl ?_; refine hK _ _ ?_; clear hK K) | refine X.seq rfl ?_ | refine X.region rfl (fun K hK => ?_) | refine X.block rfl ?_ | (refine X.brk rfl ?_; repeat (first | refine blockX_hit rfl ?_ | refine blockX_miss (by decide) ?_)) | refine X.skip rfl ?_ | (refine X.ite rfl rfl (fun hc => ?_); (first | (with_reducible refine Xb.case hc (fun h => ?_) (fun h => ?_))) <;> clear hc))
  · have hk8 : k + 1 < 9 := by omega
    obtain ⟨x, hx⟩ : ∃ x, T.G[k]? = some x := ⟨_, List.getElem?_eq_getElem (by omega)⟩
    obtain ⟨y, hy⟩ : ∃ x, T.G[k + 1]? = some x := ⟨_, List.getElem?_eq_getElem (by omega)⟩
    obtain ⟨x', hx'⟩ : ∃ x, T.S[k]? = some x := ⟨_, List.getElem?_eq_getElem (by omega)⟩
    obtain ⟨y', hy'⟩ : ∃ x, T.S[k + 1]? = some x := ⟨_, List.getElem?_eq_getElem (by omega)⟩
    have ek : ((k + 1 : Nat) : Int) - 1 = (k : Int) := by omega
    have hgx : T.G[(((k + 1 : Nat) : Int) - 1).toNat]? = some x := by rw [ek]; exact hx
    have hsx : T.S[(((k + 1 : Nat) : Int) - 1).toNat]? = some x' := by rw [ek]; exact hx'
    repeat' (first | (refine XO.op rfl ?_; (first | ((first | refine Xo.ng rfl ?_); (first | (refine Xg.ev (EvF.move rfl rfl) rfl rfl ?_) | (refine Xg.ev (EvF.assign rfl rfl) rfl rfl ?_) | (refine Xg.ev (EvF.add64 rfl rfl rfl (by omega) (by omega)) rfl rfl ?_))))) | (refine XO.done rfl ?_; refine hK _ _ ?_; clear hK K) | (refine XQ.op rfl ?_; (first | ((first | refine Yo.ng rfl ?_ | (refine Yo.g rfl rfl ?_; with_reducible refine Yw.ff ?_)); (first | (refine Yg.ev (EvF.indexSlice rfl rfl rfl (te rfl) (te rfl) (by omega) (by omega)) rfl rfl ?_) | (refine Yg.ev (EvF.loadV rfl rfl (LoadV.el0 (hT1 [_]).gr hgx (te rfl) rfl (fun _ hm => hm) rfl)) rfl rfl ?_) | (refine Yg.ev (EvF.loadV rfl rfl (LoadV.el0 (hT1 [_]).st hsx (te rfl) rfl (fun _ hm => hm) rfl)) rfl rfl ?_) | (refine Yg.ev (EvF.loadV rfl rfl (LoadV.el0 (n := k + 1) (hT1 [_]).gr hy (te rfl) rfl (fun _ h => h) rfl)) rfl rfl ?_) | (refine Yg.ev (EvF.loadV rfl rfl (LoadV.el0 (n := k + 1) (hT1 [_]).st hy' (te rfl) rfl (fun _ h => h) rfl)) rfl rfl ?_) | (refine Yg.ev (EvF.move rfl rfl) rfl rfl ?_) | (refine Yg.ev (EvF.pickT rfl rfl rfl) rfl rfl ?_) | (refine Yg.ev (EvF.pickF rfl rfl rfl) rfl rfl ?_) | (refine Yg.ev (EvF.cmp rfl rfl rfl rfl) rfl rfl ?_) | (refine Yg.ev (EvF.sub64 rfl rfl rfl (by omega) (by omega)) rfl rfl ?_) | (refine Yg.ev (EvF.fieldAddr rfl rfl (te rfl) rfl (te rfl) (by decide)) rfl rfl ?_) | (refine Yg.ev (EvF.loadV rfl rfl (LoadV.own (te rfl) rfl (List.Mem.head _) rfl)) rfl rfl ?_))) | (refine Yo.g rfl rfl ?_; (first | (with_reducible refine Yw.tf rfl rfl ?_) | (with_reducible refine Yw.case (fun h => ?_) (fun h => ?_) <;> simp only [h, decide_true, decide_false, Bool.not_true, Bool.not_false, and_self, and_true, true_and, and_false, false_and]))))) | (refine XQ.done rfl ?_; refine hK _ ?_; clear hK K) | refine X.seq rfl ?_ | refine X.region rfl (fun K hK => ?_) | refine X.regionD rfl mixed (by kernel_rfl) (fun K hK => ?_) | refine X.skip rfl ?_ | refine X.ret rfl ?_ | (refine X.ite rfl rfl (fun hc => ?_); (first | (with_reducible refine Xb.t hc ?_) | (with_reducible refine Xb.case hc (fun h => ?_) (fun h => ?_))) <;> clear hc))
    · refine ret_one (by first | exact .inr rfl | exact .inl rfl) Try.results66 rfl (H' := H) (by (repeat (first | exact List.Sublist.refl _ | apply List.Sublist.cons)); done) ?_; simp only [and_true, true_and]
      congr 1; symm; exact decide_eq_false (fun q => by have := (falls_iff' _).1 q.ord.1 k x y hx hy; omega)
    · refine ret_one (by first | exact .inr rfl | exact .inl rfl) Try.results66 rfl (H' := H) (by (repeat (first | exact List.Sublist.refl _ | apply List.Sublist.cons)); done) ?_; simp only [and_true, true_and]
      congr 1; symm; exact decide_eq_false (fun q => by have := (grows_iff _).1 q.ord.2 k x' y' hx' hy'; omega)
    · refine ⟨_, [(1, .pointer (some ⟨bx, 0, none⟩)), (3, .int .i64 (k + 1 + 1 : Nat))], _, (by (repeat (first | exact Sub.nil _ | refine Sub.cons rfl ?_)); done), List.Sublist.refl _, ⟨k + 1, rfl, by omega, (fun j u v hj hu hv => ?_), (fun j u v hj hu hv => ?_), rfl, rfl⟩, by omega⟩
      · rcases Nat.lt_or_ge j k with h1 | h1
        · exact hn j u v h1 hu hv
        · obtain rfl : j = k := by omega
          rw [hx] at hu; rw [hy] at hv; cases hu; cases hv; omega
      · rcases Nat.lt_or_ge j k with h1 | h1
        · exact hn2 j u v h1 hu hv
        · obtain rfl : j = k := by omega
          rw [hx'] at hu; rw [hy'] at hv; cases hu; cases hv; omega
  · have hG8 : falls T.G := (falls_iff' _).2 (fun q a b ha hb => hn q a b (by have := (List.getElem?_eq_some_iff.1 hb).1; omega) ha hb)
    have hS8 : grows T.S := (grows_iff _).2 (fun q a b ha hb => hn2 q a b (by have := (List.getElem?_eq_some_iff.1 hb).1; omega) ha hb)
    have q1 := at1_get hg9 g1
    have q2 := at1_get hs9 g2
    repeat' (first | (refine XO.op rfl ?_; (first | ((first | refine Xo.ng rfl ?_ | (refine Xo.g rfl rfl ?_; with_reducible refine Xw.ff ?_)); (first | (refine Xg.ev (EvF.indexSlice rfl rfl rfl (te rfl) (te rfl) (by omega) (by omega)) rfl rfl ?_) | (refine Xg.ev (EvF.loadV rfl rfl (LoadV.el0 (hT1 [_]).gr q1 (te rfl) rfl (fun _ hm => hm) rfl)) rfl rfl ?_) | (refine Xg.ev (EvF.loadV rfl rfl (LoadV.el0 (hT1 [_]).st q2 (te rfl) rfl (fun _ hm => hm) rfl)) rfl rfl ?_) | (refine Xg.call (EnF.st rfl (Args.cons rfl (Args.cons rfl (Args.cons rfl Args.nil)))) rfl rfl (w4_spec _ _ _ _) ?_; rintro _ H9 ⟨rfl, hH9⟩; subst H9) | (refine Xg.ev (EvF.build (cs := cCl ⟨T.worst, T.short⟩) rfl (ArgsP.cons rfl (ArgsP.cons rfl ArgsP.nil)) (te rfl) (Places.cons (te rfl) (Places.cons (te rfl) Places.nil)) Try.zeroValue23 rfl) rfl rfl ?_) | (refine Xg.call (EnF.st rfl (Args.cons rfl (Args.cons rfl Args.nil))) rfl rfl (rvalue_spec T _ ⟨T.worst, T.short⟩ _ (hT1 [_]) hG hS (by omega) (show 1 ≤ T.worst ∧ T.worst ≤ 9 by omega) (show 1 ≤ T.short ∧ T.short ≤ 9 by omega)) ?_; rintro _ H9 ⟨rfl, hH9⟩; subst H9) | (refine Xg.ev (EvF.move rfl rfl) rfl rfl ?_) | (refine Xg.ev (EvF.assign rfl rfl) rfl rfl ?_) | (refine Xg.ev (EvF.pickT rfl rfl rfl) rfl rfl ?_) | (refine Xg.ev (EvF.pickF rfl rfl rfl) rfl rfl ?_) | (refine Xg.ev (EvF.cmp rfl rfl rfl rfl) rfl rfl ?_) | (refine Xg.ev (EvF.sub64 rfl rfl rfl (by omega) (by omega)) rfl rfl ?_) | (refine Xg.ev (EvF.not rfl rfl) rfl rfl ?_) | (refine Xg.ev (EvF.fieldAddr rfl rfl (te rfl) rfl (te rfl) (by decide)) rfl rfl ?_) | (refine Xg.ev (EvF.loadV rfl rfl (LoadV.own (te rfl) rfl (List.Mem.head _) rfl)) rfl rfl ?_) | (refine Xg.ev (EvF.loadV rfl rfl (LoadV.whole (te rfl) rfl (List.Mem.head _) rfl)) rfl rfl ?_))) | (refine Xo.g rfl rfl ?_; (first | (with_reducible refine Xw.tf rfl rfl ?_) | (with_reducible refine Xw.caseN (fun h => ?_) (fun h => ?_) <;> simp only [h, decide_true, decide_false, Bool.not_true, Bool.not_false, and_self, and_true, true_and, and_false, false_and]))))) | (refine XO.done rfl ?_; refine hK _ _ ?_; clear hK K) | refine X.seq rfl ?_ | refine X.region rfl (fun K hK => ?_) | refine X.skip rfl ?_ | refine X.ret rfl ?_ | (refine X.ite rfl rfl (fun hc => ?_); (first | (with_reducible refine Xb.t hc ?_) | (with_reducible refine Xb.caseN hc (fun h => ?_) (fun h => ?_))) <;> clear hc))
    all_goals (refine ret_one (by first | exact .inr rfl | exact .inl rfl) Try.results66 rfl (H' := H) (by (repeat (first | exact List.Sublist.refl _ | apply List.Sublist.cons)); done) ?_; simp only [and_true, true_and])
    all_goals first
      | (congr 1; symm; exact decide_eq_false (fun q => by have := q.cls; have := q.num; have := q.zero; omega))
      | (congr 1; exact decide_eq_decide.2 ⟨fun q => ⟨by omega, by omega, hG, hS, ⟨hG8, hS8⟩, ⟨by omega, by omega⟩, q⟩, fun q => q.least⟩)
end Go.Proofs.Ytjejppodhpdckaa
end
section
set_option linter.unusedVariables false
set_option linter.unusedSimpArgs false
namespace Go.Proofs.Ytjejppodhpdckaa
open Go Go.Fw
set_option maxRecDepth 10000
noncomputable instance : DecidableEq Sp := fun _ _ => Classical.propDecidable _
noncomputable instance : DecidableEq Cl := fun _ _ => Classical.propDecidable _
noncomputable instance : DecidableEq Tm := fun _ _ => Classical.propDecidable _
theorem eqI (d : Nat) (a b : Int) (w : World) : (Op.equalIn (d + 1) 3 (.int .i64 a) (.int .i64 b)).run Try.prog w = .ok (decide (a = b)) w := by
  rw [run_equalIn_int w d 3 .i64 .i64 a b (by kernel_rfl)]
  by_cases h : a = b <;> simp [h]
theorem eqSp (d : Nat) (e f : Sp) (w : World) : (Op.equalIn (d + 2) 26 (.agg (cSp e).toArray) (.agg (cSp f).toArray)).run Try.prog w = .ok (decide (e = f)) w := by
  have hS : Try.prog.underlying 26 = some (.struct (Try.prog.fieldsOf 26)) := by kernel_rfl
  rw [run_equalIn_agg w (d + 1) 26 _ _ hS (by kernel_rfl)]
  simp only [Program.fieldsOf, Try.underlying26]
  go_simp
  obtain ⟨e1, e2⟩ := e
  obtain ⟨f1, f2⟩ := f
  by_cases h1 : e1 = f1 <;> by_cases h2 : e2 = f2 <;> simp [cSp, eqI, Result.andThen, h1, h2]
theorem eqCl (d : Nat) (e f : Cl) (w : World) : (Op.equalIn (d + 2) 23 (.agg (cCl e).toArray) (.agg (cCl f).toArray)).run Try.prog w = .ok (decide (e = f)) w := by
  have hS : Try.prog.underlying 23 = some (.struct (Try.prog.fieldsOf 23)) := by kernel_rfl
  rw [run_equalIn_agg w (d + 1) 23 _ _ hS (by kernel_rfl)]
  simp only [Program.fieldsOf, Try.underlying23]
  go_simp
  obtain ⟨e1, e2⟩ := e
  obtain ⟨f1, f2⟩ := f
  by_cases h1 : e1 = f1 <;> by_cases h2 : e2 = f2 <;> simp [cCl, eqI, Result.andThen, h1, h2]
theorem sameInts_spec (l m : List Int) (a a' : Option Addr) (c c' : Nat) (H : List Row) (hl : SlE H a cI 1 l) (hm : SlE H a' cI 1 m) (hb : l.length ≤ 1000000) (hb' : m.length ≤ 1000000) :
    Fc Try.prog 40 [.slice a l.length c, .slice a' m.length c'] H (fun v H' => v = .bool (decide (l = m)) ∧ H' = H) := by
  refine Fc.mk (callable Try.call40) Try.func40 rfl Try.ntmps40 rfl ?_; dsimp only [fr]
  repeat' (first | (refine XO.op rfl ?_; (first | ((first | refine Xo.ng rfl ?_ | (refine Xo.g rfl rfl ?_; with_reducible refine Xw.ff ?_)); (first | (refine Xg.ev (EvF.move rfl rfl) rfl rfl ?_) | (refine Xg.ev (EvF.assign rfl rfl) rfl rfl ?_) | (refine Xg.ev (EvF.pickT rfl rfl rfl) rfl rfl ?_) | (refine Xg.ev (EvF.pickF rfl rfl rfl) rfl rfl ?_) | (refine Xg.ev (EvF.cmp rfl rfl rfl rfl) rfl rfl ?_) | (refine Xg.ev (EvF.fieldAddr rfl rfl (te rfl) rfl (te rfl) (by decide)) rfl rfl ?_) | (refine Xg.ev (EvF.lenSlice rfl rfl (te rfl)) rfl rfl ?_) | (refine Xg.ev (EvF.loadV rfl rfl (LoadV.own (te rfl) rfl (List.Mem.head _) rfl)) rfl rfl ?_) | (refine Xg.st (StF.boxAgg rfl rfl) rfl rfl ?_; rintro _ _ ⟨bx, rfl, rfl⟩))) | (refine Xo.g rfl rfl ?_; (first | (with_reducible refine Xw.tf rfl rfl ?_) | (with_reducible refine Xw.case (fun h => ?_) (fun h => ?_) <;> simp only [h, decide_true, decide_false, Bool.not_true, Bool.not_false, and_self, and_true, true_and, and_false, false_and]))))) | (refine XO.done rfl ?_; refine hK _ _ ?_; clear hK K) | refine X.seq rfl ?_ | refine X.region rfl (fun K hK => ?_) | refine X.block rfl ?_ | refine X.skip rfl ?_ | refine X.ret rfl ?_ | (refine X.ite rfl rfl (fun hc => ?_); (first | (with_reducible refine Xb.caseN hc (fun h => ?_) (fun h => ?_))) <;> clear hc))
  · refine ret_one (by first | exact .inr rfl | exact .inl rfl) Try.results40 rfl (H' := H) (by (repeat (first | exact List.Sublist.refl _ | apply List.Sublist.cons)); done) ?_; simp only [and_true, true_and]
    congr 1; symm; exact decide_eq_false (fun q => by subst q; omega)
  have hlm : l.length = m.length := by omega
  refine X.lp rfl (fun q F' H' => ∃ k : Nat, q = l.length - k ∧ k ≤ l.length ∧ (l = m ↔ l.drop k = m.drop k) ∧ H = H' ∧
      F' = [(0, .slice a l.length c), (1, .slice a' m.length c'), (5, .int .i64 k)])
    l.length [(0, .slice a l.length c), (1, .slice a' m.length c'), (5, .int .i64 (0 : Nat))] _ (by (repeat (first | exact Sub.nil _ | refine Sub.cons rfl ?_)); done) (by (repeat (first | exact List.Sublist.refl _ | apply List.Sublist.cons_cons | apply List.Sublist.cons)); done) ⟨0, by omega, by omega, by simp, rfl, rfl⟩ ?_
  rintro _ _ H2 ⟨k, rfl, hk, hn, hH, rfl⟩
  subst hH
  repeat' (first | (refine XO.op rfl ?_; (first | ((first | refine Xo.ng rfl ?_); (first | (refine Xg.ev (EvF.move rfl rfl) rfl rfl ?_) | (refine Xg.ev (EvF.assign rfl rfl) rfl rfl ?_) | (refine Xg.ev (EvF.cmp rfl rfl rfl rfl) rfl rfl ?_) | (refine Xg.ev (EvF.lenSlice rfl rfl (te rfl)) rfl rfl ?_))))) | (refine XO.done rfl ?_; refine hK _ _ ?_; clear hK K) | refine X.seq rfl ?_ | refine X.region rfl (fun K hK => ?_) | refine X.block rfl ?_ | (refine X.brk rfl ?_; repeat (first | refine blockX_hit rfl ?_ | refine blockX_miss (by decide) ?_)) | refine X.skip rfl ?_ | refine X.ret rfl ?_ | (refine X.ite rfl rfl (fun hc => ?_); (first | (with_reducible refine Xb.case hc (fun h => ?_) (fun h => ?_))) <;> clear hc))
  · obtain ⟨b, off, e, rfl, he⟩ := hl.elem (i := k) (by omega)
    obtain ⟨b2, off2, f, rfl, hf⟩ := hm.elem (i := k) (by omega)
    rw [drop_cons he, drop_cons hf, List.cons.injEq] at hn
    repeat' (first | (refine XO.op rfl ?_; (first | ((first | refine Xo.ng rfl ?_); (first | (refine Xg.ev (EvF.move rfl rfl) rfl rfl ?_) | (refine Xg.ev (EvF.assign rfl rfl) rfl rfl ?_) | (refine Xg.ev (EvF.add64 rfl rfl rfl (by omega) (by omega)) rfl rfl ?_))))) | (refine XO.done rfl ?_; refine hK _ _ ?_; clear hK K) | (refine XQ.op rfl ?_; (first | ((first | refine Yo.ng rfl ?_); (first | (refine Yg.ev (EvF.indexSlice rfl rfl rfl (te rfl) (te rfl) (by omega) (by omega)) rfl rfl ?_) | (refine Yg.ev (EvF.loadV rfl rfl (LoadV.el0 hl he (te rfl) rfl (fun _ hm => hm) rfl)) rfl rfl ?_) | (refine Yg.ev (EvF.loadV rfl rfl (LoadV.el0 hm hf (te rfl) rfl (fun _ hm => hm) rfl)) rfl rfl ?_) | (refine Yg.ev (EvF.move rfl rfl) rfl rfl ?_) | (refine Yg.ev (EvF.cmp rfl rfl rfl rfl) rfl rfl ?_))))) | (refine XQ.done rfl ?_; refine hK _ ?_; clear hK K) | refine X.seq rfl ?_ | refine X.region rfl (fun K hK => ?_) | refine X.regionD rfl mixed (by kernel_rfl) (fun K hK => ?_) | refine X.skip rfl ?_ | refine X.ret rfl ?_ | (refine X.ite rfl rfl (fun hc => ?_); (first | (with_reducible refine Xb.caseN hc (fun h => ?_) (fun h => ?_))) <;> clear hc))
    all_goals first
      | (refine ret_one (by first | exact .inr rfl | exact .inl rfl) Try.results40 rfl (H' := H) (by (repeat (first | exact List.Sublist.refl _ | apply List.Sublist.cons)); done) ?_; simp only [and_true, true_and]; congr 1; symm; exact decide_eq_false (fun q => absurd (hn.1 q).1 (by assumption)))
      | (refine ⟨_, _, _, (by (repeat (first | exact Sub.nil _ | refine Sub.cons rfl ?_)); done), (by (repeat (first | exact List.Sublist.refl _ | apply List.Sublist.cons_cons | apply List.Sublist.cons)); done), ⟨k + 1, rfl, by omega, hn.trans (and_iff_right (by assumption)), rfl, rfl⟩, by omega⟩)
  · rw [List.drop_eq_nil_of_le (by omega), List.drop_eq_nil_of_le (by omega)] at hn
    refine ret_one (by first | exact .inr rfl | exact .inl rfl) Try.results40 rfl (H' := H) (by (repeat (first | exact List.Sublist.refl _ | apply List.Sublist.cons)); done) ?_; simp only [and_true, true_and]
    congr 1; symm; exact decide_eq_true (hn.2 rfl)
theorem Tm.ext' {R S : Tm} (h1 : R.g = S.g) (h2 : R.s = S.s) (h3 : R.price = S.price) (h4 : R.worst = S.worst) (h5 : R.short = S.short) (h6 : R.G = S.G) (h7 : R.S = S.S) (h8 : R.dl = S.dl) (h9 : R.dh = S.dh) (h10 : R.bales = S.bales) (h11 : R.fee = S.fee) : R = S := by
  cases R; cases S; simp_all
set_option maxHeartbeats 4000000 in
theorem sameT_spec (T U : Tm) (p q : Pt) (H : List Row) (hT : TmOk H T p) (hU : TmOk H U q) : Fc Try.prog 18 [.agg (cTm T p).toArray, .agg (cTm U q).toArray] H (fun v H' => v = .bool (decide (T = U)) ∧ H' = H) := by
  have hT2 : ∀ Z : List Row, TmOk (Z ++ H) T p := fun Z => hT.sub (fun _ h => List.mem_append_right _ h)
  have hU2 : ∀ Z : List Row, TmOk (Z ++ H) U q := fun Z => hU.sub (fun _ h => List.mem_append_right _ h)
  refine Fc.mk (callable Try.call18) Try.func18 rfl Try.ntmps18 rfl ?_; dsimp only [fr]
  repeat' (first | (refine XO.op rfl ?_; (first | ((first | refine Xo.ng rfl ?_ | (refine Xo.g rfl rfl ?_; with_reducible refine Xw.tt ?_)); (first | (refine Xg.ev (EvF.loadV rfl rfl (LoadV.ownAgg (vs := cCl ⟨T.g, T.s⟩) (te rfl) rfl (List.Mem.tail _ (List.Mem.head _)) rfl rfl)) rfl rfl ?_) | (refine Xg.ev (EvF.loadV rfl rfl (LoadV.ownAgg (vs := cCl ⟨U.g, U.s⟩) (te rfl) rfl (List.Mem.head _) rfl rfl)) rfl rfl ?_) | (refine Xg.ev (EvF.loadV rfl rfl (LoadV.ownAgg (vs := cSp ⟨T.dl, T.dh⟩) (te rfl) rfl (List.Mem.tail _ (List.Mem.head _)) rfl rfl)) rfl rfl ?_) | (refine Xg.ev (EvF.loadV rfl rfl (LoadV.ownAgg (vs := cSp ⟨U.dl, U.dh⟩) (te rfl) rfl (List.Mem.head _) rfl rfl)) rfl rfl ?_) | (refine Xg.ev (EvF.eqSt rfl rfl rfl (by kernel_rfl) (fun w => eqCl 9998 ⟨T.g, T.s⟩ ⟨U.g, U.s⟩ w) rfl) rfl rfl ?_) | (refine Xg.ev (EvF.eqSt rfl rfl rfl (by kernel_rfl) (fun w => eqSp 9998 ⟨T.dl, T.dh⟩ ⟨U.dl, U.dh⟩ w) rfl) rfl rfl ?_) | (refine Xg.call (EnF.st rfl (Args.cons rfl (Args.cons rfl Args.nil))) rfl rfl (sameInts_spec T.G U.G p.a1 q.a1 p.c1 q.c1 _ (hT2 [_, _]).gr (hU2 [_, _]).gr hT.l1 hU.l1) ?_; rintro _ H9 ⟨rfl, hH9⟩; subst H9) | (refine Xg.call (EnF.st rfl (Args.cons rfl (Args.cons rfl Args.nil))) rfl rfl (sameInts_spec T.S U.S p.a2 q.a2 p.c2 q.c2 _ (hT2 [_, _]).st (hU2 [_, _]).st hT.l2 hU.l2) ?_; rintro _ H9 ⟨rfl, hH9⟩; subst H9) | (refine Xg.ev (EvF.move rfl rfl) rfl rfl ?_) | (refine Xg.ev (EvF.assign rfl rfl) rfl rfl ?_) | (refine Xg.ev (EvF.pickT rfl rfl rfl) rfl rfl ?_) | (refine Xg.ev (EvF.pickF rfl rfl rfl) rfl rfl ?_) | (refine Xg.ev (EvF.cmp rfl rfl rfl rfl) rfl rfl ?_) | (refine Xg.ev (EvF.fieldAddr rfl rfl (te rfl) rfl (te rfl) (by decide)) rfl rfl ?_) | (refine Xg.ev (EvF.loadV rfl rfl (LoadV.own (te rfl) rfl (List.Mem.head _) rfl)) rfl rfl ?_) | (refine Xg.ev (EvF.loadV rfl rfl (LoadV.own (te rfl) rfl (List.Mem.tail _ (List.Mem.head _)) rfl)) rfl rfl ?_) | (refine Xg.st (StF.boxAgg rfl rfl) rfl rfl ?_; rintro _ _ ⟨bx, rfl, rfl⟩))) | (refine Xo.g rfl rfl ?_; (first | (with_reducible refine Xw.ft rfl rfl ?_) | (with_reducible refine Xw.case (fun h => ?_) (fun h => ?_) <;> simp only [h, decide_true, decide_false, Bool.not_true, Bool.not_false, and_self, and_true, true_and, and_false, false_and]))))) | (refine XO.done rfl ?_; refine hK _ _ ?_; clear hK K) | refine X.seq rfl ?_ | refine X.region rfl (fun K hK => ?_) | refine X.ret rfl ?_)
  all_goals (refine ret_one (by first | exact .inr rfl | exact .inl rfl) Try.results18 rfl (H' := H) (by (repeat (first | exact List.Sublist.refl _ | apply List.Sublist.cons)); done) ?_; simp only [and_true, true_and])
  all_goals (congr 1; (try simp only [Cl.mk.injEq, Sp.mk.injEq] at *))
  all_goals first
    | (symm; exact decide_eq_false (fun q => by subst q; simp_all; done))
    | (exact decide_eq_decide.2 ⟨fun q => Tm.ext' (by omega) (by omega) (by omega) (by omega) (by omega) (by assumption) (by assumption) (by omega) (by omega) (by omega) (by omega), fun q => by subst q; rfl⟩)
theorem great_spec (T : Tm) (p : Pt) (H : List Row) : Fc Try.prog 10 [.agg (cTm T p).toArray] H (fun v H' => v = .bool (decide (T.G.length > 30 ∨ T.S.length > 30)) ∧ H' = H) := by
  refine Fc.mk (callable Try.call10) Try.func10 rfl Try.ntmps10 rfl ?_; dsimp only [fr]
  repeat' (first | (refine XO.op rfl ?_; (first | ((first | refine Xo.ng rfl ?_ | (refine Xo.g rfl rfl ?_; with_reducible refine Xw.ff ?_)); (first | (refine Xg.ev (EvF.move rfl rfl) rfl rfl ?_) | (refine Xg.ev (EvF.assign rfl rfl) rfl rfl ?_) | (refine Xg.ev (EvF.pickT rfl rfl rfl) rfl rfl ?_) | (refine Xg.ev (EvF.pickF rfl rfl rfl) rfl rfl ?_) | (refine Xg.ev (EvF.cmp rfl rfl rfl rfl) rfl rfl ?_) | (refine Xg.ev (EvF.fieldAddr rfl rfl (te rfl) rfl (te rfl) (by decide)) rfl rfl ?_) | (refine Xg.ev (EvF.lenSlice rfl rfl (te rfl)) rfl rfl ?_) | (refine Xg.ev (EvF.loadV rfl rfl (LoadV.own (te rfl) rfl (List.Mem.head _) rfl)) rfl rfl ?_) | (refine Xg.st (StF.boxAgg rfl rfl) rfl rfl ?_; rintro _ _ ⟨bx, rfl, rfl⟩))) | (refine Xo.g rfl rfl ?_; (first | (with_reducible refine Xw.tf rfl rfl ?_) | (with_reducible refine Xw.case (fun h => ?_) (fun h => ?_) <;> simp only [h, decide_true, decide_false, Bool.not_true, Bool.not_false, and_self, and_true, true_and, and_false, false_and]))))) | (refine XO.done rfl ?_; refine hK _ _ ?_; clear hK K) | refine X.seq rfl ?_ | refine X.region rfl (fun K hK => ?_) | refine X.block rfl ?_ | refine X.skip rfl ?_ | refine X.ret rfl ?_ | (refine X.ite rfl rfl (fun hc => ?_); (first | (with_reducible refine Xb.caseN hc (fun h => ?_) (fun h => ?_))) <;> clear hc))
  all_goals (refine ret_one (by first | exact .inr rfl | exact .inl rfl) Try.results10 rfl (H' := H) (by (repeat (first | exact List.Sublist.refl _ | apply List.Sublist.cons)); done) ?_; simp only [and_true, true_and])
  all_goals (congr 1; simp only [decide_eq_decide, eq_comm (a := true), decide_eq_true_eq]; omega)
end Go.Proofs.Ytjejppodhpdckaa
end
section
set_option linter.unusedVariables false
set_option linter.unusedSimpArgs false
namespace Go.Proofs.Ytjejppodhpdckaa
open Go Go.Fw
set_option maxRecDepth 10000
def tsTw : List TOp := [⟨some 3, [], [], []⟩, ⟨some 4, [], [], []⟩, ⟨some 5, [1], [1], []⟩, ⟨some 6, [0, 1, 2], [0, 2], [0]⟩, ⟨some 7, [], [], []⟩, ⟨some 8, [], [], []⟩, ⟨some 9, [5], [5], []⟩, ⟨some 10, [0, 1, 2, 3, 4, 5, 6], [4, 6], [4]⟩, ⟨some 11, [0, 1, 2, 3, 5, 6], [], []⟩, ⟨none, [0, 1, 2, 3, 4, 5, 6, 7, 8], [8, 3], [12]⟩, ⟨some 12, [0, 1, 2, 3, 4, 5, 6, 7, 8, 9], [], []⟩, ⟨none, [0, 1, 2, 3, 4, 5, 6, 7, 8, 9, 10], [10, 7], [9]⟩, ⟨none, [], [], []⟩]
def valTw (b1 b2 : Nat) (T : Tm) (p : Pt) (k : Nat) (env : Env) : Value :=
  match k with
  | 0 => .slice (some ⟨(env 0).1, 0, none⟩) 0 0
  | 1 => .pointer (some ⟨b1, 5, none⟩)
  | 2 => .slice p.a1 T.G.length p.c1
  | 3 => .slice (some ⟨(env 3).1, 0, none⟩) T.G.length (env 3).2
  | 4 => .slice (some ⟨(env 4).1, 0, none⟩) 0 0
  | 5 => .pointer (some ⟨b1, 6, none⟩)
  | 6 => .slice p.a2 T.S.length p.c2
  | 7 => .slice (some ⟨(env 7).1, 0, none⟩) T.S.length (env 7).2
  | 8 => .pointer (some ⟨b1, 5, none⟩)
  | 9 => undef
  | 10 => .pointer (some ⟨b1, 6, none⟩)
  | 11 => undef
  | _ => undef
def rowsTw (b1 b2 : Nat) (T : Tm) (p : Pt) (k : Nat) (env : Env) : List Row :=
  match k with
  | 0 => [⟨(env 0).1, 0, [], some 3, 0 * 1⟩]
  | 3 => [⟨(env 3).1, 0, T.G.flatMap cI, some 3, (env 3).2 * 1⟩]
  | 4 => [⟨(env 4).1, 0, [], some 3, 0 * 1⟩]
  | 7 => [⟨(env 7).1, 0, T.S.flatMap cI, some 3, (env 7).2 * 1⟩]
  | 9 => [⟨b1, 0, cTm T ⟨some ⟨(env 3).1, 0, none⟩, (env 3).2, p.a2, p.c2⟩, some 28, 11⟩]
  | 11 => [⟨b1, 0, cTm T ⟨some ⟨(env 3).1, 0, none⟩, (env 3).2, some ⟨(env 7).1, 0, none⟩, (env 7).2⟩, some 28, 11⟩]
  | 12 => [⟨b1, 0, cTm T p, some 28, 11⟩]
  | _ => []
theorem locTw (b1 b2 : Nat) (T : Tm) (p : Pt) : ∀ k env i q9, i ≠ k → (tAt tsTw k).sup.contains i = false → valTw b1 b2 T p k (upd env i q9) = valTw b1 b2 T p k env ∧ rowsTw b1 b2 T p k (upd env i q9) = rowsTw b1 b2 T p k env := by
  intro k env i q hk hs
  have hu : ∀ j, j ≠ i → upd env i q j = env j := fun j hj => by unfold upd; rw [if_neg hj]
  match k, hk, hs with
  | 0, hk, hs => exact ⟨by simp only [valTw, hu 0 (fun e => hk e.symm)], by simp only [rowsTw, hu 0 (fun e => hk e.symm)]⟩
  | 1, _, _ => exact ⟨rfl, rfl⟩
  | 2, _, _ => exact ⟨rfl, rfl⟩
  | 3, hk, hs => exact ⟨by simp only [valTw, hu 3 (fun e => hk e.symm)], by simp only [rowsTw, hu 3 (fun e => hk e.symm)]⟩
  | 4, hk, hs => exact ⟨by simp only [valTw, hu 4 (fun e => hk e.symm)], by simp only [rowsTw, hu 4 (fun e => hk e.symm)]⟩
  | 5, _, _ => exact ⟨rfl, rfl⟩
  | 6, _, _ => exact ⟨rfl, rfl⟩
  | 7, hk, hs => exact ⟨by simp only [valTw, hu 7 (fun e => hk e.symm)], by simp only [rowsTw, hu 7 (fun e => hk e.symm)]⟩
  | 8, _, _ => exact ⟨rfl, rfl⟩
  | 9, hk, hs => exact ⟨by simp only [valTw, hu 3 (by rintro rfl; cases hs)], by simp only [rowsTw, hu 3 (by rintro rfl; cases hs)]⟩
  | 10, _, _ => exact ⟨rfl, rfl⟩
  | 11, hk, hs => exact ⟨by simp only [valTw, hu 3 (by rintro rfl; cases hs), hu 7 (by rintro rfl; cases hs)], by simp only [rowsTw, hu 3 (by rintro rfl; cases hs), hu 7 (by rintro rfl; cases hs)]⟩
  | 12, _, _ => exact ⟨rfl, rfl⟩
  | _ + 13, _, _ => exact ⟨rfl, rfl⟩
def rdTw (k : Nat) : List Nat := match k with
  | 2 => [12]
  | 6 => [12]
  | _ => []
set_option maxHeartbeats 4000000 in
theorem twin_spec (T : Tm) (p : Pt) (H : List Row) (hT : TmOk H T p) : Fc Try.prog 11 [.agg (cTm T p).toArray] H (fun v H' => ∃ t1 k1 t2 k2, v = .agg (cTm T ⟨some ⟨t1, 0, none⟩, k1, some ⟨t2, 0, none⟩, k2⟩).toArray ∧ H' = ⟨t1, 0, T.G.flatMap cI, some 3, k1 * 1⟩ :: ⟨t2, 0, T.S.flatMap cI, some 3, k2 * 1⟩ :: H) := by
  have l1 := hT.l1
  have l2 := hT.l2
  refine Fc.mk (callable Try.call11) Try.func11 rfl Try.ntmps11 rfl ?_; dsimp only [fr]
  refine X.seq rfl ?_; refine X.region rfl (fun K hK => ?_); repeat' (first | (refine XO.op rfl ?_; (first | ((first | refine Xo.ng rfl ?_); (first | (refine Xg.st (StF.boxAgg rfl rfl) rfl rfl ?_; rintro _ _ ⟨bx, rfl, rfl⟩) | (refine Xg.st (StF.alloc rfl Try.zeroValue28 rfl) rfl rfl ?_; rintro _ _ ⟨bx, rfl, rfl⟩))))) | (refine XO.done rfl ?_; refine hK _ _ ?_; clear hK K))
  rename_i b1; rename Nat => b2
  refine X.seq rfl ?_
  refine X.permH (H' := ⟨b1, 0, cTm T p, some 28, 11⟩ :: ⟨b2, 0, cTm Tz pz, some 28, 11⟩ :: H) (List.Perm.swap _ _ _) ?_
  refine X.regionRd tsTw rdTw [1, 2] [(1, .pointer (some ⟨b1, 0, none⟩)), (2, .pointer (some ⟨b2, 0, none⟩))] (valTw b1 b2 T p) (rowsTw b1 b2 T p) (fun _ => (0, 0)) (⟨b2, 0, cTm Tz pz, some 28, 11⟩ :: H) rfl mixed (by (repeat (first | exact Sub.nil _ | refine Sub.cons rfl ?_)); done) rfl (by kernel_rfl) (by kernel_rfl) (locTw b1 b2 T p) (List.Sublist.refl _) ?_ ?_
  · have hs : ∀ (S Z : List Row), (∀ r ∈ ⟨b2, 0, cTm Tz pz, some 28, 11⟩ :: H, r ∈ S) → TmOk (Z ++ S) T p := fun S Z hS => hT.sub (fun r hr => List.mem_append_right _ (hS r (List.mem_cons_of_mem _ hr)))
    repeat' (first | exact AllF.done rfl | (refine AllF.step rfl ?_ ?_; · (first | exact (Ob.ng rfl (ObK.pure (fun env R hR => by exact ⟨_, EvF.fieldAddr rfl rfl (te rfl) rfl (te rfl) (by decide), rfl⟩) rfl (fun _ => rfl))).toR | (refine ObR.ng rfl ?_; (first | (exact fun env S hS hrd => (StF.buildNil rfl elI).op.mono (fun v H' ⟨b, hv, hH⟩ => ⟨(b, 0), fun _ => hv, by rw [hH]; exact List.Perm.refl _⟩)) | (exact fun env S hS hrd => (StF.ofEv (EvF.loadV rfl rfl (LoadV.own (te rfl) rfl (hrd 12 (List.Mem.head _) _ (List.Mem.head _)) rfl))).op.mono (fun v H' ⟨hv, hH⟩ => ⟨(0, 0), fun _ => hv, by rw [hH]; exact List.Perm.refl _⟩)) | (exact fun env S hS hrd => (StF.appendSl (i := 0) rfl elI rfl rfl rfl (hs S [_] hS).gr (fun e _ => one_i e) rfl (by decide) (by omega)).op.mono (fun v H' ⟨b, c, hv, hH⟩ => ⟨(b, c), fun _ => by rw [hv, Nat.zero_add]; rfl, by rw [hH]; exact List.Perm.refl _⟩)) | (exact fun env S hS hrd => (StF.appendSl (i := 0) rfl elI rfl rfl rfl (hs S [_] hS).st (fun e _ => one_i e) rfl (by decide) (by omega)).op.mono (fun v H' ⟨b, c, hv, hH⟩ => ⟨(b, c), fun _ => by rw [hv, Nat.zero_add]; rfl, by rw [hH]; exact List.Perm.refl _⟩)) | (exact fun env S hS hrd => (StF.storeOne (i := 0) (cs := cTm T p) rfl rfl rfl rfl (te rfl) rfl rfl (Nat.le_of_ble_eq_true rfl)).op.mono (fun v H' ⟨hv, hH⟩ => ⟨(0, 0), fun h => absurd rfl h, by rw [hH]; exact List.Perm.refl _⟩)) | (exact fun env S hS hrd => (StF.storeOne (i := 0) (cs := cTm T ⟨some ⟨(env 3).1, 0, none⟩, (env 3).2, p.a2, p.c2⟩) rfl rfl rfl rfl (te rfl) rfl rfl (Nat.le_of_ble_eq_true rfl)).op.mono (fun v H' ⟨hv, hH⟩ => ⟨(0, 0), fun h => absurd rfl h, by rw [hH]; exact List.Perm.refl _⟩)))))))
  · intro env t ha hv
    refine ⟨_, ha, ?_⟩
    show X _ _ _ _ (⟨(env 3).1, 0, T.G.flatMap cI, some 3, (env 3).2 * 1⟩ :: ⟨(env 7).1, 0, T.S.flatMap cI, some 3, (env 7).2 * 1⟩ :: ⟨b1, 0, cTm T ⟨some ⟨(env 3).1, 0, none⟩, (env 3).2, some ⟨(env 7).1, 0, none⟩, (env 7).2⟩, some 28, 11⟩ :: ⟨b2, 0, cTm Tz pz, some 28, 11⟩ :: H) _
    repeat' (first | (refine XO.op rfl ?_; (first | ((first | refine Xo.ng rfl ?_); (first | (refine Xg.ev (EvF.loadV rfl rfl (LoadV.whole (te rfl) rfl (List.Mem.tail _ (List.Mem.tail _ (List.Mem.head _))) rfl)) rfl rfl ?_) | (refine Xg.st0 (StF.storeAll (i := 3) rfl rfl rfl (te rfl) rfl rfl rfl rfl) rfl ?_; rintro _ _ ⟨rfl, rfl⟩; dsimp only [List.set]))))) | (refine XO.done rfl ?_; refine hK _ _ ?_; clear hK K) | refine X.seq rfl ?_ | refine X.region rfl (fun K hK => ?_) | refine X.ret rfl ?_)
    exact ret_one (by first | exact .inr rfl | exact .inl rfl) Try.results11 ⟨_, rfl, LoadV.whole (te rfl) rfl (List.Mem.tail _ (List.Mem.tail _ (List.Mem.tail _ (List.Mem.head _)))) rfl⟩ (H' := ⟨(env 3).1, 0, T.G.flatMap cI, some 3, (env 3).2 * 1⟩ :: ⟨(env 7).1, 0, T.S.flatMap cI, some 3, (env 7).2 * 1⟩ :: H) (by (repeat (first | exact List.Sublist.refl _ | apply List.Sublist.cons_cons | apply List.Sublist.cons)); done) ⟨_, _, _, _, rfl, rfl⟩
theorem cls_lo1 (T : Tm) (c : Cl) : cls T (lo1 c) = if may T c then [c] else [] := by
  have e : ∀ a : Int, ir a a = [a] := fun a => by unfold ir; rw [show (a - a + 1).toNat = 1 by omega]; simp
  unfold cls clsI lo1
  simp only [e, rowC, List.flatMap_cons, List.flatMap_nil, List.map_cons, List.map_nil, List.append_nil, List.filter_cons, List.filter_nil]
end Go.Proofs.Ytjejppodhpdckaa
end
section
set_option linter.unusedVariables false
set_option linter.unusedSimpArgs false
namespace Go.Fw
open Go
theorem EvF.eqSelf {P : Program} {n : Nat} {H : List Row} {F : FS} {o : Oper} {T T' : TypeId} {x y : Operand} {k : IntKind} {p : Int} (h : o.op = .binOp .eql T x y T') (hx : evF F x = some (.int k p)) (hy : evF F y = some (.int k p)) : EvF P n H F o (.bool true) := by
  have := EvF.cmp (P := P) (n := n) (H := H) h hx hy rfl
  rwa [decide_eq_true rfl] at this
theorem EvF.eqSelfB {P : Program} {n : Nat} {H : List Row} {F : FS} {o : Oper} {T T' : TypeId} {x y : Operand} {p : Bool} (h : o.op = .binOp .eql T x y T') (hx : evF F x = some (.bool p)) (hy : evF F y = some (.bool p)) (hu : P.underlying T = some .bool) : EvF P n H F o (.bool true) := by
  have := EvF.cmpB (P := P) (n := n) (H := H) h hx hy hu rfl
  rwa [beq_self_eq_true] at this
end Go.Fw
namespace Go.Proofs.Ytjejppodhpdckaa
open Go Go.Fw
set_option maxRecDepth 10000
theorem sameT_self (T : Tm) (p q : Pt) (H : List Row) (hT : TmOk H T p) (hU : TmOk H T q) : Fc Try.prog 18 [.agg (cTm T p).toArray, .agg (cTm T q).toArray] H (fun v H' => v = .bool true ∧ H' = H) :=
  (sameT_spec T T p q H hT hU).mono (fun v H' ⟨h1, h2⟩ => ⟨by rw [h1, decide_eq_true rfl], h2⟩)
theorem greatT (T : Tm) (p : Pt) (h : T.G.length > 30 ∨ T.S.length > 30) (H : List Row) : Fc Try.prog 10 [.agg (cTm T p).toArray] H (fun v H' => v = .bool true ∧ H' = H) := by
  have := great_spec T p H
  rwa [decide_eq_true h] at this
theorem greatF (T : Tm) (p : Pt) (h : ¬ (T.G.length > 30 ∨ T.S.length > 30)) (H : List Row) : Fc Try.prog 10 [.agg (cTm T p).toArray] H (fun v H' => v = .bool false ∧ H' = H) := by
  have := great_spec T p H
  rwa [decide_eq_false h] at this
theorem ownT (T : Tm) (t1 k1 t2 k2 : Nat) (H : List Row) (l1 : T.G.length ≤ 1000000) (l2 : T.S.length ≤ 1000000) (m1 : (⟨t1, 0, T.G.flatMap cI, some 3, k1 * 1⟩ : Row) ∈ H) (m2 : (⟨t2, 0, T.S.flatMap cI, some 3, k2 * 1⟩ : Row) ∈ H) : TmOk H T ⟨some ⟨t1, 0, none⟩, k1, some ⟨t2, 0, none⟩, k2⟩ :=
  ⟨SlE.ofRow m1 (fun _ _ => rfl), SlE.ofRow m2 (fun _ _ => rfl), l1, l2⟩
end Go.Proofs.Ytjejppodhpdckaa
end
section
set_option linter.unusedVariables false
namespace Go.Proofs.Ytjejppodhpdckaa
open Go Go.Fw Go.ChangeShapes Go.WideShapes Go.ChangeAt Go.RowKit
set_option linter.unusedVariables false
set_option maxRecDepth 100000
instance : Inhabited Sp := ⟨⟨0, 0⟩⟩
instance : Inhabited Cl := ⟨⟨0, 0⟩⟩
section
variable {H : Type} {enc : TypeId × Value → H} {w : World} {base : Nat} {spare : Nat → Bool} {held : Bool} {fuel : Nat} {cs : List Value} {x : DataW H × List MemPlace}
theorem open_i (h : DataW.trod enc Try.prog w base spare held fuel 3 cs = some x) : ∃ q : Int, cs = cI q ∧ True := by
  obtain ⟨q, h1, _⟩ := trod_i (te rfl) h
  exact ⟨q, h1, trivial⟩
theorem open_sp (h : DataW.trod enc Try.prog w base spare held fuel 26 cs = some x) : ∃ q : Sp, cs = cSp q ∧ True := by
  obtain ⟨hl, hf⟩ := trod_st (te rfl) h
  obtain ⟨n0, y0, h0⟩ := hf 0 0 3 _ rfl (te rfl)
  obtain ⟨n1, y1, h1⟩ := hf 1 1 3 _ rfl (te rfl)
  match cs, hl with
  | [a, b], _ =>
    obtain ⟨lo, e0, w0⟩ := open_i h0
    obtain ⟨hi, e1, w1⟩ := open_i h1
    simp [cI] at e0 e1
    subst e0 e1
    exact ⟨⟨lo, hi⟩, rfl, trivial⟩
theorem open_cl (h : DataW.trod enc Try.prog w base spare held fuel 23 cs = some x) : ∃ q : Cl, cs = cCl q ∧ True := by
  obtain ⟨hl, hf⟩ := trod_st (te rfl) h
  obtain ⟨n0, y0, h0⟩ := hf 0 0 3 _ rfl (te rfl)
  obtain ⟨n1, y1, h1⟩ := hf 1 1 3 _ rfl (te rfl)
  match cs, hl with
  | [a, b], _ =>
    obtain ⟨lo, e0, w0⟩ := open_i h0
    obtain ⟨hi, e1, w1⟩ := open_i h1
    simp [cI] at e0 e1
    subst e0 e1
    exact ⟨⟨lo, hi⟩, rfl, trivial⟩
end
structure InTm (w : World) (T : Tm) (p : Pt) : Prop where
  gr : InSl w p.a1 cI 1 T.G
  st : InSl w p.a2 cI 1 T.S
def rowsTm (T : Tm) (p : Pt) : List Row := rowsOf p.a1 cI T.G ++ rowsOf p.a2 cI T.S
theorem InTm.ok {w : World} {T : Tm} {p : Pt} {N : Nat} (h : InTm w T p) : ∀ r ∈ rowsTm T p, r.own = none ∧ r.ok N w := by
  intro r hr
  rcases List.mem_append.1 hr with hr | hr
  · exact h.gr.ok r hr
  · exact h.st.ok r hr
theorem InTm.g {w : World} {T : Tm} {p : Pt} (h : InTm w T p) {H : List Row} (hs : ∀ r ∈ rowsTm T p, r ∈ H) : SlE H p.a1 cI 1 T.G := h.gr.sl (fun r hr => hs r (List.mem_append_left _ hr))
theorem InTm.s {w : World} {T : Tm} {p : Pt} (h : InTm w T p) {H : List Row} (hs : ∀ r ∈ rowsTm T p, r ∈ H) : SlE H p.a2 cI 1 T.S := h.st.sl (fun r hr => hs r (List.mem_append_right _ hr))
section
variable {H : Type} {enc : TypeId × Value → H} {w : World} {base : Nat} {spare : Nat → Bool} {held : Bool} {v : Value} {d : DataW H} {p : List MemPlace} {r : Reach} {b0 : Nat}
theorem open_terms (hv : Value.okWide Try.prog w r b0 28 v) (h : DataW.Trod enc Try.prog w base spare held 28 v d p) : ∃ T pl, v = .agg (cTm T pl).toArray ∧ InTm w T pl := by
  obtain ⟨fa, hu, _⟩ := ti_struct (te (T := 28) rfl)
  obtain ⟨⟨cs⟩, rfl, _⟩ := okWide_struct hu hv
  obtain ⟨fuel, hf⟩ := h
  obtain ⟨hl, hf⟩ := trod_st (te rfl) hf
  obtain ⟨n0, y0, h0⟩ := hf 0 0 23 _ rfl (te rfl)
  obtain ⟨n1, y1, h1⟩ := hf 1 2 3 _ rfl (te rfl)
  obtain ⟨n2, y2, h2⟩ := hf 2 3 3 _ rfl (te rfl)
  obtain ⟨n3, y3, h3⟩ := hf 3 4 3 _ rfl (te rfl)
  obtain ⟨n4, y4, h4⟩ := hf 4 5 24 _ rfl (te rfl)
  obtain ⟨n5, y5, h5⟩ := hf 5 6 24 _ rfl (te rfl)
  obtain ⟨n6, y6, h6⟩ := hf 6 7 26 _ rfl (te rfl)
  obtain ⟨n7, y7, h7⟩ := hf 7 9 3 _ rfl (te rfl)
  obtain ⟨n8, y8, h8⟩ := hf 8 10 3 _ rfl (te rfl)
  match cs, hl with
  | [a, b, c, d, e, f, g, i, j, k, l], _ =>
    obtain ⟨q0, e0, w0⟩ := open_cl h0
    obtain ⟨q1, e1, w1⟩ := open_i h1
    obtain ⟨q2, e2, w2⟩ := open_i h2
    obtain ⟨q3, e3, w3⟩ := open_i h3
    obtain ⟨q6, e6, w6⟩ := open_sp h6
    obtain ⟨q7, e7, w7⟩ := open_i h7
    obtain ⟨q8, e8, w8⟩ := open_i h8
    simp [cI, cSp, cCl, Value.cells] at e0 e1 e2 e3 e6 e7 e8
    obtain ⟨l4, a4, c4, e4, i4, _, k4⟩ := open_sl (te rfl) (te rfl) rfl (by decide) (fun _ _ _ => open_i) (fun _ => rfl) h4
    obtain ⟨l5, a5, c5, e5, i5, _, k5⟩ := open_sl (te rfl) (te rfl) rfl (by decide) (fun _ _ _ => open_i) (fun _ => rfl) h5
    obtain ⟨e01, e02⟩ := e0
    obtain ⟨e61, e62⟩ := e6
    subst e01 e02 e1 e2 e3 e4 e5 e61 e62 e7 e8
    exact ⟨⟨q0.g, q0.s, q1, q2, q3, l4, l5, q6.lo, q6.hi, q7, q8⟩, ⟨a4, c4, a5, c5⟩, rfl, i4, i5⟩
theorem open_span (hv : Value.okWide Try.prog w r b0 26 v) (h : DataW.Trod enc Try.prog w base spare held 26 v d p) : ∃ q : Sp, v = .agg (cSp q).toArray := by
  obtain ⟨fa, hu, _⟩ := ti_struct (te (T := 26) rfl)
  obtain ⟨⟨cs⟩, rfl, _⟩ := okWide_struct hu hv
  obtain ⟨fuel, hf⟩ := h
  obtain ⟨q, rfl, _⟩ := open_sp hf
  exact ⟨q, rfl⟩
theorem open_int (hv : Value.okWide Try.prog w r b0 3 v) : ∃ q : Int, v = .int .i64 q := okWide_int Try.underlying3 hv
end
theorem ownK : ownKnob Try.prog.godebug = none := by kernel_rfl
theorem laidO : laidOutB Try.prog = true := by kernel_rfl
end Go.Proofs.Ytjejppodhpdckaa
end
section
set_option linter.unusedVariables false
set_option linter.unusedSimpArgs false
namespace Go.Proofs.Ytjejppodhpdckaa
open Go Go.Fw
set_option maxRecDepth 10000
theorem at1_bd {l : List Int} (h : ∀ n ∈ l, -1000 ≤ n ∧ n ≤ 1000) (i : Int) : -1000 ≤ at1 l i ∧ at1 l i ≤ 1000 := by
  unfold at1
  rw [List.getD_eq_getElem?_getD]
  cases e : l[(i - 1).toNat]? with
  | none => exact ⟨by decide, by decide⟩
  | some x => exact h x (List.mem_of_getElem? e)
theorem val_bd {T : Tm} (h : tmOk T) (g s : Int) : -2000 ≤ val T g s ∧ val T g s ≤ 1002000 := by
  have h1 := at1_bd h.gr.2 g
  have h2 := at1_bd h.st.2 s
  have h3 := h.num.1
  unfold val
  omega
/-- a list of numbers of one's own, or none -/
def OutI (k : List Int) (v : Value) (Z : List Row) : Prop := (k = [] ∧ v = .slice none 0 0 ∧ Z = []) ∨ ∃ b q, v = .slice (some ⟨b, 0, none⟩) k.length q ∧ Z = [⟨b, 0, k.flatMap cI, some 3, q * 1⟩]
theorem OutI.nil : OutI [] (.slice none 0 0) [] := .inl ⟨rfl, rfl, rfl⟩
end Go.Proofs.Ytjejppodhpdckaa
end
section
set_option linter.unusedVariables false
set_option linter.unusedSimpArgs false
namespace Go.Proofs.Ytjejppodhpdckaa
open Go Go.Fw
set_option maxRecDepth 10000
/-- the least, the greatest of some numbers -/
def minL : List Int → Int
  | [] => 0
  | x :: l => l.foldl min x
theorem minL_snoc : ∀ {l : List Int} (x : Int), 0 < l.length → minL (l ++ [x]) = min (minL l) x
  | y :: l, x, _ => by
    show (l ++ [x]).foldl min y = min (l.foldl min y) x
    rw [List.foldl_append]; rfl
def maxL : List Int → Int
  | [] => 0
  | x :: l => l.foldl max x
theorem maxL_snoc : ∀ {l : List Int} (x : Int), 0 < l.length → maxL (l ++ [x]) = max (maxL l) x
  | y :: l, x, _ => by
    show (l ++ [x]).foldl max y = max (l.foldl max y) x
    rw [List.foldl_append]; rfl
theorem minI_spec (l : List Int) (a : Option Addr) (c : Nat) (H : List Row) (hl : SlE H a cI 1 l) (hb : l.length ≤ 1000000) (h0 : 0 < l.length) :
    Fc Try.prog 78 [.slice a l.length c] H (fun v H' => v = .int .i64 (minL l) ∧ H' = H) := by
  obtain ⟨b, off, x, rfl, hx⟩ := hl.elem (i := 0) (by omega)
  refine Fc.mk (callable Try.call78) Try.func78 rfl Try.ntmps78 rfl ?_; dsimp only [fr]
  repeat' (first | (refine XO.op rfl ?_; (first | ((first | refine Xo.ng rfl ?_); (first | (refine Xg.ev (EvF.indexSlice rfl rfl rfl (te rfl) (te rfl) (by omega) (by omega)) rfl rfl ?_) | (refine Xg.ev (EvF.loadV rfl rfl (LoadV.el1 hl hx (te rfl) rfl (fun _ hm => hm) rfl)) rfl rfl ?_) | (refine Xg.ev (EvF.move rfl rfl) rfl rfl ?_) | (refine Xg.ev (EvF.assign rfl rfl) rfl rfl ?_) | (refine Xg.ev (EvF.cmp rfl rfl rfl rfl) rfl rfl ?_) | (refine Xg.ev (EvF.lenSlice rfl rfl (te rfl)) rfl rfl ?_))))) | (refine XO.done rfl ?_; refine hK _ _ ?_; clear hK K) | refine X.seq rfl ?_ | refine X.region rfl (fun K hK => ?_) | refine X.block rfl ?_ | refine X.skip rfl ?_ | (refine X.ite rfl rfl (fun hc => ?_); (first | (with_reducible refine Xb.case hc (fun h => ?_) (fun h => ?_))) <;> clear hc))
  all_goals try (exfalso; omega)
  have h1 : minL (l.take 1) = x := by rw [show (1 : Nat) = 0 + 1 from rfl, take_snoc hx]; rfl
  refine X.lp rfl (fun q F' H' => ∃ k : Nat, q = l.length - k ∧ 1 ≤ k ∧ k ≤ l.length ∧ H = H' ∧
      F' = [(0, .slice (some ⟨b, off, none⟩) l.length c), (3, .int .i64 (minL (l.take k))), (4, .int .i64 k)])
    (l.length - 1) [(0, .slice (some ⟨b, off, none⟩) l.length c), (3, .int .i64 (minL (l.take 1))), (4, .int .i64 (1 : Nat))] _ (by rw [h1]; exact (by (repeat (first | exact Sub.nil _ | refine Sub.cons rfl ?_)); done)) (by (repeat (first | exact List.Sublist.refl _ | apply List.Sublist.cons_cons | apply List.Sublist.cons)); done) ⟨1, rfl, by omega, by omega, rfl, rfl⟩ ?_
  rintro _ _ H2 ⟨k, rfl, hk1, hk, hH, rfl⟩
  subst hH
  repeat' (first | (refine XO.op rfl ?_; (first | ((first | refine Xo.ng rfl ?_); (first | (refine Xg.ev (EvF.move rfl rfl) rfl rfl ?_) | (refine Xg.ev (EvF.assign rfl rfl) rfl rfl ?_) | (refine Xg.ev (EvF.cmp rfl rfl rfl rfl) rfl rfl ?_) | (refine Xg.ev (EvF.lenSlice rfl rfl (te rfl)) rfl rfl ?_) | (refine Xg.ev (EvF.indexSlice rfl rfl rfl (te rfl) (te rfl) (by omega) (by omega)) rfl rfl ?_))))) | (refine XO.done rfl ?_; refine hK _ _ ?_; clear hK K) | refine X.seq rfl ?_ | refine X.region rfl (fun K hK => ?_) | refine X.block rfl ?_ | (refine X.brk rfl ?_; repeat (first | refine blockX_hit rfl ?_ | refine blockX_miss (by decide) ?_)) | refine X.skip rfl ?_ | refine X.ret rfl ?_ | (refine X.ite rfl rfl (fun hc => ?_); (first | (with_reducible refine Xb.case hc (fun h => ?_) (fun h => ?_))) <;> clear hc))
  · obtain ⟨y, hy⟩ : ∃ y, l[k]? = some y := ⟨_, List.getElem?_eq_getElem (by omega)⟩
    repeat' (first | (refine XO.op rfl ?_; (first | ((first | refine Xo.ng rfl ?_); (first | (refine Xg.ev (EvF.loadV rfl rfl (LoadV.el0 hl hy (te rfl) rfl (fun _ hm => hm) rfl)) rfl rfl ?_) | (refine Xg.ev (EvF.move rfl rfl) rfl rfl ?_) | (refine Xg.ev (EvF.assign rfl rfl) rfl rfl ?_) | (refine Xg.ev (EvF.add64 rfl rfl rfl (by omega) (by omega)) rfl rfl ?_) | (refine Xg.ev (EvF.min64 rfl rfl rfl) rfl rfl ?_))))) | (refine XO.done rfl ?_; refine hK _ _ ?_; clear hK K) | refine X.region rfl (fun K hK => ?_))
    refine ⟨_, _, _, (by rw [take_snoc hy, minL_snoc y (by rw [List.length_take]; omega)]; exact (by (repeat (first | exact Sub.nil _ | refine Sub.cons rfl ?_)); done)), (by (repeat (first | exact List.Sublist.refl _ | apply List.Sublist.cons_cons | apply List.Sublist.cons)); done), ⟨k + 1, rfl, by omega, by omega, rfl, rfl⟩, by omega⟩
  · obtain rfl : k = l.length := by omega
    rw [List.take_length]
    refine ret_one (by first | exact .inr rfl | exact .inl rfl) Try.results78 rfl (H' := H) (by (repeat (first | exact List.Sublist.refl _ | apply List.Sublist.cons)); done) ?_; simp only [and_true, true_and]
theorem maxI_spec (l : List Int) (a : Option Addr) (c : Nat) (H : List Row) (hl : SlE H a cI 1 l) (hb : l.length ≤ 1000000) (h0 : 0 < l.length) :
    Fc Try.prog 79 [.slice a l.length c] H (fun v H' => v = .int .i64 (maxL l) ∧ H' = H) := by
  obtain ⟨b, off, x, rfl, hx⟩ := hl.elem (i := 0) (by omega)
  refine Fc.mk (callable Try.call79) Try.func79 rfl Try.ntmps79 rfl ?_; dsimp only [fr]
  repeat' (first | (refine XO.op rfl ?_; (first | ((first | refine Xo.ng rfl ?_); (first | (refine Xg.ev (EvF.indexSlice rfl rfl rfl (te rfl) (te rfl) (by omega) (by omega)) rfl rfl ?_) | (refine Xg.ev (EvF.loadV rfl rfl (LoadV.el1 hl hx (te rfl) rfl (fun _ hm => hm) rfl)) rfl rfl ?_) | (refine Xg.ev (EvF.move rfl rfl) rfl rfl ?_) | (refine Xg.ev (EvF.assign rfl rfl) rfl rfl ?_) | (refine Xg.ev (EvF.cmp rfl rfl rfl rfl) rfl rfl ?_) | (refine Xg.ev (EvF.lenSlice rfl rfl (te rfl)) rfl rfl ?_))))) | (refine XO.done rfl ?_; refine hK _ _ ?_; clear hK K) | refine X.seq rfl ?_ | refine X.region rfl (fun K hK => ?_) | refine X.block rfl ?_ | refine X.skip rfl ?_ | (refine X.ite rfl rfl (fun hc => ?_); (first | (with_reducible refine Xb.case hc (fun h => ?_) (fun h => ?_))) <;> clear hc))
  all_goals try (exfalso; omega)
  have h1 : maxL (l.take 1) = x := by rw [show (1 : Nat) = 0 + 1 from rfl, take_snoc hx]; rfl
  refine X.lp rfl (fun q F' H' => ∃ k : Nat, q = l.length - k ∧ 1 ≤ k ∧ k ≤ l.length ∧ H = H' ∧
      F' = [(0, .slice (some ⟨b, off, none⟩) l.length c), (3, .int .i64 (maxL (l.take k))), (4, .int .i64 k)])
    (l.length - 1) [(0, .slice (some ⟨b, off, none⟩) l.length c), (3, .int .i64 (maxL (l.take 1))), (4, .int .i64 (1 : Nat))] _ (by rw [h1]; exact (by (repeat (first | exact Sub.nil _ | refine Sub.cons rfl ?_)); done)) (by (repeat (first | exact List.Sublist.refl _ | apply List.Sublist.cons_cons | apply List.Sublist.cons)); done) ⟨1, rfl, by omega, by omega, rfl, rfl⟩ ?_
  rintro _ _ H2 ⟨k, rfl, hk1, hk, hH, rfl⟩
  subst hH
  repeat' (first | (refine XO.op rfl ?_; (first | ((first | refine Xo.ng rfl ?_); (first | (refine Xg.ev (EvF.move rfl rfl) rfl rfl ?_) | (refine Xg.ev (EvF.assign rfl rfl) rfl rfl ?_) | (refine Xg.ev (EvF.cmp rfl rfl rfl rfl) rfl rfl ?_) | (refine Xg.ev (EvF.lenSlice rfl rfl (te rfl)) rfl rfl ?_) | (refine Xg.ev (EvF.indexSlice rfl rfl rfl (te rfl) (te rfl) (by omega) (by omega)) rfl rfl ?_))))) | (refine XO.done rfl ?_; refine hK _ _ ?_; clear hK K) | refine X.seq rfl ?_ | refine X.region rfl (fun K hK => ?_) | refine X.block rfl ?_ | (refine X.brk rfl ?_; repeat (first | refine blockX_hit rfl ?_ | refine blockX_miss (by decide) ?_)) | refine X.skip rfl ?_ | refine X.ret rfl ?_ | (refine X.ite rfl rfl (fun hc => ?_); (first | (with_reducible refine Xb.case hc (fun h => ?_) (fun h => ?_))) <;> clear hc))
  · obtain ⟨y, hy⟩ : ∃ y, l[k]? = some y := ⟨_, List.getElem?_eq_getElem (by omega)⟩
    repeat' (first | (refine XO.op rfl ?_; (first | ((first | refine Xo.ng rfl ?_); (first | (refine Xg.ev (EvF.loadV rfl rfl (LoadV.el0 hl hy (te rfl) rfl (fun _ hm => hm) rfl)) rfl rfl ?_) | (refine Xg.ev (EvF.move rfl rfl) rfl rfl ?_) | (refine Xg.ev (EvF.assign rfl rfl) rfl rfl ?_) | (refine Xg.ev (EvF.add64 rfl rfl rfl (by omega) (by omega)) rfl rfl ?_) | (refine Xg.ev (EvF.max64 rfl rfl rfl) rfl rfl ?_))))) | (refine XO.done rfl ?_; refine hK _ _ ?_; clear hK K) | refine X.region rfl (fun K hK => ?_))
    refine ⟨_, _, _, (by rw [take_snoc hy, maxL_snoc y (by rw [List.length_take]; omega)]; exact (by (repeat (first | exact Sub.nil _ | refine Sub.cons rfl ?_)); done)), (by (repeat (first | exact List.Sublist.refl _ | apply List.Sublist.cons_cons | apply List.Sublist.cons)); done), ⟨k + 1, rfl, by omega, by omega, rfl, rfl⟩, by omega⟩
  · obtain rfl : k = l.length := by omega
    rw [List.take_length]
    refine ret_one (by first | exact .inr rfl | exact .inl rfl) Try.results79 rfl (H' := H) (by (repeat (first | exact List.Sublist.refl _ | apply List.Sublist.cons)); done) ?_; simp only [and_true, true_and]
end Go.Proofs.Ytjejppodhpdckaa
end
section
set_option linter.unusedVariables false
set_option linter.unusedSimpArgs false
namespace Go.Proofs.Ytjejppodhpdckaa
open Go Go.Fw
set_option maxRecDepth 10000
/-- where tables of one's own lie -/
def plT (t1 k1 t2 k2 : Nat) : Pt := ⟨some ⟨t1, 0, none⟩, k1, some ⟨t2, 0, none⟩, k2⟩
def rI (l : List Int) (b k : Nat) : Row := ⟨b, 0, l.flatMap cI, some 3, k * 1⟩
end Go.Proofs.Ytjejppodhpdckaa
end
section
set_option linter.unusedVariables false
namespace Go.Fw
open Go Go.RowKit
def okOp3 (sm : List Nat) (ts : List TOp) (dom : List Nat) (n m : Nat) (i : Nat) (o : Oper) : Bool :=
  let T := tAt ts i
  (match o.guard with | some (j, _) => T.sup.contains j | none => true) && (o.dst == T.dst) &&
  (match T.dst with | some d => decide (d < n) && (!dom.contains d || sm.contains i) && (List.range i).all (fun j => (tAt ts j).dst != some d) | none => true) &&
  o.after.toList.all (fun e => !Region.binds .any e || decide (e.on < i)) &&
  T.sup.all (fun j => decide (j < i) && o.after.toList.any (fun e => Region.binds .any e && (e.on == j || (tAt ts e.on).sup.contains j))) &&
  T.deps.all (fun j => T.sup.contains j) && T.kills.all (fun k => T.sup.contains k || decide (m ≤ k ∧ k < ts.length))
def okReg3 (sm : List Nat) (ops : Array Oper) (ts : List TOp) (dom : List Nat) (n : Nat) : Bool :=
  decide (ops.size ≤ ts.length) && ops.toList.zipIdx.all (fun p => okOp3 sm ts dom n ops.size p.2 p.1) && decide ((ts.flatMap (·.kills)).Nodup) && (ts.drop ops.size).all (fun T => T.kills.isEmpty && T.sup.isEmpty)


end Go.Fw
end
section
set_option linter.unusedVariables false
namespace Go.Fw
open Go Go.RowKit
def reF (ts : List TOp) (F0 : FS) (i0 d0 : Nat) (u0 : Value) (i : Nat) : FS := match (tAt ts i0).sup.contains i with | true => (d0, u0) :: F0 | false => F0
theorem wpAny_ob4 {P : Program} {n : Nat} {ops : Array Oper} {ts : List TOp} {dom : List Nat} {F0 : FS} {sm : List Nat} (hd : F0.map (·.1) = dom) (hok : okReg3 sm ops ts dom n = true) (rd : Nat → List Nat) (hrd : okRd ts rd ops.size = true) (val : Nat → Env → Value) (rows : Nat → Env → List Row)
    (hloc : ∀ k env i p, i ≠ k → (tAt ts k).sup.contains i = false → val k (upd env i p) = val k env ∧ rows k (upd env i p) = rows k env)
    (hsm : ∀ i d, sm.contains i = true → (tAt ts i).dst = some d → ∀ env v, lk F0 d = some v → val i env = v)
    {d0 i0 : Nat} {u0 : Value} (hre : (tAt ts i0).dst = some d0) (hi0 : i0 < ops.size)
    (R0 : List Row) (hob : ∀ i o, opAt ops.toList i = some o → ObR P n ts rd val rows (reF ts F0 i0 d0 u0 i) R0 i o)
    {Q : QT} (hQ : ∀ env t, Ag n F0 t → (∀ i d, i < ops.size → (tAt ts i).dst = some d → t[d]? = some (val i env)) → Q .normal t ((alive ts).flatMap (fun k => rows k env) ++ R0))
    {ρ : Option Nat} {ds : List Deferred} {B : Nat} {w0 : World} :
    ∀ (fuel : Nat) (listed : Array Bool) (U A : List Nat) (t : List Value) (H : List Row) (w : World) (env : Env), listed.size = ops.size → U.length = fuel → U.Nodup → (∀ k, k ∈ U ↔ k < ops.size ∧ listed.getD k true = false) →
      (∀ k, k < ops.size → listed.getD k true = true → ∀ j, (tAt ts k).sup.contains j = true → listed.getD j true = true) →
      A.Nodup → (∀ k, k ∈ A ↔ k < ts.length ∧ listed.getD k true = true ∧ ∀ j, j < ops.size → listed.getD j true = true → k ∉ (tAt ts j).kills) →
      Ag n F0 t → (listed.getD i0 true = false → t[d0]? = some u0) → (∀ k d, k < ops.size → listed.getD k true = true → (tAt ts k).dst = some d → t[d]? = some (val k env)) →
      St B w0 H w → H.Perm (R0 ++ A.flatMap (fun k => rows k env)) → wpAnyIn (wf ρ) 0 P .any ops (lift ds B w0 Q) fuel listed ⟨t.toArray, ds⟩ w := by
  unfold okReg3 at hok
  simp only [Bool.and_eq_true, decide_eq_true_eq] at hok
  obtain ⟨⟨⟨hlen, hops⟩, hkn⟩, hps⟩ := hok
  have hopAt : ∀ i o, ops[i]? = some o → okOp3 sm ts dom n ops.size i o = true := by
    intro i o hi
    have := List.all_eq_true.1 hops (o, i) (by
      rw [List.mem_zipIdx_iff_getElem?]; simpa using hi)
    exact this
  intro fuel
  induction fuel with
  | zero =>
    intro listed U A t H w env hls hUl hUn hU hcl hAn hA hag hr0 hv hS hH
    have hU0 : U = [] := List.eq_nil_of_length_eq_zero hUl
    subst hU0
    have hall : ∀ k, listed.getD k true = true := by
      intro k
      cases hk : listed.getD k true with
      | true => rfl
      | false =>
        by_cases h1 : k < ops.size
        · exact absurd ((hU k).2 ⟨h1, hk⟩) (by simp)
        · rw [Array.getD_eq_getD_getElem?, Array.getElem?_eq_none (by omega)] at hk; cases hk
    refine ⟨?_, rfl, _, ?_, hS.perm (H' := (alive ts).flatMap (fun k => rows k env) ++ R0) ?_⟩
    · unfold Region.ready
      rw [List.filter_eq_nil_iff]
      intro k _
      rw [hall]; simp
    · have := hQ env t hag (fun i d hi hd => hv i d hi (hall i) hd)
      simpa using this
    · refine List.perm_append_comm.trans ((List.Perm.append_left R0 (List.Perm.flatMap_right _ ?_)).trans hH.symm)
      refine perm_of_mem ((List.nodup_range).sublist List.filter_sublist) hAn fun k => ?_
      rw [hA, alive, List.mem_filter, List.mem_range]
      simp only [hall, true_and, Bool.not_eq_true', List.contains_eq_mem, decide_eq_false_iff_not, true_implies]
      refine and_congr_right fun _ => ⟨fun h j _ hj => h (tAt_mem hj), fun h hm => ?_⟩
      obtain ⟨T, hT, hk⟩ := List.mem_flatMap.1 hm
      obtain ⟨j, hj, rfl⟩ := List.mem_iff_getElem.1 hT
      by_cases hj' : j < ops.size
      · exact h j hj' (by unfold tAt; simp [List.getD, hj, hk])
      · have := List.all_eq_true.1 hps ts[j] (by
          rw [List.mem_iff_getElem?]
          exact ⟨j - ops.size, by rw [List.getElem?_drop, show ops.size + (j - ops.size) = j by omega, List.getElem?_eq_getElem hj]⟩)
        simp only [Bool.and_eq_true, List.isEmpty_iff] at this
        rw [this.1] at hk; cases hk
  | succ fuel ih =>
    intro listed U A t H w env hls hUl hUn hU hcl hAn hA hag hr0 hv hS hH
    have hge : ∀ k, ops.size ≤ k → listed.getD k true = true := fun k hk => by rw [Array.getD_eq_getD_getElem?, Array.getElem?_eq_none (by omega)]; rfl
    have hgd : ∀ k, k < ops.size → listed.getD k false = listed.getD k true := fun k hk => by
      rw [Array.getD_eq_getD_getElem?, Array.getD_eq_getD_getElem?, Array.getElem?_eq_getElem (by omega)]; rfl
    refine ⟨fun h0 => ?_, fun i hi => ?_⟩
    · exfalso
      have key : ∀ m, m ∈ U → False := by
        intro m
        induction m using Nat.strongRecOn with
        | _ m ihm =>
          intro hm
          obtain ⟨hms, hml⟩ := (hU m).1 hm
          obtain ⟨o, ho⟩ : ∃ o, ops[m]? = some o := ⟨ops[m], Array.getElem?_eq_getElem hms⟩
          have hc := hopAt m o ho
          unfold okOp3 at hc
          simp only [Bool.and_eq_true] at hc
          obtain ⟨⟨⟨⟨_, haf⟩, _⟩, _⟩, _⟩ := hc
          by_cases hal : o.after.all (fun e => !Region.binds .any e || listed.getD e.on false) = true
          · have : m ∈ Region.ready .any ops listed := by
              unfold Region.ready
              rw [List.mem_filter]
              refine ⟨List.mem_range.2 hms, ?_⟩
              rw [hml, ho]
              simp only [Option.map_some, Option.getD_some, Bool.not_false, Bool.true_and]
              exact hal
            rw [h0] at this; cases this
          · have : ∃ e ∈ o.after, ¬ ((!Region.binds .any e || listed.getD e.on false) = true) := by
              rw [Array.all_eq_true_iff_forall_mem] at hal
              simpa using hal
            obtain ⟨e, he, hne⟩ := this
            have h1 := List.all_eq_true.1 haf e (Array.mem_toList_iff.2 he)
            simp only [Bool.or_eq_true, Bool.not_eq_true', not_or, Bool.not_eq_false, Bool.not_eq_true] at hne h1
            have h2 : e.on < m := by
              rcases h1 with h1 | h1
              · rw [hne.1] at h1; cases h1
              · simpa using h1
            refine ihm e.on h2 ((hU e.on).2 ⟨by omega, ?_⟩)
            rw [← hgd e.on (by omega)]; exact hne.2
      cases U with
      | nil => simp at hUl
      | cons u U => exact key u (List.mem_cons_self ..)
    · unfold Region.ready at hi
      rw [List.mem_filter, List.mem_range] at hi
      obtain ⟨his, hi2⟩ := hi
      obtain ⟨o, ho⟩ : ∃ o, ops[i]? = some o := ⟨ops[i], Array.getElem?_eq_getElem his⟩
      simp only [ho, Option.map_some, Option.getD_some, Bool.and_eq_true, Bool.not_eq_true'] at hi2
      obtain ⟨hil, hia⟩ := hi2
      have hc := hopAt i o ho
      unfold okOp3 at hc
      simp only [Bool.and_eq_true] at hc
      obtain ⟨⟨⟨⟨⟨⟨hgu, hdst⟩, hds⟩, haf⟩, hsup⟩, hdeps⟩, hkil⟩ := hc
      have hdst' : o.dst = (tAt ts i).dst := by simpa using hdst
      rw [Array.all_eq_true_iff_forall_mem] at hia
      have hson : ∀ j, (tAt ts i).sup.contains j = true → j < i ∧ listed.getD j true = true := by
        intro j hj
        have h1 := List.all_eq_true.1 hsup j (by simpa using hj)
        simp only [Bool.and_eq_true, decide_eq_true_eq, List.any_eq_true] at h1
        obtain ⟨hji, e, he', hb, h2⟩ := h1
        have he := Array.mem_toList_iff.1 he'
        refine ⟨hji, ?_⟩
        have h3 := hia e he
        rw [hb] at h3
        have h4 := List.all_eq_true.1 haf e he'
        rw [hb] at h4
        simp only [Bool.not_true, Bool.false_or, decide_eq_true_eq] at h3 h4
        rw [hgd e.on (by omega)] at h3
        simp only [Bool.or_eq_true, beq_iff_eq] at h2
        rcases h2 with h2 | h2
        · rw [← h2]; exact h3
        · exact hcl e.on (by omega) h3 j h2
      have hks : ∀ k ∈ (tAt ts i).kills, k ∈ A := by
        intro k hk
        rw [hA]
        have h1 := List.all_eq_true.1 hkil k hk
        simp only [Bool.or_eq_true, decide_eq_true_eq] at h1
        refine ⟨?_, ?_, fun j hj hjl hkj => ?_⟩
        · rcases h1 with h1 | h1
          · have := (hson k h1).1; omega
          · omega
        · rcases h1 with h1 | h1
          · exact (hson k h1).2
          · exact hge k h1.1
        · have := kills_once hkn hk hkj
          subst this
          rw [hil] at hjl; cases hjl
      have hkin : (tAt ts i).kills.Nodup := by
        unfold tAt List.getD
        cases hti : ts[i]? with
        | none => simp
        | some T =>
          simp only [Option.getD_some]
          exact kills_nodup hkn (List.mem_of_getElem? hti)
      obtain ⟨A', hp, hA'n, hA'm⟩ := take_out _ A hkin hAn hks
      have hH1 : ((tAt ts i).kills.flatMap (fun k => rows k env) ++ (R0 ++ A'.flatMap (fun k => rows k env))).Perm H := by
        refine List.Perm.trans ?_ hH.symm
        refine List.Perm.trans ?_ (List.Perm.append_left R0 (List.Perm.flatMap_right _ hp.symm))
        rw [List.flatMap_append, ← List.append_assoc, ← List.append_assoc]
        exact List.Perm.append_right _ List.perm_append_comm
      have hdp : ∀ k ∈ (tAt ts i).deps, ∀ d, (tAt ts k).dst = some d → t[d]? = some (val k env) := by
        intro k hk d hd
        have h1 := List.all_eq_true.1 hdeps k hk
        obtain ⟨h2, h3⟩ := hson k h1
        exact hv k d (by omega) h3 hd
      have hag' : Ag n (reF ts F0 i0 d0 u0 i) t := by
        unfold reF
        cases hci : (tAt ts i0).sup.contains i with
        | false => exact hag
        | true =>
          refine hag.cons (hr0 ?_)
          cases hx : listed.getD i0 true with
          | false => rfl
          | true => have := hcl i0 hi0 hx i hci; rw [hil] at this; cases this
      have hst := hob i o (by rw [opAt_eq]; simpa using ho)
      have hreads : ∀ k ∈ rd i, ∀ r ∈ rows k env, r ∈ R0 ++ A'.flatMap (fun k => rows k env) := by
        intro k hk r hr
        refine List.mem_append_right _ (List.mem_flatMap.2 ⟨k, ?_, hr⟩)
        have h1 := List.all_eq_true.1 (List.all_eq_true.1 hrd i (List.mem_range.2 his)) k hk
        simp only [Bool.and_eq_true, Bool.or_eq_true, decide_eq_true_eq, Bool.not_eq_true'] at h1
        obtain ⟨⟨h1, h2⟩, h3⟩ := h1
        rw [hA'm, hA]
        refine ⟨⟨?_, ?_, fun j hj hjl hkj => ?_⟩, by simpa using h2⟩
        · rcases h1 with h1 | h1
          · have := (hson k h1).1; omega
          · omega
        · rcases h1 with h1 | h1
          · exact (hson k h1).2
          · exact hge k h1.1
        · have h4 := List.all_eq_true.1 h3 j (List.mem_range.2 hj)
          simp only [Bool.or_eq_true, Bool.not_eq_true'] at h4
          rcases h4 with h4 | h4
          · rw [List.contains_iff_mem.2 hkj] at h4; cases h4
          · have := hcl j hj hjl i h4
            rw [hil] at this; cases this
      have hyv : ∀ j ww, o.guard = some (j, ww) → (tAt ts j).dst ≠ none → yielded ops t.toArray j = bv (val j env) := by
        intro j ww hg hj
        rw [hg] at hgu
        obtain ⟨h1, h2⟩ := hson j hgu
        obtain ⟨d, hd'⟩ := Option.ne_none_iff_exists'.1 hj
        have hoj : ops[j]? = some ops[j] := Array.getElem?_eq_getElem (by omega)
        have hcj := hopAt j _ hoj
        unfold okOp3 at hcj
        simp only [Bool.and_eq_true] at hcj
        have hdj : (ops[j]).dst = (tAt ts j).dst := by simpa using hcj.1.1.1.1.1.2
        exact yielded_bv hoj (by rw [hdj, hd']) (hv j d (by omega) h2 hd')
      have hnext : ∀ (v : Value) (w' : World) (H' : List Row), St B w0 H' w' → (∃ p, ((tAt ts i).dst ≠ none → v = val i (upd env i p)) ∧ H'.Perm (rows i (upd env i p) ++ (R0 ++ A'.flatMap (fun k => rows k env)))) → wpAnyIn (wf ρ) 0 P .any ops (lift ds B w0 Q) fuel (listed.setIfInBounds i true) ⟨(put t o.dst v).toArray, ds⟩ w' := by
        rintro v w' H' hS' ⟨p, hval, hH'⟩
        have hl' : ∀ k, (listed.setIfInBounds i true).getD k true = if k = i then true else listed.getD k true := by
          intro k
          rw [Array.getD_eq_getD_getElem?, Array.getD_eq_getD_getElem?, Array.getElem?_setIfInBounds]
          by_cases hki : k = i
          · subst hki; simp; split <;> rfl
          · rw [if_neg (fun e => hki e.symm), if_neg hki]
        have hnot : ∀ k, listed.getD k true = true → (tAt ts k).sup.contains i = false := by
          intro k hk
          by_cases hks' : k < ops.size
          · cases hcs : (tAt ts k).sup.contains i with
            | false => rfl
            | true => have := hcl k hks' hk i hcs; rw [hil] at this; cases this
          · by_cases hkt : k < ts.length
            · have := List.all_eq_true.1 hps ts[k] (by
                rw [List.mem_iff_getElem?]
                exact ⟨k - ops.size, by rw [List.getElem?_drop, show ops.size + (k - ops.size) = k by omega, List.getElem?_eq_getElem hkt]⟩)
              simp only [Bool.and_eq_true, List.isEmpty_iff] at this
              have e : tAt ts k = ts[k] := by unfold tAt; simp [List.getD, hkt]
              rw [e, this.2]; rfl
            · have e : tAt ts k = ⟨none, [], [], []⟩ := by unfold tAt; simp [List.getD, List.getElem?_eq_none (by omega : ts.length ≤ k)]
              rw [e]; rfl
        have hiA : i ∉ A := fun h => by have := ((hA i).1 h).2.1; rw [hil] at this; cases this
        refine ih (listed.setIfInBounds i true) (U.erase i) (i :: A') (put t o.dst v) H' w' (upd env i p) (by simpa using hls) ?_ (hUn.sublist List.erase_sublist) ?_ ?_ ?_ ?_ ?_ ?_ ?_ hS' ?_
        · rw [List.length_erase_of_mem ((hU i).2 ⟨his, hil⟩)]; omega
        · intro k
          rw [hUn.mem_erase_iff, hU, hl']
          by_cases hki : k = i
          · simp [hki]
          · simp [hki]
        · intro k hk hkl j hj
          rw [hl'] at hkl ⊢
          split
          · rfl
          · by_cases hki : k = i
            · subst hki; exact (hson j hj).2
            · rw [if_neg hki] at hkl; exact hcl k hk hkl j hj
        · exact List.nodup_cons.2 ⟨fun h => hiA ((hA'm i).1 h).1, hA'n⟩
        · intro k
          rw [List.mem_cons, hA'm, hA, hl']
          by_cases hki : k = i
          · subst hki
            simp only [true_or, if_true, true_and, true_iff]
            refine ⟨by omega, fun j hj hjl hkj => ?_⟩
            have h1 : ops[j]? = some ops[j] := Array.getElem?_eq_getElem hj
            have hcj := hopAt j _ h1
            unfold okOp3 at hcj
            simp only [Bool.and_eq_true] at hcj
            have h2 := List.all_eq_true.1 hcj.2 k hkj
            simp only [Bool.or_eq_true, decide_eq_true_eq] at h2
            rw [hl'] at hjl
            rcases h2 with h2 | h2
            · by_cases hjk : j = k
              · subst hjk; have := (hson j h2).1; omega
              · rw [if_neg hjk] at hjl
                have := hcl j hj hjl k h2
                rw [hil] at this; cases this
            · omega
          · simp only [hki, false_or, if_false]
            constructor
            · rintro ⟨⟨h1, h2, h3⟩, h4⟩
              refine ⟨h1, h2, fun j hj hjl => ?_⟩
              rw [hl'] at hjl
              by_cases hji : j = i
              · subst hji; exact h4
              · rw [if_neg hji] at hjl; exact h3 j hj hjl
            · rintro ⟨h1, h2, h3⟩
              exact ⟨⟨h1, h2, fun j hj hjl => h3 j hj (by rw [hl']; split; rfl; exact hjl)⟩, h3 i his (by rw [hl', if_pos rfl])⟩
        · cases hdd : o.dst with
          | none => exact hag
          | some d =>
            rw [hdst'] at hdd
            rw [hdd] at hds
            simp only [Bool.and_eq_true, decide_eq_true_eq] at hds
            refine ⟨by simpa [put] using hag.1, fun s u hs => ?_⟩
            have h1 := hag.2 s u hs
            simp only [put, List.getElem?_set]
            by_cases hsd : d = s
            · subst hsd
              have : d ∈ dom := by
                rw [← hd]
                exact lk_mem hs
              have h2 := hds.1.2
              have hsi : sm.contains i = true := by simpa [this] using h2
              have e : v = u := (hval (by rw [hdd]; simp)).trans (hsm i d hsi hdd _ u hs)
              rw [if_pos rfl, e]
              exact if_pos (by rw [hag.1]; exact hds.1.1)
            · rw [if_neg hsd]
              exact h1
        · intro hl0
          rw [hl'] at hl0
          by_cases hii : i0 = i
          · rw [if_pos hii] at hl0; cases hl0
          · rw [if_neg hii] at hl0
            have h1 := hr0 hl0
            cases hdd : o.dst with
            | none => exact h1
            | some d' =>
              simp only [put, List.getElem?_set]
              rw [if_neg]
              · exact h1
              · rintro rfl
                rw [hdst'] at hdd
                rcases Nat.lt_or_gt_of_ne hii with hlt | hlt
                · rw [hdd] at hds
                  simp only [Bool.and_eq_true] at hds
                  have := List.all_eq_true.1 hds.2 i0 (List.mem_range.2 hlt)
                  simp [hre] at this
                · have hck := hopAt i0 _ (Array.getElem?_eq_getElem hi0)
                  unfold okOp3 at hck
                  simp only [Bool.and_eq_true] at hck
                  have hdk := hck.1.1.1.1.2
                  rw [hre] at hdk
                  simp only [Bool.and_eq_true] at hdk
                  have := List.all_eq_true.1 hdk.2 i (List.mem_range.2 hlt)
                  simp [hdd] at this
        · intro k d hk hkl hkd
          rw [hl'] at hkl
          by_cases hki : k = i
          · subst hki
            rw [hdst', hkd]
            rw [hkd] at hds
            simp only [Bool.and_eq_true, decide_eq_true_eq] at hds
            simp only [put, List.getElem?_set, if_true]
            rw [if_pos (by rw [hag.1]; exact hds.1.1), hval (by rw [hkd]; simp)]
          · rw [if_neg hki] at hkl
            rw [(hloc k env i p (fun e => hki e.symm) (hnot k hkl)).1]
            have h1 := hv k d hk hkl hkd
            cases hdd : o.dst with
            | none => exact h1
            | some d' =>
              simp only [put, List.getElem?_set]
              rw [if_neg]
              · exact h1
              · rintro rfl
                rw [hdst'] at hdd
                rcases Nat.lt_or_gt_of_ne hki with hlt | hlt
                · rw [hdd] at hds
                  simp only [Bool.and_eq_true] at hds
                  have := List.all_eq_true.1 hds.2 k (List.mem_range.2 hlt)
                  simp [hkd] at this
                · have hck := hopAt k _ (Array.getElem?_eq_getElem hk)
                  unfold okOp3 at hck
                  simp only [Bool.and_eq_true] at hck
                  have hdk := hck.1.1.1.1.2
                  rw [hkd] at hdk
                  simp only [Bool.and_eq_true] at hdk
                  have := List.all_eq_true.1 hdk.2 i (List.mem_range.2 hlt)
                  simp [hdd] at this
        · refine hH'.trans ?_
          have e : A'.flatMap (fun k => rows k (upd env i p)) = A'.flatMap (fun k => rows k env) := by
            have : ∀ k ∈ A', rows k (upd env i p) = rows k env := fun k hk => by
              have h1 := (hA'm k).1 hk
              have h2 := ((hA k).1 h1.1).2.1
              exact (hloc k env i p (fun e => hiA (e ▸ h1.1)) (hnot k h2)).2
            exact flatMap_congr' this
          rw [List.flatMap_cons, e, ← List.append_assoc, ← List.append_assoc]
          exact List.Perm.append_right _ List.perm_append_comm
      unfold wpOpIn
      simp only [ho]
      rcases hst with ⟨hgr, hst⟩ | ⟨j, ww, hg, hj, hbv, hki, hvi, hri⟩
      · have hwant : Region.wanted o (yielded ops t.toArray) = true := by
          unfold Region.wanted
          rcases hgr with hgr | ⟨j, ww, hg, hj, hb⟩
          · rw [hgr]
          · rw [hg]; simp only [hyv j ww hg hj, hb]; simp
        simp only [hwant, if_true]
        exact hst env (R0 ++ A'.flatMap (fun k => rows k env)) (fun r hr => List.mem_append_left _ hr) hreads t (ag_fdeps hag' _ hdp) ρ ds B w0 w (hS.perm hH1) _ _ hnext
      · have hwant : Region.wanted o (yielded ops t.toArray) = false := by
          unfold Region.wanted
          rw [hg]; simp only [hyv j ww hg hj]
          simpa using hbv env
        simp only [hwant, Bool.false_eq_true, if_false]
        rw [put_act]
        refine ⟨fun _ _ => trivial, hnext undef w _ hS ⟨(0, 0), fun _ => (hvi _).symm, ?_⟩⟩
        --, fun _ => (hvi _).symm, ?_⟩
        rw [hri, List.nil_append]
        rw [hki] at hH1
        simpa using hH1.symm

theorem X.regionRe {P : Program} {n : Nat} {c : Code} {F : FS} {H : List Row} {Q : QX} (sm : List Nat) (ts : List TOp) (rd : Nat → List Nat) (dom : List Nat) (F0 : FS) (val : Nat → Env → Value) (rows : Nat → Env → List Row) (env0 : Env) (R0 : List Row)
    (h : c = .region (cid c) (cops c) true) (hm : P.follows .mixedOrders = true) (hsub : Sub F0 F) (hd : F0.map (·.1) = dom) (hok : okReg3 sm (cops c) ts dom n = true) (hrd : okRd ts rd (cops c).size = true)
    (hloc : ∀ k env i p, i ≠ k → (tAt ts k).sup.contains i = false → val k (upd env i p) = val k env ∧ rows k (upd env i p) = rows k env)
    (hsm : ∀ i d, sm.contains i = true → (tAt ts i).dst = some d → ∀ env v, lk F0 d = some v → val i env = v)
    (hH : (((List.range ts.length).drop (cops c).size).flatMap (fun k => rows k env0) ++ R0).Sublist H)
    {d0 : Nat} (i0 : Nat) (u0 : Value) (hre : (tAt ts i0).dst = some d0) (hi0 : i0 < (cops c).size) (h0 : lk F d0 = some u0)
    (hob' : AllF (cops c).toList 0 fun i o => ObR P n ts rd val rows (reF ts F0 i0 d0 u0 i) R0 i o)
    (hQ : ∀ env t, Ag n F0 t → (∀ i d, i < (cops c).size → (tAt ts i).dst = some d → t[d]? = some (val i env)) → exQ n Q .normal t ((alive ts).flatMap (fun k => rows k env) ++ R0)) : X P n c F H Q := by
  have hob := fun i o ho => hob' i o (Nat.zero_le i) ho
  unfold X W
  intro t ha ρ ds B w0 w hS
  rw [h]
  refine wpIn_region_any hm ?_
  have hlen : (cops c).size ≤ ts.length := by
    have := hok
    unfold okReg3 at this
    simp only [Bool.and_eq_true, decide_eq_true_eq] at this
    exact this.1.1.1
  have hl : ∀ k d, (Array.replicate (cops c).size false).getD k d = if k < (cops c).size then false else d := by
    intro k d
    rw [Array.getD_eq_getD_getElem?, Array.getElem?_replicate]
    split <;> rfl
  have hdm : ∀ k, k ∈ (List.range ts.length).drop (cops c).size ↔ (cops c).size ≤ k ∧ k < ts.length := by
    intro k
    rw [List.mem_iff_getElem?]
    constructor
    · rintro ⟨j, hj⟩
      rw [List.getElem?_drop] at hj
      have := List.getElem?_eq_some_iff.1 hj
      obtain ⟨h1, h2⟩ := this
      simp at h1 h2
      omega
    · rintro ⟨h1, h2⟩
      exact ⟨k - (cops c).size, by rw [List.getElem?_drop, show (cops c).size + (k - (cops c).size) = k by omega, List.getElem?_range h2]⟩
  refine wpAny_ob4 hd hok rd hrd val rows hloc hsm hre hi0 R0 hob hQ (cops c).size _ (List.range (cops c).size) ((List.range ts.length).drop (cops c).size) t _ _ env0 (by simp) (by simp) List.nodup_range ?_ ?_ ((List.nodup_range).sublist (List.drop_sublist _ _)) ?_ (ha.sub hsub) (fun _ => ha.2 d0 u0 h0) ?_ ((hS.drewN 1).sub hH) List.perm_append_comm
  · intro k
    rw [List.mem_range, hl]
    by_cases hk : k < (cops c).size <;> simp [hk]
  · intro k hk hkl
    rw [hl, if_pos hk] at hkl
    cases hkl
  · intro k
    rw [hdm, hl]
    constructor
    · rintro ⟨h1, h2⟩
      refine ⟨h2, by rw [if_neg (by omega)], fun j hj hjl => ?_⟩
      rw [hl, if_pos hj] at hjl
      cases hjl
    · rintro ⟨h1, h2, _⟩
      refine ⟨?_, h1⟩
      by_cases hk : k < (cops c).size
      · rw [if_pos hk] at h2; cases h2
      · omega
  · intro k d hk hkl
    rw [hl, if_pos hk] at hkl
    cases hkl

end Go.Fw
end
section
set_option linter.unusedVariables false
namespace Go.Fw
open Go Go.RowKit
/-- an entry: its key, its value, its stamp -/
abbrev Ent := Int × Value × Nat
def mE (kd : IntKind) (e : Ent) : MapEntry := ⟨.int kd e.1, e.2.1, e.2.2⟩
def mEs (kd : IntKind) (l : List Ent) : Array MapEntry := (l.map (mE kd)).toArray
def mRow (b : Nat) (kd : IntKind) (l : List Ent) (clock : Nat) : Row := oRow b (.map (mEs kd l) clock)
/-- a loop's iterator over the map in block m: what it has handed out -/
def iRow (r m since : Nat) (pre : List Ent) : Row := oRow r (.mapIter (some m) since (pre.map (·.2.2)).toArray since)

theorem St.putAt {B : Nat} {w0 w : World} {H : List Row} {i b : Nat} {o : Obj} (h : St B w0 H w) (hi : H[i]? = some (oRow b o)) (o' : Obj) : St B w0 (H.set i (oRow b o')) (w.putObj b o') := by
  have hr := h.ok _ (List.mem_of_getElem? hi)
  obtain ⟨hB, _, hb⟩ := hr
  have hlt := (Array.getElem?_eq_some_iff.1 hb).1
  have hbel : Below B w (w.putObj b o') := ⟨rfl, rfl, rfl, by simp, fun k hk => World.putObj_heap_other (by simp only [oRow] at hB; omega)⟩
  refine ⟨h.below.trans hbel, by simpa using h.size, fun r hm => ?_, pairwise_set H i _ _ hi (fun s q ho => q (.inl rfl)) (fun s q ho => q (.inr rfl)) h.sep⟩
  obtain ⟨k, hk, hke⟩ := List.mem_iff_getElem.1 hm
  by_cases hki : k = i
  · subst hki
    have : r = oRow b o' := by rw [← hke]; simp
    subst this
    exact ⟨hB, rfl, World.putObj_heap_same hlt⟩
  · have hk' : H[k]? = some r := by
      rw [List.length_set] at hk
      rw [List.getElem_set_ne (by omega)] at hke
      rw [List.getElem?_eq_getElem hk, hke]
    have hne := sep_other h.sep hi hk' (fun e => hki e.symm) rfl
    exact Row.ok_of_block (h.ok r (List.mem_of_getElem? hk')) (by simp) (World.putObj_heap_other (fun e => hne (by simpa [oRow] using e)))

/-- what storing makes of the entries -/
def insM (l : List Ent) (clock : Nat) (k : Int) (v : Value) : List Ent := if l.any (fun e => e.1 == k) then l.map (fun e => if e.1 = k then (e.1, v, e.2.2) else e) else l ++ [(k, v, clock)]
def clkM (l : List Ent) (clock : Nat) (k : Int) : Nat := if l.any (fun e => e.1 == k) then clock else clock + 1
def keysM (l : List Ent) : Prop := (l.map (·.1)).Nodup
theorem findNow_mem {kd : IntKind} {k : Int} : ∀ (l : List Ent) (i : Nat),
    Instr.findNow (.int kd) (.int kd k) (l.map (mE kd)) i = some (match l.findIdx? (fun e => e.1 == k) with | some j => some (i + j, (l.getD j (0, undef, 0)).2.1) | none => none)
  | [], _ => rfl
  | e :: l, i => by
    rw [List.map_cons]
    unfold Instr.findNow
    have h1 : Instr.sameNow (.int kd) (.int kd k) (mE kd e).key = some (k == e.1) := by simp [Instr.sameNow, mE]
    rw [h1, List.findIdx?_cons]
    by_cases h : e.1 = k
    · have h2 : (k == e.1) = true := by simp [h]
      have h3 : (e.1 == k) = true := by simp [h]
      rw [h2, h3]
      simp [mE]
    · have h2 : (k == e.1) = false := by simp; exact fun q => h q.symm
      have h3 : (e.1 == k) = false := by simp [h]
      rw [h2, h3]
      simp only [Bool.false_eq_true, if_false]
      rw [findNow_mem l (i + 1)]
      cases hf : l.findIdx? (fun e => e.1 == k) with
      | none => simp
      | some j => simp [Nat.add_assoc, Nat.add_comm 1 j]
section
variable {P : Program} {H : List Row} {F : FS} {n : Nat} {o : Oper}
theorem run_findM {w : World} {kt : TypeId} {kd : IntKind} (hk : P.underlying kt = some (.int kd)) (l : List Ent) (k : Int) :
    (Instr.findKey kt (.int kd k) (mEs kd l).toList).run P w = .ok (match l.findIdx? (fun e => e.1 == k) with | some j => some (j, (l.getD j (0, undef, 0)).2.1) | none => none) w := by
  have h := findNow_mem (kd := kd) (k := k) l 0
  have : (mEs kd l).toList = l.map (mE kd) := by simp [mEs]
  rw [this]
  simp only [Nat.zero_add] at h
  exact MapKept.run_findKey hk h
theorem any_none {l : List Ent} {k : Int} (h : l.findIdx? (fun e => e.1 == k) = none) : l.any (fun e => e.1 == k) = false := by
  rw [List.findIdx?_eq_none_iff] at h
  rw [List.any_eq_false]
  intro e he
  have := h e he
  simpa using this
theorem any_some {l : List Ent} {k : Int} {j : Nat} (h : l.findIdx? (fun e => e.1 == k) = some j) : l.any (fun e => e.1 == k) = true ∧ ∃ e, l[j]? = some e ∧ e.1 = k := by
  obtain ⟨hj, he, _⟩ := List.findIdx?_eq_some_iff_getElem.1 h
  exact ⟨List.any_eq_true.2 ⟨_, List.getElem_mem hj, he⟩, _, List.getElem?_eq_getElem hj, by simpa using he⟩

theorem StF.makeMap {T : TypeId} (kd : IntKind) (h : o.op = .makeMap T none) : StF P n H F o (fun v H' => ∃ b, v = .map (some b) ∧ H' = mRow b kd [] 0 :: H) := by
  unfold StF StepOp
  intro t ha B w0 w hS
  refine ⟨_, _, _, .inl ?_, hS.allocObj (.map #[] 0), _, rfl, rfl⟩
  simp [execOp, h, Instr.makeMap, newObj, Sem.run, World.alloc_eq]
theorem modify_list {α : Type} (f : α → α) : ∀ (l : List α) (j : Nat), (l.toArray.modify j f) = (l.modify j f).toArray := by
  intro l j
  apply Array.ext'
  simp
theorem keys_inj {l : List Ent} (hl : keysM l) {i j : Nat} {a b : Ent} (ha : l[i]? = some a) (hb : l[j]? = some b) (h : a.1 = b.1) : i = j := by
  obtain ⟨hi, he⟩ := List.getElem?_eq_some_iff.1 ha
  obtain ⟨hj, hf⟩ := List.getElem?_eq_some_iff.1 hb
  have := (List.nodup_iff_pairwise_ne.1 hl)
  rw [List.pairwise_map] at this
  rcases Nat.lt_trichotomy i j with q | q | q
  · exact absurd (by rw [he, hf]; exact h) (List.pairwise_iff_getElem.1 this i j hi hj q)
  · exact q
  · exact absurd (by rw [he, hf]; exact h.symm) (List.pairwise_iff_getElem.1 this j i hj hi q)
theorem StF.mapUpdate {T kt e : TypeId} {m key val : Operand} {kd : IntKind} {i b clock : Nat} {l : List Ent} {k : Int} {v : Value} (h : o.op = .mapUpdate T m key val) (hT : P.underlying T = some (.map kt e)) (hk : P.underlying kt = some (.int kd))
    (hm : evF F m = some (.map (some b))) (hx : evF F key = some (.int kd k)) (hv : evF F val = some v) (hi : H[i]? = some (mRow b kd l clock)) (hl : keysM l) :
    StF P n H F o (fun u H' => u = undef ∧ H' = H.set i (mRow b kd (insM l clock k v) (clkM l clock k))) := by
  unfold StF StepOp
  intro t ha B w0 w hS
  have hb : w.heap[b]? = some (.map (mEs kd l) clock) := (hS.ok _ (List.mem_of_getElem? hi)).2.2
  have e1 := ha.ev hm
  have e2 := ha.ev hx
  have e3 := ha.ev hv
  have hkey : MapKept.IsKey (.int kd) (.int kd k) := rfl
  refine ⟨undef, w.putObj b (.map (mEs kd (insM l clock k v)) (clkM l clock k)), _, .inr ⟨?_, rfl⟩, hS.putAt hi _, rfl, rfl⟩
  have hf := run_findM (P := P) (w := w) hk l k
  cases hj : l.findIdx? (fun e => e.1 == k) with
  | none =>
    have ha := any_none hj
    rw [hj] at hf
    have hi1 : insM l clock k v = l ++ [(k, v, clock)] := by unfold insM; rw [if_neg (by simp [ha])]
    have hi2 : clkM l clock k = clock + 1 := by unfold clkM; rw [if_neg (by simp [ha])]
    rw [hi1, hi2]
    have he : (mEs kd l).push ⟨.int kd k, v, clock⟩ = mEs kd (l ++ [(k, v, clock)]) := by simp [mEs, mE]
    simp [execOp, h, Instr.mapUpdate, e1, e2, e3, run_underlying hT, MapKept.run_getObj_map hb, MapKept.run_checkKey hk hkey, hf, MapKept.run_setObj_map _ hb, he, World.putObj]
  | some j =>
    obtain ⟨ha, e, hje, hek⟩ := any_some hj
    rw [hj] at hf
    have hi1 : insM l clock k v = l.map (fun e => if e.1 = k then (e.1, v, e.2.2) else e) := by unfold insM; rw [if_pos ha]
    have hi2 : clkM l clock k = clock := by unfold clkM; rw [if_pos ha]
    rw [hi1, hi2]
    have hkj : ((mEs kd l)[j]?.map (·.key)).getD (.int kd k) = .int kd k := by simp [mEs, hje, mE, hek]
    have he : (mEs kd l).modify j (fun e => { e with key := .int kd k, val := v }) = mEs kd (l.map (fun e => if e.1 = k then (e.1, v, e.2.2) else e)) := by
      unfold mEs
      rw [modify_list]
      congr 1
      apply List.ext_getElem?
      intro x
      rw [List.getElem?_modify, List.getElem?_map, List.getElem?_map, List.getElem?_map]
      cases hx : l[x]? with
      | none => simp
      | some a =>
        by_cases hxj : j = x
        · subst hxj
          rw [hje] at hx
          obtain rfl := Option.some.inj hx
          simp [mE, hek]
        · have hne : a.1 ≠ k := fun q => hxj (keys_inj hl hje hx (by rw [hek, q]))
          simp [hxj, hne]
    simp [execOp, h, Instr.mapUpdate, e1, e2, e3, run_underlying hT, MapKept.run_getObj_map hb, MapKept.run_checkKey hk hkey, hf, hkj, MapKept.run_keyThatStays hkey, MapKept.run_setObj_map _ hb, he, World.putObj]
/-- what is left when a key is struck out -/
def delM (l : List Ent) (k : Int) : List Ent := l.filter (fun e => !(e.1 == k))
theorem del_eraseIdx {l : List Ent} {k : Int} (hl : keysM l) {j : Nat} {e : Ent} (hj : l[j]? = some e) (he : e.1 = k) : l.eraseIdx j = delM l k := by
  induction l generalizing j with
  | nil => cases hj
  | cons a l ih =>
    have hl' := List.nodup_cons.1 hl
    cases j with
    | zero =>
      simp only [List.getElem?_cons_zero, Option.some.injEq] at hj
      subst hj
      rw [List.eraseIdx_cons_zero]
      unfold delM
      rw [List.filter_cons, if_neg (by simp [he])]
      refine (List.filter_eq_self.2 fun x hx => ?_).symm
      have : x.1 ≠ k := fun q => hl'.1 (List.mem_map.2 ⟨x, hx, q.trans he.symm⟩)
      simp [this]
    | succ j =>
      rw [List.getElem?_cons_succ] at hj
      rw [List.eraseIdx_cons_succ, ih hl'.2 hj]
      have : a.1 ≠ k := fun q => hl'.1 (List.mem_map.2 ⟨e, List.mem_of_getElem? hj, by rw [he]; exact q.symm⟩)
      unfold delM
      rw [List.filter_cons, if_pos (by simp [this])]
theorem StF.delete {T T' kt e : TypeId} {m key : Operand} {kd : IntKind} {i b clock : Nat} {l : List Ent} {k : Int} (h : o.op = .call { callee := .builtin .delete, args := #[m, key], argTypes := #[T, T'] }) (hT : P.underlying T = some (.map kt e)) (hk : P.underlying kt = some (.int kd))
    (hm : evF F m = some (.map (some b))) (hx : evF F key = some (.int kd k)) (hi : H[i]? = some (mRow b kd l clock)) (hl : keysM l) :
    StF P n H F o (fun u H' => u = .tuple #[] ∧ H' = H.set i (mRow b kd (delM l k) clock)) := by
  unfold StF StepOp
  intro t ha B w0 w hS
  have hb : w.heap[b]? = some (.map (mEs kd l) clock) := (hS.ok _ (List.mem_of_getElem? hi)).2.2
  have e1 := ha.ev hm
  have e2 := ha.ev hx
  have hkey : MapKept.IsKey (.int kd) (.int kd k) := rfl
  refine ⟨.tuple #[], w.putObj b (.map (mEs kd (delM l k)) clock), _, .inl ?_, hS.putAt hi _, rfl, rfl⟩
  have hf := run_findM (P := P) (w := w) hk l k
  cases hj : l.findIdx? (fun e => e.1 == k) with
  | none =>
    rw [hj] at hf
    have hd : delM l k = l := by
      refine List.filter_eq_self.2 fun x hx => ?_
      have := (List.findIdx?_eq_none_iff.1 hj) x hx
      simpa using this
    rw [hd]
    simp [execOp, h, resolve, invoke, builtin, Builtin.delete_, e1, e2, run_underlying hT, MapKept.run_getObj_map hb, MapKept.run_checkKey hk hkey, hf, MapKept.run_setObj_map _ hb, World.putObj]
  | some j =>
    obtain ⟨ha, e, hje, hek⟩ := any_some hj
    rw [hj] at hf
    have he : (mEs kd l).eraseIdxIfInBounds j = mEs kd (delM l k) := by
      rw [← del_eraseIdx hl hje hek]
      apply Array.ext'
      have hm : ∀ (q : List Ent) (j : Nat), (q.map (mE kd)).eraseIdx j = (q.eraseIdx j).map (mE kd) := by
        intro q
        induction q with
        | nil => intro j; rfl
        | cons a q ih => intro j; cases j with
          | zero => rfl
          | succ j => rw [List.map_cons, List.eraseIdx_cons_succ, List.eraseIdx_cons_succ, List.map_cons, ih]
      simp [mEs, hm]
    simp [execOp, h, resolve, invoke, builtin, Builtin.delete_, e1, e2, run_underlying hT, MapKept.run_getObj_map hb, MapKept.run_checkKey hk hkey, hf, he, MapKept.run_setObj_map _ hb, World.putObj]
theorem StF.rangeMap {T kt e : TypeId} {m : Operand} {kd : IntKind} {b clock : Nat} {l : List Ent} (h : o.op = .range T m) (hT : P.underlying T = some (.map kt e)) (hm : evF F m = some (.map (some b))) (hi : mRow b kd l clock ∈ H) :
    StF P n H F o (fun v H' => ∃ r, v = .pointer (some ⟨r, 0, none⟩) ∧ H' = iRow r b clock [] :: H) := by
  unfold StF StepOp
  intro t ha B w0 w hS
  have hb : w.heap[b]? = some (.map (mEs kd l) clock) := (hS.ok _ hi).2.2
  have e1 := ha.ev hm
  refine ⟨_, _, _, .inl ?_, hS.allocObj (.mapIter (some b) clock #[] clock), _, rfl, rfl⟩
  simp [execOp, h, e1, run_range_map w T kt e b (mEs kd l) clock hT hb]
/-- the next entry: none is left, or any one that is left -/
theorem StF.nextMap {it : Operand} {kd : IntKind} {i r b clock : Nat} {l pre : List Ent} (h : o.op = .next it false) (hx : evF F it = some (.pointer (some ⟨r, 0, none⟩))) (hi : H[i]? = some (iRow r b clock pre)) (hb : mRow b kd l clock ∈ H) (hc : ∀ e ∈ l, e.2.2 < clock) :
    StF P n H F o (fun v H' => (v = .tuple #[.bool false] ∧ H' = H ∧ ∀ e ∈ l, e.2.2 ∈ pre.map (·.2.2)) ∨
      ∃ e ∈ l, e.2.2 ∉ pre.map (·.2.2) ∧ v = .tuple #[.bool true, .int kd e.1, e.2.1] ∧ H' = H.set i (iRow r b clock (pre ++ [e]))) := by
  unfold StF StepOp
  intro t ha B w0 w hS
  have hr : w.heap[r]? = some (.mapIter (some b) clock (pre.map (·.2.2)).toArray clock) := (hS.ok _ (List.mem_of_getElem? hi)).2.2
  have hm : w.heap[b]? = some (.map (mEs kd l) clock) := (hS.ok _ hb).2.2
  have e1 := ha.ev hx
  rcases run_next_at (P := P) w o.type r b clock clock (pre.map (·.2.2)).toArray (mEs kd l) clock hr hm (fun x hx => by
      obtain ⟨e, he, rfl⟩ := List.mem_map.1 (show x ∈ l.map (mE kd) by unfold mEs at hx; exact hx)
      exact hc e he) (Nat.le_refl _) with ⟨h0, hrun⟩ | ⟨e, he, w1, hw1, hrun⟩
  · refine ⟨_, w, H, .inl ?_, hS, .inl ⟨rfl, rfl, fun e he => ?_⟩⟩
    · simp [execOp, h, e1, hrun]
    · have := all_seen (mEs kd l) (pre.map (·.2.2)).toArray h0 (mE kd e) (by simpa [mEs] using List.mem_map_of_mem he)
      simpa [mE] using this
  · obtain ⟨hel, hes⟩ := mem_left he
    obtain ⟨x, hxl, rfl⟩ := List.mem_map.1 (show e ∈ l.map (mE kd) by unfold mEs at hel; exact hel)
    have hS1 : St B w0 H w1 := by rcases hw1 with rfl | rfl; exact hS; exact hS.drew
    refine ⟨_, _, _, .inl ?_, hS1.putAt hi (.mapIter (some b) clock ((pre ++ [x]).map (·.2.2)).toArray clock), .inr ⟨x, hxl, ?_, rfl, rfl⟩⟩
    · have hp : (pre.map (·.2.2)).toArray.push (mE kd x).born = ((pre ++ [x]).map (·.2.2)).toArray := by simp [mE]
      rw [hp] at hrun
      simp [execOp, h, e1, hrun, World.putObj, ChangeMaps.setBlock, mE]
    · have : ((pre.map (·.2.2)).toArray.contains x.2.2) = false := hes
      simpa using this
theorem EvF.entry {it : Operand} {kd : IntKind} {r b clock : Nat} {l pre : List Ent} {e : Ent} (h : o.op = .entry it) (hx : evF F it = some (.pointer (some ⟨r, 0, none⟩))) (hi : iRow r b clock (pre ++ [e]) ∈ H) (hb : mRow b kd l clock ∈ H) (he : e ∈ l) (hn : (l.map (·.2.2)).Nodup) :
    EvF P n H F o (.tuple #[.int kd e.1, e.2.1]) := by
  unfold EvF EvOp
  intro t ha B w0 w hS
  have hr : w.heap[r]? = some (.mapIter (some b) clock ((pre ++ [e]).map (·.2.2)).toArray clock) := (hS.ok _ hi).2.2
  have hm : w.heap[b]? = some (.map (mEs kd l) clock) := (hS.ok _ hb).2.2
  have e1 := ha.ev hx
  have hp : ((pre ++ [e]).map (·.2.2)).toArray = (pre.map (·.2.2)).toArray.push (mE kd e).born := by simp [mE]
  rw [hp] at hr
  have hrun := run_entry_at (P := P) w r b clock (pre.map (·.2.2)).toArray (mEs kd l) clock (mE kd e) hr hm (by simpa [mEs] using List.mem_map_of_mem he) (by simpa [mEs, mE, Function.comp_def] using hn)
  simp [execOp, h, e1, hrun, mE]
end
end Go.Fw
end
section
set_option linter.unusedVariables false
set_option linter.unusedSimpArgs false
namespace Go.Proofs.Ytjejppodhpdckaa
open Go Go.Fw
set_option maxRecDepth 10000
theorem it_more {l pre rest : List Ent} (hp : (pre ++ rest).Perm l) {e : Ent} (he : e ∈ l) (hs : e.2.2 ∉ pre.map (·.2.2)) : ∃ rest', ((pre ++ [e]) ++ rest').Perm l := by
  have hm : e ∈ pre ++ rest := hp.mem_iff.2 he
  rcases List.mem_append.1 hm with h | h
  · exact absurd (List.mem_map.2 ⟨e, h, rfl⟩) hs
  · obtain ⟨a, b, rfl⟩ := List.append_of_mem h
    refine ⟨a ++ b, List.Perm.trans ?_ hp⟩
    rw [List.append_assoc]
    exact List.Perm.append_left _ (List.perm_middle (l₁ := a)).symm
theorem it_done {l pre rest : List Ent} (hn : (l.map (·.2.2)).Nodup) (hp : (pre ++ rest).Perm l) (h : ∀ e ∈ l, e.2.2 ∈ pre.map (·.2.2)) : pre.Perm l := by
  cases rest with
  | nil => rwa [List.append_nil] at hp
  | cons x rest =>
    exfalso
    have hx : x ∈ l := hp.mem_iff.1 (List.mem_append_right _ List.mem_cons_self)
    have h1 := h x hx
    have h2 : ((pre ++ x :: rest).map (·.2.2)).Nodup := (hp.map _).nodup_iff.2 hn
    rw [List.map_append, List.map_cons] at h2
    exact (List.nodup_append.1 h2).2.2 _ h1 _ List.mem_cons_self rfl
theorem it_len {l pre rest : List Ent} (hp : (pre ++ rest).Perm l) : pre.length ≤ l.length := by
  have := hp.length_eq
  rw [List.length_append] at this
  omega
theorem maps_und : Try.prog.underlying 181 = some (.map 3 3) := by kernel_rfl
theorem int_und : Try.prog.underlying 3 = some (.int .i64) := by kernel_rfl
def GdM (l : List Ent) (pre : List Ent) : Prop := ∃ rest, (pre ++ rest).Perm l
def DnM (l : List Ent) (ys : List Ent) : Prop := ys.Perm l
set_option maxHeartbeats 4000000 in
theorem values1_it (bm bb clock : Nat) (ow : Option Kd) (cap : Nat) (l : List Ent) (E : List Row) (hb : ⟨bb, 0, [.map (some bm)], ow, cap⟩ ∈ E) (hm : mRow bm .i64 l clock ∈ E) (hn : (l.map (·.2.2)).Nodup) (hc : ∀ e ∈ l, e.2.2 < clock) :
    ItfG Try.prog 146 [.pointer (some ⟨bb, 0, none⟩)] E (GdM l) (DnM l) (fun e => [e.2.1]) := by
  refine ⟨callable Try.call146, fun y J Jx Hc h0 hY => ?_⟩
  have hb0 : ∀ Z : List Row, (⟨bb, 0, [.map (some bm)], ow, cap⟩ : Row) ∈ Z ++ E := fun Z => List.mem_append_right _ hb
  have hm0 : ∀ Z : List Row, mRow bm .i64 l clock ∈ Z ++ E := fun Z => List.mem_append_right _ hm
  refine Fc.mk (callable Try.call146) Try.func146 rfl Try.ntmps146 rfl ?_; dsimp only [fr]
  repeat' (first | (refine XO.op rfl ?_; (first | ((first | refine Xo.ng rfl ?_); (first | (refine Xg.ev (EvF.loadV rfl rfl (LoadV.own (te rfl) rfl (hb0 _) rfl)) rfl rfl ?_) | (refine Xg.st (StF.rangeMap (kd := .i64) rfl maps_und rfl (hm0 _)) rfl rfl ?_; rintro _ _ ⟨r, rfl, rfl⟩))))) | (refine XO.done rfl ?_; refine hK _ _ ?_; clear hK K) | refine X.seq rfl ?_ | refine X.region rfl (fun K hK => ?_) | refine X.block rfl ?_)
  refine X.permH (H' := Hc ++ (iRow r bm clock [] :: E)) List.perm_middle ?_
  refine X.lp rfl (fun m F' H' => ∃ (pre rest : List Ent) (Hc : List Row), m = l.length - pre.length ∧ (pre ++ rest).Perm l ∧ J pre Hc ∧ H' = Hc ++ (iRow r bm clock pre :: E) ∧
      F' = [(0, .func (.yield y) #[] #[]), (6, .pointer (some ⟨r, 0, none⟩))])
    _ [(0, .func (.yield y) #[] #[]), (6, .pointer (some ⟨r, 0, none⟩))] (Hc ++ (iRow r bm clock [] :: E)) (by (repeat (first | exact Sub.nil _ | refine Sub.cons rfl ?_)); done) (List.Sublist.refl _) ⟨[], l, Hc, rfl, List.Perm.refl _, h0, rfl, rfl⟩ ?_
  rintro _ _ _ ⟨pre, rest, Hc, rfl, hp, hJ, rfl, rfl⟩
  have hle := it_len hp
  refine X.permH (H' := iRow r bm clock pre :: (Hc ++ E)) List.perm_middle.symm ?_
  repeat' (first | (refine XO.op rfl ?_; (first | ((first | refine Xo.ng rfl ?_); (first | (refine Xg.st (StF.nextMap (i := 0) (kd := .i64) rfl rfl rfl (List.Mem.tail _ (hm0 _)) hc) rfl rfl ?_; rintro _ _ (⟨rfl, rfl, hx⟩ | ⟨e, he, hs, rfl, rfl⟩); all_goals try dsimp only [List.set]) | (refine Xg.ev (EvF.entry (pre := pre) rfl rfl (List.Mem.head _) (List.Mem.tail _ (hm0 _)) he hn) rfl rfl ?_) | (refine Xg.yield rfl rfl (Args.cons rfl Args.nil) rfl rfl ((hY _ e Hc (it_more hp he hs) hJ _).permR List.perm_middle.symm) ?_; rintro _ _ ⟨Hc', rfl, ⟨rfl, hJ'⟩ | ⟨rfl, hJ'⟩⟩) | (refine Xg.ev (EvF.move rfl rfl) rfl rfl ?_) | (refine Xg.ev (EvF.assign rfl rfl) rfl rfl ?_) | (refine Xg.ev (EvF.not rfl rfl) rfl rfl ?_) | (refine Xg.ev (EvF.extract rfl rfl rfl) rfl rfl ?_))))) | (refine XO.done rfl ?_; refine hK _ _ ?_; clear hK K) | refine X.seq rfl ?_ | refine X.region rfl (fun K hK => ?_) | refine X.block rfl ?_ | (refine X.brk rfl ?_; repeat (first | refine blockX_hit rfl ?_ | refine blockX_miss (by decide) ?_)) | refine X.skip rfl ?_ | refine X.ret rfl ?_ | (refine X.ite rfl rfl (fun hc => ?_); (first | (with_reducible refine Xb.t hc ?_) | (with_reducible refine Xb.f hc ?_) | (with_reducible refine Xb.caseB hc (fun h => ?_) (fun h => ?_))) <;> clear hc))
  all_goals try (exfalso; contradiction)
  · refine ret_none (by first | exact .inr rfl | exact .inl rfl) Try.results146 (H' := Hc ++ E) (List.sublist_cons_self _ _) ⟨Hc, rfl, .inl ⟨pre, it_done hn hp hx, hJ⟩⟩
  · obtain ⟨rest', hp'⟩ := it_more hp he hs
    have hl' := it_len hp'
    rw [List.length_append] at hl'
    exact ⟨_, [(0, .func (.yield y) #[] #[]), (6, .pointer (some ⟨r, 0, none⟩))], _, (by (repeat (first | exact Sub.nil _ | refine Sub.cons rfl ?_)); done), List.Sublist.refl _, ⟨pre ++ [e], rest', Hc', rfl, hp', hJ', rfl, rfl⟩, by simp only [List.length_append, List.length_cons, List.length_nil] at hl' ⊢; omega⟩
  · exact ret_none (by first | exact .inr rfl | exact .inl rfl) Try.results146 (H' := Hc' ++ E) (List.Sublist.append (List.Sublist.refl _) (List.sublist_cons_self _ _)) ⟨Hc', rfl, .inr ⟨_, it_more hp he hs, hJ'⟩⟩
theorem values_spec (bm : Nat) (H : List Row) : Fc Try.prog 122 [.map (some bm)] H (fun v H' => ∃ bb, v = .func (.func 146) #[] #[.pointer (some ⟨bb, 0, none⟩)] ∧ H' = ⟨bb, 0, [.map (some bm)], some 181, 1⟩ :: H) := by
  refine Fc.mk (callable Try.call122) Try.func122 rfl Try.ntmps122 rfl ?_; dsimp only [fr]
  repeat' (first | (refine XO.op rfl ?_; (first | ((first | refine Xo.ng rfl ?_); (first | (refine Xg.ev (EvF.makeFunc (fl := []) rfl Args.nil (Args.cons rfl Args.nil)) rfl rfl ?_) | (refine Xg.ev (EvF.assign rfl rfl) rfl rfl ?_) | (refine Xg.st (StF.boxOne rfl rfl rfl) rfl rfl ?_; rintro _ _ ⟨bx, rfl, rfl⟩))))) | (refine XO.done rfl ?_; refine hK _ _ ?_; clear hK K) | refine X.seq rfl ?_ | refine X.region rfl (fun K hK => ?_) | refine X.ret rfl ?_)
  exact ret_one (by first | exact .inr rfl | exact .inl rfl) Try.results122 rfl (List.Sublist.refl _) ⟨_, rfl, rfl⟩
set_option maxHeartbeats 4000000 in
theorem keys1_it (bm bb clock : Nat) (ow : Option Kd) (cap : Nat) (l : List Ent) (E : List Row) (hb : ⟨bb, 0, [.map (some bm)], ow, cap⟩ ∈ E) (hm : mRow bm .i64 l clock ∈ E) (hn : (l.map (·.2.2)).Nodup) (hc : ∀ e ∈ l, e.2.2 < clock) :
    ItfG Try.prog 147 [.pointer (some ⟨bb, 0, none⟩)] E (GdM l) (DnM l) (fun e => [.int .i64 e.1]) := by
  refine ⟨callable Try.call147, fun y J Jx Hc h0 hY => ?_⟩
  have hb0 : ∀ Z : List Row, (⟨bb, 0, [.map (some bm)], ow, cap⟩ : Row) ∈ Z ++ E := fun Z => List.mem_append_right _ hb
  have hm0 : ∀ Z : List Row, mRow bm .i64 l clock ∈ Z ++ E := fun Z => List.mem_append_right _ hm
  refine Fc.mk (callable Try.call147) Try.func147 rfl Try.ntmps147 rfl ?_; dsimp only [fr]
  repeat' (first | (refine XO.op rfl ?_; (first | ((first | refine Xo.ng rfl ?_); (first | (refine Xg.ev (EvF.loadV rfl rfl (LoadV.own (te rfl) rfl (hb0 _) rfl)) rfl rfl ?_) | (refine Xg.st (StF.rangeMap (kd := .i64) rfl maps_und rfl (hm0 _)) rfl rfl ?_; rintro _ _ ⟨r, rfl, rfl⟩))))) | (refine XO.done rfl ?_; refine hK _ _ ?_; clear hK K) | refine X.seq rfl ?_ | refine X.region rfl (fun K hK => ?_) | refine X.block rfl ?_)
  refine X.permH (H' := Hc ++ (iRow r bm clock [] :: E)) List.perm_middle ?_
  refine X.lp rfl (fun m F' H' => ∃ (pre rest : List Ent) (Hc : List Row), m = l.length - pre.length ∧ (pre ++ rest).Perm l ∧ J pre Hc ∧ H' = Hc ++ (iRow r bm clock pre :: E) ∧
      F' = [(0, .func (.yield y) #[] #[]), (5, .pointer (some ⟨r, 0, none⟩))])
    _ [(0, .func (.yield y) #[] #[]), (5, .pointer (some ⟨r, 0, none⟩))] (Hc ++ (iRow r bm clock [] :: E)) (by (repeat (first | exact Sub.nil _ | refine Sub.cons rfl ?_)); done) (List.Sublist.refl _) ⟨[], l, Hc, rfl, List.Perm.refl _, h0, rfl, rfl⟩ ?_
  rintro _ _ _ ⟨pre, rest, Hc, rfl, hp, hJ, rfl, rfl⟩
  have hle := it_len hp
  refine X.permH (H' := iRow r bm clock pre :: (Hc ++ E)) List.perm_middle.symm ?_
  repeat' (first | (refine XO.op rfl ?_; (first | ((first | refine Xo.ng rfl ?_); (first | (refine Xg.st (StF.nextMap (i := 0) (kd := .i64) rfl rfl rfl (List.Mem.tail _ (hm0 _)) hc) rfl rfl ?_; rintro _ _ (⟨rfl, rfl, hx⟩ | ⟨e, he, hs, rfl, rfl⟩); all_goals try dsimp only [List.set]) | (refine Xg.ev (EvF.entry (pre := pre) rfl rfl (List.Mem.head _) (List.Mem.tail _ (hm0 _)) he hn) rfl rfl ?_) | (refine Xg.yield rfl rfl (Args.cons rfl Args.nil) rfl rfl ((hY _ e Hc (it_more hp he hs) hJ _).permR List.perm_middle.symm) ?_; rintro _ _ ⟨Hc', rfl, ⟨rfl, hJ'⟩ | ⟨rfl, hJ'⟩⟩) | (refine Xg.ev (EvF.move rfl rfl) rfl rfl ?_) | (refine Xg.ev (EvF.assign rfl rfl) rfl rfl ?_) | (refine Xg.ev (EvF.not rfl rfl) rfl rfl ?_) | (refine Xg.ev (EvF.extract rfl rfl rfl) rfl rfl ?_))))) | (refine XO.done rfl ?_; refine hK _ _ ?_; clear hK K) | refine X.seq rfl ?_ | refine X.region rfl (fun K hK => ?_) | refine X.block rfl ?_ | (refine X.brk rfl ?_; repeat (first | refine blockX_hit rfl ?_ | refine blockX_miss (by decide) ?_)) | refine X.skip rfl ?_ | refine X.ret rfl ?_ | (refine X.ite rfl rfl (fun hc => ?_); (first | (with_reducible refine Xb.t hc ?_) | (with_reducible refine Xb.f hc ?_) | (with_reducible refine Xb.caseB hc (fun h => ?_) (fun h => ?_))) <;> clear hc))
  all_goals try (exfalso; contradiction)
  · refine ret_none (by first | exact .inr rfl | exact .inl rfl) Try.results147 (H' := Hc ++ E) (List.sublist_cons_self _ _) ⟨Hc, rfl, .inl ⟨pre, it_done hn hp hx, hJ⟩⟩
  · obtain ⟨rest', hp'⟩ := it_more hp he hs
    have hl' := it_len hp'
    rw [List.length_append] at hl'
    exact ⟨_, [(0, .func (.yield y) #[] #[]), (5, .pointer (some ⟨r, 0, none⟩))], _, (by (repeat (first | exact Sub.nil _ | refine Sub.cons rfl ?_)); done), List.Sublist.refl _, ⟨pre ++ [e], rest', Hc', rfl, hp', hJ', rfl, rfl⟩, by simp only [List.length_append, List.length_cons, List.length_nil] at hl' ⊢; omega⟩
  · exact ret_none (by first | exact .inr rfl | exact .inl rfl) Try.results147 (H' := Hc' ++ E) (List.Sublist.append (List.Sublist.refl _) (List.sublist_cons_self _ _)) ⟨Hc', rfl, .inr ⟨_, it_more hp he hs, hJ'⟩⟩
theorem keys_spec (bm : Nat) (H : List Row) : Fc Try.prog 124 [.map (some bm)] H (fun v H' => ∃ bb, v = .func (.func 147) #[] #[.pointer (some ⟨bb, 0, none⟩)] ∧ H' = ⟨bb, 0, [.map (some bm)], some 181, 1⟩ :: H) := by
  refine Fc.mk (callable Try.call124) Try.func124 rfl Try.ntmps124 rfl ?_; dsimp only [fr]
  repeat' (first | (refine XO.op rfl ?_; (first | ((first | refine Xo.ng rfl ?_); (first | (refine Xg.ev (EvF.makeFunc (fl := []) rfl Args.nil (Args.cons rfl Args.nil)) rfl rfl ?_) | (refine Xg.ev (EvF.assign rfl rfl) rfl rfl ?_) | (refine Xg.st (StF.boxOne rfl rfl rfl) rfl rfl ?_; rintro _ _ ⟨bx, rfl, rfl⟩))))) | (refine XO.done rfl ?_; refine hK _ _ ?_; clear hK K) | refine X.seq rfl ?_ | refine X.region rfl (fun K hK => ?_) | refine X.ret rfl ?_)
  exact ret_one (by first | exact .inr rfl | exact .inl rfl) Try.results124 rfl (List.Sublist.refl _) ⟨_, rfl, rfl⟩
end Go.Proofs.Ytjejppodhpdckaa
end
section
set_option linter.unusedVariables false
set_option linter.unusedSimpArgs false
namespace Go.Proofs.Ytjejppodhpdckaa
open Go Go.Fw
set_option maxRecDepth 10000
theorem spanned_spec (s : Sp) (H : List Row) : Fc Try.prog 86 [.agg (cSp s).toArray] H (fun v H' => v = .bool (decide (partOk s.lo s.hi)) ∧ H' = H) := by
  refine Fc.mk (callable Try.call86) Try.func86 rfl Try.ntmps86 rfl ?_; dsimp only [fr]
  repeat' (first | (refine XO.op rfl ?_; (first | ((first | refine Xo.ng rfl ?_ | (refine Xo.g rfl rfl ?_; with_reducible refine Xw.tt ?_)); (first | (refine Xg.call (EnF.st rfl (Args.cons rfl (Args.cons rfl (Args.cons rfl Args.nil)))) rfl rfl (w4_spec _ _ _ _) ?_; rintro _ H9 ⟨rfl, hH9⟩; subst H9) | (refine Xg.ev (EvF.move rfl rfl) rfl rfl ?_) | (refine Xg.ev (EvF.assign rfl rfl) rfl rfl ?_) | (refine Xg.ev (EvF.pickT rfl rfl rfl) rfl rfl ?_) | (refine Xg.ev (EvF.pickF rfl rfl rfl) rfl rfl ?_) | (refine Xg.ev (EvF.fieldAddr rfl rfl (te rfl) rfl (te rfl) (by decide)) rfl rfl ?_) | (refine Xg.ev (EvF.loadV rfl rfl (LoadV.own (te rfl) rfl (List.Mem.head _) rfl)) rfl rfl ?_) | (refine Xg.st (StF.boxAgg rfl rfl) rfl rfl ?_; rintro _ _ ⟨bx, rfl, rfl⟩))) | (refine Xo.g rfl rfl ?_; (first | (with_reducible refine Xw.ft rfl rfl ?_) | (with_reducible refine Xw.case (fun h => ?_) (fun h => ?_) <;> simp only [h, decide_true, decide_false, Bool.not_true, Bool.not_false, and_self, and_true, true_and, and_false, false_and]))))) | (refine XO.done rfl ?_; refine hK _ _ ?_; clear hK K) | refine X.seq rfl ?_ | refine X.region rfl (fun K hK => ?_) | refine X.ret rfl ?_)
  all_goals (refine ret_one (by first | exact .inr rfl | exact .inl rfl) Try.results86 rfl (H' := H) (by (repeat (first | exact List.Sublist.refl _ | apply List.Sublist.cons)); done) ?_; simp only [and_true, true_and])
  · congr 1; refine decide_eq_decide.2 ?_; unfold partOk; omega
  · congr 1; symm; refine decide_eq_false ?_; unfold partOk; omega
def rowA (g : Int) (l : List Int) : List Cl := l.map (fun s => (⟨g, s⟩ : Cl))
def allI (l : Lo) (gs : List Int) : List Cl := gs.flatMap (fun g => rowA g (ir l.s1 l.s2))
/-- all classes of a lot -/
def allC (l : Lo) : List Cl := allI l (ir l.g1 l.g2)
theorem filter_flatMap' {α β : Type} (f : α → List β) (q : β → Bool) : ∀ l : List α, (l.flatMap f).filter q = l.flatMap (fun x => (f x).filter q)
  | [] => rfl
  | x :: l => by rw [List.flatMap_cons, List.filter_append, filter_flatMap' f q l, List.flatMap_cons]
theorem cls_all (T : Tm) (l : Lo) : cls T l = (allC l).filter (may T) := by
  unfold cls clsI allC allI
  rw [filter_flatMap']; rfl
end Go.Proofs.Ytjejppodhpdckaa
end
section
set_option linter.unusedVariables false
set_option linter.unusedSimpArgs false
namespace Go.Fw
open Go
theorem EvF.neSelf {P : Program} {n : Nat} {H : List Row} {F : FS} {o : Oper} {T T' : TypeId} {x y : Operand} {k : IntKind} {p : Int} (h : o.op = .binOp .neq T x y T') (hx : evF F x = some (.int k p)) (hy : evF F y = some (.int k p)) : EvF P n H F o (.bool false) := by
  have := EvF.cmp (P := P) (n := n) (H := H) h hx hy rfl
  rwa [decide_eq_true rfl] at this
end Go.Fw
namespace Go.Proofs.Ytjejppodhpdckaa
open Go Go.Fw
set_option maxRecDepth 10000
def cmpI (a b : Int) : Int := if a < b then -1 else if b < a then 1 else 0
theorem isNaN_spec (x : Int) (H : List Row) : Fc Try.prog 148 [.int .i64 x] H (fun v H' => v = .bool false ∧ H' = H) := by
  refine Fc.mk (callable Try.call148) Try.func148 rfl Try.ntmps148 rfl ?_; dsimp only [fr]
  repeat' (first | (refine XO.op rfl ?_; (first | ((first | refine Xo.ng rfl ?_); (first | (refine Xg.ev (EvF.neSelf rfl rfl rfl) rfl rfl ?_) | (refine Xg.ev (EvF.move rfl rfl) rfl rfl ?_) | (refine Xg.ev (EvF.assign rfl rfl) rfl rfl ?_))))) | (refine XO.done rfl ?_; refine hK _ _ ?_; clear hK K) | refine X.seq rfl ?_ | refine X.region rfl (fun K hK => ?_) | refine X.ret rfl ?_)
  refine ret_one (by first | exact .inr rfl | exact .inl rfl) Try.results148 rfl (H' := H) (by (repeat (first | exact List.Sublist.refl _ | apply List.Sublist.cons)); done) ?_; simp only [and_true, true_and]
theorem compare_spec (x y : Int) (H : List Row) : Fc Try.prog 125 [.int .i64 x, .int .i64 y] H (fun v H' => v = .int .i64 (cmpI x y) ∧ H' = H) := by
  unfold cmpI
  refine Fc.mk (callable Try.call125) Try.func125 rfl Try.ntmps125 rfl ?_; dsimp only [fr]
  repeat' (first | (refine XO.op rfl ?_; (first | ((first | refine Xo.ng rfl ?_); (first | (refine Xg.call (EnF.st rfl (Args.cons rfl Args.nil)) rfl rfl (isNaN_spec _ _) ?_; rintro _ H9 ⟨rfl, hH9⟩; subst H9) | (refine Xg.ev (EvF.move rfl rfl) rfl rfl ?_) | (refine Xg.ev (EvF.assign rfl rfl) rfl rfl ?_) | (refine Xg.ev (EvF.cmp rfl rfl rfl rfl) rfl rfl ?_))))) | (refine XO.done rfl ?_; refine hK _ _ ?_; clear hK K) | refine X.seq rfl ?_ | refine X.region rfl (fun K hK => ?_) | refine X.skip rfl ?_ | refine X.ret rfl ?_ | (refine X.ite rfl rfl (fun hc => ?_); (first | (with_reducible refine Xb.f hc ?_) | (with_reducible refine Xb.case hc (fun h => ?_) (fun h => ?_))) <;> clear hc))
  all_goals try (exfalso; contradiction)
  all_goals (refine ret_one (by first | exact .inr rfl | exact .inl rfl) Try.results125 rfl (H' := H) (by (repeat (first | exact List.Sublist.refl _ | apply List.Sublist.cons)); done) ?_; simp only [and_true, true_and])
  · rw [if_pos (by assumption)]
  · rw [if_neg (by assumption), if_pos (by omega)]
  · rw [if_neg (by assumption), if_neg (by omega)]
def in9 (c : Cl) : Prop := (1 ≤ c.g ∧ c.g ≤ 9) ∧ (1 ≤ c.s ∧ c.s ≤ 9)
end Go.Proofs.Ytjejppodhpdckaa
end
section
set_option linter.unusedVariables false
set_option linter.unusedSimpArgs false
namespace Go.Proofs.Ytjejppodhpdckaa
open Go Go.Fw
set_option maxRecDepth 10000
theorem cmpI_neg (a b : Int) : cmpI a b < 0 ↔ a < b := by
  unfold cmpI
  by_cases h : a < b
  · rw [if_pos h]; exact ⟨fun _ => h, fun _ => by decide⟩
  · rw [if_neg h]
    refine ⟨fun q => ?_, fun q => absurd q h⟩
    split at q <;> exact absurd q (by decide)
end Go.Proofs.Ytjejppodhpdckaa
end
