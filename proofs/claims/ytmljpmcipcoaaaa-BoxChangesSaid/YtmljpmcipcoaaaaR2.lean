/- BoxChanges: for every room, match, list of numbers and box the law returns true (the rooms with a match more, without some, and with a box more, or the errors, are those of the reference, and nothing of what is handed in is changed or shared), and each argument reads afterwards as before. No condition. -/
import Derived.Test.YtmljpmcipcoaaaaR1
import Derived.Test.YtmljpmcipcoaaaaB7
import Derived.Test.YtmljpmcipcoaaaaRows
import Derived.WalkKit
import Derived.ChangeOld
import Derived.ShutString
namespace Go.Proofs.Ytmljpmcipcoaaaa
open Go Go.Fw Go.ChangeShapes Go.WideShapes Go.ChangeAt Go.RowKit
set_option linter.unusedVariables false
set_option maxRecDepth 100000
theorem ownK : ownKnob Try.prog.godebug = none := by kernel_rfl
theorem laidO : laidOutB Try.prog = true := by kernel_rfl
theorem boxChanges_run (R : Rm) (p : Pl) (x : Mt) (l : List Int) (al : Option Addr) (cl : Nat) (y : Bx) (w : World) (hR : InRm w R p) (hl : InSl w al cI 1 l) :
    Calls Try.prog 7 #[.agg (cRm R p).toArray, .agg (cMt x).toArray, .slice al l.length cl, .agg (cBx y).toArray] w fun e w' => e = .returned (.bool true) ∧ Below w.heap.size w w' := by
  refine Fc.calls (H := rowsRm R p ++ rowsOf al cI l) (boxChanges_spec R p x l al cl y _ (hR.rm (fun r h => List.mem_append_left _ h)) (hl.sl (fun r h => List.mem_append_right _ h)) hR.k2 hR.k3) (fun r hr => ?_)
  rcases List.mem_append.1 hr with hr | hr
  · exact hR.ok r hr
  · exact hl.ok r hr
theorem lifted (os : Os) (started : os.Started) (H : Type) (enc : TypeId × Value → H) :
    ReturnsInHanded {} Try.checked os 7 .any (Rows.boxChangesSpec.pre6 enc Try.prog Try.f7 Rows.boxChangesRow.domain false) (Rows.boxChangesSpec.post enc Try.prog Try.f7 false true false false) := by
  refine returnsInHanded_of_change (C := Try.checked) ownK started (by kernel_rfl) Try.func7
    (ChangeSpec.witness6 (enc := enc) (C := Try.checked) false ⟨#[], #[.agg (cRm Rz pz).toArray, .agg (cMt ⟨0, 0, 0, 0, 0, 0⟩).toArray, .slice none 0 0, .agg (cBx ⟨0, 0⟩).toArray], []⟩ 8 (by kernel_rfl) (by kernel_rfl) (by kernel_rfl) (by kernel_rfl)) ?_
  intro W base args ds gs before hval0 hW hcnd _
  have hval : ∀ (j : Nat) t v, Try.f7.params[j]? = some t → args[j]? = some v → Value.okWide Try.prog W .any base t v := hval0
  have hW' := hW
  obtain ⟨p, q, hA0, hV, rfl, hfz, hnd⟩ := hW
  have hA : DataW.TrodAll enc Try.prog W 0 (fun _ => true) true Try.f7.params.toList args.toList ds p := hA0
  rw [Try.params7] at hA hval
  obtain ⟨v0, vs0, d0, ds0, p0, q0, hargs, rfl, rfl, h0, r0⟩ := trodAll_cons hA
  obtain ⟨v1, vs1, d1, ds1, p1, q1, rfl, rfl, rfl, h1, r1⟩ := trodAll_cons r0
  obtain ⟨v2, vs2, d2, ds2, p2, q2, rfl, rfl, rfl, h2, r2⟩ := trodAll_cons r1
  obtain ⟨v3, vs3, d3, ds3, p3, q3, rfl, rfl, rfl, h3, r3⟩ := trodAll_cons r2
  obtain ⟨rfl, rfl, rfl⟩ := trodAll_nil r3
  obtain rfl : args = #[v0, v1, v2, v3] := by cases args; simp_all
  obtain ⟨rfl, rfl⟩ := trodVars_none hV
  have lt : ∀ {t v d ps}, DataW.Trod enc Try.prog W 0 (fun _ => true) true t v d ps → ∀ x ∈ ps, x.block < W.heap.size := fun h => by obtain ⟨m, hm⟩ := h; exact DataW.trod_lt m _ _ _ hm
  obtain ⟨R, pl, rfl, hR⟩ := open_room (hval 0 _ v0 rfl rfl) h0
  obtain ⟨x, rfl⟩ := open_match (hval 1 _ v1 rfl rfl) h1
  obtain ⟨l, al, cl, rfl, hl, _, _⟩ := open_list (hval 2 _ v2 rfl rfl) h2
  obtain ⟨y, rfl⟩ := open_box (hval 3 _ v3 rfl rfl) h3
  clear hA0 hval0
  refine (boxChanges_run R pl x l al cl y W hR hl).mono fun e W' ⟨he, bel⟩ => ?_
  subst he
  exact ⟨_, rfl, _, _, _, [], _, [], hW', trodAll_mk1 (shut_bool Try.underlying4 _), (trodAll_cons_mk (Below.trod laidO (by kernel_rfl) (of_decide_eq_true (by kernel_rfl)) h0 bel (lt h0)) (trodAll_cons_mk (Below.trod laidO (by kernel_rfl) (of_decide_eq_true (by kernel_rfl)) h1 bel (lt h1)) (trodAll_cons_mk (Below.trod laidO (by kernel_rfl) (of_decide_eq_true (by kernel_rfl)) h2 bel (lt h2)) (trodAll_cons_mk (Below.trod laidO (by kernel_rfl) (of_decide_eq_true (by kernel_rfl)) h3 bel (lt h3)) trodAll_mk0)))), rfl, bel.frame _, fun h => by cases h⟩
theorem over : Rows.boxChangesRow.holds Try.pinned (OpenSpec.ofChange Rows.boxChangesSpec) :=
  OpenClaim.holds_of_wide 7 Try.f7 rfl rfl rfl rfl rfl rfl rfl ⟨rfl, rfl, rfl, rfl, rfl⟩ rfl rfl rfl rfl rfl (by kernel_rfl) Try.func7 (by kernel_rfl)
    (of_decide_eq_true (by kernel_rfl)) (by unfold Func.isWrapper; first | (rw [if_pos (by decide +kernel)]; kernel_rfl) | (rw [if_neg (by decide +kernel)]; exact ⟨rfl, rfl⟩))
    (fun os started H enc _ => lifted os started H enc)
theorem boxChanges_proved : Rows.BoxChangesSaid := over
#print axioms boxChanges_proved
end Go.Proofs.Ytmljpmcipcoaaaa
