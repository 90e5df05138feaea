/- BoxDue: for every room and two numbers of points the law returns true (what is due is due by nobody before, in the month that is told just these boxes may have yellowed by more, with more points nothing is due sooner; the examples are as told), and each argument reads afterwards as before. No condition. -/
import Derived.Test.YtiidhncjolbigaaW08
import Derived.OpenShut
import Derived.ProofKit
import Derived.Test.YtiidhncjolbigaaRows
import Derived.WalkKit
import Derived.ChangeOld
import Derived.ShutString
section
set_option linter.unusedVariables false
namespace Go.Proofs.Ytiidhncjolbigaa
open Go Go.Fw Go.ChangeShapes Go.WideShapes
set_option maxRecDepth 10000
instance : Inhabited Sp := ⟨⟨0, 0⟩⟩
instance : Inhabited Bx := ⟨⟨0, 0⟩⟩
instance : Inhabited Mt := ⟨⟨0, 0, 0, 0, 0, 0⟩⟩
def w64 (n : Int) : Prop := (Lit.int .i64 n).wf = true
section
variable {H : Type} {enc : TypeId × Value → H} {w : World} {base : Nat} {spare : Nat → Bool} {held : Bool} {fuel : Nat} {cs : List Value} {x : DataW H × List MemPlace}
theorem open_i (h : DataW.trod enc Try.prog w base spare held fuel 3 cs = some x) : ∃ q : Int, cs = cI q ∧ w64 q := trod_i (te rfl) h
theorem open_sp (h : DataW.trod enc Try.prog w base spare held fuel 35 cs = some x) : ∃ q : Sp, cs = cSp q ∧ (w64 q.lo ∧ w64 q.hi) := by
 obtain ⟨hl, hf⟩ := trod_st (te rfl) h
 obtain ⟨n0, y0, h0⟩ := hf 0 0 3 _ rfl (te rfl)
 obtain ⟨n1, y1, h1⟩ := hf 1 1 3 _ rfl (te rfl)
 match cs, hl with
 | [a, b], _ =>
  obtain ⟨lo, e0, w0⟩ := open_i h0
  obtain ⟨hi, e1, w1⟩ := open_i h1
  simp [cI] at e0 e1
  subst e0 e1
  exact ⟨⟨lo, hi⟩, rfl, w0, w1⟩
theorem open_bx (h : DataW.trod enc Try.prog w base spare held fuel 81 cs = some x) : ∃ q : Bx, cs = cBx q ∧ (w64 q.id ∧ w64 q.made) := by
 obtain ⟨hl, hf⟩ := trod_st (te rfl) h
 obtain ⟨n0, y0, h0⟩ := hf 0 0 3 _ rfl (te rfl)
 obtain ⟨n1, y1, h1⟩ := hf 1 1 3 _ rfl (te rfl)
 match cs, hl with
 | [a, b], _ =>
  obtain ⟨lo, e0, w0⟩ := open_i h0
  obtain ⟨hi, e1, w1⟩ := open_i h1
  simp [cI] at e0 e1
  subst e0 e1
  exact ⟨⟨lo, hi⟩, rfl, w0, w1⟩
theorem open_mt (h : DataW.trod enc Try.prog w base spare held fuel 111 cs = some x) : ∃ q : Mt, cs = cMt q ∧ (w64 q.number ∧ w64 q.month ∧ w64 q.a ∧ w64 q.b ∧ w64 q.lo ∧ w64 q.hi) := by
 obtain ⟨hl, hf⟩ := trod_st (te rfl) h
 obtain ⟨n0, y0, h0⟩ := hf 0 0 3 _ rfl (te rfl)
 obtain ⟨n1, y1, h1⟩ := hf 1 1 3 _ rfl (te rfl)
 obtain ⟨n2, y2, h2⟩ := hf 2 2 3 _ rfl (te rfl)
 obtain ⟨n3, y3, h3⟩ := hf 3 3 3 _ rfl (te rfl)
 obtain ⟨n4, y4, h4⟩ := hf 4 4 35 _ rfl (te rfl)
 match cs, hl with
 | [a, b, c, d, e, f], _ =>
  obtain ⟨q0, e0, w0⟩ := open_i h0
  obtain ⟨q1, e1, w1⟩ := open_i h1
  obtain ⟨q2, e2, w2⟩ := open_i h2
  obtain ⟨q3, e3, w3⟩ := open_i h3
  obtain ⟨q4, e4, w4⟩ := open_sp h4
  simp [cI, cSp] at e0 e1 e2 e3 e4
  obtain ⟨e4, e5⟩ := e4
  subst e0 e1 e2 e3 e4 e5
  exact ⟨⟨q0, q1, q2, q3, q4.lo, q4.hi⟩, rfl, w0, w1, w2, w3, w4.1, w4.2⟩
end
structure InRm (w : World) (R : Rm) (p : Pl) : Prop where
 ages : InSl w p.a1 cSp 2 R.ages
 boxes : InSl w p.a2 cBx 2 R.boxes
 mats : InSl w p.a3 cMt 6 R.mats
 mo : w64 R.months
 st : w64 R.step
 k1 : R.ages.length ≤ p.c1
 k2 : R.boxes.length ≤ p.c2
 k3 : R.mats.length ≤ p.c3
def rowsRm (R : Rm) (p : Pl) : List Row := rowsOf p.a1 cSp R.ages ++ (rowsOf p.a2 cBx R.boxes ++ rowsOf p.a3 cMt R.mats)
theorem InRm.rm {w : World} {R : Rm} {p : Pl} {H : List Row} (h : InRm w R p) (hs : ∀ r ∈ rowsRm R p, r ∈ H) : RmOk H R p where
 ages := h.ages.sl fun r hr => hs r (List.mem_append_left _ hr)
 boxes := h.boxes.sl fun r hr => hs r (List.mem_append_right _ (List.mem_append_left _ hr))
 mats := h.mats.sl fun r hr => hs r (List.mem_append_right _ (List.mem_append_right _ hr))
 l1 := by have := h.ages.2.1; unfold maxLen at this; omega
 l2 := by have := h.boxes.2.1; unfold maxLen at this; omega
 l3 := by have := h.mats.2.1; unfold maxLen at this; omega
theorem InRm.ok {w : World} {R : Rm} {p : Pl} {B : Nat} (h : InRm w R p) : ∀ r ∈ rowsRm R p, r.own = none ∧ r.ok B w := by
 intro r hr
 rcases List.mem_append.1 hr with hr | hr
 ·exact h.ages.ok r hr
 ·rcases List.mem_append.1 hr with hr | hr
  ·exact h.boxes.ok r hr
  ·exact h.mats.ok r hr
section
variable {H : Type} {enc : TypeId × Value → H} {w : World} {base : Nat} {spare : Nat → Bool} {held : Bool} {v : Value} {d : DataW H} {p : List MemPlace} {r : Reach} {b0 : Nat}
theorem open_room (hv : Value.okWide Try.prog w r b0 26 v) (h : DataW.Trod enc Try.prog w base spare held 26 v d p) : ∃ R pl, v = .agg (cRm R pl).toArray ∧ InRm w R pl := by
 obtain ⟨fa, hu, _⟩ := ti_struct (te (T := 26) rfl)
 obtain ⟨⟨cs⟩, rfl, _⟩ := okWide_struct hu hv
 obtain ⟨fuel, hf⟩ := h
 obtain ⟨hl, hf⟩ := trod_st (te rfl) hf
 obtain ⟨n0, y0, h0⟩ := hf 0 0 3 _ rfl (te rfl)
 obtain ⟨n1, y1, h1⟩ := hf 1 1 3 _ rfl (te rfl)
 obtain ⟨n2, y2, h2⟩ := hf 2 2 22 _ rfl (te rfl)
 obtain ⟨n3, y3, h3⟩ := hf 3 3 23 _ rfl (te rfl)
 obtain ⟨n4, y4, h4⟩ := hf 4 4 24 _ rfl (te rfl)
 match cs, hl with
 | [a, b, c, d, e], _ =>
  obtain ⟨q0, e0, w0⟩ := open_i h0
  obtain ⟨q1, e1, w1⟩ := open_i h1
  simp [cI, Value.cells] at e0 e1
  obtain ⟨l2, a2, c2, e2, i2, _, k2⟩ := open_sl (te rfl) (te rfl) rfl (by decide) (fun _ _ _ => open_sp) (fun _ => rfl) h2
  obtain ⟨l3, a3, c3, e3, i3, _, k3⟩ := open_sl (te rfl) (te rfl) rfl (by decide) (fun _ _ _ => open_bx) (fun _ => rfl) h3
  obtain ⟨l4, a4, c4, e4, i4, _, k4⟩ := open_sl (te rfl) (te rfl) rfl (by decide) (fun _ _ _ => open_mt) (fun _ => rfl) h4
  subst e0 e1 e2 e3 e4
  exact ⟨⟨q0, q1, l2, l3, l4⟩, ⟨a2, c2, a3, c3, a4, c4⟩, rfl, i2, i3, i4, w0, w1, k2, k3, k4⟩
end
end Go.Proofs.Ytiidhncjolbigaa
end
section
set_option linter.unusedVariables false
namespace Go.Proofs.Ytiidhncjolbigaa
open Go Go.Fw Go.ChangeShapes Go.WideShapes Go.ChangeAt Go.RowKit
set_option linter.unusedVariables false
set_option maxRecDepth 100000
theorem ownK : ownKnob Try.prog.godebug = none := by kernel_rfl
theorem laidO : laidOutB Try.prog = true := by kernel_rfl
theorem open_in {w : World} {r : Reach} {b0 : Nat} {v : Value} (hv : Value.okWide Try.prog w r b0 3 v) : ∃ q : Int, v = .int .i64 q := okWide_int Try.underlying3 hv
theorem boxTells_run (R : Rm) (p : Pl) (a b m : Int) (w : World) (hR : InRm w R p) :
  Calls Try.prog 3 #[.agg (cRm R p).toArray, .int .i64 a, .int .i64 b, .int .i64 m] w fun e w' => e = .returned (.bool true) ∧ Below w.heap.size w w' :=
 Fc.calls (H := rowsRm R p) (boxTells_spec R p a b m _ (hR.rm (fun _ h => h))) (fun r hr => hR.ok r hr)
theorem lifted (os : Os) (started : os.Started) (H : Type) (enc : TypeId × Value → H) :
  ReturnsInHanded {} Try.checked os 3 .any (Rows.boxTellsSpec.pre6 enc Try.prog Try.f3 Rows.boxTellsRow.domain false) (Rows.boxTellsSpec.post enc Try.prog Try.f3 false true false false) := by
 refine returnsInHanded_of_change (C := Try.checked) ownK started (by kernel_rfl) Try.func3
  (ChangeSpec.witness6 (enc := enc) (C := Try.checked) false ⟨#[], #[.agg (cRm ⟨0, 0, [], [], []⟩ ⟨none, 0, none, 0, none, 0⟩).toArray, .int .i64 0, .int .i64 0, .int .i64 0], []⟩ 8 (by kernel_rfl) (by kernel_rfl) (by kernel_rfl) (by kernel_rfl)) ?_
 intro W base args ds gs before hval0 hW hcnd _
 have hval : ∀ (j : Nat) t v, Try.f3.params[j]? = some t → args[j]? = some v → Value.okWide Try.prog W .any base t v := hval0
 have hW' := hW
 obtain ⟨p, q, hA0, hV, rfl, hfz, hnd⟩ := hW
 have hA : DataW.TrodAll enc Try.prog W 0 (fun _ => true) true Try.f3.params.toList args.toList ds p := hA0
 rw [Try.params3] at hA hval
 obtain ⟨v0, vs0, d0, ds0, p0, q0, hargs, rfl, rfl, h0, r0⟩ := trodAll_cons hA
 obtain ⟨v1, vs1, d1, ds1, p1, q1, rfl, rfl, rfl, h1, r1⟩ := trodAll_cons r0
 obtain ⟨v2, vs2, d2, ds2, p2, q2, rfl, rfl, rfl, h2, r2⟩ := trodAll_cons r1
 obtain ⟨v3, vs3, d3, ds3, p3, q3, rfl, rfl, rfl, h3, r3⟩ := trodAll_cons r2
 obtain ⟨rfl, rfl, rfl⟩ := trodAll_nil r3
 obtain rfl : args = #[v0, v1, v2, v3] := by cases args; simp_all
 obtain ⟨rfl, rfl⟩ := trodVars_none hV
 have lt : ∀ {t v d ps}, DataW.Trod enc Try.prog W 0 (fun _ => true) true t v d ps → ∀ x ∈ ps, x.block < W.heap.size := fun h => by obtain ⟨m, hm⟩ := h; exact DataW.trod_lt m _ _ _ hm
 obtain ⟨R, pl, rfl, hR⟩ := open_room (hval 0 _ v0 rfl rfl) h0
 obtain ⟨a, rfl⟩ := open_in (hval 1 _ v1 rfl rfl)
 obtain ⟨b, rfl⟩ := open_in (hval 2 _ v2 rfl rfl)
 obtain ⟨m, rfl⟩ := open_in (hval 3 _ v3 rfl rfl)
 clear hA0 hval0
 refine (boxTells_run R pl a b m W hR).mono fun e W' ⟨he, bel⟩ => ?_
 subst he
 exact ⟨_, rfl, _, _, _, [], _, [], hW', trodAll_mk1 (shut_bool Try.underlying4 _), (trodAll_cons_mk (Below.trod laidO (by kernel_rfl) (of_decide_eq_true (by kernel_rfl)) h0 bel (lt h0)) (trodAll_cons_mk (Below.trod laidO (by kernel_rfl) (of_decide_eq_true (by kernel_rfl)) h1 bel (lt h1)) (trodAll_cons_mk (Below.trod laidO (by kernel_rfl) (of_decide_eq_true (by kernel_rfl)) h2 bel (lt h2)) (trodAll_cons_mk (Below.trod laidO (by kernel_rfl) (of_decide_eq_true (by kernel_rfl)) h3 bel (lt h3)) trodAll_mk0)))), rfl, bel.frame _, fun h => by cases h⟩
theorem over : Rows.boxTellsRow.holds Try.pinned (OpenSpec.ofChange Rows.boxTellsSpec) :=
 OpenClaim.holds_of_wide 3 Try.f3 rfl rfl rfl rfl rfl rfl rfl ⟨rfl, rfl, rfl, rfl, rfl⟩ rfl rfl rfl rfl rfl (by kernel_rfl) Try.func3 (by kernel_rfl)
  (of_decide_eq_true (by kernel_rfl)) (by unfold Func.isWrapper; first | (rw [if_pos (by decide +kernel)]; kernel_rfl) | (rw [if_neg (by decide +kernel)]; exact ⟨rfl, rfl⟩))
  (fun os started H enc _ => lifted os started H enc)
end Go.Proofs.Ytiidhncjolbigaa
end
section
set_option linter.unusedVariables false
namespace Go.Proofs.Ytiidhncjolbigaa
open Go Go.Fw Go.ChangeShapes Go.WideShapes Go.ChangeAt Go.RowKit
set_option linter.unusedVariables false
set_option maxRecDepth 10000
def u8 (n : Int) : Prop := 0 ≤ n ∧ n ≤ 255
section
variable {H : Type} {enc : TypeId × Value → H} {w : World} {base : Nat} {spare : Nat → Bool} {held : Bool} {v : Value} {d : DataW H} {p : List MemPlace} {r : Reach} {b0 : Nat}
theorem u8_wf {n : Int} (h : (Lit.int .u8 n).wf = true) : u8 n := by
 simp [Lit.wf, IntKind.min, IntKind.max, IntKind.signed, IntKind.bits] at h
 exact ⟨by omega, by omega⟩
theorem open_u8 (hv : Value.okWide Try.prog w r b0 5 v) (h : DataW.Trod enc Try.prog w base spare held 5 v d p) : ∃ n, v = .int .u8 n ∧ u8 n := by
 obtain ⟨n, h1, _, _, h2⟩ := Go.ChangeShapes.open_int Try.underlying5 hv h
 exact ⟨n, h1, u8_wf h2⟩
end
end Go.Proofs.Ytiidhncjolbigaa
end
section
set_option linter.unusedVariables false
namespace Go.Proofs.Ytiidhncjolbigaa
open Go Go.Fw Go.ChangeShapes Go.WideShapes Go.ChangeAt Go.RowKit
set_option linter.unusedVariables false
set_option maxRecDepth 100000
theorem boxDue_run (R : Rm) (pR : Pl) (po : Int) (q : Int) (w : World) (hpo : u8 po) (hq : u8 q) (hR : InRm w R pR) :
  Calls Try.prog 11 #[.agg (cRm R pR).toArray, .int .u8 po, .int .u8 q] w fun e w' => e = .returned (.bool true) ∧ Below w.heap.size w w' :=
 Fc.calls (H := rowsRm R pR) (boxDue_spec R pR po q hpo hq _ (hR.rm (fun _ h => h))) (fun r hr => by
  exact hR.ok r hr
 )
theorem boxDue_lifted (os : Os) (started : os.Started) (H : Type) (enc : TypeId × Value → H) :
  ReturnsInHanded {} Try.checked os 11 .any (Rows.boxDueSpec.pre6 enc Try.prog Try.f11 Rows.boxDueRow.domain false) (Rows.boxDueSpec.post enc Try.prog Try.f11 false true false false) := by
 refine returnsInHanded_of_change (C := Try.checked) ownK started (by kernel_rfl) Try.func11
  (ChangeSpec.witness6 (enc := enc) (C := Try.checked) false ⟨#[], #[.agg (cRm ⟨0, 0, [], [], []⟩ ⟨none, 0, none, 0, none, 0⟩).toArray, .int .u8 0, .int .u8 0], []⟩ 8 (by kernel_rfl) (by kernel_rfl) (by kernel_rfl) (by kernel_rfl)) ?_
 intro W base args ds gs before hval0 hW hcnd _
 have hval : ∀ (j : Nat) t v, Try.f11.params[j]? = some t → args[j]? = some v → Value.okWide Try.prog W .any base t v := hval0
 have hW' := hW
 obtain ⟨p, q, hA0, hV, rfl, hfz, hnd⟩ := hW
 have hA : DataW.TrodAll enc Try.prog W 0 (fun _ => true) true Try.f11.params.toList args.toList ds p := hA0
 rw [Try.params11] at hA hval
 obtain ⟨v0, vs0, d0, ds0, p0, q0, hargs, rfl, rfl, h0, r0⟩ := trodAll_cons hA
 obtain ⟨v1, vs1, d1, ds1, p1, q1, rfl, rfl, rfl, h1, r1⟩ := trodAll_cons r0
 obtain ⟨v2, vs2, d2, ds2, p2, q2, rfl, rfl, rfl, h2, r2⟩ := trodAll_cons r1
 obtain ⟨rfl, rfl, rfl⟩ := trodAll_nil r2
 obtain rfl : args = #[v0, v1, v2] := by cases args; simp_all
 obtain ⟨rfl, rfl⟩ := trodVars_none hV
 have lt : ∀ {t v d ps}, DataW.Trod enc Try.prog W 0 (fun _ => true) true t v d ps → ∀ x ∈ ps, x.block < W.heap.size := fun h => by obtain ⟨m, hm⟩ := h; exact DataW.trod_lt m _ _ _ hm
 obtain ⟨R, pR, rfl, hR⟩ := open_room (hval 0 _ v0 rfl rfl) h0
 obtain ⟨po, rfl, hpo⟩ := open_u8 (hval 1 _ v1 rfl rfl) h1
 obtain ⟨q, rfl, hq⟩ := open_u8 (hval 2 _ v2 rfl rfl) h2
 clear hA0 hval0
 refine (boxDue_run R pR po q W hpo hq hR).mono fun e W' ⟨he, bel⟩ => ?_
 subst he
 exact ⟨_, rfl, _, _, _, [], _, [], hW', trodAll_mk1 (shut_bool Try.underlying4 _), (trodAll_cons_mk (Below.trod laidO (by kernel_rfl) (of_decide_eq_true (by kernel_rfl)) h0 bel (lt h0)) (trodAll_cons_mk (Below.trod laidO (by kernel_rfl) (of_decide_eq_true (by kernel_rfl)) h1 bel (lt h1)) (trodAll_cons_mk (Below.trod laidO (by kernel_rfl) (of_decide_eq_true (by kernel_rfl)) h2 bel (lt h2)) trodAll_mk0))), rfl, bel.frame _, fun h => by cases h⟩
theorem boxDue_over : Rows.boxDueRow.holds Try.pinned (OpenSpec.ofChange Rows.boxDueSpec) :=
 OpenClaim.holds_of_wide 11 Try.f11 rfl rfl rfl rfl rfl rfl rfl ⟨rfl, rfl, rfl, rfl, rfl⟩ rfl rfl rfl rfl rfl (by kernel_rfl) Try.func11 (by kernel_rfl)
  (of_decide_eq_true (by kernel_rfl)) (by unfold Func.isWrapper; first | (rw [if_pos (by decide +kernel)]; kernel_rfl) | (rw [if_neg (by decide +kernel)]; exact ⟨rfl, rfl⟩))
  (fun os started H enc _ => boxDue_lifted os started H enc)
theorem boxDue_proved : Rows.BoxDueSaid := boxDue_over
#print axioms boxDue_proved
end Go.Proofs.Ytiidhncjolbigaa
end
