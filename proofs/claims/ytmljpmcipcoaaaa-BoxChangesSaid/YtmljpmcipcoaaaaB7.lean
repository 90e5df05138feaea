/- Rooms, matches, boxes and lists that came in, opened. -/
import Derived.Test.YtmljpmcipcoaaaaB6
import Derived.Test.YtmljpmcipcoaaaaFe
import Derived.OpenShut
import Derived.ProofKit
namespace Go.Proofs.Ytmljpmcipcoaaaa
open Go Go.Fw Go.ChangeShapes Go.WideShapes
set_option maxRecDepth 10000
instance : Inhabited Sp := ⟨⟨0, 0⟩⟩
instance : Inhabited Bx := ⟨⟨0, 0⟩⟩
instance : Inhabited Mt := ⟨⟨0, 0, 0, 0, 0, 0⟩⟩
def w64 (n : Int) : Prop := (Lit.int .i64 n).wf = true
theorem w64.b {n : Int} (h : w64 n) : -9223372036854775808 ≤ n ∧ n ≤ 9223372036854775807 := by
  unfold w64 Lit.wf at h
  simp [IntKind.min, IntKind.max, IntKind.bits, IntKind.signed] at h
  omega
section
variable {H : Type} {enc : TypeId × Value → H} {w : World} {base : Nat} {spare : Nat → Bool} {held : Bool} {fuel : Nat} {cs : List Value} {x : DataW H × List MemPlace}
theorem open_i (h : DataW.trod enc Try.prog w base spare held fuel 3 cs = some x) : ∃ q : Int, cs = cI q ∧ w64 q := trod_i (te rfl) h
theorem open_sp (h : DataW.trod enc Try.prog w base spare held fuel 35 cs = some x) : ∃ q : Sp, cs = cSp q ∧ (w64 q.lo ∧ w64 q.hi) := by
  obtain ⟨hl, hf⟩ := trod_st (te rfl) h
  obtain ⟨n0, y0, h0⟩ := hf 0 0 3 _ rfl (te rfl)
  obtain ⟨n1, y1, h1⟩ := hf 1 1 3 _ rfl (te rfl)
  match cs, hl with
  | [a, b], _ =>
    obtain ⟨lo, e0, w0⟩ := open_i h0
    obtain ⟨hi, e1, w1⟩ := open_i h1
    simp [cI] at e0 e1
    subst e0 e1
    exact ⟨⟨lo, hi⟩, rfl, w0, w1⟩
theorem open_bx (h : DataW.trod enc Try.prog w base spare held fuel 77 cs = some x) : ∃ q : Bx, cs = cBx q ∧ (w64 q.id ∧ w64 q.made) := by
  obtain ⟨hl, hf⟩ := trod_st (te rfl) h
  obtain ⟨n0, y0, h0⟩ := hf 0 0 3 _ rfl (te rfl)
  obtain ⟨n1, y1, h1⟩ := hf 1 1 3 _ rfl (te rfl)
  match cs, hl with
  | [a, b], _ =>
    obtain ⟨lo, e0, w0⟩ := open_i h0
    obtain ⟨hi, e1, w1⟩ := open_i h1
    simp [cI] at e0 e1
    subst e0 e1
    exact ⟨⟨lo, hi⟩, rfl, w0, w1⟩
theorem open_mt (h : DataW.trod enc Try.prog w base spare held fuel 75 cs = some x) : ∃ q : Mt, cs = cMt q ∧ (w64 q.number ∧ w64 q.month ∧ w64 q.a ∧ w64 q.b ∧ w64 q.lo ∧ w64 q.hi) := by
  obtain ⟨hl, hf⟩ := trod_st (te rfl) h
  obtain ⟨n0, y0, h0⟩ := hf 0 0 3 _ rfl (te rfl)
  obtain ⟨n1, y1, h1⟩ := hf 1 1 3 _ rfl (te rfl)
  obtain ⟨n2, y2, h2⟩ := hf 2 2 3 _ rfl (te rfl)
  obtain ⟨n3, y3, h3⟩ := hf 3 3 3 _ rfl (te rfl)
  obtain ⟨n4, y4, h4⟩ := hf 4 4 35 _ rfl (te rfl)
  match cs, hl with
  | [a, b, c, d, e, f], _ =>
    obtain ⟨q0, e0, w0⟩ := open_i h0
    obtain ⟨q1, e1, w1⟩ := open_i h1
    obtain ⟨q2, e2, w2⟩ := open_i h2
    obtain ⟨q3, e3, w3⟩ := open_i h3
    obtain ⟨q4, e4, w4⟩ := open_sp h4
    simp [cI, cSp] at e0 e1 e2 e3 e4
    obtain ⟨e4, e5⟩ := e4
    subst e0 e1 e2 e3 e4 e5
    exact ⟨⟨q0, q1, q2, q3, q4.lo, q4.hi⟩, rfl, w0, w1, w2, w3, w4.1, w4.2⟩
end
structure InRm (w : World) (R : Rm) (p : Pl) : Prop where
  ages : InSl w p.a1 cSp 2 R.ages
  boxes : InSl w p.a2 cBx 2 R.boxes
  mats : InSl w p.a3 cMt 6 R.mats
  mo : w64 R.months
  st : w64 R.step
  k1 : R.ages.length ≤ p.c1
  k2 : R.boxes.length ≤ p.c2
  k3 : R.mats.length ≤ p.c3
def rowsRm (R : Rm) (p : Pl) : List Row := rowsOf p.a1 cSp R.ages ++ (rowsOf p.a2 cBx R.boxes ++ rowsOf p.a3 cMt R.mats)
theorem InRm.rm {w : World} {R : Rm} {p : Pl} {H : List Row} (h : InRm w R p) (hs : ∀ r ∈ rowsRm R p, r ∈ H) : RmOk H R p where
  ages := h.ages.sl fun r hr => hs r (List.mem_append_left _ hr)
  boxes := h.boxes.sl fun r hr => hs r (List.mem_append_right _ (List.mem_append_left _ hr))
  mats := h.mats.sl fun r hr => hs r (List.mem_append_right _ (List.mem_append_right _ hr))
  l1 := by have := h.ages.2.1; unfold maxLen at this; omega
  l2 := by have := h.boxes.2.1; unfold maxLen at this; omega
  l3 := by have := h.mats.2.1; unfold maxLen at this; omega
theorem InRm.ok {w : World} {R : Rm} {p : Pl} {B : Nat} (h : InRm w R p) : ∀ r ∈ rowsRm R p, r.own = none ∧ r.ok B w := by
  intro r hr
  rcases List.mem_append.1 hr with hr | hr
  · exact h.ages.ok r hr
  · rcases List.mem_append.1 hr with hr | hr
    · exact h.boxes.ok r hr
    · exact h.mats.ok r hr
section
variable {H : Type} {enc : TypeId × Value → H} {w : World} {base : Nat} {spare : Nat → Bool} {held : Bool} {v : Value} {d : DataW H} {p : List MemPlace} {r : Reach} {b0 : Nat}
theorem open_room (hv : Value.okWide Try.prog w r b0 26 v) (h : DataW.Trod enc Try.prog w base spare held 26 v d p) : ∃ R pl, v = .agg (cRm R pl).toArray ∧ InRm w R pl := by
  obtain ⟨fa, hu, _⟩ := ti_struct (te (T := 26) rfl)
  obtain ⟨⟨cs⟩, rfl, _⟩ := okWide_struct hu hv
  obtain ⟨fuel, hf⟩ := h
  obtain ⟨hl, hf⟩ := trod_st (te rfl) hf
  obtain ⟨n0, y0, h0⟩ := hf 0 0 3 _ rfl (te rfl)
  obtain ⟨n1, y1, h1⟩ := hf 1 1 3 _ rfl (te rfl)
  obtain ⟨n2, y2, h2⟩ := hf 2 2 22 _ rfl (te rfl)
  obtain ⟨n3, y3, h3⟩ := hf 3 3 23 _ rfl (te rfl)
  obtain ⟨n4, y4, h4⟩ := hf 4 4 24 _ rfl (te rfl)
  match cs, hl with
  | [a, b, c, d, e], _ =>
    obtain ⟨q0, e0, w0⟩ := open_i h0
    obtain ⟨q1, e1, w1⟩ := open_i h1
    simp [cI, Value.cells] at e0 e1
    obtain ⟨l2, a2, c2, e2, i2, _, k2⟩ := open_sl (te rfl) (te rfl) rfl (by decide) (fun _ _ _ => open_sp) (fun _ => rfl) h2
    obtain ⟨l3, a3, c3, e3, i3, _, k3⟩ := open_sl (te rfl) (te rfl) rfl (by decide) (fun _ _ _ => open_bx) (fun _ => rfl) h3
    obtain ⟨l4, a4, c4, e4, i4, _, k4⟩ := open_sl (te rfl) (te rfl) rfl (by decide) (fun _ _ _ => open_mt) (fun _ => rfl) h4
    subst e0 e1 e2 e3 e4
    exact ⟨⟨q0, q1, l2, l3, l4⟩, ⟨a2, c2, a3, c3, a4, c4⟩, rfl, i2, i3, i4, w0, w1, k2, k3, k4⟩
theorem open_match (hv : Value.okWide Try.prog w r b0 75 v) (h : DataW.Trod enc Try.prog w base spare held 75 v d p) : ∃ q : Mt, v = .agg (cMt q).toArray := by
  obtain ⟨fa, hu, _⟩ := ti_struct (te (T := 75) rfl)
  obtain ⟨⟨cs⟩, rfl, _⟩ := okWide_struct hu hv
  obtain ⟨fuel, hf⟩ := h
  obtain ⟨q, e, _⟩ := open_mt hf
  simp only [Value.cells] at e
  exact ⟨q, by rw [← e]⟩
theorem open_box (hv : Value.okWide Try.prog w r b0 77 v) (h : DataW.Trod enc Try.prog w base spare held 77 v d p) : ∃ q : Bx, v = .agg (cBx q).toArray := by
  obtain ⟨fa, hu, _⟩ := ti_struct (te (T := 77) rfl)
  obtain ⟨⟨cs⟩, rfl, _⟩ := okWide_struct hu hv
  obtain ⟨fuel, hf⟩ := h
  obtain ⟨q, e, _⟩ := open_bx hf
  simp only [Value.cells] at e
  exact ⟨q, by rw [← e]⟩
theorem open_list (hv : Value.okWide Try.prog w r b0 55 v) (h : DataW.Trod enc Try.prog w base spare held 55 v d p) : ∃ (l : List Int) (a : Option Addr) (c : Nat), v = .slice a l.length c ∧ InSl w a cI 1 l ∧ (∀ q ∈ l, w64 q) ∧ l.length ≤ c := by
  obtain ⟨a, len, cap, rfl⟩ := okWide_slice Try.underlying55 hv
  obtain ⟨fuel, hf⟩ := h
  exact open_sl (te rfl) (te rfl) rfl (by decide) (fun _ _ _ => open_i) (fun _ => rfl) hf
end
end Go.Proofs.Ytmljpmcipcoaaaa
