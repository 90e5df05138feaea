/- Own work: what came in, opened as rows that are only read. No condition. -/
import Derived.Test.YtmljpmcipcoaaaaFw3
import Derived.Deep.Slices
import Derived.ChangeSame
namespace Go.Fw
open Go Go.RowKit Go.ChangeShapes Go.WideShapes Go.Deep
theorem flat_at {α : Type} {enc : α → List Value} {sz : Nat} : ∀ {l : List α}, (∀ e ∈ l, (enc e).length = sz) → ∀ (i : Nat) (e : α) (j : Nat) (v : Value), l[i]? = some e → (enc e)[j]? = some v → (l.flatMap enc)[i * sz + j]? = some v
  | [], _, i, e, j, v, hi, _ => by simp at hi
  | q :: l, hl, i, e, j, v, hi, hj => by
    rw [List.flatMap_cons, List.getElem?_append]
    have hq := hl q (List.mem_cons_self ..)
    cases i with
    | zero =>
      simp only [List.getElem?_cons_zero, Option.some.injEq] at hi
      subst hi
      rw [if_pos (by have := (List.getElem?_eq_some_iff.1 hj).1; omega)]
      simpa using hj
    | succ i =>
      rw [if_neg (by rw [hq, Nat.add_mul]; omega), hq, show (i + 1) * sz + j - sz = i * sz + j by rw [Nat.add_mul]; omega]
      exact flat_at (fun e he => hl e (List.mem_cons_of_mem _ he)) i e j v (by simpa using hi) hj
section
variable {H : Type} {enc : TypeId × Value → H} {P : Program} {w : World} {base : Nat} {spare : Nat → Bool} {held : Bool}
theorem cellsOf_ti {T : TypeId} {ti : TI} (h : tiOf P T = some ti) : P.cellsOf T = ti.size := by
  obtain ⟨i, d, hi, _, _, hs, _⟩ := ti_spec h
  simp [Program.cellsOf, hi, hs]
theorem trod_st {T : TypeId} {fs : List (Nat × TypeId)} {s y fuel : Nat} {cs : List Value} {x : DataW H × List MemPlace} (hT : tiOf P T = some ⟨.st fs, s, y⟩) (h : DataW.trod enc P w base spare held fuel T cs = some x) :
    cs.length = s ∧ ∀ (i o F : Nat) (ti : TI), fs[i]? = some (o, F) → tiOf P F = some ti → ∃ n x', DataW.trod enc P w base spare held n F ((cs.drop o).take ti.size) = some x' := by
  obtain ⟨fa, hu, hm⟩ := ti_struct hT
  obtain ⟨xs, n, _, _, hl, hxl, hf⟩ := DataW.trod_struct hu h
  refine ⟨by rw [hl, cellsOf_ti hT], fun i o F ti hi hF => ?_⟩
  rw [← hm] at hi
  simp only [List.getElem?_map, Option.map_eq_some_iff] at hi
  obtain ⟨f, h1, h2⟩ := hi
  simp only [Prod.mk.injEq] at h2
  obtain ⟨rfl, rfl⟩ := h2
  have h3 := hf i f (by simpa using h1)
  rw [cellsOf_ti hF] at h3
  have hlt : i < xs.length := by
    have := (List.getElem?_eq_some_iff.1 h1).1
    rw [hxl]; simpa using this
  exact ⟨n, xs[i], by rw [h3, List.getElem?_eq_getElem hlt]⟩
theorem trod_i {T : TypeId} {k : IntKind} {s y fuel : Nat} {cs : List Value} {x : DataW H × List MemPlace} (hT : tiOf P T = some ⟨.int k, s, y⟩) (h : DataW.trod enc P w base spare held fuel T cs = some x) : ∃ n, cs = [.int k n] ∧ (Lit.int k n).wf = true := by
  obtain ⟨i, d, _, hd, hk, _, _⟩ := ti_spec hT
  cases d <;> simp only [tkOf, reduceCtorEq, TK.int.injEq] at hk
  subst hk
  obtain ⟨n, h1, _, h2⟩ := DataW.trod_int hd h
  exact ⟨n, h1, h2⟩
/-- What is known of a slice that came in. -/
def InSl {α : Type} (w : World) (a : Option Addr) (e : α → List Value) (sz : Nat) (l : List α) : Prop :=
  (∀ q ∈ l, (e q).length = sz) ∧ l.length ≤ maxLen ∧ (0 < l.length → ∃ b off, a = some ⟨b, off, none⟩ ∧ b < w.heap.size ∧ ∀ i q j v, l[i]? = some q → (e q)[j]? = some v → w.cell? ⟨b, off + (i * sz + j), none⟩ = some v)
theorem open_sl {α : Type} [Inhabited α] {e : α → List Value} {ok : α → Prop} {T E sz s y : Nat} {ti : TI} {fuel : Nat} {v : Value} {x : DataW H × List MemPlace} (hT : tiOf P T = some ⟨.sl E, s, y⟩) (hE : tiOf P E = some ti) (hsz : ti.size = sz) (hpos : 0 < sz)
    (hel : ∀ n cs x, DataW.trod enc P w base spare held n E cs = some x → ∃ q : α, cs = e q ∧ ok q) (hlen : ∀ q, (e q).length = sz) (h : DataW.trod enc P w base spare held fuel T [v] = some x) :
    ∃ (l : List α) (a : Option Addr) (c : Nat), v = .slice a l.length c ∧ InSl w a e sz l ∧ (∀ q ∈ l, ok q) ∧ l.length ≤ c := by
  rcases open_slice (ti_slice hT) h with ⟨hc, _⟩ | ⟨a, len, cap, m, n, D, Pl, hcs, _, hl, hm, hmm, _, hi⟩
  · simp only [List.cons.injEq, and_true] at hc
    subst hc
    exact ⟨[], none, 0, rfl, ⟨by simp, by simp, by simp⟩, by simp, Nat.le_refl _⟩
  · simp only [List.cons.injEq, and_true] at hcs
    subst hcs
    have hlm : len ≤ m := by rw [hmm]; split <;> omega
    have hex : ∀ i, ∃ q : α, i < len → ok q ∧ w.cells? base (a.add (i * sz)) sz = some (e q) := by
      intro i
      by_cases hil : i < len
      · obtain ⟨cs', h1, h2⟩ := hi i (by omega)
        obtain ⟨q, rfl, hq⟩ := hel _ _ _ h2
        rw [cellsOf_ti hE, hsz] at h1
        exact ⟨q, fun _ => ⟨hq, h1⟩⟩
      · exact ⟨default, fun h => absurd h hil⟩
    let f : Nat → α := fun i => Classical.choose (hex i)
    have hf : ∀ i, i < len → ok (f i) ∧ w.cells? base (a.add (i * sz)) sz = some (e (f i)) := fun i => Classical.choose_spec (hex i)
    refine ⟨(List.range len).map f, some a, cap, by simp, ⟨fun q _ => hlen q, by simp; omega, fun hp => ?_⟩, ?_, by simp; omega⟩
    · simp only [List.length_map, List.length_range] at hp
      have h0 := (hf 0 hp).2
      obtain ⟨_, _, hat⟩ := World.cells?_some h0
      have hc0 := hat 0 hpos
      have hv0 : (e (f 0))[0]? = some ((e (f 0))[0]'(by rw [hlen]; exact hpos)) := List.getElem?_eq_getElem _
      rw [hv0, Nat.zero_mul] at hc0
      have hadd : ((a.add 0).add 0) = a := rfl
      rw [hadd] at hc0
      obtain ⟨b, off, sp⟩ := a
      have hsp : sp = none := by
        cases sp with
        | none => rfl
        | some q => unfold World.cell? at hc0; simp only at hc0; split at hc0 <;> simp at hc0
      subst hsp
      refine ⟨b, off, rfl, World.block_lt_of_cell? _ _ hc0, fun i q j v hq hj => ?_⟩
      have hil : i < len := by have := (List.getElem?_eq_some_iff.1 hq).1; simpa using this
      have hqe : f i = q := by
        rw [List.getElem?_map, List.getElem?_range hil] at hq
        simpa using hq
      obtain ⟨_, _, hat⟩ := World.cells?_some (hf i hil).2
      have hjl : j < sz := by have := (List.getElem?_eq_some_iff.1 hj).1; rw [hlen] at this; exact this
      have := hat j hjl
      rw [hqe, hj, add_none, add_none, Nat.add_assoc] at this
      exact this
    · intro q hq
      obtain ⟨i, hi, rfl⟩ := List.mem_map.1 hq
      exact (hf i (List.mem_range.1 hi)).1
end
/-- the row of a slice that came in -/
def rowsOf {α : Type} (a : Option Addr) (e : α → List Value) (l : List α) : List Row :=
  match a, l with
  | some ⟨b, off, _⟩, _ :: _ => [⟨b, off, l.flatMap e, none, 0⟩]
  | _, _ => []
theorem InSl.ok {α : Type} {w : World} {a : Option Addr} {e : α → List Value} {sz B : Nat} {l : List α} (h : InSl w a e sz l) : ∀ r ∈ rowsOf a e l, r.own = none ∧ r.ok B w := by
  intro r hr
  cases l with
  | nil => cases a with | none => cases hr | some a => cases hr
  | cons q l =>
    obtain ⟨b, off, rfl, hb, hc⟩ := h.2.2 (by simp)
    simp only [rowsOf, List.mem_singleton] at hr
    subst hr
    refine ⟨rfl, hb, fun j v hj => ?_⟩
    obtain ⟨i, q', k, rfl, hi, hk⟩ := flat_get h.1 hj
    exact hc i q' k v hi hk
theorem InSl.sl {α : Type} {w : World} {a : Option Addr} {e : α → List Value} {sz : Nat} {l : List α} {H : List Row} (h : InSl w a e sz l) (hs : ∀ r ∈ rowsOf a e l, r ∈ H) : SlE H a e sz l := by
  refine ⟨h.1, fun hp => ?_⟩
  obtain ⟨b, off, rfl, _, _⟩ := h.2.2 hp
  cases l with
  | nil => simp at hp
  | cons q l =>
    refine ⟨b, off, rfl, _, 0, hs _ (List.mem_singleton.2 rfl), rfl, rfl, fun i q' j v hi hj => ?_⟩
    rw [Nat.zero_add]
    exact flat_at h.1 i q' j v hi hj
/-- the start: only what came in is known -/
theorem St.start {w : World} {H : List Row} (h : ∀ r ∈ H, r.own = none ∧ r.ok w.heap.size w) : St w.heap.size w H w := by
  refine ⟨Below.refl _ _, Nat.le_refl _, fun r hr => (h r hr).2, ?_⟩
  rw [List.pairwise_iff_getElem]
  intro i j hi hj _ ho
  have h1 := (h _ (List.getElem_mem hi)).1
  have h2 := (h _ (List.getElem_mem hj)).1
  rw [h1, h2] at ho
  simp at ho
/-- from a contract to the call in a world -/
theorem Fc.calls {P : Program} {f : FuncId} {args : List Value} {H : List Row} {v : Value} {w : World} (h : Fc P f args H (fun u _ => u = v)) (hH : ∀ r ∈ H, r.own = none ∧ r.ok w.heap.size w) :
    Calls P f args.toArray w fun e w' => e = .returned v ∧ Below w.heap.size w w' := by
  unfold Fc at h
  refine (h.2 _ _ _ (St.start hH)).mono ?_
  rintro e w' ⟨u, H', rfl, rfl, hS⟩
  exact ⟨rfl, hS.below⟩
end Go.Fw
