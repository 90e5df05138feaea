/- Own work: Own work: what came in, opened as rows that are only read. No condition.; contracts of functions, from rows of what is known of the memory; contracts of functions, from rows of what is known of the memory; contracts of functions, from rows of what is known of the memory; contracts of functions, from rows of what is known of the memory; contracts of functions, from rows of what is known of the memory; contracts of functions, from rows of what is known of the memory; contracts of functions, from rows of what is known of the memory; contracts of functions, from rows of what is known of the memory; contracts of functions, from rows of what is known of the memory; contracts of functions, from rows of what is known of the memory; contracts of functions, from rows of what is known of the memory -/
import Derived.Test.YtcjlegjchllgjaaGreatW01
import Derived.Deep.Slices
import Derived.ChangeSame
section
set_option linter.unusedVariables false
namespace Go.Fw
open Go Go.RowKit Go.ChangeShapes Go.WideShapes Go.Deep
theorem flat_at {α : Type} {enc : α → List Value} {sz : Nat} : ∀ {l : List α}, (∀ e ∈ l, (enc e).length = sz) → ∀ (i : Nat) (e : α) (j : Nat) (v : Value), l[i]? = some e → (enc e)[j]? = some v → (l.flatMap enc)[i * sz + j]? = some v
  | [], _, i, e, j, v, hi, _ => by simp at hi
  | q :: l, hl, i, e, j, v, hi, hj => by
    rw [List.flatMap_cons, List.getElem?_append]
    have hq := hl q (List.mem_cons_self ..)
    cases i with
    | zero =>
      simp only [List.getElem?_cons_zero, Option.some.injEq] at hi
      subst hi
      rw [if_pos (by have := (List.getElem?_eq_some_iff.1 hj).1; omega)]
      simpa using hj
    | succ i =>
      rw [if_neg (by rw [hq, Nat.add_mul]; omega), hq, show (i + 1) * sz + j - sz = i * sz + j by rw [Nat.add_mul]; omega]
      exact flat_at (fun e he => hl e (List.mem_cons_of_mem _ he)) i e j v (by simpa using hi) hj
section
variable {H : Type} {enc : TypeId × Value → H} {P : Program} {w : World} {base : Nat} {spare : Nat → Bool} {held : Bool}
theorem cellsOf_ti {T : TypeId} {ti : TI} (h : tiOf P T = some ti) : P.cellsOf T = ti.size := by
  obtain ⟨i, d, hi, _, _, hs, _⟩ := ti_spec h
  simp [Program.cellsOf, hi, hs]
theorem trod_st {T : TypeId} {fs : List (Nat × TypeId)} {s y fuel : Nat} {cs : List Value} {x : DataW H × List MemPlace} (hT : tiOf P T = some ⟨.st fs, s, y⟩) (h : DataW.trod enc P w base spare held fuel T cs = some x) :
    cs.length = s ∧ ∀ (i o F : Nat) (ti : TI), fs[i]? = some (o, F) → tiOf P F = some ti → ∃ n x', DataW.trod enc P w base spare held n F ((cs.drop o).take ti.size) = some x' := by
  obtain ⟨fa, hu, hm⟩ := ti_struct hT
  obtain ⟨xs, n, _, _, hl, hxl, hf⟩ := DataW.trod_struct hu h
  refine ⟨by rw [hl, cellsOf_ti hT], fun i o F ti hi hF => ?_⟩
  rw [← hm] at hi
  simp only [List.getElem?_map, Option.map_eq_some_iff] at hi
  obtain ⟨f, h1, h2⟩ := hi
  simp only [Prod.mk.injEq] at h2
  obtain ⟨rfl, rfl⟩ := h2
  have h3 := hf i f (by simpa using h1)
  rw [cellsOf_ti hF] at h3
  have hlt : i < xs.length := by
    have := (List.getElem?_eq_some_iff.1 h1).1
    rw [hxl]; simpa using this
  exact ⟨n, xs[i], by rw [h3, List.getElem?_eq_getElem hlt]⟩
theorem trod_i {T : TypeId} {k : IntKind} {s y fuel : Nat} {cs : List Value} {x : DataW H × List MemPlace} (hT : tiOf P T = some ⟨.int k, s, y⟩) (h : DataW.trod enc P w base spare held fuel T cs = some x) : ∃ n, cs = [.int k n] ∧ (Lit.int k n).wf = true := by
  obtain ⟨i, d, _, hd, hk, _, _⟩ := ti_spec hT
  cases d <;> simp only [tkOf, reduceCtorEq, TK.int.injEq] at hk
  subst hk
  obtain ⟨n, h1, _, h2⟩ := DataW.trod_int hd h
  exact ⟨n, h1, h2⟩
/-- What is known of a slice that came in. -/
def InSl {α : Type} (w : World) (a : Option Addr) (e : α → List Value) (sz : Nat) (l : List α) : Prop :=
  (∀ q ∈ l, (e q).length = sz) ∧ l.length ≤ maxLen ∧ (0 < l.length → ∃ b off, a = some ⟨b, off, none⟩ ∧ b < w.heap.size ∧ ∀ i q j v, l[i]? = some q → (e q)[j]? = some v → w.cell? ⟨b, off + (i * sz + j), none⟩ = some v)
theorem open_sl {α : Type} [Inhabited α] {e : α → List Value} {ok : α → Prop} {T E sz s y : Nat} {ti : TI} {fuel : Nat} {v : Value} {x : DataW H × List MemPlace} (hT : tiOf P T = some ⟨.sl E, s, y⟩) (hE : tiOf P E = some ti) (hsz : ti.size = sz) (hpos : 0 < sz)
    (hel : ∀ n cs x, DataW.trod enc P w base spare held n E cs = some x → ∃ q : α, cs = e q ∧ ok q) (hlen : ∀ q, (e q).length = sz) (h : DataW.trod enc P w base spare held fuel T [v] = some x) :
    ∃ (l : List α) (a : Option Addr) (c : Nat), v = .slice a l.length c ∧ InSl w a e sz l ∧ (∀ q ∈ l, ok q) ∧ l.length ≤ c := by
  rcases open_slice (ti_slice hT) h with ⟨hc, _⟩ | ⟨a, len, cap, m, n, D, Pl, hcs, _, hl, hm, hmm, _, hi⟩
  · simp only [List.cons.injEq, and_true] at hc
    subst hc
    exact ⟨[], none, 0, rfl, ⟨by simp, by simp, by simp⟩, by simp, Nat.le_refl _⟩
  · simp only [List.cons.injEq, and_true] at hcs
    subst hcs
    have hlm : len ≤ m := by rw [hmm]; split <;> omega
    have hex : ∀ i, ∃ q : α, i < len → ok q ∧ w.cells? base (a.add (i * sz)) sz = some (e q) := by
      intro i
      by_cases hil : i < len
      · obtain ⟨cs', h1, h2⟩ := hi i (by omega)
        obtain ⟨q, rfl, hq⟩ := hel _ _ _ h2
        rw [cellsOf_ti hE, hsz] at h1
        exact ⟨q, fun _ => ⟨hq, h1⟩⟩
      · exact ⟨default, fun h => absurd h hil⟩
    let f : Nat → α := fun i => Classical.choose (hex i)
    have hf : ∀ i, i < len → ok (f i) ∧ w.cells? base (a.add (i * sz)) sz = some (e (f i)) := fun i => Classical.choose_spec (hex i)
    refine ⟨(List.range len).map f, some a, cap, by simp, ⟨fun q _ => hlen q, by simp; omega, fun hp => ?_⟩, ?_, by simp; omega⟩
    · simp only [List.length_map, List.length_range] at hp
      have h0 := (hf 0 hp).2
      obtain ⟨_, _, hat⟩ := World.cells?_some h0
      have hc0 := hat 0 hpos
      have hv0 : (e (f 0))[0]? = some ((e (f 0))[0]'(by rw [hlen]; exact hpos)) := List.getElem?_eq_getElem _
      rw [hv0, Nat.zero_mul] at hc0
      have hadd : ((a.add 0).add 0) = a := rfl
      rw [hadd] at hc0
      obtain ⟨b, off, sp⟩ := a
      have hsp : sp = none := by
        cases sp with
        | none => rfl
        | some q => unfold World.cell? at hc0; simp only at hc0; split at hc0 <;> simp at hc0
      subst hsp
      refine ⟨b, off, rfl, World.block_lt_of_cell? _ _ hc0, fun i q j v hq hj => ?_⟩
      have hil : i < len := by have := (List.getElem?_eq_some_iff.1 hq).1; simpa using this
      have hqe : f i = q := by
        rw [List.getElem?_map, List.getElem?_range hil] at hq
        simpa using hq
      obtain ⟨_, _, hat⟩ := World.cells?_some (hf i hil).2
      have hjl : j < sz := by have := (List.getElem?_eq_some_iff.1 hj).1; rw [hlen] at this; exact this
      have := hat j hjl
      rw [hqe, hj, add_none, add_none, Nat.add_assoc] at this
      exact this
    · intro q hq
      obtain ⟨i, hi, rfl⟩ := List.mem_map.1 hq
      exact (hf i (List.mem_range.1 hi)).1
end
/-- the row of a slice that came in -/
def rowsOf {α : Type} (a : Option Addr) (e : α → List Value) (l : List α) : List Row :=
  match a, l with
  | some ⟨b, off, _⟩, _ :: _ => [⟨b, off, l.flatMap e, none, 0⟩]
  | _, _ => []
theorem InSl.ok {α : Type} {w : World} {a : Option Addr} {e : α → List Value} {sz B : Nat} {l : List α} (h : InSl w a e sz l) : ∀ r ∈ rowsOf a e l, r.own = none ∧ r.ok B w := by
  intro r hr
  cases l with
  | nil => cases a with | none => cases hr | some a => cases hr
  | cons q l =>
    obtain ⟨b, off, rfl, hb, hc⟩ := h.2.2 (by simp)
    simp only [rowsOf, List.mem_singleton] at hr
    subst hr
    refine ⟨rfl, hb, fun j v hj => ?_⟩
    obtain ⟨i, q', k, rfl, hi, hk⟩ := flat_get h.1 hj
    exact hc i q' k v hi hk
theorem InSl.sl {α : Type} {w : World} {a : Option Addr} {e : α → List Value} {sz : Nat} {l : List α} {H : List Row} (h : InSl w a e sz l) (hs : ∀ r ∈ rowsOf a e l, r ∈ H) : SlE H a e sz l := by
  refine ⟨h.1, fun hp => ?_⟩
  obtain ⟨b, off, rfl, _, _⟩ := h.2.2 hp
  cases l with
  | nil => simp at hp
  | cons q l =>
    refine ⟨b, off, rfl, _, 0, hs _ (List.mem_singleton.2 rfl), rfl, rfl, fun i q' j v hi hj => ?_⟩
    rw [Nat.zero_add]
    exact flat_at h.1 i q' j v hi hj
/-- the start: only what came in is known -/
theorem St.start {w : World} {H : List Row} (h : ∀ r ∈ H, r.own = none ∧ r.ok w.heap.size w) : St w.heap.size w H w := by
  refine ⟨Below.refl _ _, Nat.le_refl _, fun r hr => (h r hr).2, ?_⟩
  rw [List.pairwise_iff_getElem]
  intro i j hi hj _ ho
  have h1 := (h _ (List.getElem_mem hi)).1
  have h2 := (h _ (List.getElem_mem hj)).1
  rw [h1, h2] at ho
  simp at ho
/-- from a contract to the call in a world -/
theorem Fc.calls {P : Program} {f : FuncId} {args : List Value} {H : List Row} {v : Value} {w : World} (h : Fc P f args H (fun u _ => u = v)) (hH : ∀ r ∈ H, r.own = none ∧ r.ok w.heap.size w) :
    Calls P f args.toArray w fun e w' => e = .returned v ∧ Below w.heap.size w w' := by
  unfold Fc at h
  refine (h.2 _ _ _ (St.start hH)).mono ?_
  rintro e w' ⟨u, H', rfl, rfl, hS⟩
  exact ⟨rfl, hS.below⟩
end Go.Fw
end
section
set_option linter.unusedVariables false
namespace Go.Fw
open Go Go.RowKit
structure Sp where
  lo : Int
  hi : Int
def cSp (s : Sp) : List Value := [.int .i64 s.lo, .int .i64 s.hi]
def cI (x : Int) : List Value := [.int .i64 x]
theorem one_i (e : Int) : (cI e).all (·.oneCell') = true := rfl
theorem lenI (l : List Int) : (l.flatMap cI).length = l.length * 1 := flat_len (fun _ _ => rfl)
theorem drop_cons {α : Type} {l : List α} {k : Nat} {e : α} (h : l[k]? = some e) : l.drop k = e :: l.drop (k + 1) := by
  have := (List.getElem?_eq_some_iff.1 h)
  obtain ⟨hk, rfl⟩ := this
  exact List.drop_eq_getElem_cons hk
theorem take_snoc {α : Type} {l : List α} {k : Nat} {e : α} (h : l[k]? = some e) : l.take (k + 1) = l.take k ++ [e] := by
  rw [List.take_add_one, h]; rfl
theorem sleNil {α : Type} {H : List Row} {a : Option Addr} {enc : α → List Value} {sz : Nat} : SlE H a enc sz [] := ⟨fun _ h => absurd h List.not_mem_nil, fun h => absurd h (Nat.lt_irrefl 0)⟩
theorem EnF.dyn0 {P : Program} {n : Nat} {H : List Row} {F : FS} {o : Oper} {g : Operand} {f : FuncId} {l : List Operand} {tys : Array TypeId} {vs cap : List Value} (h : o.op = .call { callee := .value g, args := l.toArray, argTypes := tys }) (hg : evF F g = some (.func (.func f) #[] cap.toArray)) (hv : Args F l vs) (hc : Callable P f) : EnF P n H F o f (vs ++ cap) :=
  EnF.dyn (first := []) h hg hv hc
/-- the first place of which something is so -/
def IdxR {α : Type} (p : α → Bool) (l : List α) (z : Int) : Prop := (z = -1 ∧ ∀ e ∈ l, p e = false) ∨ ∃ k e, z = ((k : Nat) : Int) ∧ l[k]? = some e ∧ p e = true ∧ ∀ i e, i < k → l[i]? = some e → p e = false
theorem IdxR.ge {α : Type} {p : α → Bool} {l : List α} {z : Int} (h : IdxR p l z) : z ≥ 0 ↔ ∃ e ∈ l, p e = true := by
  rcases h with ⟨rfl, h⟩ | ⟨k, e, rfl, he, hp, _⟩
  · exact ⟨fun q => absurd q (by decide), fun ⟨e, he, hp⟩ => by rw [h e he] at hp; cases hp⟩
  · exact ⟨fun _ => ⟨e, List.mem_of_getElem? he, hp⟩, fun _ => by omega⟩
section
variable {P : Program} {F : FS} {H H' : List Row} {fn : Func} {R : Value → List Row → Prop} {Ds : List Nat}
theorem retT_one {e : Exit} (he : e = .normal ∨ e = .ret) {r : ResultVar} {v : Value} (hr : fn.results = #[r]) (h : ResF P F H r v) (hs : H'.Sublist H) (hR : R v H') : retT P fn R e F Ds H := ⟨he, v, H', (by unfold ResX; exact fun _ _ ha => ResV.one hr (h.i ha)), hs, hR⟩
theorem retT_two {e : Exit} (he : e = .normal ∨ e = .ret) {r r' : ResultVar} {v v' : Value} (hr : fn.results = #[r, r']) (h : ResF P F H r v) (h' : ResF P F H r' v') (hs : H'.Sublist H) (hR : R (.tuple #[v, v']) H') : retT P fn R e F Ds H := ⟨he, _, H', (by unfold ResX; exact fun _ _ ha => ResV.two hr (h.i ha) (h'.i ha)), hs, hR⟩
end
/-- once one loop over a function is behind -/
theorem XT.of1 {P : Program} {n : Nat} {c : Code} {F : FS} {D : Nat} {H : List Row} {Q : QTT} (h : X P n c F (H ++ [dRow D]) (fun e F' H' => ∃ H'', (H'' ++ [dRow D]).Sublist H' ∧ Q e F' [D] H'')) : XT P n c F [D] H Q := XT.ofX h
theorem pre_len {α : Type} {pre xs : List α} {x : α} (h : (pre ++ [x]) <+: xs) : pre.length + 1 ≤ xs.length := by
  have := h.length_le
  simpa using this
theorem get_cI (c : List Int) (i : Nat) : (c.flatMap cI)[i]? = c[i]?.map (Value.int .i64) := by
  induction c generalizing i with
  | nil => rfl
  | cons a c ih =>
    cases i with
    | zero => rfl
    | succ i => exact ih i
theorem set_cI (c : List Int) (i : Nat) (y : Int) : (c.flatMap cI).set i (.int .i64 y) = (c.set i y).flatMap cI := by
  induction c generalizing i with
  | nil => rfl
  | cons a c ih =>
    cases i with
    | zero => rfl
    | succ i =>
      show Value.int .i64 a :: (c.flatMap cI).set i _ = Value.int .i64 a :: (c.set i y).flatMap cI
      rw [ih i]
theorem StF.storeI {P : Program} {n : Nat} {H : List Row} {F : FS} {o : Oper} {T : TypeId} {a x : Operand} {q b p i cap : Nat} {el : TypeId} {c : List Int} {y : Int} {ti : TI} (h : o.op = .store T a x) (hx : evF F a = some (.pointer (some ⟨b, p, none⟩))) (hv : evF F x = some (.int .i64 y)) (hT : tiOf P T = some ti) (hn : ti.size = 1) (hi : H[q]? = some ⟨b, 0, c.flatMap cI, some el, cap⟩)
    (hp : p = i) (hl : i < c.length) : StF P n H F o (fun u H' => u = undef ∧ H' = H.set q ⟨b, 0, (c.set i y).flatMap cI, some el, cap⟩) := by
  subst hp
  have := StF.storeOne (P := P) (n := n) (H := H) h hx hv rfl hT hn hi (by rw [lenI]; omega)
  rwa [set_cI] at this
theorem LoadV.ownI {P : Program} {H : List Row} {T : TypeId} {b p i cap : Nat} {ow : Option Kd} {c : List Int} {y : Int} {ti : TI} (hT : tiOf P T = some ti) (ha : ti.k.isAgg = false) (hr : ⟨b, 0, c.flatMap cI, ow, cap⟩ ∈ H) (hp : p = i) (hy : c[i]? = some y) : LoadV P H T ⟨b, p, none⟩ (.int .i64 y) := by
  subst hp
  exact LoadV.own hT ha hr (by rw [get_cI, hy]; rfl)
/-- a row of one's own has room for what it holds -/
theorem Fc.caps {P : Program} {f : FuncId} {args : List Value} {H : List Row} {R : Value → List Row → Prop} (h : Fc P f args H R) : Fc P f args H (fun v H' => R v H' ∧ ∀ b off cs T cap, (⟨b, off, cs, some (.ty T), cap⟩ : Row) ∈ H' → cs.length ≤ cap) := by
  unfold Fc at *
  refine ⟨h.1, fun B w0 w hS => (h.2 B w0 w hS).mono ?_⟩
  rintro e w' ⟨v, H', he, hR, hS'⟩
  refine ⟨v, H', he, ⟨hR, fun b off cs T cap hm => ?_⟩, hS'⟩
  obtain ⟨_, _, rest, _, hl⟩ := hS'.ok _ hm
  simp only [List.length_append] at hl
  omega
/-- an array of one's own, sliced whole -/
theorem EvF.sliceArrAll {P : Program} {n : Nat} {H : List Row} {F : FS} {o : Oper} {T e : TypeId} {x : Operand} {b off len s y : Nat} {ti : TI} (h : o.op = .slice T x none none none) (hx : evF F x = some (.pointer (some ⟨b, off, none⟩))) (hT : tiOf P T = some ⟨.ar len e, s, y⟩) (he : tiOf P e = some ti) :
    EvF P n H F o (.slice (some ⟨b, off, none⟩) len len) := by
  unfold EvF EvOp
  intro t ha B w0 w hS
  have hu := ti_array hT
  have hsz := ti_size he w
  have hxv := ha.ev hx
  have hbd : (Instr.sliceBounds false len len none none none).run P w = .ok (0, len, len) w := by
    simp [Instr.sliceBounds]
  simp [execOp, h, hxv, Instr.sliceAt, Instr.sureAddr, underlying, hu, hbd, hsz, add_none]
theorem all_dec {α : Type} {l : List α} {p : α → Prop} {f : α → Bool} {q : Prop} [Decidable q] [Decidable (∃ e ∈ l, f e = true)] (hf : ∀ e, f e = true ↔ ¬ p e) (hq : q ↔ ∀ x ∈ l, p x) : (!decide (∃ e ∈ l, f e = true)) = decide q := by
  by_cases h : q
  · rw [decide_eq_true h, decide_eq_false]
    · rfl
    · rintro ⟨e, he, h1⟩
      exact (hf e).1 h1 (hq.1 h e he)
  · rw [decide_eq_false h, decide_eq_true]
    · rfl
    · by_cases h2 : ∃ e ∈ l, f e = true
      · exact h2
      · refine absurd (hq.2 fun x hx => ?_) h
        by_cases h3 : p x
        · exact h3
        · exact absurd ⟨x, hx, (hf x).2 h3⟩ h2
end Go.Fw
end
section
set_option linter.unusedVariables false
set_option linter.unusedSimpArgs false
namespace Go.Proofs.YtcjlegjchllgjaaGreat
open Go Go.Fw
set_option maxRecDepth 10000
theorem elI : ElT Tryz.prog 28 3 1 8 := ⟨Tryz.underlying28, Tryz.t3, .int .i64 0, by kernel_rfl, by kernel_rfl, by kernel_rfl, by kernel_rfl, rfl⟩
theorem elCl : ElT Tryz.prog 60 27 2 16 := ⟨Tryz.underlying60, Tryz.t27, .agg #[.int .i64 0, .int .i64 0], by kernel_rfl, by kernel_rfl, by kernel_rfl, by kernel_rfl, rfl⟩
theorem elLo : ElT Tryz.prog 94 92 4 32 := ⟨Tryz.underlying94, Tryz.t92, .agg #[.int .i64 0, .int .i64 0, .int .i64 0, .int .i64 0], by kernel_rfl, by kernel_rfl, by kernel_rfl, by kernel_rfl, rfl⟩
/-- terms -/
structure Tm where
  g : Int
  s : Int
  price : Int
  worst : Int
  short : Int
  G : List Int
  S : List Int
  dl : Int
  dh : Int
  bales : Int
  fee : Int
/-- where their tables lie -/
structure Pt where
  a1 : Option Addr
  c1 : Nat
  a2 : Option Addr
  c2 : Nat
def cTm (T : Tm) (p : Pt) : List Value := [.int .i64 T.g, .int .i64 T.s, .int .i64 T.price, .int .i64 T.worst, .int .i64 T.short, .slice p.a1 T.G.length p.c1, .slice p.a2 T.S.length p.c2, .int .i64 T.dl, .int .i64 T.dh, .int .i64 T.bales, .int .i64 T.fee]
structure TmOk (H : List Row) (T : Tm) (p : Pt) : Prop where
  gr : SlE H p.a1 cI 1 T.G
  st : SlE H p.a2 cI 1 T.S
  l1 : T.G.length ≤ 1000000
  l2 : T.S.length ≤ 1000000
theorem TmOk.sub {H H' : List Row} {T : Tm} {p : Pt} (h : TmOk H T p) (hs : ∀ r ∈ H, r ∈ H') : TmOk H' T p := ⟨h.gr.sub hs, h.st.sub hs, h.l1, h.l2⟩
structure Cl where
  g : Int
  s : Int
def cCl (c : Cl) : List Value := [.int .i64 c.g, .int .i64 c.s]
structure Lo where
  g1 : Int
  g2 : Int
  s1 : Int
  s2 : Int
def cLo (l : Lo) : List Value := [.int .i64 l.g1, .int .i64 l.g2, .int .i64 l.s1, .int .i64 l.s2]
def falls : List Int → Prop
  | a :: b :: l => b ≤ a ∧ falls (b :: l)
  | _ => True
def grows : List Int → Prop
  | a :: b :: l => a ≤ b ∧ grows (b :: l)
  | _ => True
def tab (l : List Int) : Prop := l.length = 9 ∧ ∀ n ∈ l, -1000 ≤ n ∧ n ≤ 1000
def at1 (l : List Int) (i : Int) : Int := l.getD (i - 1).toNat 0
def val (T : Tm) (g s : Int) : Int := T.price + at1 T.G g + at1 T.S s
structure tmOk (T : Tm) : Prop where
  cls : (1 ≤ T.g ∧ T.g ≤ 9) ∧ (1 ≤ T.s ∧ T.s ≤ 9) ∧ (T.g ≤ T.worst ∧ T.worst ≤ 9) ∧ (1 ≤ T.short ∧ T.short ≤ T.s)
  num : (1 ≤ T.price ∧ T.price ≤ 1000000) ∧ (T.dl ≤ T.dh ∧ 0 ≤ T.dl ∧ T.dh ≤ 60) ∧ (1 ≤ T.bales ∧ T.bales ≤ 20) ∧ (0 ≤ T.fee ∧ T.fee ≤ 1000)
  gr : tab T.G
  st : tab T.S
  ord : falls T.G ∧ grows T.S
  zero : at1 T.G T.g = 0 ∧ at1 T.S T.s = 0
  least : 1 ≤ val T T.worst T.short
noncomputable instance (T : Tm) : Decidable (tmOk T) := Classical.propDecidable _
theorem at1_get {l : List Int} {i : Int} (h : 1 ≤ i ∧ i ≤ 9) (hl : l.length = 9) : l[(i - 1).toNat]? = some (at1 l i) := by
  unfold at1
  rw [List.getD_eq_getElem?_getD, List.getElem?_eq_getElem (by omega)]; rfl
theorem tab.at1 {l : List Int} (h : tab l) {i : Int} (hi : 1 ≤ i ∧ i ≤ 9) : -1000 ≤ at1 l i ∧ at1 l i ≤ 1000 := h.2 _ (List.mem_of_getElem? (at1_get hi h.1))
theorem withinL_spec (s : Sp) (l : List Int) (a : Option Addr) (c : Nat) (H : List Row) (hl : SlE H a cI 1 l) (hb : l.length ≤ 9223372036854775807) : Fc Tryz.prog 52 [.agg (cSp s).toArray, .slice a l.length c] H (fun v H' => v = .bool (decide (∀ n ∈ l, s.lo ≤ n ∧ n ≤ s.hi)) ∧ H' = H) := by
  refine Fc.mk (callable Tryz.call52) Tryz.func52 rfl Tryz.ntmps52 rfl ?_; dsimp only [fr]
  repeat' (first | (refine XO.op rfl ?_; (first | ((first | refine Xo.ng rfl ?_); (first | (refine Xg.ev (EvF.move rfl rfl) rfl rfl ?_) | (refine Xg.ev (EvF.assign rfl rfl) rfl rfl ?_) | (refine Xg.ev (EvF.cmp rfl rfl rfl rfl) rfl rfl ?_) | (refine Xg.ev (EvF.lenSlice rfl rfl (te rfl)) rfl rfl ?_) | (refine Xg.st (StF.boxAgg rfl rfl) rfl rfl ?_; rintro _ _ ⟨bx, rfl, rfl⟩))))) | (refine XO.done rfl ?_; refine hK _ _ ?_; clear hK K) | refine X.seq rfl ?_ | refine X.region rfl (fun K hK => ?_) | refine X.block rfl ?_ | (refine X.brk rfl ?_; repeat (first | refine blockX_hit rfl ?_ | refine blockX_miss (by decide) ?_)) | refine X.skip rfl ?_ | refine X.ret rfl ?_ | (refine X.ite rfl rfl (fun hc => ?_); (first | (with_reducible refine Xb.case hc (fun h => ?_) (fun h => ?_))) <;> clear hc))
  refine X.lp rfl (fun q F' H' => ∃ k : Nat, q = l.length - k ∧ k ≤ l.length ∧ ((∀ n ∈ l, s.lo ≤ n ∧ n ≤ s.hi) ↔ ∀ n ∈ l.drop k, s.lo ≤ n ∧ n ≤ s.hi) ∧ ⟨bx, 0, cSp s, some 30, 2⟩ :: H = H' ∧
      F' = [(2, .pointer (some ⟨bx, 0, none⟩)), (7, .slice a l.length c), (8, .int .i64 l.length), (9, .int .i64 k)])
    l.length [(2, .pointer (some ⟨bx, 0, none⟩)), (7, .slice a l.length c), (8, .int .i64 l.length), (9, .int .i64 (0 : Nat))] _ (by (repeat (first | exact Sub.nil _ | refine Sub.cons rfl ?_)); done) (by (repeat (first | exact List.Sublist.refl _ | apply List.Sublist.cons_cons | apply List.Sublist.cons)); done) ⟨0, by omega, by omega, by simp, rfl, rfl⟩ ?_
  rintro _ _ _ ⟨k, rfl, hk, hn, rfl, rfl⟩
  repeat' (first | (refine XO.op rfl ?_; (first | ((first | refine Xo.ng rfl ?_); (first | (refine Xg.ev (EvF.move rfl rfl) rfl rfl ?_) | (refine Xg.ev (EvF.assign rfl rfl) rfl rfl ?_) | (refine Xg.ev (EvF.cmp rfl rfl rfl rfl) rfl rfl ?_) | (refine Xg.ev (EvF.lenSlice rfl rfl (te rfl)) rfl rfl ?_) | (refine Xg.st (StF.boxAgg rfl rfl) rfl rfl ?_; rintro _ _ ⟨bx, rfl, rfl⟩))))) | (refine XO.done rfl ?_; refine hK _ _ ?_; clear hK K) | refine X.seq rfl ?_ | refine X.region rfl (fun K hK => ?_) | refine X.block rfl ?_ | (refine X.brk rfl ?_; repeat (first | refine blockX_hit rfl ?_ | refine blockX_miss (by decide) ?_)) | refine X.skip rfl ?_ | refine X.ret rfl ?_ | (refine X.ite rfl rfl (fun hc => ?_); (first | (with_reducible refine Xb.case hc (fun h => ?_) (fun h => ?_))) <;> clear hc))
  · obtain ⟨b, off, e, rfl, he⟩ := hl.elem (i := k) (by omega)
    have hl1 : ∀ r, SlE (r :: H) (some ⟨b, off, none⟩) cI 1 l := fun r => hl.sub (fun _ h => List.mem_cons_of_mem _ h)
    rw [drop_cons he] at hn
    repeat' (first | (refine XO.op rfl ?_; (first | ((first | refine Xo.ng rfl ?_ | (refine Xo.g rfl rfl ?_; with_reducible refine Xw.ff ?_)); (first | (refine Xg.ev (EvF.loadV rfl rfl (LoadV.el0 (hl1 _) he (te rfl) rfl (fun _ hm => hm) rfl)) rfl rfl ?_) | (refine Xg.ev (EvF.move rfl rfl) rfl rfl ?_) | (refine Xg.ev (EvF.assign rfl rfl) rfl rfl ?_) | (refine Xg.ev (EvF.pickT rfl rfl rfl) rfl rfl ?_) | (refine Xg.ev (EvF.pickF rfl rfl rfl) rfl rfl ?_) | (refine Xg.ev (EvF.cmp rfl rfl rfl rfl) rfl rfl ?_) | (refine Xg.ev (EvF.add64 rfl rfl rfl (by omega) (by omega)) rfl rfl ?_) | (refine Xg.ev (EvF.fieldAddr rfl rfl (te rfl) rfl (te rfl) (by decide)) rfl rfl ?_) | (refine Xg.ev (EvF.indexSlice rfl rfl rfl (te rfl) (te rfl) (by omega) (by omega)) rfl rfl ?_) | (refine Xg.ev (EvF.loadV rfl rfl (LoadV.own (te rfl) rfl (List.Mem.head _) rfl)) rfl rfl ?_))) | (refine Xo.g rfl rfl ?_; (first | (with_reducible refine Xw.tf rfl rfl ?_) | (with_reducible refine Xw.case (fun h => ?_) (fun h => ?_) <;> simp only [h, decide_true, decide_false, Bool.not_true, Bool.not_false, and_self, and_true, true_and, and_false, false_and]))))) | (refine XO.done rfl ?_; refine hK _ _ ?_; clear hK K) | refine X.seq rfl ?_ | refine X.region rfl (fun K hK => ?_) | refine X.skip rfl ?_ | refine X.ret rfl ?_ | (refine X.ite rfl rfl (fun hc => ?_); (first | (with_reducible refine Xb.t hc ?_) | (with_reducible refine Xb.case hc (fun h => ?_) (fun h => ?_))) <;> clear hc))
    any_goals (refine ret_one (by first | exact .inr rfl | exact .inl rfl) Tryz.results52 rfl (H' := H) (by (repeat (first | exact List.Sublist.refl _ | apply List.Sublist.cons)); done) ?_; simp only [and_true, true_and]; congr 1; symm; exact decide_eq_false (fun q => by have := hn.1 q e List.mem_cons_self; omega))
    refine ⟨_, _, _, (by (repeat (first | exact Sub.nil _ | refine Sub.cons rfl ?_)); done), (by (repeat (first | exact List.Sublist.refl _ | apply List.Sublist.cons_cons | apply List.Sublist.cons)); done), ⟨k + 1, rfl, by omega, hn.trans ⟨fun q n hm => q n (List.mem_cons_of_mem _ hm), fun q n hm => ?_⟩, rfl, rfl⟩, by omega⟩
    rcases List.mem_cons.1 hm with rfl | hm
    · omega
    · exact q n hm
  · rw [List.drop_eq_nil_of_le (by omega)] at hn
    refine ret_one (by first | exact .inr rfl | exact .inl rfl) Tryz.results52 rfl (H' := H) (by (repeat (first | exact List.Sublist.refl _ | apply List.Sublist.cons)); done) ?_; simp only [and_true, true_and]
    congr 1; symm
    exact decide_eq_true (hn.2 (fun _ h => absurd h List.not_mem_nil))
/-- one number, two numbers in a row of their own -/
theorem within1_spec (s : Sp) (x : Int) (b c cap : Nat) (ow : Option Kd) (H : List Row) (hm : ⟨b, 0, [.int .i64 x], ow, cap⟩ ∈ H) : Fc Tryz.prog 52 [.agg (cSp s).toArray, .slice (some ⟨b, 0, none⟩) 1 c] H (fun v H' => v = .bool (decide (s.lo ≤ x ∧ x ≤ s.hi)) ∧ H' = H) := by
  have := withinL_spec s [x] (some ⟨b, 0, none⟩) c H (SlE.ofRow (cap := cap) (ow := ow) hm (fun _ _ => rfl)) (by simp)
  simpa using this
theorem within2_spec (s : Sp) (x y : Int) (b c cap : Nat) (ow : Option Kd) (H : List Row) (hm : ⟨b, 0, [.int .i64 x, .int .i64 y], ow, cap⟩ ∈ H) : Fc Tryz.prog 52 [.agg (cSp s).toArray, .slice (some ⟨b, 0, none⟩) 2 c] H (fun v H' => v = .bool (decide ((s.lo ≤ x ∧ x ≤ s.hi) ∧ (s.lo ≤ y ∧ y ≤ s.hi))) ∧ H' = H) := by
  have := withinL_spec s [x, y] (some ⟨b, 0, none⟩) c H (SlE.ofRow (cap := cap) (ow := ow) hm (fun _ _ => rfl)) (by simp)
  simpa using this
theorem part_spec (s : Sp) (lo hi : Int) (H : List Row) : Fc Tryz.prog 115 [.agg (cSp s).toArray, .int .i64 lo, .int .i64 hi] H (fun v H' => v = .bool (decide (s.lo ≤ s.hi ∧ (lo ≤ s.lo ∧ s.lo ≤ hi) ∧ (lo ≤ s.hi ∧ s.hi ≤ hi))) ∧ H' = H) := by
  refine Fc.mk (callable Tryz.call115) Tryz.func115 rfl Tryz.ntmps115 rfl ?_; dsimp only [fr]
  repeat' (first | (refine XO.op rfl ?_; (first | ((first | refine Xo.ng rfl ?_ | (refine Xo.g rfl rfl ?_; with_reducible refine Xw.tt ?_)); (first | (refine Xg.ev (EvF.build (cs := cSp ⟨lo, hi⟩) rfl (ArgsP.cons rfl (ArgsP.cons rfl ArgsP.nil)) (te rfl) (Places.cons (te rfl) (Places.cons (te rfl) Places.nil)) Tryz.zeroValue30 rfl) rfl rfl ?_) | (refine Xg.st (StF.buildTwo rfl elI rfl rfl rfl rfl rfl rfl (by decide) (by decide)) rfl rfl ?_; rintro _ _ ⟨bs, rfl, rfl⟩) | (refine Xg.call (EnF.st rfl (Args.cons rfl (Args.cons rfl Args.nil))) rfl rfl (within2_spec _ _ _ _ _ _ _ _ (List.Mem.head _)) ?_; rintro _ H9 ⟨rfl, hH9⟩; subst H9) | (refine Xg.ev (EvF.move rfl rfl) rfl rfl ?_) | (refine Xg.ev (EvF.assign rfl rfl) rfl rfl ?_) | (refine Xg.ev (EvF.pickT rfl rfl rfl) rfl rfl ?_) | (refine Xg.ev (EvF.pickF rfl rfl rfl) rfl rfl ?_) | (refine Xg.ev (EvF.cmp rfl rfl rfl rfl) rfl rfl ?_) | (refine Xg.ev (EvF.fieldAddr rfl rfl (te rfl) rfl (te rfl) (by decide)) rfl rfl ?_) | (refine Xg.ev (EvF.loadV rfl rfl (LoadV.own (te rfl) rfl (List.Mem.head _) rfl)) rfl rfl ?_) | (refine Xg.st (StF.boxAgg rfl rfl) rfl rfl ?_; rintro _ _ ⟨bx, rfl, rfl⟩))) | (refine Xo.g rfl rfl ?_; (first | (with_reducible refine Xw.ft rfl rfl ?_) | (with_reducible refine Xw.case (fun h => ?_) (fun h => ?_) <;> simp only [h, decide_true, decide_false, Bool.not_true, Bool.not_false, and_self, and_true, true_and, and_false, false_and]))))) | (refine XO.done rfl ?_; refine hK _ _ ?_; clear hK K) | refine X.seq rfl ?_ | refine X.region rfl (fun K hK => ?_) | refine X.ret rfl ?_)
  all_goals (refine ret_one (by first | exact .inr rfl | exact .inl rfl) Tryz.results115 rfl (H' := H) (by (repeat (first | exact List.Sublist.refl _ | apply List.Sublist.cons)); done) ?_; simp only [and_true, true_and])
  all_goals (congr 1; simp [*])
theorem anyGrade_spec (H : List Row) : Fc Tryz.prog 63 [] H (fun v H' => v = .agg (cSp ⟨1, 9⟩).toArray ∧ H' = H) := by
  refine Fc.mk (callable Tryz.call63) Tryz.func63 rfl Tryz.ntmps63 rfl ?_; dsimp only [fr]
  repeat' (first | (refine XO.op rfl ?_; (first | ((first | refine Xo.ng rfl ?_); (first | (refine Xg.ev (EvF.build (cs := cSp ⟨1, 9⟩) rfl (ArgsP.cons rfl (ArgsP.cons rfl ArgsP.nil)) (te rfl) (Places.cons (te rfl) (Places.cons (te rfl) Places.nil)) Tryz.zeroValue30 rfl) rfl rfl ?_) | (refine Xg.st (StF.alloc rfl Tryz.zeroValue30 rfl) rfl rfl ?_; rintro _ _ ⟨bx, rfl, rfl⟩) | (refine Xg.st0 (StF.storeAll (i := 0) rfl rfl rfl (te rfl) rfl rfl rfl rfl) rfl ?_; rintro _ _ ⟨rfl, rfl⟩; dsimp only [List.set]))))) | (refine XO.done rfl ?_; refine hK _ _ ?_; clear hK K) | refine X.seq rfl ?_ | refine X.region rfl (fun K hK => ?_) | refine X.ret rfl ?_)
  exact ret_one (by first | exact .inr rfl | exact .inl rfl) Tryz.results63 ⟨_, rfl, LoadV.whole (te rfl) rfl (List.Mem.head _) rfl⟩ (H' := H) (by (repeat (first | exact List.Sublist.refl _ | apply List.Sublist.cons_cons | apply List.Sublist.cons)); done) ⟨rfl, rfl⟩
theorem anyStaple_spec (H : List Row) : Fc Tryz.prog 78 [] H (fun v H' => v = .agg (cSp ⟨1, 9⟩).toArray ∧ H' = H) := by
  refine Fc.mk (callable Tryz.call78) Tryz.func78 rfl Tryz.ntmps78 rfl ?_; dsimp only [fr]
  repeat' (first | (refine XO.op rfl ?_; (first | ((first | refine Xo.ng rfl ?_); (first | (refine Xg.ev (EvF.build (cs := cSp ⟨1, 9⟩) rfl (ArgsP.cons rfl (ArgsP.cons rfl ArgsP.nil)) (te rfl) (Places.cons (te rfl) (Places.cons (te rfl) Places.nil)) Tryz.zeroValue30 rfl) rfl rfl ?_) | (refine Xg.st (StF.alloc rfl Tryz.zeroValue30 rfl) rfl rfl ?_; rintro _ _ ⟨bx, rfl, rfl⟩) | (refine Xg.st0 (StF.storeAll (i := 0) rfl rfl rfl (te rfl) rfl rfl rfl rfl) rfl ?_; rintro _ _ ⟨rfl, rfl⟩; dsimp only [List.set]))))) | (refine XO.done rfl ?_; refine hK _ _ ?_; clear hK K) | refine X.seq rfl ?_ | refine X.region rfl (fun K hK => ?_) | refine X.ret rfl ?_)
  exact ret_one (by first | exact .inr rfl | exact .inl rfl) Tryz.results78 ⟨_, rfl, LoadV.whole (te rfl) rfl (List.Mem.head _) rfl⟩ (H' := H) (by (repeat (first | exact List.Sublist.refl _ | apply List.Sublist.cons_cons | apply List.Sublist.cons)); done) ⟨rfl, rfl⟩
theorem class_spec (g s : Int) (H : List Row) : Fc Tryz.prog 58 [.int .i64 g, .int .i64 s] H (fun v H' => v = .agg (cCl ⟨g, s⟩).toArray ∧ H' = H) := by
  refine Fc.mk (callable Tryz.call58) Tryz.func58 rfl Tryz.ntmps58 rfl ?_; dsimp only [fr]
  repeat' (first | (refine XO.op rfl ?_; (first | ((first | refine Xo.ng rfl ?_); (first | (refine Xg.ev (EvF.build (cs := cCl ⟨g, s⟩) rfl (ArgsP.cons rfl (ArgsP.cons rfl ArgsP.nil)) (te rfl) (Places.cons (te rfl) (Places.cons (te rfl) Places.nil)) Tryz.zeroValue27 rfl) rfl rfl ?_) | (refine Xg.ev (EvF.move rfl rfl) rfl rfl ?_) | (refine Xg.st (StF.alloc rfl Tryz.zeroValue30 rfl) rfl rfl ?_; rintro _ _ ⟨bx, rfl, rfl⟩) | (refine Xg.st0 (StF.storeAll (i := 0) rfl rfl rfl (te rfl) rfl rfl rfl rfl) rfl ?_; rintro _ _ ⟨rfl, rfl⟩; dsimp only [List.set]))))) | (refine XO.done rfl ?_; refine hK _ _ ?_; clear hK K) | refine X.seq rfl ?_ | refine X.region rfl (fun K hK => ?_) | refine X.ret rfl ?_)
  exact ret_one (by first | exact .inr rfl | exact .inl rfl) Tryz.results58 ⟨_, rfl, LoadV.whole (te rfl) rfl (List.Mem.head _) rfl⟩ (H' := H) (by (repeat (first | exact List.Sublist.refl _ | apply List.Sublist.cons_cons | apply List.Sublist.cons)); done) ⟨rfl, rfl⟩
theorem just_spec (n : Int) (H : List Row) : Fc Tryz.prog 61 [.int .i64 n] H (fun v H' => v = .agg (cSp ⟨n, n⟩).toArray ∧ H' = H) := by
  refine Fc.mk (callable Tryz.call61) Tryz.func61 rfl Tryz.ntmps61 rfl ?_; dsimp only [fr]
  repeat' (first | (refine XO.op rfl ?_; (first | ((first | refine Xo.ng rfl ?_); (first | (refine Xg.ev (EvF.build (cs := cSp ⟨n, n⟩) rfl (ArgsP.cons rfl (ArgsP.cons rfl ArgsP.nil)) (te rfl) (Places.cons (te rfl) (Places.cons (te rfl) Places.nil)) Tryz.zeroValue30 rfl) rfl rfl ?_) | (refine Xg.ev (EvF.move rfl rfl) rfl rfl ?_) | (refine Xg.st (StF.alloc rfl Tryz.zeroValue30 rfl) rfl rfl ?_; rintro _ _ ⟨bx, rfl, rfl⟩) | (refine Xg.st0 (StF.storeAll (i := 0) rfl rfl rfl (te rfl) rfl rfl rfl rfl) rfl ?_; rintro _ _ ⟨rfl, rfl⟩; dsimp only [List.set]))))) | (refine XO.done rfl ?_; refine hK _ _ ?_; clear hK K) | refine X.seq rfl ?_ | refine X.region rfl (fun K hK => ?_) | refine X.ret rfl ?_)
  exact ret_one (by first | exact .inr rfl | exact .inl rfl) Tryz.results61 ⟨_, rfl, LoadV.whole (te rfl) rfl (List.Mem.head _) rfl⟩ (H' := H) (by (repeat (first | exact List.Sublist.refl _ | apply List.Sublist.cons_cons | apply List.Sublist.cons)); done) ⟨rfl, rfl⟩
theorem size_spec (l : Lo) (H : List Row) (h : (-1000 ≤ l.g1 ∧ l.g1 ≤ 1000) ∧ (-1000 ≤ l.g2 ∧ l.g2 ≤ 1000) ∧ (-1000 ≤ l.s1 ∧ l.s1 ≤ 1000) ∧ (-1000 ≤ l.s2 ∧ l.s2 ≤ 1000)) (h1 : l.g1 ≤ l.g2) (h2 : l.s1 ≤ l.s2) : Fc Tryz.prog 57 [.agg (cLo l).toArray] H (fun v H' => v = .int .i64 ((l.g2 - l.g1 + 1) * (l.s2 - l.s1 + 1)) ∧ H' = H) := by
  have hm : 0 ≤ (l.g2 - l.g1 + 1) * (l.s2 - l.s1 + 1) := Int.mul_nonneg (by omega) (by omega)
  have hM : (l.g2 - l.g1 + 1) * (l.s2 - l.s1 + 1) ≤ 2001 * 2001 := Int.mul_le_mul (by omega) (by omega) (by omega) (by omega)
  refine Fc.mk (callable Tryz.call57) Tryz.func57 rfl Tryz.ntmps57 rfl ?_; dsimp only [fr]
  repeat' (first | (refine XO.op rfl ?_; (first | ((first | refine Xo.ng rfl ?_); (first | (refine Xg.ev (EvF.mul64 rfl rfl rfl (by omega) (by omega)) rfl rfl ?_) | (refine Xg.ev (EvF.assign rfl rfl) rfl rfl ?_) | (refine Xg.ev (EvF.add64 rfl rfl rfl (by omega) (by omega)) rfl rfl ?_) | (refine Xg.ev (EvF.sub64 rfl rfl rfl (by omega) (by omega)) rfl rfl ?_) | (refine Xg.ev (EvF.fieldAddr rfl rfl (te rfl) rfl (te rfl) (by decide)) rfl rfl ?_) | (refine Xg.ev (EvF.loadV rfl rfl (LoadV.own (te rfl) rfl (List.Mem.head _) rfl)) rfl rfl ?_) | (refine Xg.st (StF.boxAgg rfl rfl) rfl rfl ?_; rintro _ _ ⟨bx, rfl, rfl⟩))))) | (refine XO.done rfl ?_; refine hK _ _ ?_; clear hK K) | refine X.seq rfl ?_ | refine X.region rfl (fun K hK => ?_) | refine X.ret rfl ?_)
  refine ret_one (by first | exact .inr rfl | exact .inl rfl) Tryz.results57 rfl (H' := H) (by (repeat (first | exact List.Sublist.refl _ | apply List.Sublist.cons)); done) ?_; simp only [and_true, true_and]
end Go.Proofs.YtcjlegjchllgjaaGreat
end
section
set_option linter.unusedVariables false
set_option linter.unusedSimpArgs false
namespace Go.Proofs.YtcjlegjchllgjaaGreat
open Go Go.Fw
set_option maxRecDepth 10000
def tsOnly : List TOp := [⟨some 3, [], [], []⟩, ⟨some 4, [0], [0], []⟩, ⟨some 5, [0, 1], [1], []⟩, ⟨some 6, [], [], []⟩, ⟨some 7, [3], [3], []⟩, ⟨some 8, [0, 1, 2, 3, 4], [4], []⟩, ⟨some 9, [0, 1, 2, 3, 4, 5], [2, 5], []⟩, ⟨none, [0, 1, 2, 3, 4, 5, 6], [6], [8]⟩, ⟨none, [], [], []⟩]
theorem only_spec (c : Cl) (H : List Row) : Fc Tryz.prog 45 [.agg (cCl c).toArray] H (fun v H' => v = .agg (cLo ⟨c.g, c.g, c.s, c.s⟩).toArray ∧ H' = H) := by
  refine Fc.mk (callable Tryz.call45) Tryz.func45 rfl Tryz.ntmps45 rfl ?_; dsimp only [fr]
  refine X.seq rfl ?_; refine X.region rfl (fun K hK => ?_); repeat' (first | (refine XO.op rfl ?_; (first | ((first | refine Xo.ng rfl ?_); (first | (refine Xg.st (StF.boxAgg rfl rfl) rfl rfl ?_; rintro _ _ ⟨bx, rfl, rfl⟩) | (refine Xg.st (StF.alloc rfl Tryz.zeroValue92 rfl) rfl rfl ?_; rintro _ _ ⟨bx, rfl, rfl⟩))))) | (refine XO.done rfl ?_; refine hK _ _ ?_; clear hK K))
  rename_i b1; rename Nat => br
  refine X.seq rfl ?_
  refine X.regionOb tsOnly [1, 2] [(1, .pointer (some ⟨b1, 0, none⟩)), (2, .pointer (some ⟨br, 0, none⟩))] (valL [.pointer (some ⟨b1, 0, none⟩), .int .i64 c.g, .agg (cSp ⟨c.g, c.g⟩).toArray, .pointer (some ⟨b1, 1, none⟩), .int .i64 c.s, .agg (cSp ⟨c.s, c.s⟩).toArray, .agg (cLo ⟨c.g, c.g, c.s, c.s⟩).toArray]) (rowsL 7 ⟨br, 0, cLo ⟨c.g, c.g, c.s, c.s⟩, some 92, 4⟩ ⟨br, 0, cLo ⟨0, 0, 0, 0⟩, some 92, 4⟩) (fun _ => (0, 0)) (⟨b1, 0, cCl c, some 27, 2⟩ :: H) rfl mixed (by (repeat (first | exact Sub.nil _ | refine Sub.cons rfl ?_)); done) rfl (by kernel_rfl) (fun _ _ _ _ _ _ => ⟨rfl, rfl⟩) (List.Sublist.refl _) ?_ ?_
  · repeat' (first | exact AllF.done rfl | (refine AllF.step rfl ?_ ?_; · (first | fail | ((first | refine Ob.ng rfl ?_); (first | exact ObK.pure (fun env R hR => by exact ⟨_, EvF.fieldAddr rfl rfl (te rfl) rfl (te rfl) (by decide), rfl⟩) rfl (fun _ => rfl) | exact ObK.pure (fun env R hR => by exact ⟨_, EvF.loadV rfl rfl (LoadV.own (te rfl) rfl (hR _ (List.Mem.head _)) rfl), rfl⟩) rfl (fun _ => rfl) | (exact fun env S hS => OpF.callV (Z := []) (EnF.st rfl (Args.cons rfl Args.nil)) (just_spec c.g _) rfl rfl) | (exact fun env S hS => OpF.callV (Z := []) (EnF.st rfl (Args.cons rfl Args.nil)) (just_spec c.s _) rfl rfl) | (exact ObK.pure (fun env S hS => ⟨_, EvF.build (cs := cLo ⟨c.g, c.g, c.s, c.s⟩) rfl (ArgsP.cons rfl (ArgsP.cons rfl ArgsP.nil)) (te rfl) (Places.cons (te rfl) (Places.cons (te rfl) Places.nil)) Tryz.zeroValue92 rfl, rfl⟩) rfl (fun _ => rfl)) | (exact fun env S hS => (StF.storeAll (i := 0) (vs := cLo ⟨c.g, c.g, c.s, c.s⟩) (cs := cLo ⟨0, 0, 0, 0⟩) rfl rfl rfl (te rfl) rfl rfl rfl rfl).op.mono (fun v H' ⟨hv, hH⟩ => ⟨(0, 0), fun h => absurd rfl h, by rw [hH]; exact List.Perm.refl _⟩)))))))
  · intro env t ha hv
    refine ⟨_, ha, ?_⟩
    show X _ _ _ _ (⟨br, 0, cLo ⟨c.g, c.g, c.s, c.s⟩, some 92, 4⟩ :: ⟨b1, 0, cCl c, some 27, 2⟩ :: H) _
    repeat' (first | (refine XO.op rfl ?_; (first | ((first | refine Xo.ng rfl ?_ | (refine Xo.g rfl rfl ?_; with_reducible refine Xw.tt ?_)); (first | (refine Xg.ev (EvF.move rfl rfl) rfl rfl ?_) | (refine Xg.ev (EvF.assign rfl rfl) rfl rfl ?_) | (refine Xg.ev (EvF.pickT rfl rfl rfl) rfl rfl ?_) | (refine Xg.ev (EvF.pickF rfl rfl rfl) rfl rfl ?_) | (refine Xg.ev (EvF.cmp rfl rfl rfl rfl) rfl rfl ?_) | (refine Xg.ev (EvF.fieldAddr rfl rfl (te rfl) rfl (te rfl) (by decide)) rfl rfl ?_) | (refine Xg.ev (EvF.loadV rfl rfl (LoadV.own (te rfl) rfl (List.Mem.head _) rfl)) rfl rfl ?_) | (refine Xg.ev (EvF.loadV rfl rfl (LoadV.own (te rfl) rfl (List.Mem.tail _ (List.Mem.head _)) rfl)) rfl rfl ?_) | (refine Xg.st (StF.boxAgg rfl rfl) rfl rfl ?_; rintro _ _ ⟨bx, rfl, rfl⟩))) | (refine Xo.g rfl rfl ?_; (first | (with_reducible refine Xw.ft rfl rfl ?_) | (with_reducible refine Xw.case (fun h => ?_) (fun h => ?_) <;> simp only [h, decide_true, decide_false, Bool.not_true, Bool.not_false, and_self, and_true, true_and, and_false, false_and]))))) | (refine XO.done rfl ?_; refine hK _ _ ?_; clear hK K) | refine X.seq rfl ?_ | refine X.region rfl (fun K hK => ?_) | refine X.ret rfl ?_)
    exact ret_one (by first | exact .inr rfl | exact .inl rfl) Tryz.results45 ⟨_, rfl, LoadV.whole (te rfl) rfl (List.Mem.head _) rfl⟩ (H' := H) (by (repeat (first | exact List.Sublist.refl _ | apply List.Sublist.cons)); done) ⟨rfl, rfl⟩
theorem value_spec (T : Tm) (p : Pt) (c : Cl) (H : List Row) (hT : TmOk H T p) (hG : tab T.G) (hS : tab T.S) (hp : -10000000 ≤ T.price ∧ T.price ≤ 10000000) (hg : 1 ≤ c.g ∧ c.g ≤ 9) (hs : 1 ≤ c.s ∧ c.s ≤ 9) :
    Fc Tryz.prog 48 [.agg (cTm T p).toArray, .agg (cCl c).toArray] H (fun v H' => v = .int .i64 (val T c.g c.s) ∧ H' = H) := by
  have h1 := at1_get hg hG.1
  have h2 := at1_get hs hS.1
  have q1 := hG.at1 hg
  have q2 := hS.at1 hs
  have lg := hG.1
  have ls := hS.1
  obtain ⟨b1, o1, e1, he1, _⟩ := hT.gr.elem (i := 0) (by omega)
  obtain ⟨b2, o2, e2, he2, _⟩ := hT.st.elem (i := 0) (by omega)
  have hT2 : ∀ r1 r2, TmOk (r1 :: r2 :: H) T p := fun r1 r2 => hT.sub (fun _ h => List.Mem.tail _ (List.Mem.tail _ h))
  obtain ⟨a1, c1, a2, c2⟩ := p
  simp only at he1 he2
  subst he1 he2
  refine Fc.mk (callable Tryz.call48) Tryz.func48 rfl Tryz.ntmps48 rfl ?_; dsimp only [fr]
  repeat' (first | (refine XO.op rfl ?_; (first | ((first | refine Xo.ng rfl ?_); (first | (refine Xg.ev (EvF.assign rfl rfl) rfl rfl ?_) | (refine Xg.st (StF.boxAgg rfl rfl) rfl rfl ?_; rintro _ _ ⟨bx, rfl, rfl⟩))))) | (refine XO.done rfl ?_; refine hK _ _ ?_; clear hK K) | (refine XQ.op rfl ?_; (first | ((first | refine Yo.ng rfl ?_); (first | (refine Yg.ev (EvF.indexSlice rfl rfl rfl (te rfl) (te rfl) (by omega) (by omega)) rfl rfl ?_) | (refine Yg.ev (EvF.loadV rfl rfl (LoadV.el0 (hT2 _ _).gr h1 (te rfl) rfl (fun _ hm => hm) rfl)) rfl rfl ?_) | (refine Yg.ev (EvF.loadV rfl rfl (LoadV.el0 (hT2 _ _).st h2 (te rfl) rfl (fun _ hm => hm) rfl)) rfl rfl ?_) | (refine Yg.ev (EvF.assign rfl rfl) rfl rfl ?_) | (refine Yg.ev (EvF.add64 rfl rfl rfl (by omega) (by omega)) rfl rfl ?_) | (refine Yg.ev (EvF.sub64 rfl rfl rfl (by omega) (by omega)) rfl rfl ?_) | (refine Yg.ev (EvF.fieldAddr rfl rfl (te rfl) rfl (te rfl) (by decide)) rfl rfl ?_) | (refine Yg.ev (EvF.loadV rfl rfl (LoadV.own (te rfl) rfl (List.Mem.head _) rfl)) rfl rfl ?_) | (refine Yg.ev (EvF.loadV rfl rfl (LoadV.own (te rfl) rfl (List.Mem.tail _ (List.Mem.head _)) rfl)) rfl rfl ?_))))) | (refine XQ.done rfl ?_; refine hK _ ?_; clear hK K) | refine X.seq rfl ?_ | refine X.region rfl (fun K hK => ?_) | refine X.regionD rfl mixed (by kernel_rfl) (fun K hK => ?_) | refine X.ret rfl ?_)
  refine ret_one (by first | exact .inr rfl | exact .inl rfl) Tryz.results48 rfl (H' := H) (by (repeat (first | exact List.Sublist.refl _ | apply List.Sublist.cons)); done) ?_; simp only [and_true, true_and]
  rfl
theorem allows_spec (T : Tm) (p : Pt) (c : Cl) (H : List Row) :
    Fc Tryz.prog 51 [.agg (cTm T p).toArray, .agg (cCl c).toArray] H (fun v H' => v = .bool (decide (c.g ≤ T.worst ∧ T.short ≤ c.s)) ∧ H' = H) := by
  refine Fc.mk (callable Tryz.call51) Tryz.func51 rfl Tryz.ntmps51 rfl ?_; dsimp only [fr]
  repeat' (first | (refine XO.op rfl ?_; (first | ((first | refine Xo.ng rfl ?_ | (refine Xo.g rfl rfl ?_; with_reducible refine Xw.tt ?_)); (first | (refine Xg.ev (EvF.move rfl rfl) rfl rfl ?_) | (refine Xg.ev (EvF.assign rfl rfl) rfl rfl ?_) | (refine Xg.ev (EvF.pickT rfl rfl rfl) rfl rfl ?_) | (refine Xg.ev (EvF.pickF rfl rfl rfl) rfl rfl ?_) | (refine Xg.ev (EvF.cmp rfl rfl rfl rfl) rfl rfl ?_) | (refine Xg.ev (EvF.fieldAddr rfl rfl (te rfl) rfl (te rfl) (by decide)) rfl rfl ?_) | (refine Xg.ev (EvF.loadV rfl rfl (LoadV.own (te rfl) rfl (List.Mem.head _) rfl)) rfl rfl ?_) | (refine Xg.ev (EvF.loadV rfl rfl (LoadV.own (te rfl) rfl (List.Mem.tail _ (List.Mem.head _)) rfl)) rfl rfl ?_) | (refine Xg.st (StF.boxAgg rfl rfl) rfl rfl ?_; rintro _ _ ⟨bx, rfl, rfl⟩))) | (refine Xo.g rfl rfl ?_; (first | (with_reducible refine Xw.ft rfl rfl ?_) | (with_reducible refine Xw.case (fun h => ?_) (fun h => ?_) <;> simp only [h, decide_true, decide_false, Bool.not_true, Bool.not_false, and_self, and_true, true_and, and_false, false_and]))))) | (refine XO.done rfl ?_; refine hK _ _ ?_; clear hK K) | refine X.seq rfl ?_ | refine X.region rfl (fun K hK => ?_) | refine X.ret rfl ?_)
  all_goals (refine ret_one (by first | exact .inr rfl | exact .inl rfl) Tryz.results51 rfl (H' := H) (by (repeat (first | exact List.Sublist.refl _ | apply List.Sublist.cons)); done) ?_; simp only [and_true, true_and])
  all_goals (congr 1; simp [*])
/-- the numbers of a span -/
def ir (a b : Int) : List Int := (List.range (b - a + 1).toNat).map (fun i : Nat => a + i)
theorem ir_get {a b : Int} {k : Nat} (h : (k : Int) < b - a + 1) : (ir a b)[k]? = some (a + k) := by
  unfold ir
  rw [List.getElem?_map, List.getElem?_range (by omega)]; rfl
theorem ir_len (a b : Int) : (ir a b).length = (b - a + 1).toNat := by unfold ir; simp
def may (T : Tm) (c : Cl) : Bool := decide (c.g ≤ T.worst ∧ T.short ≤ c.s)
def rowC (T : Tm) (g : Int) (l : List Int) : List Cl := (l.map (fun s => (⟨g, s⟩ : Cl))).filter (may T)
def clsI (T : Tm) (l : Lo) (gs : List Int) : List Cl := gs.flatMap (fun g => rowC T g (ir l.s1 l.s2))
/-- the classes of a lot that may be delivered -/
def cls (T : Tm) (l : Lo) : List Cl := clsI T l (ir l.g1 l.g2)
theorem cls_split (T : Tm) (l : Lo) {k : Nat} (h : (k : Int) < l.g2 - l.g1 + 1) : cls T l = clsI T l ((ir l.g1 l.g2).take k) ++ (rowC T (l.g1 + k) (ir l.s1 l.s2) ++ clsI T l ((ir l.g1 l.g2).drop (k + 1))) := by
  unfold cls
  conv => lhs; rw [← List.take_append_drop k (ir l.g1 l.g2), drop_cons (ir_get h)]
  unfold clsI
  rw [List.flatMap_append, List.flatMap_cons]
theorem rowC_split (T : Tm) (g : Int) (l : Lo) {j : Nat} (h : (j : Int) < l.s2 - l.s1 + 1) : rowC T g (ir l.s1 l.s2) = rowC T g ((ir l.s1 l.s2).take j) ++ ((if may T ⟨g, l.s1 + j⟩ then [⟨g, l.s1 + j⟩] else []) ++ rowC T g ((ir l.s1 l.s2).drop (j + 1))) := by
  conv => lhs; rw [← List.take_append_drop j (ir l.s1 l.s2), drop_cons (ir_get h)]
  unfold rowC
  rw [List.map_append, List.filter_append, List.map_cons, List.filter_cons]
  split <;> simp
theorem rowC_snoc (T : Tm) (g : Int) (l : Lo) {j : Nat} (h : (j : Int) < l.s2 - l.s1 + 1) : rowC T g ((ir l.s1 l.s2).take (j + 1)) = rowC T g ((ir l.s1 l.s2).take j) ++ (if may T ⟨g, l.s1 + j⟩ then [⟨g, l.s1 + j⟩] else []) := by
  rw [take_snoc (ir_get h)]
  unfold rowC
  rw [List.map_append, List.filter_append]
  congr 1
  simp only [List.map_cons, List.map_nil, List.filter_cons, List.filter_nil]
theorem clsI_snoc (T : Tm) (l : Lo) {k : Nat} (h : (k : Int) < l.g2 - l.g1 + 1) : clsI T l ((ir l.g1 l.g2).take (k + 1)) = clsI T l ((ir l.g1 l.g2).take k) ++ rowC T (l.g1 + k) (ir l.s1 l.s2) := by
  rw [take_snoc (ir_get h)]
  unfold clsI
  rw [List.flatMap_append]; simp
theorem classes_spec (T : Tm) (p : Pt) (l : Lo) (H : List Row) :
    Fc Tryz.prog 71 [.agg (cTm T p).toArray, .agg (cLo l).toArray] H (fun v H' => ∃ bl bo, v = .func (.func 106) #[] #[.pointer (some ⟨bl, 0, none⟩), .pointer (some ⟨bo, 0, none⟩)] ∧ H' = ⟨bl, 0, cLo l, some 92, 4⟩ :: ⟨bo, 0, cTm T p, some 99, 11⟩ :: H) := by
  refine Fc.mk (callable Tryz.call71) Tryz.func71 rfl Tryz.ntmps71 rfl ?_; dsimp only [fr]
  repeat' (first | (refine XO.op rfl ?_; (first | ((first | refine Xo.ng rfl ?_); (first | (refine Xg.ev (EvF.makeFunc rfl Args.nil (Args.cons rfl (Args.cons rfl Args.nil))) rfl rfl ?_) | (refine Xg.ev (EvF.assign rfl rfl) rfl rfl ?_) | (refine Xg.st (StF.boxAgg rfl rfl) rfl rfl ?_; rintro _ _ ⟨bx, rfl, rfl⟩))))) | (refine XO.done rfl ?_; refine hK _ _ ?_; clear hK K) | refine X.seq rfl ?_ | refine X.region rfl (fun K hK => ?_) | refine X.ret rfl ?_)
  exact ret_one (by first | exact .inr rfl | exact .inl rfl) Tryz.results71 rfl (H' := _) (List.Sublist.refl _) ⟨_, _, rfl, rfl⟩
end Go.Proofs.YtcjlegjchllgjaaGreat
end
section
set_option linter.unusedVariables false
set_option linter.unusedSimpArgs false
namespace Go.Proofs.YtcjlegjchllgjaaGreat
open Go Go.Fw
set_option maxRecDepth 10000
theorem classes1_it (T : Tm) (p : Pt) (l : Lo) (bl bo capl capo : Nat) (owl owo : Option Kd) (E : List Row) (hl : ⟨bl, 0, cLo l, owl, capl⟩ ∈ E) (ho : ⟨bo, 0, cTm T p, owo, capo⟩ ∈ E)
    (h : (-1000 ≤ l.g1 ∧ l.g1 ≤ 1000) ∧ (-1000 ≤ l.g2 ∧ l.g2 ≤ 1000) ∧ (-1000 ≤ l.s1 ∧ l.s1 ≤ 1000) ∧ (-1000 ≤ l.s2 ∧ l.s2 ≤ 1000)) :
    Itf Tryz.prog 106 [.pointer (some ⟨bl, 0, none⟩), .pointer (some ⟨bo, 0, none⟩)] E (cls T l) (fun c => [.agg (cCl c).toArray]) := by
  refine ⟨callable Tryz.call106, fun y J Jx Hc h0 hY => ?_⟩
  have hl0 : ∀ Z : List Row, (⟨bl, 0, cLo l, owl, capl⟩ : Row) ∈ Z ++ E := fun Z => List.mem_append_right _ hl
  have ho0 : ∀ Z : List Row, (⟨bo, 0, cTm T p, owo, capo⟩ : Row) ∈ Z ++ E := fun Z => List.mem_append_right _ ho
  refine Fc.mk (callable Tryz.call106) Tryz.func106 rfl Tryz.ntmps106 rfl ?_; dsimp only [fr]
  repeat' (first | (refine XO.op rfl ?_; (first | ((first | refine Xo.ng rfl ?_); (first | (refine Xg.ev (EvF.loadV rfl rfl (LoadV.own (te rfl) rfl (hl0 _) rfl)) rfl rfl ?_) | (refine Xg.ev (EvF.assign rfl rfl) rfl rfl ?_) | (refine Xg.ev (EvF.fieldAddr rfl rfl (te rfl) rfl (te rfl) (by decide)) rfl rfl ?_))))) | (refine XO.done rfl ?_; refine hK _ _ ?_; clear hK K) | refine X.seq rfl ?_ | refine X.region rfl (fun K hK => ?_) | refine X.block rfl ?_)
  refine X.lp rfl (fun m F' H' => ∃ (k : Nat) (Hc : List Row), m = (l.g2 - l.g1 + 1).toNat - k ∧ k ≤ (l.g2 - l.g1 + 1).toNat ∧ J (clsI T l ((ir l.g1 l.g2).take k)) Hc ∧ H' = Hc ++ E ∧
      F' = [(0, .func (.yield y) #[] #[]), (1, .pointer (some ⟨bl, 0, none⟩)), (2, .pointer (some ⟨bo, 0, none⟩)), (4, .int .i64 (l.g1 + k))])
    _ [(0, .func (.yield y) #[] #[]), (1, .pointer (some ⟨bl, 0, none⟩)), (2, .pointer (some ⟨bo, 0, none⟩)), (4, .int .i64 (l.g1 + (0 : Nat)))] _ (by rw [show l.g1 + ((0 : Nat) : Int) = l.g1 by omega]; exact (by (repeat (first | exact Sub.nil _ | refine Sub.cons rfl ?_)); done)) (List.Sublist.refl _) ⟨0, Hc, rfl, by omega, h0, rfl, rfl⟩ ?_
  rintro _ _ _ ⟨k, Hc, rfl, hk, hJ, rfl, rfl⟩
  repeat' (first | (refine XO.op rfl ?_; (first | ((first | refine Xo.ng rfl ?_); (first | (refine Xg.ev (EvF.loadV rfl rfl (LoadV.own (te rfl) rfl (hl0 _) rfl)) rfl rfl ?_) | (refine Xg.ev (EvF.move rfl rfl) rfl rfl ?_) | (refine Xg.ev (EvF.assign rfl rfl) rfl rfl ?_) | (refine Xg.ev (EvF.cmp rfl rfl rfl rfl) rfl rfl ?_) | (refine Xg.ev (EvF.fieldAddr rfl rfl (te rfl) rfl (te rfl) (by decide)) rfl rfl ?_))))) | (refine XO.done rfl ?_; refine hK _ _ ?_; clear hK K) | refine X.seq rfl ?_ | refine X.region rfl (fun K hK => ?_) | refine X.block rfl ?_ | (refine X.brk rfl ?_; repeat (first | refine blockX_hit rfl ?_ | refine blockX_miss (by decide) ?_)) | refine X.skip rfl ?_ | (refine X.ite rfl rfl (fun hc => ?_); (first | (with_reducible refine Xb.case hc (fun h => ?_) (fun h => ?_))) <;> clear hc))
  · rename_i hle
    have hk1 : (k : Int) < l.g2 - l.g1 + 1 := by omega
    refine X.lp rfl (fun m F' H' => ∃ (j : Nat) (Hc : List Row), m = (l.s2 - l.s1 + 1).toNat - j ∧ j ≤ (l.s2 - l.s1 + 1).toNat ∧ J (clsI T l ((ir l.g1 l.g2).take k) ++ rowC T (l.g1 + k) ((ir l.s1 l.s2).take j)) Hc ∧ H' = Hc ++ E ∧
        F' = [(0, .func (.yield y) #[] #[]), (1, .pointer (some ⟨bl, 0, none⟩)), (2, .pointer (some ⟨bo, 0, none⟩)), (4, .int .i64 (l.g1 + k)), (5, .int .i64 (l.s1 + j))])
      _ [(0, .func (.yield y) #[] #[]), (1, .pointer (some ⟨bl, 0, none⟩)), (2, .pointer (some ⟨bo, 0, none⟩)), (4, .int .i64 (l.g1 + k)), (5, .int .i64 (l.s1 + (0 : Nat)))] _ (by rw [show l.s1 + ((0 : Nat) : Int) = l.s1 by omega]; exact (by (repeat (first | exact Sub.nil _ | refine Sub.cons rfl ?_)); done)) (List.Sublist.refl _) ⟨0, Hc, rfl, by omega, by simpa [rowC] using hJ, rfl, rfl⟩ ?_
    rintro _ _ _ ⟨j, Hc, rfl, hj, hJ, rfl, rfl⟩
    repeat' (first | (refine XO.op rfl ?_; (first | ((first | refine Xo.ng rfl ?_); (first | (refine Xg.ev (EvF.loadV rfl rfl (LoadV.own (te rfl) rfl (hl0 _) rfl)) rfl rfl ?_) | (refine Xg.ev (EvF.move rfl rfl) rfl rfl ?_) | (refine Xg.ev (EvF.assign rfl rfl) rfl rfl ?_) | (refine Xg.ev (EvF.cmp rfl rfl rfl rfl) rfl rfl ?_) | (refine Xg.ev (EvF.add64 rfl rfl rfl (by omega) (by omega)) rfl rfl ?_) | (refine Xg.ev (EvF.fieldAddr rfl rfl (te rfl) rfl (te rfl) (by decide)) rfl rfl ?_))))) | (refine XO.done rfl ?_; refine hK _ _ ?_; clear hK K) | refine X.seq rfl ?_ | refine X.region rfl (fun K hK => ?_) | refine X.block rfl ?_ | (refine X.brk rfl ?_; repeat (first | refine blockX_hit rfl ?_ | refine blockX_miss (by decide) ?_)) | refine X.skip rfl ?_ | (refine X.ite rfl rfl (fun hc => ?_); (first | (with_reducible refine Xb.case hc (fun h => ?_) (fun h => ?_))) <;> clear hc))
    · have hj1 : (j : Int) < l.s2 - l.s1 + 1 := by omega
      have hpre : may T ⟨l.g1 + k, l.s1 + j⟩ = true → (clsI T l ((ir l.g1 l.g2).take k) ++ rowC T (l.g1 + k) ((ir l.s1 l.s2).take j)) ++ [⟨l.g1 + k, l.s1 + j⟩] <+: cls T l := by
        intro hm
        rw [cls_split T l hk1, rowC_split T (l.g1 + k) l hj1, if_pos hm]
        simp only [List.append_assoc]
        exact (List.prefix_append_right_inj _).2 ((List.prefix_append_right_inj _).2 (List.prefix_append _ _))
      have hsn := rowC_snoc T (l.g1 + k) l hj1
      repeat' (first | (refine XO.op rfl ?_; (first | ((first | refine Xo.ng rfl ?_ | (refine Xo.g rfl rfl ?_; with_reducible refine Xw.tt ?_)); (first | (refine Xg.call (EnF.st rfl (Args.cons rfl (Args.cons rfl Args.nil))) rfl rfl (class_spec _ _ _) ?_; rintro _ H9 ⟨rfl, hH9⟩; subst H9) | (refine Xg.ev (EvF.loadV rfl rfl (LoadV.whole (te rfl) rfl (List.Mem.tail _ (ho0 _)) rfl)) rfl rfl ?_) | (refine Xg.call (EnF.st rfl (Args.cons rfl (Args.cons rfl Args.nil))) rfl rfl (allows_spec T p ⟨l.g1 + k, l.s1 + j⟩ _) ?_; rintro _ H9 ⟨rfl, hH9⟩; subst H9) | (refine Xg.yield rfl rfl (Args.cons rfl Args.nil) rfl rfl ((hY _ ⟨l.g1 + k, l.s1 + j⟩ Hc (hpre (decide_eq_true (by assumption))) hJ _).permR List.perm_middle.symm) ?_; rintro _ _ ⟨Hc', rfl, ⟨rfl, hJ'⟩ | ⟨rfl, hJ'⟩⟩) | (refine Xg.ev (EvF.move rfl rfl) rfl rfl ?_) | (refine Xg.ev (EvF.assign rfl rfl) rfl rfl ?_) | (refine Xg.ev (EvF.pickT rfl rfl rfl) rfl rfl ?_) | (refine Xg.ev (EvF.pickF rfl rfl rfl) rfl rfl ?_) | (refine Xg.ev (EvF.add64 rfl rfl rfl (by omega) (by omega)) rfl rfl ?_) | (refine Xg.ev (EvF.not rfl rfl) rfl rfl ?_) | (refine Xg.ev (EvF.loadV rfl rfl (LoadV.whole (te rfl) rfl (List.Mem.head _) rfl)) rfl rfl ?_) | (refine Xg.st (StF.alloc rfl Tryz.zeroValue30 rfl) rfl rfl ?_; rintro _ _ ⟨bx, rfl, rfl⟩) | (refine Xg.st0 (StF.storeAll (i := 0) rfl rfl rfl (te rfl) rfl rfl rfl rfl) rfl ?_; rintro _ _ ⟨rfl, rfl⟩; dsimp only [List.set]))) | (refine Xo.g rfl rfl ?_; (first | (with_reducible refine Xw.ft rfl rfl ?_) | (with_reducible refine Xw.case (fun h => ?_) (fun h => ?_) <;> simp only [h, decide_true, decide_false, Bool.not_true, Bool.not_false, and_self, and_true, true_and, and_false, false_and]))))) | (refine XO.done rfl ?_; refine hK _ _ ?_; clear hK K) | refine X.seq rfl ?_ | refine X.region rfl (fun K hK => ?_) | refine X.skip rfl ?_ | refine X.ret rfl ?_ | (refine X.ite rfl rfl (fun hc => ?_); (first | (with_reducible refine Xb.f hc ?_) | (with_reducible refine Xb.caseB hc (fun h => ?_) (fun h => ?_))) <;> clear hc))
      all_goals try (exfalso; contradiction)
      · -- the round goes on
        refine ⟨_, [(0, .func (.yield y) #[] #[]), (1, .pointer (some ⟨bl, 0, none⟩)), (2, .pointer (some ⟨bo, 0, none⟩)), (4, .int .i64 (l.g1 + k)), (5, .int .i64 (l.s1 + (j + 1 : Nat)))], Hc' ++ E, (by rw [show l.s1 + ((j + 1 : Nat) : Int) = l.s1 + j + 1 by omega]; exact (by (repeat (first | exact Sub.nil _ | refine Sub.cons rfl ?_)); done)), List.Sublist.append (List.Sublist.refl _) (List.sublist_cons_self _ _), ⟨j + 1, Hc', rfl, by omega, ?_, rfl, rfl⟩, by omega⟩
        rw [hsn, if_pos (show may T ⟨l.g1 + k, l.s1 + j⟩ = true from decide_eq_true (by assumption)), ← List.append_assoc]; exact hJ'
      · -- no more
        refine ret_none (by first | exact .inr rfl | exact .inl rfl) Tryz.results106 (H' := Hc' ++ E) (List.Sublist.append (List.Sublist.refl _) (List.sublist_cons_self _ _)) ⟨Hc', rfl, .inr ⟨_, hpre (decide_eq_true (by assumption)), hJ'⟩⟩
      · -- it may not be delivered
        refine ⟨_, [(0, .func (.yield y) #[] #[]), (1, .pointer (some ⟨bl, 0, none⟩)), (2, .pointer (some ⟨bo, 0, none⟩)), (4, .int .i64 (l.g1 + k)), (5, .int .i64 (l.s1 + (j + 1 : Nat)))], Hc ++ E, (by rw [show l.s1 + ((j + 1 : Nat) : Int) = l.s1 + j + 1 by omega]; exact (by (repeat (first | exact Sub.nil _ | refine Sub.cons rfl ?_)); done)), (by (repeat (first | exact List.Sublist.refl _ | apply List.Sublist.cons_cons | apply List.Sublist.cons)); done), ⟨j + 1, Hc, rfl, by omega, ?_, rfl, rfl⟩, by omega⟩
        rw [hsn, if_neg (by unfold may; rw [decide_eq_false (by assumption)]; decide), List.append_nil]; exact hJ
    · -- the row is over
      refine ⟨_, [(0, .func (.yield y) #[] #[]), (1, .pointer (some ⟨bl, 0, none⟩)), (2, .pointer (some ⟨bo, 0, none⟩)), (4, .int .i64 (l.g1 + (k + 1 : Nat)))], Hc ++ E, (by rw [show l.g1 + ((k + 1 : Nat) : Int) = l.g1 + k + 1 by omega]; exact (by (repeat (first | exact Sub.nil _ | refine Sub.cons rfl ?_)); done)), (by (repeat (first | exact List.Sublist.refl _ | apply List.Sublist.cons_cons | apply List.Sublist.cons)); done), ⟨k + 1, Hc, rfl, by omega, ?_, rfl, rfl⟩, by omega⟩
      rw [clsI_snoc T l hk1]
      rw [List.take_of_length_le (i := j) (by rw [ir_len]; omega)] at hJ
      exact hJ
  · refine ret_none (by first | exact .inr rfl | exact .inl rfl) Tryz.results106 (H' := Hc ++ E) (by (repeat (first | exact List.Sublist.refl _ | apply List.Sublist.cons_cons | apply List.Sublist.cons)); done) ⟨Hc, rfl, .inl ?_⟩
    rw [List.take_of_length_le (by rw [ir_len]; omega)] at hJ
    exact hJ
theorem count_spec (T : Tm) (p : Pt) (l : Lo) (H : List Row) (h : (1 ≤ l.g1 ∧ l.g1 ≤ 9) ∧ (1 ≤ l.g2 ∧ l.g2 ≤ 9) ∧ (1 ≤ l.s1 ∧ l.s1 ≤ 9) ∧ (1 ≤ l.s2 ∧ l.s2 ≤ 9)) (hn : (cls T l).length ≤ 1000) :
    Fc Tryz.prog 55 [.agg (cTm T p).toArray, .agg (cLo l).toArray] H (fun v H' => v = .int .i64 (cls T l).length ∧ H' = H) := by
  refine Fc.mkT (callable Tryz.call55) Tryz.func55 rfl Tryz.ntmps55 rfl ?_
  dsimp only [fr]
  refine XT.seq rfl (XT.of0 ?_)
  repeat' (first | (refine XO.op rfl ?_; (first | ((first | refine Xo.ng rfl ?_); (first | (refine Xg.ev (EvF.assign rfl rfl) rfl rfl ?_) | (refine Xg.ev (EvF.add64 rfl rfl rfl (by omega) (by omega)) rfl rfl ?_) | (refine Xg.ev (EvF.loadV rfl rfl (LoadV.own (te rfl) rfl (List.Mem.head _) rfl)) rfl rfl ?_) | (refine Xg.st (StF.boxAgg rfl rfl) rfl rfl ?_; rintro _ _ ⟨bx, rfl, rfl⟩) | (refine Xg.st (StF.alloc rfl Tryz.zeroValue3 rfl) rfl rfl ?_; rintro _ _ ⟨bx, rfl, rfl⟩) | (refine Xg.st0 (StF.storeOne (i := 0) rfl rfl rfl rfl (te rfl) rfl rfl (Nat.le_of_ble_eq_true rfl)) rfl ?_; rintro _ _ ⟨rfl, rfl⟩; dsimp only [List.set]))))) | (refine XO.done rfl ?_; refine hK _ _ ?_; clear hK K) | refine X.region rfl (fun K hK => ?_) | refine X.block rfl ?_ | refine X.skip rfl ?_ | refine X.ret rfl ?_)
  refine XT.seq rfl (XT.of0 ?_)
  repeat' (first | (refine XO.op rfl ?_; (first | ((first | refine Xo.ng rfl ?_); (first | (refine Xg.ev (EvF.assign rfl rfl) rfl rfl ?_) | (refine Xg.ev (EvF.add64 rfl rfl rfl (by omega) (by omega)) rfl rfl ?_) | (refine Xg.ev (EvF.loadV rfl rfl (LoadV.own (te rfl) rfl (List.Mem.head _) rfl)) rfl rfl ?_) | (refine Xg.st (StF.boxAgg rfl rfl) rfl rfl ?_; rintro _ _ ⟨bx, rfl, rfl⟩) | (refine Xg.st (StF.alloc rfl Tryz.zeroValue3 rfl) rfl rfl ?_; rintro _ _ ⟨bx, rfl, rfl⟩) | (refine Xg.st0 (StF.storeOne (i := 0) rfl rfl rfl rfl (te rfl) rfl rfl (Nat.le_of_ble_eq_true rfl)) rfl ?_; rintro _ _ ⟨rfl, rfl⟩; dsimp only [List.set]))))) | (refine XO.done rfl ?_; refine hK _ _ ?_; clear hK K) | refine X.region rfl (fun K hK => ?_) | refine X.block rfl ?_ | refine X.skip rfl ?_ | refine X.ret rfl ?_)
  refine XT.seq rfl (XT.seq rfl (XT.of0 ?_))
  repeat' (first | (refine XO.op rfl ?_; (first | ((first | refine Xo.ng rfl ?_); (first | (refine Xg.call (EnF.st rfl (by (repeat (first | exact Args.nil | refine Args.cons rfl ?_)); done)) rfl rfl (classes_spec T p l _) ?_; rintro _ _ ⟨bl, bo, rfl, rfl⟩) | (refine Xg.ev (EvF.loadV rfl rfl (LoadV.whole (te rfl) rfl (List.Mem.tail _ (List.Mem.head _)) rfl)) rfl rfl ?_) | (refine Xg.ev (EvF.loadV rfl rfl (LoadV.whole (te rfl) rfl (List.Mem.tail _ (List.Mem.tail _ (List.Mem.head _))) rfl)) rfl rfl ?_))))) | (refine XO.done rfl ?_; refine hK _ _ ?_; clear hK K) | refine X.region rfl (fun K hK => ?_))
  refine XT.block rfl ?_
  refine XT.weak (F' := [(5, .pointer (some ⟨bx, 0, none⟩)), (8, .func (.func 106) #[] #[.pointer (some ⟨bl, 0, none⟩), .pointer (some ⟨bo, 0, none⟩)])]) (H' := ⟨bl, 0, cLo l, some 92, 4⟩ :: ⟨bo, 0, cTm T p, some 99, 11⟩ :: ⟨bx, 0, [.int .i64 (0 : Nat)], some 3, 1⟩ :: H) (by (repeat (first | exact Sub.nil _ | refine Sub.cons rfl ?_)); done) (by (repeat (first | exact List.Sublist.refl _ | apply List.Sublist.cons_cons | apply List.Sublist.cons)); done) ?_
  refine XT.perm (H' := [⟨bx, 0, [.int .i64 (0 : Nat)], some 3, 1⟩] ++ (⟨bl, 0, cLo l, some 92, 4⟩ :: ⟨bo, 0, cTm T p, some 99, 11⟩ :: H)) (List.perm_middle (l₁ := [_, _])).symm ?_
  refine XT.range (ps := [9]) rfl rfl (classes1_it T p l bl bo _ _ _ _ _ (List.Mem.head _) (List.Mem.tail _ (List.Mem.head _)) (by omega)) rfl (fun _ => rfl) (fun pre Hb => Hb = [⟨bx, 0, [.int .i64 pre.length], some 3, 1⟩]) (fun _ _ => False) _ rfl rfl ?_ ?_ (fun _ _ h => h.elim) (fun _ _ _ h => h.elim) (fun _ _ h => h.elim)
  · rintro pre x _ hpre rfl Z
    have hlen := pre_len hpre
    repeat' (first | (refine XO.op rfl ?_; (first | ((first | refine Xo.ng rfl ?_); (first | (refine Xg.ev (EvF.assign rfl rfl) rfl rfl ?_) | (refine Xg.ev (EvF.add64 rfl rfl rfl (by omega) (by omega)) rfl rfl ?_) | (refine Xg.ev (EvF.loadV rfl rfl (LoadV.own (te rfl) rfl (List.Mem.head _) rfl)) rfl rfl ?_) | (refine Xg.st (StF.boxAgg rfl rfl) rfl rfl ?_; rintro _ _ ⟨bx, rfl, rfl⟩) | (refine Xg.st (StF.alloc rfl Tryz.zeroValue3 rfl) rfl rfl ?_; rintro _ _ ⟨bx, rfl, rfl⟩) | (refine Xg.st0 (StF.storeOne (i := 0) rfl rfl rfl rfl (te rfl) rfl rfl (Nat.le_of_ble_eq_true rfl)) rfl ?_; rintro _ _ ⟨rfl, rfl⟩; dsimp only [List.set]))))) | (refine XO.done rfl ?_; refine hK _ _ ?_; clear hK K) | refine X.region rfl (fun K hK => ?_) | refine X.block rfl ?_ | refine X.skip rfl ?_ | refine X.ret rfl ?_)
    refine ⟨rfl, _, List.Sublist.refl _, fun Z' => ?_⟩
    simp only [List.cons_append, List.nil_append]
    repeat' (first | (refine XO.op rfl ?_; (first | ((first | refine Xo.ng rfl ?_); (first | (refine Xg.ev (EvF.assign rfl rfl) rfl rfl ?_) | (refine Xg.ev (EvF.add64 rfl rfl rfl (by omega) (by omega)) rfl rfl ?_) | (refine Xg.ev (EvF.loadV rfl rfl (LoadV.own (te rfl) rfl (List.Mem.head _) rfl)) rfl rfl ?_) | (refine Xg.st (StF.boxAgg rfl rfl) rfl rfl ?_; rintro _ _ ⟨bx, rfl, rfl⟩) | (refine Xg.st (StF.alloc rfl Tryz.zeroValue3 rfl) rfl rfl ?_; rintro _ _ ⟨bx, rfl, rfl⟩) | (refine Xg.st0 (StF.storeOne (i := 0) rfl rfl rfl rfl (te rfl) rfl rfl (Nat.le_of_ble_eq_true rfl)) rfl ?_; rintro _ _ ⟨rfl, rfl⟩; dsimp only [List.set]))))) | (refine XO.done rfl ?_; refine hK _ _ ?_; clear hK K) | refine X.region rfl (fun K hK => ?_) | refine X.block rfl ?_ | refine X.skip rfl ?_ | refine X.ret rfl ?_)
    exact ⟨[⟨bx, 0, [.int .i64 (pre.length + 1)], some 3, 1⟩], List.Sublist.refl _, by simp⟩
  · rintro D _ rfl
    refine XT.seq rfl (XT.of1 ?_)
    repeat' (first | (refine XO.op rfl ?_; (first | ((first | refine Xo.ng rfl ?_); (first | (refine Xg.ev (EvF.assign rfl rfl) rfl rfl ?_) | (refine Xg.ev (EvF.add64 rfl rfl rfl (by omega) (by omega)) rfl rfl ?_) | (refine Xg.ev (EvF.loadV rfl rfl (LoadV.own (te rfl) rfl (List.Mem.head _) rfl)) rfl rfl ?_) | (refine Xg.st (StF.boxAgg rfl rfl) rfl rfl ?_; rintro _ _ ⟨bx, rfl, rfl⟩) | (refine Xg.st (StF.alloc rfl Tryz.zeroValue3 rfl) rfl rfl ?_; rintro _ _ ⟨bx, rfl, rfl⟩) | (refine Xg.st0 (StF.storeOne (i := 0) rfl rfl rfl rfl (te rfl) rfl rfl (Nat.le_of_ble_eq_true rfl)) rfl ?_; rintro _ _ ⟨rfl, rfl⟩; dsimp only [List.set]))))) | (refine XO.done rfl ?_; refine hK _ _ ?_; clear hK K) | refine X.region rfl (fun K hK => ?_) | refine X.block rfl ?_ | refine X.skip rfl ?_ | refine X.ret rfl ?_)
    refine ⟨_, List.Sublist.refl _, XT.of1 ?_⟩
    repeat' (first | (refine XO.op rfl ?_; (first | ((first | refine Xo.ng rfl ?_); (first | (refine Xg.ev (EvF.assign rfl rfl) rfl rfl ?_) | (refine Xg.ev (EvF.add64 rfl rfl rfl (by omega) (by omega)) rfl rfl ?_) | (refine Xg.ev (EvF.loadV rfl rfl (LoadV.own (te rfl) rfl (List.Mem.head _) rfl)) rfl rfl ?_) | (refine Xg.st (StF.boxAgg rfl rfl) rfl rfl ?_; rintro _ _ ⟨bx, rfl, rfl⟩) | (refine Xg.st (StF.alloc rfl Tryz.zeroValue3 rfl) rfl rfl ?_; rintro _ _ ⟨bx, rfl, rfl⟩) | (refine Xg.st0 (StF.storeOne (i := 0) rfl rfl rfl rfl (te rfl) rfl rfl (Nat.le_of_ble_eq_true rfl)) rfl ?_; rintro _ _ ⟨rfl, rfl⟩; dsimp only [List.set]))))) | (refine XO.done rfl ?_; refine hK _ _ ?_; clear hK K) | refine X.region rfl (fun K hK => ?_) | refine X.block rfl ?_ | refine X.skip rfl ?_ | refine X.ret rfl ?_)
    exact ⟨H, (by (repeat (first | exact List.Sublist.refl _ | apply List.Sublist.cons_cons | apply List.Sublist.cons)); done), retT_one (by first | exact .inr rfl | exact .inl rfl) Tryz.results55 rfl (List.Sublist.refl _) ⟨rfl, rfl⟩⟩
end Go.Proofs.YtcjlegjchllgjaaGreat
end
section
set_option linter.unusedVariables false
set_option linter.unusedSimpArgs false
namespace Go.Proofs.YtcjlegjchllgjaaGreat
open Go Go.Fw
set_option maxRecDepth 10000
def tsHc : List TOp := [⟨some 3, [], [], []⟩, ⟨some 4, [], [], []⟩, ⟨some 5, [1], [1], []⟩, ⟨some 6, [1, 2], [2], []⟩, ⟨some 7, [1, 2, 3], [3], []⟩, ⟨some 8, [0, 1, 2, 3, 4], [0, 4], [4]⟩, ⟨some 9, [0, 1, 2, 3, 4, 5], [5], []⟩, ⟨some 10, [0, 1, 2, 3, 4, 5, 6], [], []⟩, ⟨some 11, [0, 1, 2, 3, 4, 5, 6], [], []⟩, ⟨some 12, [0, 1, 2, 3, 4, 5, 6, 8], [8], []⟩, ⟨some 13, [0, 1, 2, 3, 4, 5, 6, 8, 9], [9], []⟩, ⟨some 14, [0, 1, 2, 3, 4, 5, 6, 8, 9, 10], [10], []⟩, ⟨some 15, [0, 1, 2, 3, 4, 5, 6, 7, 8, 9, 10, 11], [7, 11], [11]⟩, ⟨some 16, [0, 1, 2, 3, 4, 5, 6, 7, 8, 9, 10, 11, 12], [6, 12], []⟩, ⟨some 17, [0, 1, 2, 3, 4, 5, 6, 7, 8, 9, 10, 11, 12, 13], [13], []⟩, ⟨some 18, [0, 1, 2, 3, 4, 5, 6, 7, 8, 9, 10, 11, 12, 13, 14], [], []⟩, ⟨some 19, [0, 1, 2, 3, 4, 5, 6, 7, 8, 9, 10, 11, 12, 13, 14, 15], [15], []⟩, ⟨some 20, [0, 1, 2, 3, 4, 5, 6, 7, 8, 9, 10, 11, 12, 13, 14, 15, 16], [16], []⟩, ⟨some 21, [0, 1, 2, 3, 4, 5, 6, 7, 8, 9, 10, 11, 12, 13, 14, 15, 16, 17], [17], []⟩, ⟨some 22, [0, 1, 2, 3, 4, 5, 6, 7, 8, 9, 10, 11, 12, 13, 14], [], []⟩, ⟨some 23, [0, 1, 2, 3, 4, 5, 6, 7, 8, 9, 10, 11, 12, 13, 14, 19], [19], []⟩, ⟨some 24, [0, 1, 2, 3, 4, 5, 6, 7, 8, 9, 10, 11, 12, 13, 14, 19, 20], [20], []⟩, ⟨some 25, [0, 1, 2, 3, 4, 5, 6, 7, 8, 9, 10, 11, 12, 13, 14, 15, 16, 17, 18, 19, 20, 21], [18, 21], [21]⟩, ⟨some 26, [0, 1, 2, 3, 4, 5, 6, 7, 8, 9, 10, 11, 12, 13, 14, 15, 16, 17, 18, 19, 20, 21, 22], [14, 22], []⟩, ⟨some 27, [0, 1, 2, 3, 4, 5, 6, 7, 8, 9, 10, 11, 12, 13, 14, 15, 16, 17, 18, 19, 20, 21, 22, 23], [23], []⟩, ⟨some 28, [0, 1, 2, 3, 4, 5, 6, 7, 8, 9, 10, 11, 12, 13, 14, 15, 16, 17, 18, 19, 20, 21, 22, 23, 24], [], []⟩, ⟨some 29, [0, 1, 2, 3, 4, 5, 6, 7, 8, 9, 10, 11, 12, 13, 14, 15, 16, 17, 18, 19, 20, 21, 22, 23, 24, 25], [25], []⟩, ⟨some 30, [0, 1, 2, 3, 4, 5, 6, 7, 8, 9, 10, 11, 12, 13, 14, 15, 16, 17, 18, 19, 20, 21, 22, 23, 24, 25, 26], [26], []⟩, ⟨some 31, [0, 1, 2, 3, 4, 5, 6, 7, 8, 9, 10, 11, 12, 13, 14, 15, 16, 17, 18, 19, 20, 21, 22, 23, 24, 25, 26, 27], [27], []⟩, ⟨some 32, [0, 1, 2, 3, 4, 5, 6, 7, 8, 9, 10, 11, 12, 13, 14, 15, 16, 17, 18, 19, 20, 21, 22, 23, 24], [], []⟩, ⟨some 33, [0, 1, 2, 3, 4, 5, 6, 7, 8, 9, 10, 11, 12, 13, 14, 15, 16, 17, 18, 19, 20, 21, 22, 23, 24, 29], [29], []⟩, ⟨some 34, [0, 1, 2, 3, 4, 5, 6, 7, 8, 9, 10, 11, 12, 13, 14, 15, 16, 17, 18, 19, 20, 21, 22, 23, 24, 29, 30], [30], []⟩, ⟨some 35, [0, 1, 2, 3, 4, 5, 6, 7, 8, 9, 10, 11, 12, 13, 14, 15, 16, 17, 18, 19, 20, 21, 22, 23, 24, 25, 26, 27, 28, 29, 30, 31], [28, 31], [31]⟩, ⟨some 36, [0, 1, 2, 3, 4, 5, 6, 7, 8, 9, 10, 11, 12, 13, 14, 15, 16, 17, 18, 19, 20, 21, 22, 23, 24, 25, 26, 27, 28, 29, 30, 31, 32], [24, 32], []⟩, ⟨some 2, [0, 1, 2, 3, 4, 5, 6, 7, 8, 9, 10, 11, 12, 13, 14, 15, 16, 17, 18, 19, 20, 21, 22, 23, 24, 25, 26, 27, 28, 29, 30, 31, 32, 33], [33], []⟩]
def valHc (b1 : Nat) (T : Tm) (p : Pt) (w0 w1 w2 w3 : Bool) (k : Nat) (env : Env) : Value :=
  match k with
  | 0 => .agg (cSp ⟨1, 9⟩).toArray
  | 1 => .pointer (some ⟨b1, 0, none⟩)
  | 2 => .pointer (some ⟨b1, 0, none⟩)
  | 3 => .int .i64 T.g
  | 4 => .slice (some ⟨(env 4).1, 0, none⟩) 1 1
  | 5 => .bool w0
  | 6 => .bool w0
  | 7 => gt (!w0) (.agg (cSp ⟨1, 9⟩).toArray)
  | 8 => gt (!w0) (.pointer (some ⟨b1, 0, none⟩))
  | 9 => gt (!w0) (.pointer (some ⟨b1, 1, none⟩))
  | 10 => gt (!w0) (.int .i64 T.s)
  | 11 => gt (!w0) (.slice (some ⟨(env 11).1, 0, none⟩) 1 1)
  | 12 => gt (!w0) (.bool w1)
  | 13 => .bool (w0 && w1)
  | 14 => .bool (w0 && w1)
  | 15 => gt (!(w0 && w1)) (.pointer (some ⟨b1, 0, none⟩))
  | 16 => gt (!(w0 && w1)) (.pointer (some ⟨b1, 0, none⟩))
  | 17 => gt (!(w0 && w1)) (.int .i64 T.g)
  | 18 => gt (!(w0 && w1)) (.agg (cSp ⟨T.g, 9⟩).toArray)
  | 19 => gt (!(w0 && w1)) (.pointer (some ⟨b1, 3, none⟩))
  | 20 => gt (!(w0 && w1)) (.int .i64 T.worst)
  | 21 => gt (!(w0 && w1)) (.slice (some ⟨(env 21).1, 0, none⟩) 1 1)
  | 22 => gt (!(w0 && w1)) (.bool w2)
  | 23 => .bool ((w0 && w1) && w2)
  | 24 => .bool ((w0 && w1) && w2)
  | 25 => gt (!((w0 && w1) && w2)) (.pointer (some ⟨b1, 0, none⟩))
  | 26 => gt (!((w0 && w1) && w2)) (.pointer (some ⟨b1, 1, none⟩))
  | 27 => gt (!((w0 && w1) && w2)) (.int .i64 T.s)
  | 28 => gt (!((w0 && w1) && w2)) (.agg (cSp ⟨1, T.s⟩).toArray)
  | 29 => gt (!((w0 && w1) && w2)) (.pointer (some ⟨b1, 4, none⟩))
  | 30 => gt (!((w0 && w1) && w2)) (.int .i64 T.short)
  | 31 => gt (!((w0 && w1) && w2)) (.slice (some ⟨(env 31).1, 0, none⟩) 1 1)
  | 32 => gt (!((w0 && w1) && w2)) (.bool w3)
  | 33 => .bool (((w0 && w1) && w2) && w3)
  | 34 => .bool (((w0 && w1) && w2) && w3)
  | _ => undef
def rowsHc (b1 : Nat) (T : Tm) (p : Pt) (w0 w1 w2 w3 : Bool) (k : Nat) (env : Env) : List Row :=
  match k with
  | 4 => [⟨(env 4).1, 0, [.int .i64 T.g], some 3, 1 * 1⟩]
  | 11 => gr (!w0) [⟨(env 11).1, 0, [.int .i64 T.s], some 3, 1 * 1⟩]
  | 21 => gr (!(w0 && w1)) [⟨(env 21).1, 0, [.int .i64 T.worst], some 3, 1 * 1⟩]
  | 31 => gr (!((w0 && w1) && w2)) [⟨(env 31).1, 0, [.int .i64 T.short], some 3, 1 * 1⟩]
  | _ => []
theorem locHc (b1 : Nat) (T : Tm) (p : Pt) (w0 w1 w2 w3 : Bool) : ∀ k env i q9, i ≠ k → (tAt tsHc k).sup.contains i = false → valHc b1 T p w0 w1 w2 w3 k (upd env i q9) = valHc b1 T p w0 w1 w2 w3 k env ∧ rowsHc b1 T p w0 w1 w2 w3 k (upd env i q9) = rowsHc b1 T p w0 w1 w2 w3 k env := by
  intro k env i q hk hs
  have hu : ∀ j, j ≠ i → upd env i q j = env j := fun j hj => by unfold upd; rw [if_neg hj]
  match k, hk, hs with
  | 0, _, _ => exact ⟨rfl, rfl⟩
  | 1, _, _ => exact ⟨rfl, rfl⟩
  | 2, _, _ => exact ⟨rfl, rfl⟩
  | 3, _, _ => exact ⟨rfl, rfl⟩
  | 4, hk, hs => exact ⟨by simp only [valHc, hu 4 (fun e => hk e.symm)], by simp only [rowsHc, hu 4 (fun e => hk e.symm)]⟩
  | 5, _, _ => exact ⟨rfl, rfl⟩
  | 6, _, _ => exact ⟨rfl, rfl⟩
  | 7, _, _ => exact ⟨rfl, rfl⟩
  | 8, _, _ => exact ⟨rfl, rfl⟩
  | 9, _, _ => exact ⟨rfl, rfl⟩
  | 10, _, _ => exact ⟨rfl, rfl⟩
  | 11, hk, hs => exact ⟨by simp only [valHc, hu 11 (fun e => hk e.symm)], by simp only [rowsHc, hu 11 (fun e => hk e.symm)]⟩
  | 12, _, _ => exact ⟨rfl, rfl⟩
  | 13, _, _ => exact ⟨rfl, rfl⟩
  | 14, _, _ => exact ⟨rfl, rfl⟩
  | 15, _, _ => exact ⟨rfl, rfl⟩
  | 16, _, _ => exact ⟨rfl, rfl⟩
  | 17, _, _ => exact ⟨rfl, rfl⟩
  | 18, _, _ => exact ⟨rfl, rfl⟩
  | 19, _, _ => exact ⟨rfl, rfl⟩
  | 20, _, _ => exact ⟨rfl, rfl⟩
  | 21, hk, hs => exact ⟨by simp only [valHc, hu 21 (fun e => hk e.symm)], by simp only [rowsHc, hu 21 (fun e => hk e.symm)]⟩
  | 22, _, _ => exact ⟨rfl, rfl⟩
  | 23, _, _ => exact ⟨rfl, rfl⟩
  | 24, _, _ => exact ⟨rfl, rfl⟩
  | 25, _, _ => exact ⟨rfl, rfl⟩
  | 26, _, _ => exact ⟨rfl, rfl⟩
  | 27, _, _ => exact ⟨rfl, rfl⟩
  | 28, _, _ => exact ⟨rfl, rfl⟩
  | 29, _, _ => exact ⟨rfl, rfl⟩
  | 30, _, _ => exact ⟨rfl, rfl⟩
  | 31, hk, hs => exact ⟨by simp only [valHc, hu 31 (fun e => hk e.symm)], by simp only [rowsHc, hu 31 (fun e => hk e.symm)]⟩
  | 32, _, _ => exact ⟨rfl, rfl⟩
  | 33, _, _ => exact ⟨rfl, rfl⟩
  | 34, _, _ => exact ⟨rfl, rfl⟩
  | _ + 35, _, _ => exact ⟨rfl, rfl⟩
set_option maxHeartbeats 8000000 in
theorem hasClasses_spec (T : Tm) (p : Pt) (H : List Row) : Fc Tryz.prog 82 [.agg (cTm T p).toArray] H (fun v H' => v = .bool (decide ((1 ≤ T.g ∧ T.g ≤ 9) ∧ (1 ≤ T.s ∧ T.s ≤ 9) ∧ (T.g ≤ T.worst ∧ T.worst ≤ 9) ∧ (1 ≤ T.short ∧ T.short ≤ T.s))) ∧ H' = H) := by
  obtain ⟨w0, e0⟩ : ∃ b, decide (1 ≤ T.g ∧ T.g ≤ 9) = b := ⟨_, rfl⟩
  obtain ⟨w1, e1⟩ : ∃ b, decide (1 ≤ T.s ∧ T.s ≤ 9) = b := ⟨_, rfl⟩
  obtain ⟨w2, e2⟩ : ∃ b, decide (T.g ≤ T.worst ∧ T.worst ≤ 9) = b := ⟨_, rfl⟩
  obtain ⟨w3, e3⟩ : ∃ b, decide (1 ≤ T.short ∧ T.short ≤ T.s) = b := ⟨_, rfl⟩
  refine Fc.mk (callable Tryz.call82) Tryz.func82 rfl Tryz.ntmps82 rfl ?_; dsimp only [fr]
  refine X.seq rfl ?_; refine X.region rfl (fun K hK => ?_); repeat' (first | (refine XO.op rfl ?_; (first | ((first | refine Xo.ng rfl ?_); (first | (refine Xg.ev (EvF.assign rfl rfl) rfl rfl ?_) | (refine Xg.st (StF.boxAgg rfl rfl) rfl rfl ?_; rintro _ _ ⟨bx, rfl, rfl⟩))))) | (refine XO.done rfl ?_; refine hK _ _ ?_; clear hK K))
  rename Nat => b1
  refine X.seq rfl ?_
  refine X.regionOb tsHc [1] [(1, .pointer (some ⟨b1, 0, none⟩))] (valHc b1 T p w0 w1 w2 w3) (rowsHc b1 T p w0 w1 w2 w3) (fun _ => (0, 0)) (⟨b1, 0, cTm T p, some 32, 11⟩ :: H) rfl mixed (by (repeat (first | exact Sub.nil _ | refine Sub.cons rfl ?_)); done) rfl (by kernel_rfl) (locHc b1 T p w0 w1 w2 w3) (List.Sublist.refl _) ?_ ?_
  · cases w0; rotate_left; cases w1; rotate_left; cases w2; rotate_left; cases w3
    all_goals repeat' (first | exact AllF.done rfl | (refine AllF.step rfl ?_ ?_; · (first | exact Ob.sk rfl rfl (fun _ => rfl) (fun _ => rfl) (fun _ => rfl) (fun _ => rfl) | ((first | refine Ob.ng rfl ?_ | refine Ob.g rfl rfl (fun _ => rfl) ?_); (first | exact ObK.pure (fun env R hR => by exact ⟨_, EvF.move rfl rfl, rfl⟩) rfl (fun _ => rfl) | exact ObK.pure (fun env R hR => by exact ⟨_, EvF.assign rfl rfl, rfl⟩) rfl (fun _ => rfl) | exact ObK.pure (fun env R hR => by exact ⟨_, EvF.pickT rfl rfl rfl, rfl⟩) rfl (fun _ => rfl) | exact ObK.pure (fun env R hR => by exact ⟨_, EvF.pickF rfl rfl rfl, rfl⟩) rfl (fun _ => rfl) | exact ObK.pure (fun env R hR => by exact ⟨_, EvF.fieldAddr rfl rfl (te rfl) rfl (te rfl) (by decide), rfl⟩) rfl (fun _ => rfl) | exact ObK.pure (fun env R hR => by exact ⟨_, EvF.loadV rfl rfl (LoadV.own (te rfl) rfl (hR _ (List.Mem.head _)) rfl), rfl⟩) rfl (fun _ => rfl) | (exact fun env S hS => (StF.buildOne rfl elI rfl rfl rfl (by decide) (by decide)).op.mono (fun v H' ⟨b, hv, hH⟩ => ⟨(b, 0), fun _ => hv, by rw [hH]; exact List.Perm.refl _⟩)) | (exact ObK.pure (fun env S hS => ⟨_, EvF.build (cs := cSp ⟨T.g, 9⟩) rfl (ArgsP.cons rfl (ArgsP.cons rfl ArgsP.nil)) (te rfl) (Places.cons (te rfl) (Places.cons (te rfl) Places.nil)) Tryz.zeroValue30 rfl, rfl⟩) rfl (fun _ => rfl)) | (exact ObK.pure (fun env S hS => ⟨_, EvF.build (cs := cSp ⟨1, T.s⟩) rfl (ArgsP.cons rfl (ArgsP.cons rfl ArgsP.nil)) (te rfl) (Places.cons (te rfl) (Places.cons (te rfl) Places.nil)) Tryz.zeroValue30 rfl, rfl⟩) rfl (fun _ => rfl)) | (exact fun env S hS => OpF.callV (Z := []) (EnF.st rfl Args.nil) (anyGrade_spec _) rfl rfl) | (exact fun env S hS => OpF.callV (Z := []) (EnF.st rfl Args.nil) (anyStaple_spec _) rfl rfl) | (exact fun env S hS => OpF.callV (EnF.st rfl (Args.cons rfl (Args.cons rfl Args.nil))) (within1_spec ⟨1, 9⟩ T.g _ _ _ _ _ (List.Mem.head _)) (by rw [e0]; rfl) rfl) | (exact fun env S hS => OpF.callV (EnF.st rfl (Args.cons rfl (Args.cons rfl Args.nil))) (within1_spec ⟨1, 9⟩ T.s _ _ _ _ _ (List.Mem.head _)) (by rw [e1]; rfl) rfl) | (exact fun env S hS => OpF.callV (EnF.st rfl (Args.cons rfl (Args.cons rfl Args.nil))) (within1_spec ⟨T.g, 9⟩ T.worst _ _ _ _ _ (List.Mem.head _)) (by rw [e2]; rfl) rfl) | (exact fun env S hS => OpF.callV (EnF.st rfl (Args.cons rfl (Args.cons rfl Args.nil))) (within1_spec ⟨1, T.s⟩ T.short _ _ _ _ _ (List.Mem.head _)) (by rw [e3]; rfl) rfl))))))
  · intro env t ha hv
    refine ⟨[(2, .bool (((w0 && w1) && w2) && w3))], ?_, ?_⟩
    · exact (ha.sub (F' := []) (Sub.nil _)).cons (hv 34 2 (Nat.le_of_ble_eq_true rfl) rfl)
    · show X _ _ _ _ (⟨b1, 0, cTm T p, some 32, 11⟩ :: H) _
      repeat' (first | refine X.ret rfl ?_)
      refine ret_one (by first | exact .inr rfl | exact .inl rfl) Tryz.results82 rfl (H' := H) (by (repeat (first | exact List.Sublist.refl _ | apply List.Sublist.cons)); done) ?_; simp only [and_true, true_and]
      rw [← e0, ← e1, ← e2, ← e3]
      simp [and_assoc, Bool.and_assoc]
theorem hasNumbers_spec (T : Tm) (p : Pt) (H : List Row) : Fc Tryz.prog 83 [.agg (cTm T p).toArray] H (fun v H' => v = .bool (decide ((1 ≤ T.price ∧ T.price ≤ 1000000) ∧ (T.dl ≤ T.dh ∧ 0 ≤ T.dl ∧ T.dh ≤ 60) ∧ (1 ≤ T.bales ∧ T.bales ≤ 20) ∧ (0 ≤ T.fee ∧ T.fee ≤ 1000))) ∧ H' = H) := by
  refine Fc.mk (callable Tryz.call83) Tryz.func83 rfl Tryz.ntmps83 rfl ?_; dsimp only [fr]
  repeat' (first | (refine XO.op rfl ?_; (first | ((first | refine Xo.ng rfl ?_ | (refine Xo.g rfl rfl ?_; with_reducible refine Xw.tt ?_)); (first | (refine Xg.ev (EvF.build (cs := cSp ⟨1, 1000000⟩) rfl (ArgsP.cons rfl (ArgsP.cons rfl ArgsP.nil)) (te rfl) (Places.cons (te rfl) (Places.cons (te rfl) Places.nil)) Tryz.zeroValue30 rfl) rfl rfl ?_) | (refine Xg.ev (EvF.build (cs := cSp ⟨1, 20⟩) rfl (ArgsP.cons rfl (ArgsP.cons rfl ArgsP.nil)) (te rfl) (Places.cons (te rfl) (Places.cons (te rfl) Places.nil)) Tryz.zeroValue30 rfl) rfl rfl ?_) | (refine Xg.ev (EvF.build (cs := cSp ⟨0, 1000⟩) rfl (ArgsP.cons rfl (ArgsP.cons rfl ArgsP.nil)) (te rfl) (Places.cons (te rfl) (Places.cons (te rfl) Places.nil)) Tryz.zeroValue30 rfl) rfl rfl ?_) | (refine Xg.st (StF.buildOne rfl elI rfl rfl rfl (by decide) (by decide)) rfl rfl ?_; rintro _ _ ⟨bs, rfl, rfl⟩) | (refine Xg.call (EnF.st rfl (Args.cons rfl (Args.cons rfl Args.nil))) rfl rfl (within1_spec ⟨1, 1000000⟩ _ _ _ _ _ _ (List.Mem.head _)) ?_; rintro _ H9 ⟨rfl, hH9⟩; subst H9) | (refine Xg.call (EnF.st rfl (Args.cons rfl (Args.cons rfl Args.nil))) rfl rfl (within1_spec ⟨1, 20⟩ _ _ _ _ _ _ (List.Mem.head _)) ?_; rintro _ H9 ⟨rfl, hH9⟩; subst H9) | (refine Xg.call (EnF.st rfl (Args.cons rfl (Args.cons rfl Args.nil))) rfl rfl (within1_spec ⟨0, 1000⟩ _ _ _ _ _ _ (List.Mem.head _)) ?_; rintro _ H9 ⟨rfl, hH9⟩; subst H9) | (refine Xg.call (EnF.st rfl (Args.cons rfl (Args.cons rfl (Args.cons rfl Args.nil)))) rfl rfl (part_spec ⟨T.dl, T.dh⟩ _ _ _) ?_; rintro _ H9 ⟨rfl, hH9⟩; subst H9) | (refine Xg.ev (EvF.move rfl rfl) rfl rfl ?_) | (refine Xg.ev (EvF.assign rfl rfl) rfl rfl ?_) | (refine Xg.ev (EvF.pickT rfl rfl rfl) rfl rfl ?_) | (refine Xg.ev (EvF.pickF rfl rfl rfl) rfl rfl ?_) | (refine Xg.ev (EvF.fieldAddr rfl rfl (te rfl) rfl (te rfl) (by decide)) rfl rfl ?_) | (refine Xg.ev (EvF.loadV rfl rfl (LoadV.own (te rfl) rfl (List.Mem.head _) rfl)) rfl rfl ?_) | (refine Xg.ev (EvF.loadV rfl rfl (LoadV.own (te rfl) rfl (List.Mem.tail _ (List.Mem.head _)) rfl)) rfl rfl ?_) | (refine Xg.ev (EvF.loadV rfl rfl (LoadV.own (te rfl) rfl (List.Mem.tail _ (List.Mem.tail _ (List.Mem.head _))) rfl)) rfl rfl ?_) | (refine Xg.ev (EvF.loadV rfl rfl (LoadV.ownAgg (te rfl) rfl (List.Mem.tail _ (List.Mem.head _)) rfl rfl)) rfl rfl ?_) | (refine Xg.st (StF.boxAgg rfl rfl) rfl rfl ?_; rintro _ _ ⟨bx, rfl, rfl⟩))) | (refine Xo.g rfl rfl ?_; (first | (with_reducible refine Xw.ft rfl rfl ?_) | (with_reducible refine Xw.case (fun h => ?_) (fun h => ?_) <;> simp only [h, decide_true, decide_false, Bool.not_true, Bool.not_false, and_self, and_true, true_and, and_false, false_and]))))) | (refine XO.done rfl ?_; refine hK _ _ ?_; clear hK K) | refine X.seq rfl ?_ | refine X.region rfl (fun K hK => ?_) | refine X.ret rfl ?_)
  all_goals (refine ret_one (by first | exact .inr rfl | exact .inl rfl) Tryz.results83 rfl (H' := H) (by (repeat (first | exact List.Sublist.refl _ | apply List.Sublist.cons)); done) ?_; simp only [and_true, true_and])
  all_goals (congr 1; (try dsimp only at *); (try simp [*]))
  all_goals try omega
theorem areTables_spec (l m : List Int) (a a' : Option Addr) (c c' : Nat) (H : List Row) (hl : SlE H a cI 1 l) (hm : SlE H a' cI 1 m) (h1 : l.length ≤ 1000000) (h2 : m.length ≤ 1000000) :
    Fc Tryz.prog 116 [.slice a l.length c, .slice a' m.length c'] H (fun v H' => v = .bool (decide (l.length = 9 ∧ m.length = 9 ∧ (∀ n ∈ l, -1000 ≤ n ∧ n ≤ 1000) ∧ (∀ n ∈ m, -1000 ≤ n ∧ n ≤ 1000))) ∧ H' = H) := by
  refine Fc.mk (callable Tryz.call116) Tryz.func116 rfl Tryz.ntmps116 rfl ?_; dsimp only [fr]
  repeat' (first | (refine XO.op rfl ?_; (first | ((first | refine Xo.ng rfl ?_ | (refine Xo.g rfl rfl ?_; with_reducible refine Xw.tt ?_)); (first | (refine Xg.ev (EvF.build (cs := cSp ⟨-1000, 1000⟩) rfl (ArgsP.cons rfl (ArgsP.cons rfl ArgsP.nil)) (te rfl) (Places.cons (te rfl) (Places.cons (te rfl) Places.nil)) Tryz.zeroValue30 rfl) rfl rfl ?_) | (refine Xg.call (EnF.st rfl (Args.cons rfl (Args.cons rfl Args.nil))) rfl rfl (withinL_spec ⟨-1000, 1000⟩ l a c _ (hl.sub (fun _ h => List.Mem.tail _ h)) (by omega)) ?_; rintro _ H9 ⟨rfl, hH9⟩; subst H9) | (refine Xg.call (EnF.st rfl (Args.cons rfl (Args.cons rfl Args.nil))) rfl rfl (withinL_spec ⟨-1000, 1000⟩ m a' c' _ (hm.sub (fun _ h => List.Mem.tail _ h)) (by omega)) ?_; rintro _ H9 ⟨rfl, hH9⟩; subst H9) | (refine Xg.ev (EvF.move rfl rfl) rfl rfl ?_) | (refine Xg.ev (EvF.assign rfl rfl) rfl rfl ?_) | (refine Xg.ev (EvF.pickT rfl rfl rfl) rfl rfl ?_) | (refine Xg.ev (EvF.pickF rfl rfl rfl) rfl rfl ?_) | (refine Xg.ev (EvF.cmp rfl rfl rfl rfl) rfl rfl ?_) | (refine Xg.ev (EvF.lenSlice rfl rfl (te rfl)) rfl rfl ?_) | (refine Xg.ev (EvF.loadV rfl rfl (LoadV.whole (te rfl) rfl (List.Mem.head _) rfl)) rfl rfl ?_) | (refine Xg.st (StF.alloc rfl Tryz.zeroValue30 rfl) rfl rfl ?_; rintro _ _ ⟨bx, rfl, rfl⟩) | (refine Xg.st0 (StF.storeAll (i := 0) rfl rfl rfl (te rfl) rfl rfl rfl rfl) rfl ?_; rintro _ _ ⟨rfl, rfl⟩; dsimp only [List.set]))) | (refine Xo.g rfl rfl ?_; (first | (with_reducible refine Xw.ft rfl rfl ?_) | (with_reducible refine Xw.case (fun h => ?_) (fun h => ?_) <;> simp only [h, decide_true, decide_false, Bool.not_true, Bool.not_false, and_self, and_true, true_and, and_false, false_and]) | (with_reducible refine Xw.caseB (fun h => ?_) (fun h => ?_) <;> simp only [h, decide_true, decide_false, Bool.not_true, Bool.not_false, and_self, and_true, true_and, and_false, false_and]))))) | (refine XO.done rfl ?_; refine hK _ _ ?_; clear hK K) | refine X.seq rfl ?_ | refine X.region rfl (fun K hK => ?_) | refine X.ret rfl ?_)
  all_goals (refine ret_one (by first | exact .inr rfl | exact .inl rfl) Tryz.results116 rfl (H' := H) (by (repeat (first | exact List.Sublist.refl _ | apply List.Sublist.cons)); done) ?_; simp only [and_true, true_and])
  all_goals (try dsimp only at *)
  all_goals first
    | (congr 1; exact decide_eq_decide.2 ⟨fun q => ⟨by omega, by omega, by assumption, q⟩, fun q => q.2.2.2⟩)
    | (congr 1; exact (decide_eq_false (fun q => by first | omega | (exact absurd q.2.2.1 (by assumption)) | (simp_all; done))).symm)
    | (exfalso; simp_all; done)
theorem cloneI_spec (l : List Int) (ad : Addr) (c : Nat) (H : List Row) (hl : SlE H (some ad) cI 1 l) (hb : l.length ≤ 1000000) :
    Fc Tryz.prog 112 [.slice (some ad) l.length c] H (fun v H' => ∃ b k, v = .slice (some ⟨b, 0, none⟩) l.length k ∧ H' = ⟨b, 0, l.flatMap cI, some 3, k * 1⟩ :: H) := by
  refine Fc.mk (callable Tryz.call112) Tryz.func112 rfl Tryz.ntmps112 rfl ?_; dsimp only [fr]
  repeat' (first | (refine XO.op rfl ?_; (first | ((first | refine Xo.ng rfl ?_); (first | (refine Xg.ev (EvF.eqNil rfl rfl (te rfl)) rfl rfl ?_) | (refine Xg.st (StF.buildNil rfl elI) rfl rfl ?_; rintro _ _ ⟨bn, rfl, rfl⟩) | (refine Xg.st (StF.appendSl (i := 0) rfl elI rfl rfl rfl (hl.sub (fun _ h => List.mem_cons_of_mem _ h)) (fun e _ => one_i e) rfl (by decide) (by omega)) rfl rfl ?_; rintro _ _ ⟨b, k, rfl, rfl⟩; dsimp only [List.eraseIdx]) | (refine Xg.ev (EvF.move rfl rfl) rfl rfl ?_) | (refine Xg.ev (EvF.assign rfl rfl) rfl rfl ?_))))) | (refine XO.done rfl ?_; refine hK _ _ ?_; clear hK K) | refine X.seq rfl ?_ | refine X.region rfl (fun K hK => ?_) | refine X.skip rfl ?_ | refine X.ret rfl ?_ | (refine X.ite rfl rfl (fun hc => ?_); (first | (with_reducible refine Xb.f hc ?_)) <;> clear hc))
  exact ret_one (by first | exact .inr rfl | exact .inl rfl) Tryz.results112 rfl (H' := _) (List.Sublist.refl _) ⟨_, _, by rw [Nat.zero_add], rfl⟩
end Go.Proofs.YtcjlegjchllgjaaGreat
end
section
set_option linter.unusedVariables false
set_option linter.unusedSimpArgs false
namespace Go.Proofs.YtcjlegjchllgjaaGreat
open Go Go.Fw
set_option maxRecDepth 10000
def tsRv : List TOp := [⟨some 14, [], [], []⟩, ⟨some 15, [], [], []⟩, ⟨some 16, [], [], []⟩, ⟨some 17, [], [], []⟩, ⟨some 18, [], [], []⟩, ⟨some 19, [], [], []⟩, ⟨some 20, [4, 5], [4, 5], []⟩, ⟨some 21, [4, 5, 6], [6], []⟩, ⟨some 22, [], [], []⟩, ⟨some 23, [], [], []⟩, ⟨some 24, [8, 9], [8, 9], []⟩, ⟨some 25, [8, 9, 10], [10], []⟩, ⟨some 26, [0, 1, 4, 5, 6, 7, 8, 9, 10, 11], [0, 1], []⟩, ⟨none, [0, 1, 4, 5, 6, 7, 8, 9, 10, 11, 12], [12, 7], [16]⟩, ⟨some 27, [0, 1, 2, 3, 4, 5, 6, 7, 8, 9, 10, 11, 12, 13], [2, 3], []⟩, ⟨none, [0, 1, 2, 3, 4, 5, 6, 7, 8, 9, 10, 11, 12, 13, 14], [14, 11], [13]⟩, ⟨none, [], [], []⟩]
def valRv (b n kc ii jj : Nat) (c : List Int) (x y : Int) (k : Nat) (env : Env) : Value :=
  match k with
  | 0 => .slice (some ⟨b, 0, none⟩) n kc
  | 1 => .int .i64 ii
  | 2 => .slice (some ⟨b, 0, none⟩) n kc
  | 3 => .int .i64 jj
  | 4 => .slice (some ⟨b, 0, none⟩) n kc
  | 5 => .int .i64 jj
  | 6 => .pointer (some ⟨b, 0 + jj * 1, none⟩)
  | 7 => .int .i64 y
  | 8 => .slice (some ⟨b, 0, none⟩) n kc
  | 9 => .int .i64 ii
  | 10 => .pointer (some ⟨b, 0 + ii * 1, none⟩)
  | 11 => .int .i64 x
  | 12 => .pointer (some ⟨b, 0 + ii * 1, none⟩)
  | 13 => undef
  | 14 => .pointer (some ⟨b, 0 + jj * 1, none⟩)
  | 15 => undef
  | _ => undef
def rowsRv (b n kc ii jj : Nat) (c : List Int) (x y : Int) (k : Nat) (env : Env) : List Row :=
  match k with
  | 13 => [⟨b, 0, (c.set ii y).flatMap cI, some 3, kc * 1⟩]
  | 15 => [⟨b, 0, ((c.set ii y).set jj x).flatMap cI, some 3, kc * 1⟩]
  | 16 => [⟨b, 0, c.flatMap cI, some 3, kc * 1⟩]
  | _ => []
theorem locRv (b n kc ii jj : Nat) (c : List Int) (x y : Int) : ∀ k env i q9, i ≠ k → (tAt tsRv k).sup.contains i = false → valRv b n kc ii jj c x y k (upd env i q9) = valRv b n kc ii jj c x y k env ∧ rowsRv b n kc ii jj c x y k (upd env i q9) = rowsRv b n kc ii jj c x y k env := by
  intro k env i q hk hs
  have hu : ∀ j, j ≠ i → upd env i q j = env j := fun j hj => by unfold upd; rw [if_neg hj]
  match k, hk, hs with
  | 0, _, _ => exact ⟨rfl, rfl⟩
  | 1, _, _ => exact ⟨rfl, rfl⟩
  | 2, _, _ => exact ⟨rfl, rfl⟩
  | 3, _, _ => exact ⟨rfl, rfl⟩
  | 4, _, _ => exact ⟨rfl, rfl⟩
  | 5, _, _ => exact ⟨rfl, rfl⟩
  | 6, _, _ => exact ⟨rfl, rfl⟩
  | 7, _, _ => exact ⟨rfl, rfl⟩
  | 8, _, _ => exact ⟨rfl, rfl⟩
  | 9, _, _ => exact ⟨rfl, rfl⟩
  | 10, _, _ => exact ⟨rfl, rfl⟩
  | 11, _, _ => exact ⟨rfl, rfl⟩
  | 12, _, _ => exact ⟨rfl, rfl⟩
  | 13, _, _ => exact ⟨rfl, rfl⟩
  | 14, _, _ => exact ⟨rfl, rfl⟩
  | 15, _, _ => exact ⟨rfl, rfl⟩
  | 16, _, _ => exact ⟨rfl, rfl⟩
  | _ + 17, _, _ => exact ⟨rfl, rfl⟩
def rdRv (k : Nat) : List Nat := match k with
  | 7 => [16]
  | 11 => [16]
  | _ => []
/-- the first i numbers and the last i ones have changed places -/
def swp (l c : List Int) (i : Nat) : Prop := c.length = l.length ∧ ∀ q, q < l.length → c[q]? = (if q < i ∨ l.length ≤ q + i then l[l.length - 1 - q]? else l[q]?)
theorem swp_end {l c : List Int} {i : Nat} (h : swp l c i) (hi : l.length ≤ i + i + 1) : c = l.reverse := by
  apply List.ext_getElem?
  intro q
  by_cases hq : q < l.length
  · rw [h.2 q hq, List.getElem?_reverse hq]
    split
    · rfl
    · rw [show l.length - 1 - q = q by omega]
  · rw [List.getElem?_eq_none (by rw [h.1]; omega), List.getElem?_eq_none (by rw [List.length_reverse]; omega)]
theorem swp_step {l c : List Int} {i j : Nat} {x y : Int} (h : swp l c i) (hj : j + i + 1 = l.length) (hij : i < j) (hx : c[i]? = some x) (hy : c[j]? = some y) : swp l ((c.set i y).set j x) (i + 1) := by
  refine ⟨by simp [h.1], fun q hq => ?_⟩
  have h1 := h.1
  have e1 := h.2 i (by omega)
  have e2 := h.2 j (by omega)
  rw [if_neg (by omega)] at e1 e2
  rw [hx] at e1; rw [hy] at e2
  rw [List.getElem?_set, List.getElem?_set]
  by_cases q1 : j = q
  · subst q1
    rw [if_pos rfl, if_pos (by simp; omega), if_pos (by omega), show l.length - 1 - j = i by omega]; exact e1
  · rw [if_neg q1]
    by_cases q2 : i = q
    · subst q2
      rw [if_pos rfl, if_pos (by omega), if_pos (by omega), show l.length - 1 - i = j by omega]; exact e2
    · rw [if_neg q2, h.2 q hq]
      by_cases q3 : q < i ∨ l.length ≤ q + i
      · rw [if_pos q3, if_pos (by omega)]
      · rw [if_neg q3, if_neg (by omega)]
set_option maxHeartbeats 4000000 in
theorem reverse_spec (l : List Int) (b kc : Nat) (H : List Row) (hb : l.length ≤ 1000000) (hk : l.length ≤ kc) :
    Fc Tryz.prog 117 [.slice (some ⟨b, 0, none⟩) l.length kc] (⟨b, 0, l.flatMap cI, some 3, kc * 1⟩ :: H) (fun _ H' => H' = ⟨b, 0, l.reverse.flatMap cI, some 3, kc * 1⟩ :: H) := by
  refine Fc.mk (callable Tryz.call117) Tryz.func117 rfl Tryz.ntmps117 rfl ?_; dsimp only [fr]
  repeat' (first | (refine XO.op rfl ?_; (first | ((first | refine Xo.ng rfl ?_); (first | (refine Xg.ev (EvF.move rfl rfl) rfl rfl ?_) | (refine Xg.ev (EvF.assign rfl rfl) rfl rfl ?_) | (refine Xg.ev (EvF.add64 rfl rfl rfl (by omega) (by omega)) rfl rfl ?_) | (refine Xg.ev (EvF.sub64 rfl rfl rfl (by omega) (by omega)) rfl rfl ?_) | (refine Xg.ev (EvF.lenSlice rfl rfl (te rfl)) rfl rfl ?_))))) | (refine XO.done rfl ?_; refine hK _ _ ?_; clear hK K) | refine X.seq rfl ?_ | refine X.region rfl (fun K hK => ?_) | refine X.block rfl ?_)
  refine X.lp rfl (fun m F' H' => ∃ (i : Nat) (c : List Int), m = l.length - i ∧ i ≤ l.length ∧ swp l c i ∧ H' = ⟨b, 0, c.flatMap cI, some 3, kc * 1⟩ :: H ∧
      F' = [(0, .slice (some ⟨b, 0, none⟩) l.length kc), (2, .int .i64 i), (3, .int .i64 ((l.length : Int) - 1 - i))])
    l.length [(0, .slice (some ⟨b, 0, none⟩) l.length kc), (2, .int .i64 (0 : Nat)), (3, .int .i64 ((l.length : Int) - 1 - (0 : Nat)))] _ (by rw [show (l.length : Int) - 1 - ((0 : Nat) : Int) = l.length - 1 by omega]; exact (by (repeat (first | exact Sub.nil _ | refine Sub.cons rfl ?_)); done)) (List.Sublist.refl _) ⟨0, l, by omega, by omega, ⟨rfl, fun q hq => by rw [if_neg (by omega)]⟩, rfl, rfl⟩ ?_
  rintro _ _ _ ⟨i, c, rfl, hi, hs, rfl, rfl⟩
  repeat' (first | (refine XO.op rfl ?_; (first | ((first | refine Xo.ng rfl ?_); (first | (refine Xg.ev (EvF.move rfl rfl) rfl rfl ?_) | (refine Xg.ev (EvF.cmp rfl rfl rfl rfl) rfl rfl ?_))))) | (refine XO.done rfl ?_; refine hK _ _ ?_; clear hK K) | refine X.seq rfl ?_ | refine X.region rfl (fun K hK => ?_) | refine X.block rfl ?_ | (refine X.brk rfl ?_; repeat (first | refine blockX_hit rfl ?_ | refine blockX_miss (by decide) ?_)) | refine X.skip rfl ?_ | (refine X.ite rfl rfl (fun hc => ?_); (first | (with_reducible refine Xb.case hc (fun h => ?_) (fun h => ?_))) <;> clear hc))
  · have hlt : (i : Int) < (l.length : Int) - 1 - i := by assumption
    obtain ⟨j, hj⟩ : ∃ j : Nat, (j : Int) = (l.length : Int) - 1 - i := ⟨(l.length - 1 - i), by omega⟩
    have hcl := hs.1
    have hx : c[i]? = some (c[i]'(by omega)) := List.getElem?_eq_getElem _
    have hy : c[j]? = some (c[j]'(by omega)) := List.getElem?_eq_getElem _
    generalize c[i]'(by omega) = x at hx
    generalize c[j]'(by omega) = y at hy
    have hst := swp_step hs (by omega) (by omega) hx hy
    rw [← hj]
    obtain ⟨ii, rfl⟩ : ∃ ii, ii = i := ⟨_, rfl⟩
    obtain ⟨jj, rfl⟩ : ∃ jj, jj = j := ⟨_, rfl⟩
    obtain ⟨n, hn⟩ : ∃ n, l.length = n := ⟨_, rfl⟩
    have e0 : (Value.slice (some ⟨b, 0, none⟩) l.length kc) = .slice (some ⟨b, 0, none⟩) n kc := by rw [hn]
    rw [e0]
    refine X.regionRd tsRv rdRv [0, 2, 3] [(0, .slice (some ⟨b, 0, none⟩) n kc), (2, .int .i64 ii), (3, .int .i64 jj)] (valRv b n kc ii jj c x y) (rowsRv b n kc ii jj c x y) (fun _ => (0, 0)) (H) rfl mixed (by (repeat (first | exact Sub.nil _ | refine Sub.cons rfl ?_)); done) rfl (by kernel_rfl) (by kernel_rfl) (locRv b n kc ii jj c x y) (List.Sublist.refl _) ?_ ?_
    · have hi1 : ii < c.length := by omega
      have hj1 : jj < (c.set ii y).length := by simp; omega
      have hi2 : (ii : Int) < n := by omega
      have hj2 : (jj : Int) < n := by omega
      repeat' (first | exact AllF.done rfl | (refine AllF.step rfl ?_ ?_; · (first | exact (Ob.ng rfl (ObK.pure (fun env R hR => by exact ⟨_, EvF.move rfl rfl, rfl⟩) rfl (fun _ => rfl))).toR | (refine ObR.ng rfl ?_; (first | (exact fun env S hS hrd => (StF.ofEv (EvF.loadV rfl rfl (LoadV.ownI (te rfl) rfl (hrd 16 (List.Mem.head _) _ (List.Mem.head _)) (by omega) hy))).op.mono (fun v H' ⟨hv, hH⟩ => ⟨(0, 0), fun _ => hv, by rw [hH]; exact List.Perm.refl _⟩)) | (exact fun env S hS hrd => (StF.ofEv (EvF.loadV rfl rfl (LoadV.ownI (te rfl) rfl (hrd 16 (List.Mem.head _) _ (List.Mem.head _)) (by omega) hx))).op.mono (fun v H' ⟨hv, hH⟩ => ⟨(0, 0), fun _ => hv, by rw [hH]; exact List.Perm.refl _⟩)) | (exact fun env S hS hrd => (StF.storeI (q := 0) (c := c) rfl rfl rfl (te rfl) rfl rfl (by omega) hi1).op.mono (fun v H' ⟨hv, hH⟩ => ⟨(0, 0), fun h => absurd rfl h, by rw [hH]; exact List.Perm.refl _⟩)) | (exact fun env S hS hrd => (StF.storeI (q := 0) (c := c.set ii y) rfl rfl rfl (te rfl) rfl rfl (by omega) hj1).op.mono (fun v H' ⟨hv, hH⟩ => ⟨(0, 0), fun h => absurd rfl h, by rw [hH]; exact List.Perm.refl _⟩)) | ((refine fun env S hS hrd => (StF.ofEv (v := .pointer (some ⟨b, 0 + jj * 1, none⟩)) ?_).op.mono (fun v H' ⟨hv, hH⟩ => ⟨(0, 0), fun _ => hv, by rw [hH]; exact List.Perm.refl _⟩); exact EvF.indexSlice (i := (jj : Int)) (off := 0) (b := b) (T := 28) (e := 3) (len := n) (ti := ⟨.int .i64, 1, 8⟩) rfl rfl rfl (te rfl) (te rfl) (by omega) hj2)) | ((refine fun env S hS hrd => (StF.ofEv (v := .pointer (some ⟨b, 0 + ii * 1, none⟩)) ?_).op.mono (fun v H' ⟨hv, hH⟩ => ⟨(0, 0), fun _ => hv, by rw [hH]; exact List.Perm.refl _⟩); exact EvF.indexSlice (i := (ii : Int)) (off := 0) (b := b) (T := 28) (e := 3) (len := n) (ti := ⟨.int .i64, 1, 8⟩) rfl rfl rfl (te rfl) (te rfl) (by omega) hi2)))))))
    · intro env t ha hv
      refine ⟨_, ha, ?_⟩
      show X _ _ _ _ (⟨b, 0, ((c.set ii y).set jj x).flatMap cI, some 3, kc * 1⟩ :: H) _
      repeat' (first | (refine XO.op rfl ?_; (first | ((first | refine Xo.ng rfl ?_); (first | (refine Xg.ev (EvF.move rfl rfl) rfl rfl ?_) | (refine Xg.ev (EvF.assign rfl rfl) rfl rfl ?_) | (refine Xg.ev (EvF.add64 rfl rfl rfl (by omega) (by omega)) rfl rfl ?_) | (refine Xg.ev (EvF.sub64 rfl rfl rfl (by omega) (by omega)) rfl rfl ?_) | (refine Xg.ev (EvF.lenSlice rfl rfl (te rfl)) rfl rfl ?_))))) | (refine XO.done rfl ?_; refine hK _ _ ?_; clear hK K) | refine X.seq rfl ?_ | refine X.region rfl (fun K hK => ?_) | refine X.block rfl ?_)
      refine ⟨_, [(0, .slice (some ⟨b, 0, none⟩) n kc), (2, .int .i64 (ii + 1 : Nat)), (3, .int .i64 ((n : Int) - 1 - (ii + 1 : Nat)))], _, (by rw [show ((n : Int) - 1 - (ii + 1 : Nat)) = (jj : Int) - 1 by omega]; exact (by (repeat (first | exact Sub.nil _ | refine Sub.cons rfl ?_)); done)), List.Sublist.refl _, ⟨ii + 1, _, rfl, by omega, hst, rfl, by rw [hn]⟩, by omega⟩
  · have he := swp_end hs (by omega)
    subst he
    exact ret_none (by first | exact .inr rfl | exact .inl rfl) Tryz.results117 (H' := _) (List.Sublist.refl _) rfl
end Go.Proofs.YtcjlegjchllgjaaGreat
end
section
set_option linter.unusedVariables false
set_option linter.unusedSimpArgs false
namespace Go.Proofs.YtcjlegjchllgjaaGreat
open Go Go.Fw
set_option maxRecDepth 10000
/-- a table among others -/
structure TB where
  a : Option Addr
  l : List Int
  c : Nat
def cTB (t : TB) : List Value := [.slice t.a t.l.length t.c]
theorem grows_iff : ∀ (l : List Int), grows l ↔ ∀ q a b, l[q]? = some a → l[q + 1]? = some b → a ≤ b
  | [] => by simp [grows]
  | [x] => by
    refine ⟨fun _ q a b h1 h2 => ?_, fun _ => trivial⟩
    simp at h2
  | x :: y :: l => by
    have ih := grows_iff (y :: l)
    show (x ≤ y ∧ grows (y :: l)) ↔ _
    rw [ih]
    constructor
    · rintro ⟨h1, h2⟩ q a b ha hb
      cases q with
      | zero => simp at ha hb; subst ha hb; exact h1
      | succ q => exact h2 q a b (by simpa using ha) (by simpa using hb)
    · intro h
      exact ⟨h 0 x y rfl rfl, fun q a b ha hb => h (q + 1) a b (by simpa using ha) (by simpa using hb)⟩
noncomputable instance (l : List Int) : Decidable (grows l) := Classical.propDecidable _
noncomputable def risen (ts : List TB) : Int := ((ts.filter (fun t => decide (grows t.l))).length : Nat)
set_option maxHeartbeats 4000000 in
theorem rising_spec (ts : List TB) (a : Option Addr) (c : Nat) (H : List Row) (hl : SlE H a cTB 1 ts) (hb : ts.length ≤ 1000) (ht : ∀ t ∈ ts, SlE H t.a cI 1 t.l ∧ t.l.length ≤ 1000000) :
    Fc Tryz.prog 118 [.slice a ts.length c] H (fun v H' => v = .int .i64 (risen ts) ∧ H' = H) := by
  refine Fc.mk (callable Tryz.call118) Tryz.func118 rfl Tryz.ntmps118 rfl ?_; dsimp only [fr]
  repeat' (first | (refine XO.op rfl ?_; (first | ((first | refine Xo.ng rfl ?_); (first | (refine Xg.ev (EvF.move rfl rfl) rfl rfl ?_) | (refine Xg.ev (EvF.assign rfl rfl) rfl rfl ?_) | (refine Xg.ev (EvF.cmp rfl rfl rfl rfl) rfl rfl ?_) | (refine Xg.ev (EvF.add64 rfl rfl rfl (by omega) (by omega)) rfl rfl ?_) | (refine Xg.ev (EvF.lenSlice rfl rfl (te rfl)) rfl rfl ?_))))) | (refine XO.done rfl ?_; refine hK _ _ ?_; clear hK K) | (refine XQ.op rfl ?_; (first | ((first | refine Yo.ng rfl ?_); (first | (refine Yg.ev (EvF.move rfl rfl) rfl rfl ?_) | (refine Yg.ev (EvF.add64 rfl rfl rfl (by omega) (by omega)) rfl rfl ?_))))) | refine X.seq rfl ?_ | refine X.region rfl (fun K hK => ?_) | refine X.regionD rfl mixed (by kernel_rfl) (fun K hK => ?_) | refine X.block rfl ?_ | (refine X.brk rfl ?_; repeat (first | refine blockX_hit rfl ?_ | refine blockX_miss (by decide) ?_)) | refine X.label rfl ?_ | refine X.scope rfl ?_ | refine X.skip rfl ?_ | refine X.ret rfl ?_ | (refine X.ite rfl rfl (fun hc => ?_); (first | (with_reducible refine Xb.case hc (fun h => ?_) (fun h => ?_))) <;> clear hc))
  refine X.lp rfl (fun m F' H' => ∃ k : Nat, m = ts.length - k ∧ k ≤ ts.length ∧ H = H' ∧
      F' = [(7, .slice a ts.length c), (8, .int .i64 ts.length), (9, .int .i64 k), (3, .int .i64 (risen (ts.take k)))])
    ts.length [(7, .slice a ts.length c), (8, .int .i64 ts.length), (9, .int .i64 (0 : Nat)), (3, .int .i64 (risen (ts.take 0)))] _ (by (repeat (first | exact Sub.nil _ | refine Sub.cons rfl ?_)); done) (by (repeat (first | exact List.Sublist.refl _ | apply List.Sublist.cons_cons | apply List.Sublist.cons)); done) ⟨0, by omega, by omega, rfl, rfl⟩ ?_
  rintro _ _ H2 ⟨k, rfl, hk, hH, rfl⟩
  subst hH
  repeat' (first | (refine XO.op rfl ?_; (first | ((first | refine Xo.ng rfl ?_); (first | (refine Xg.ev (EvF.move rfl rfl) rfl rfl ?_) | (refine Xg.ev (EvF.assign rfl rfl) rfl rfl ?_) | (refine Xg.ev (EvF.cmp rfl rfl rfl rfl) rfl rfl ?_) | (refine Xg.ev (EvF.add64 rfl rfl rfl (by omega) (by omega)) rfl rfl ?_) | (refine Xg.ev (EvF.lenSlice rfl rfl (te rfl)) rfl rfl ?_))))) | (refine XO.done rfl ?_; refine hK _ _ ?_; clear hK K) | (refine XQ.op rfl ?_; (first | ((first | refine Yo.ng rfl ?_); (first | (refine Yg.ev (EvF.move rfl rfl) rfl rfl ?_) | (refine Yg.ev (EvF.add64 rfl rfl rfl (by omega) (by omega)) rfl rfl ?_))))) | refine X.seq rfl ?_ | refine X.region rfl (fun K hK => ?_) | refine X.regionD rfl mixed (by kernel_rfl) (fun K hK => ?_) | refine X.block rfl ?_ | (refine X.brk rfl ?_; repeat (first | refine blockX_hit rfl ?_ | refine blockX_miss (by decide) ?_)) | refine X.label rfl ?_ | refine X.scope rfl ?_ | refine X.skip rfl ?_ | refine X.ret rfl ?_ | (refine X.ite rfl rfl (fun hc => ?_); (first | (with_reducible refine Xb.case hc (fun h => ?_) (fun h => ?_))) <;> clear hc))
  · obtain ⟨b, off, t, rfl, he⟩ := hl.elem (i := k) (by omega)
    obtain ⟨hsl, hln⟩ := ht t (List.mem_of_getElem? he)
    have hrk : risen (ts.take (k + 1)) = risen (ts.take k) + (if grows t.l then 1 else 0) := by
      unfold risen
      rw [take_snoc he, List.filter_append, List.length_append, List.filter_cons]
      split <;> simp_all
    have hr0 : 0 ≤ risen (ts.take k) ∧ risen (ts.take k) ≤ 1000 := by
      unfold risen
      have := List.length_filter_le (fun t : TB => decide (grows t.l)) (ts.take k)
      rw [List.length_take] at this
      omega
    repeat' (first | (refine XO.op rfl ?_; (first | ((first | refine Xo.ng rfl ?_); (first | (refine Xg.ev (EvF.loadV rfl rfl (LoadV.el0 hl he (te rfl) rfl (fun _ hm => hm) rfl)) rfl rfl ?_) | (refine Xg.ev (EvF.move rfl rfl) rfl rfl ?_) | (refine Xg.ev (EvF.assign rfl rfl) rfl rfl ?_) | (refine Xg.ev (EvF.sub64 rfl rfl rfl (by omega) (by omega)) rfl rfl ?_) | (refine Xg.ev (EvF.lenSlice rfl rfl (te rfl)) rfl rfl ?_) | (refine Xg.ev (EvF.indexSlice rfl rfl rfl (te rfl) (te rfl) (by omega) (by omega)) rfl rfl ?_))))) | (refine XO.done rfl ?_; refine hK _ _ ?_; clear hK K) | refine X.seq rfl ?_ | refine X.region rfl (fun K hK => ?_) | refine X.block rfl ?_)
    refine X.lp rfl (fun m F' H' => ∃ q : Nat, m = t.l.length - q ∧ (q ≤ t.l.length - 1) ∧ (∀ j x y, j < q → t.l[j]? = some x → t.l[j + 1]? = some y → x ≤ y) ∧ H = H' ∧
        F' = [(7, .slice (some ⟨b, off, none⟩) ts.length c), (8, .int .i64 ts.length), (9, .int .i64 k), (3, .int .i64 (risen (ts.take k))), (5, .slice t.a t.l.length t.c), (15, .int .i64 ((t.l.length : Int) - 1)), (16, .int .i64 q)])
      t.l.length [(7, .slice (some ⟨b, off, none⟩) ts.length c), (8, .int .i64 ts.length), (9, .int .i64 k), (3, .int .i64 (risen (ts.take k))), (5, .slice t.a t.l.length t.c), (15, .int .i64 ((t.l.length : Int) - 1)), (16, .int .i64 (0 : Nat))] _ (by (repeat (first | exact Sub.nil _ | refine Sub.cons rfl ?_)); done) (by (repeat (first | exact List.Sublist.refl _ | apply List.Sublist.cons_cons | apply List.Sublist.cons)); done) ⟨0, by omega, by omega, (fun j x y hj => absurd hj (by omega)), rfl, rfl⟩ ?_
    rintro _ _ H2 ⟨q, rfl, hq, hn, hH, rfl⟩
    subst hH
    repeat' (first | (refine XO.op rfl ?_; (first | ((first | refine Xo.ng rfl ?_); (first | (refine Xg.ev (EvF.move rfl rfl) rfl rfl ?_) | (refine Xg.ev (EvF.assign rfl rfl) rfl rfl ?_) | (refine Xg.ev (EvF.cmp rfl rfl rfl rfl) rfl rfl ?_) | (refine Xg.ev (EvF.add64 rfl rfl rfl (by omega) (by omega)) rfl rfl ?_) | (refine Xg.ev (EvF.lenSlice rfl rfl (te rfl)) rfl rfl ?_))))) | (refine XO.done rfl ?_; refine hK _ _ ?_; clear hK K) | (refine XQ.op rfl ?_; (first | ((first | refine Yo.ng rfl ?_); (first | (refine Yg.ev (EvF.move rfl rfl) rfl rfl ?_) | (refine Yg.ev (EvF.add64 rfl rfl rfl (by omega) (by omega)) rfl rfl ?_))))) | refine X.seq rfl ?_ | refine X.region rfl (fun K hK => ?_) | refine X.regionD rfl mixed (by kernel_rfl) (fun K hK => ?_) | refine X.block rfl ?_ | (refine X.brk rfl ?_; repeat (first | refine blockX_hit rfl ?_ | refine blockX_miss (by decide) ?_)) | refine X.label rfl ?_ | refine X.scope rfl ?_ | refine X.skip rfl ?_ | refine X.ret rfl ?_ | (refine X.ite rfl rfl (fun hc => ?_); (first | (with_reducible refine Xb.case hc (fun h => ?_) (fun h => ?_))) <;> clear hc))
    · have hq1 : (q : Int) < (t.l.length : Int) - 1 := by assumption
      obtain ⟨b2, off2, e, hea, he1⟩ := hsl.elem (i := q) (by omega)
      obtain ⟨_, _, f, _, hf1⟩ := hsl.elem (i := q + 1) (by omega)
      rw [hea]
      rw [hea] at hsl
      repeat' (first | (refine XO.op rfl ?_; (first | ((first | refine Xo.ng rfl ?_); (first | (refine Xg.ev (EvF.move rfl rfl) rfl rfl ?_) | (refine Xg.ev (EvF.add64 rfl rfl rfl (by omega) (by omega)) rfl rfl ?_))))) | (refine XO.done rfl ?_; refine hK _ _ ?_; clear hK K) | (refine XQ.op rfl ?_; (first | ((first | refine Yo.ng rfl ?_); (first | (refine Yg.ev (EvF.indexSlice rfl rfl rfl (te rfl) (te rfl) (by omega) (by omega)) rfl rfl ?_) | (refine Yg.ev (EvF.loadV rfl rfl (LoadV.el0 hsl he1 (te rfl) rfl (fun _ hm => hm) rfl)) rfl rfl ?_) | (refine Yg.ev (EvF.loadV rfl rfl (LoadV.el0 (n := q + 1) hsl hf1 (te rfl) rfl (fun _ h => h) rfl)) rfl rfl ?_) | (refine Yg.ev (EvF.move rfl rfl) rfl rfl ?_) | (refine Yg.ev (EvF.cmp rfl rfl rfl rfl) rfl rfl ?_))))) | (refine XQ.done rfl ?_; refine hK _ ?_; clear hK K) | refine X.region rfl (fun K hK => ?_) | (refine X.brk rfl ?_; repeat (first | refine blockX_hit rfl ?_ | refine blockX_miss (by decide) ?_)) | refine X.skip rfl ?_ | (refine X.ite rfl rfl (fun hc => ?_); (first | (with_reducible refine Xb.case hc (fun h => ?_) (fun h => ?_))) <;> clear hc))
      · have hng : ¬ grows t.l := fun hg => by
          have := (grows_iff t.l).1 hg q e f he1 hf1
          omega
        rw [if_neg hng, Int.add_zero] at hrk
        refine ⟨_, [(7, .slice (some ⟨b, off, none⟩) ts.length c), (8, .int .i64 ts.length), (9, .int .i64 (k + 1 : Nat)), (3, .int .i64 (risen (ts.take (k + 1))))], _, (by rw [hrk]; exact (by (repeat (first | exact Sub.nil _ | refine Sub.cons rfl ?_)); done)), (by (repeat (first | exact List.Sublist.refl _ | apply List.Sublist.cons_cons | apply List.Sublist.cons)); done), ⟨k + 1, rfl, by omega, rfl, rfl⟩, by omega⟩
      · refine ⟨_, [(7, .slice (some ⟨b, off, none⟩) ts.length c), (8, .int .i64 ts.length), (9, .int .i64 k), (3, .int .i64 (risen (ts.take k))), (5, .slice t.a t.l.length t.c), (15, .int .i64 ((t.l.length : Int) - 1)), (16, .int .i64 (q + 1 : Nat))], _, (by rw [hea]; exact (by (repeat (first | exact Sub.nil _ | refine Sub.cons rfl ?_)); done)), (by (repeat (first | exact List.Sublist.refl _ | apply List.Sublist.cons_cons | apply List.Sublist.cons)); done), ⟨q + 1, rfl, by omega, (fun j x y hj hx hy => ?_), rfl, rfl⟩, by omega⟩
        rcases Nat.lt_or_ge j q with h1 | h1
        · exact hn j x y h1 hx hy
        · obtain rfl : j = q := by omega
          rw [he1] at hx; rw [hf1] at hy
          cases hx; cases hy
          omega
    · have hg : grows t.l := (grows_iff t.l).2 (fun j x y hx hy => hn j x y (by have := (List.getElem?_eq_some_iff.1 hy).1; omega) hx hy)
      rw [if_pos hg] at hrk
      refine ⟨_, [(7, .slice (some ⟨b, off, none⟩) ts.length c), (8, .int .i64 ts.length), (9, .int .i64 (k + 1 : Nat)), (3, .int .i64 (risen (ts.take (k + 1))))], _, (by rw [hrk]; exact (by (repeat (first | exact Sub.nil _ | refine Sub.cons rfl ?_)); done)), (by (repeat (first | exact List.Sublist.refl _ | apply List.Sublist.cons_cons | apply List.Sublist.cons)); done), ⟨k + 1, rfl, by omega, rfl, rfl⟩, by omega⟩
  · rw [List.take_of_length_le (by omega)]
    refine ret_one (by first | exact .inr rfl | exact .inl rfl) Tryz.results118 rfl (H' := H) (by (repeat (first | exact List.Sublist.refl _ | apply List.Sublist.cons)); done) ?_; simp only [and_true, true_and]
end Go.Proofs.YtcjlegjchllgjaaGreat
end
section
set_option linter.unusedVariables false
set_option linter.unusedSimpArgs false
namespace Go.Proofs.YtcjlegjchllgjaaGreat
open Go Go.Fw
set_option maxRecDepth 10000
theorem elSS : ElT Tryz.prog 184 28 1 24 := ⟨Tryz.underlying184, Tryz.t28, .slice none 0 0, by kernel_rfl, by kernel_rfl, by kernel_rfl, by kernel_rfl, rfl⟩
theorem rising2_spec (l m : List Int) (b kc : Nat) (a2 : Option Addr) (c2 n bt cap : Nat) (ow : Option Kd) (H : List Row) (hl : SlE H (some ⟨b, 0, none⟩) cI 1 l) (hm : SlE H a2 cI 1 m) (hn : l.length = n) (h1 : l.length ≤ 1000000) (h2 : m.length ≤ 1000000) (hr : ⟨bt, 0, [.slice (some ⟨b, 0, none⟩) n kc, .slice a2 m.length c2], ow, cap⟩ ∈ H) :
    Fc Tryz.prog 118 [.slice (some ⟨bt, 0, none⟩) 2 2] H (fun v H' => v = .int .i64 ((if grows l then 1 else 0) + (if grows m then 1 else 0)) ∧ H' = H) := by
  subst hn
  have h := rising_spec [⟨some ⟨b, 0, none⟩, l, kc⟩, ⟨a2, m, c2⟩] (some ⟨bt, 0, none⟩) 2 H (SlE.ofRow (cap := cap) (ow := ow) hr (fun _ _ => rfl)) (by simp) (fun t ht => by
    simp only [List.mem_cons, List.not_mem_nil, or_false] at ht
    rcases ht with rfl | rfl
    · exact ⟨hl, h1⟩
    · exact ⟨hm, h2⟩)
  have e : risen [⟨some ⟨b, 0, none⟩, l, kc⟩, ⟨a2, m, c2⟩] = (if grows l then 1 else 0) + (if grows m then 1 else 0) := by
    unfold risen
    simp only [List.filter_cons, List.filter_nil]
    by_cases g1 : grows l <;> by_cases g2 : grows m <;> simp [g1, g2]
  rw [e] at h
  exact h
theorem falls_iff (l : List Int) : grows l.reverse ↔ falls l := by
  have key : ∀ (l : List Int), falls l ↔ ∀ q a b, l[q]? = some a → l[q + 1]? = some b → b ≤ a := by
    intro l
    induction l with
    | nil => simp [falls]
    | cons x l ih =>
      cases l with
      | nil => exact ⟨fun _ q a b _ h2 => by simp at h2, fun _ => trivial⟩
      | cons y l =>
        show (y ≤ x ∧ falls (y :: l)) ↔ _
        rw [ih]
        constructor
        · rintro ⟨h1, h2⟩ q a b ha hb
          cases q with
          | zero => simp at ha hb; subst ha hb; exact h1
          | succ q => exact h2 q a b (by simpa using ha) (by simpa using hb)
        · intro h
          exact ⟨h 0 x y rfl rfl, fun q a b ha hb => h (q + 1) a b (by simpa using ha) (by simpa using hb)⟩
  rw [grows_iff, key]
  constructor
  · intro h q a b ha hb
    have hq := (List.getElem?_eq_some_iff.1 hb).1
    refine h (l.length - 2 - q) b a ?_ ?_
    · rw [List.getElem?_reverse (by omega), show l.length - 1 - (l.length - 2 - q) = q + 1 by omega]; exact hb
    · rw [List.getElem?_reverse (by omega), show l.length - 1 - (l.length - 2 - q + 1) = q by omega]; exact ha
  · intro h q a b ha hb
    have hq := (List.getElem?_eq_some_iff.1 hb).1
    rw [List.length_reverse] at hq
    rw [List.getElem?_reverse (by omega)] at ha hb
    refine h (l.length - 1 - (q + 1)) b a hb ?_
    rw [show l.length - 1 - (q + 1) + 1 = l.length - 1 - q by omega]; exact ha
def tablesOk (T : Tm) : Prop := tab T.G ∧ tab T.S ∧ (falls T.G ∧ grows T.S) ∧ at1 T.G T.g = 0 ∧ at1 T.S T.s = 0
noncomputable instance (T : Tm) : Decidable (tablesOk T) := Classical.propDecidable _
set_option maxHeartbeats 4000000 in
theorem hasTables_spec (T : Tm) (p : Pt) (H : List Row) (hT : TmOk H T p) (hg : 1 ≤ T.g ∧ T.g ≤ 9) (hs : 1 ≤ T.s ∧ T.s ≤ 9) :
    Fc Tryz.prog 84 [.agg (cTm T p).toArray] H (fun v H' => v = .bool (decide (tablesOk T)) ∧ H' = H) := by
  have l1 := hT.l1
  have l2 := hT.l2
  obtain ⟨a1, c1, a2, c2⟩ := p
  refine Fc.mk (callable Tryz.call84) Tryz.func84 rfl Tryz.ntmps84 rfl ?_; dsimp only [fr]
  repeat' (first | (refine XO.op rfl ?_; (first | ((first | refine Xo.ng rfl ?_); (first | (refine Xg.call (EnF.st rfl (Args.cons rfl (Args.cons rfl Args.nil))) rfl rfl (areTables_spec T.G T.S a1 a2 c1 c2 _ (hT.gr.sub (fun _ h => List.Mem.tail _ h)) (hT.st.sub (fun _ h => List.Mem.tail _ h)) l1 l2) ?_; rintro _ H9 ⟨rfl, hH9⟩; subst H9) | (refine Xg.ev (EvF.assign rfl rfl) rfl rfl ?_) | (refine Xg.ev (EvF.not rfl rfl) rfl rfl ?_) | (refine Xg.ev (EvF.fieldAddr rfl rfl (te rfl) rfl (te rfl) (by decide)) rfl rfl ?_) | (refine Xg.ev (EvF.loadV rfl rfl (LoadV.own (te rfl) rfl (List.Mem.head _) rfl)) rfl rfl ?_) | (refine Xg.st (StF.boxAgg rfl rfl) rfl rfl ?_; rintro _ _ ⟨bx, rfl, rfl⟩))))) | (refine XO.done rfl ?_; refine hK _ _ ?_; clear hK K) | refine X.seq rfl ?_ | refine X.region rfl (fun K hK => ?_) | refine X.skip rfl ?_ | refine X.ret rfl ?_ | (refine X.ite rfl rfl (fun hc => ?_); (first | (with_reducible refine Xb.caseN hc (fun h => ?_) (fun h => ?_))) <;> clear hc))
  · refine ret_one (by first | exact .inr rfl | exact .inl rfl) Tryz.results84 rfl (H' := H) (by (repeat (first | exact List.Sublist.refl _ | apply List.Sublist.cons)); done) ?_; simp only [and_true, true_and]
    congr 1; symm
    refine decide_eq_false (fun q => ?_)
    exact h ⟨q.1.1, q.2.1.1, q.1.2, q.2.1.2⟩
  · obtain ⟨g1, g2, g3, g4⟩ := h
    have hG : tab T.G := ⟨g1, g3⟩
    have hS : tab T.S := ⟨g2, g4⟩
    have q1 := at1_get hg g1
    have q2 := at1_get hs g2
    obtain ⟨b1, o1, _, he1, _⟩ := hT.gr.elem (i := 0) (by omega)
    obtain ⟨b2, o2, _, he2, _⟩ := hT.st.elem (i := 0) (by omega)
    simp only at he1 he2
    subst he1 he2
    repeat' (first | (refine XO.op rfl ?_; (first | ((first | refine Xo.ng rfl ?_); (first | (refine Xg.call (EnF.st rfl (Args.cons rfl Args.nil)) rfl rfl (cloneI_spec T.G _ c1 _ (hT.gr.sub (fun _ h => List.Mem.tail _ h)) l1).caps ?_; rintro _ _ ⟨⟨b, kc, rfl, rfl⟩, hcap⟩) | (refine Xg.ev (EvF.move rfl rfl) rfl rfl ?_) | (refine Xg.ev (EvF.assign rfl rfl) rfl rfl ?_))))) | (refine XO.done rfl ?_; refine hK _ _ ?_; clear hK K) | refine X.seq rfl ?_ | refine X.region rfl (fun K hK => ?_))
    have hkc : T.G.length ≤ kc := by
      have := hcap _ _ _ _ _ (List.Mem.head _)
      rw [lenI] at this; omega
    clear hcap
    have hri : ((if grows T.G.reverse then (1 : Int) else 0) + (if grows T.S then 1 else 0) = 2) ↔ (falls T.G ∧ grows T.S) := by
      rw [← falls_iff]; by_cases a : grows T.G.reverse <;> by_cases b : grows T.S <;> simp [a, b]
    have hst : ∀ Z : List Row, SlE (Z ++ H) (some ⟨b2, o2, none⟩) cI 1 T.S := fun Z => hT.st.sub (fun _ h => List.mem_append_right _ h)
    have hgr : ∀ Z : List Row, SlE (Z ++ H) (some ⟨b1, o1, none⟩) cI 1 T.G := fun Z => hT.gr.sub (fun _ h => List.mem_append_right _ h)
    repeat' (first | (refine XO.op rfl ?_; (first | ((first | refine Xo.ng rfl ?_ | (refine Xo.g rfl rfl ?_; with_reducible refine Xw.tt ?_)); (first | (refine Xg.call (EnF.st rfl (Args.cons rfl Args.nil)) rfl rfl (reverse_spec T.G b kc _ l1 hkc) ?_; rintro _ _ rfl) | (refine Xg.st (StF.buildTwo rfl elSS rfl rfl rfl rfl rfl rfl (by decide) (by decide)) rfl rfl ?_; rintro _ _ ⟨bt, rfl, rfl⟩) | (refine Xg.call (EnF.st rfl (Args.cons rfl Args.nil)) rfl rfl (rising2_spec T.G.reverse T.S b kc _ _ _ bt _ _ _ (SlE.ofRow (List.Mem.tail _ (List.Mem.head _)) (fun _ _ => rfl)) (hst [_, _, _]) (by rw [List.length_reverse]) (by rw [List.length_reverse]; omega) l2 (List.Mem.head _)) ?_; rintro _ H9 ⟨rfl, hH9⟩; subst H9) | (refine Xg.ev (EvF.indexSlice rfl rfl rfl (te rfl) (te rfl) (by omega) (by omega)) rfl rfl ?_) | (refine Xg.ev (EvF.loadV rfl rfl (LoadV.el0 (hgr [_, _, _]) q1 (te rfl) rfl (fun _ hm => hm) rfl)) rfl rfl ?_) | (refine Xg.ev (EvF.loadV rfl rfl (LoadV.el0 (hst [_, _, _]) q2 (te rfl) rfl (fun _ hm => hm) rfl)) rfl rfl ?_) | (refine Xg.ev (EvF.move rfl rfl) rfl rfl ?_) | (refine Xg.ev (EvF.assign rfl rfl) rfl rfl ?_) | (refine Xg.ev (EvF.pickT rfl rfl rfl) rfl rfl ?_) | (refine Xg.ev (EvF.pickF rfl rfl rfl) rfl rfl ?_) | (refine Xg.ev (EvF.cmp rfl rfl rfl rfl) rfl rfl ?_) | (refine Xg.ev (EvF.sub64 rfl rfl rfl (by omega) (by omega)) rfl rfl ?_) | (refine Xg.ev (EvF.fieldAddr rfl rfl (te rfl) rfl (te rfl) (by decide)) rfl rfl ?_) | (refine Xg.ev (EvF.loadV rfl rfl (LoadV.own (te rfl) rfl (List.Mem.tail _ (List.Mem.head _)) rfl)) rfl rfl ?_) | (refine Xg.ev (EvF.loadV rfl rfl (LoadV.own (te rfl) rfl (List.Mem.tail _ (List.Mem.tail _ (List.Mem.head _))) rfl)) rfl rfl ?_))) | (refine Xo.g rfl rfl ?_; (first | (with_reducible refine Xw.ft rfl rfl ?_) | (with_reducible refine Xw.case (fun h => ?_) (fun h => ?_) <;> simp only [h, decide_true, decide_false, Bool.not_true, Bool.not_false, and_self, and_true, true_and, and_false, false_and]))))) | (refine XO.done rfl ?_; refine hK _ _ ?_; clear hK K) | refine X.seq rfl ?_ | refine X.region rfl (fun K hK => ?_) | refine X.ret rfl ?_)
    · refine ret_one (by first | exact .inr rfl | exact .inl rfl) Tryz.results84 rfl (H' := H) (by (repeat (first | exact List.Sublist.refl _ | apply List.Sublist.cons)); done) ?_; simp only [and_true, true_and]
      congr 1; exact decide_eq_decide.2 ⟨fun q => ⟨hG, hS, hri.1 (by assumption), by assumption, q⟩, fun q => q.2.2.2.2⟩
    · refine ret_one (by first | exact .inr rfl | exact .inl rfl) Tryz.results84 rfl (H' := H) (by (repeat (first | exact List.Sublist.refl _ | apply List.Sublist.cons)); done) ?_; simp only [and_true, true_and]
      congr 1; symm; exact decide_eq_false (fun q => absurd q.2.2.2.1 (by assumption))
    · refine ret_one (by first | exact .inr rfl | exact .inl rfl) Tryz.results84 rfl (H' := H) (by (repeat (first | exact List.Sublist.refl _ | apply List.Sublist.cons)); done) ?_; simp only [and_true, true_and]
      congr 1; symm; exact decide_eq_false (fun q => absurd (hri.2 q.2.2.1) (by assumption))
theorem leastInvoice_spec (T : Tm) (p : Pt) (H : List Row) (hT : TmOk H T p) (hG : tab T.G) (hS : tab T.S) (hp : -10000000 ≤ T.price ∧ T.price ≤ 10000000) (hg : 1 ≤ T.worst ∧ T.worst ≤ 9) (hs : 1 ≤ T.short ∧ T.short ≤ 9) :
    Fc Tryz.prog 85 [.agg (cTm T p).toArray] H (fun v H' => v = .int .i64 (val T T.worst T.short) ∧ H' = H) := by
  refine Fc.mk (callable Tryz.call85) Tryz.func85 rfl Tryz.ntmps85 rfl ?_; dsimp only [fr]
  repeat' (first | (refine XO.op rfl ?_; (first | ((first | refine Xo.ng rfl ?_); (first | (refine Xg.ev (EvF.assign rfl rfl) rfl rfl ?_) | (refine Xg.st (StF.boxAgg rfl rfl) rfl rfl ?_; rintro _ _ ⟨bx, rfl, rfl⟩))))) | (refine XO.done rfl ?_; refine hK _ _ ?_; clear hK K) | (refine XQ.op rfl ?_; (first | ((first | refine Yo.ng rfl ?_); (first | (refine Yg.ev (EvF.build (cs := cTm T p) rfl (ArgsP.cons rfl ArgsP.nil) (te rfl) (Places.cons (te rfl) Places.nil) Tryz.zeroValue99 rfl) rfl rfl ?_) | (refine Yg.call (EnF.st rfl (Args.cons rfl (Args.cons rfl Args.nil))) rfl rfl (class_spec _ _ _) ?_) | (refine Yg.call (EnF.st rfl (Args.cons rfl (Args.cons rfl Args.nil))) rfl rfl (value_spec T p ⟨T.worst, T.short⟩ _ (hT.sub (fun _ h => List.Mem.tail _ h)) hG hS hp hg hs) ?_) | (refine Yg.ev (EvF.assign rfl rfl) rfl rfl ?_) | (refine Yg.ev (EvF.fieldAddr rfl rfl (te rfl) rfl (te rfl) (by decide)) rfl rfl ?_) | (refine Yg.ev (EvF.loadV rfl rfl (LoadV.own (te rfl) rfl (List.Mem.head _) rfl)) rfl rfl ?_) | (refine Yg.ev (EvF.loadV rfl rfl (LoadV.whole (te rfl) rfl (List.Mem.head _) rfl)) rfl rfl ?_))))) | (refine XQ.done rfl ?_; refine hK _ ?_; clear hK K) | refine X.seq rfl ?_ | refine X.region rfl (fun K hK => ?_) | refine X.regionD rfl mixed (by kernel_rfl) (fun K hK => ?_) | refine X.ret rfl ?_)
  refine ret_one (by first | exact .inr rfl | exact .inl rfl) Tryz.results85 rfl (H' := H) (by (repeat (first | exact List.Sublist.refl _ | apply List.Sublist.cons)); done) ?_; simp only [and_true, true_and]
set_option maxHeartbeats 4000000 in
theorem check_spec (T : Tm) (p : Pt) (H : List Row) (hT : TmOk H T p) :
    Fc Tryz.prog 33 [.agg (cTm T p).toArray] H (fun v H' => v = .int .i64 (if tmOk T then 0 else 40) ∧ H' = H) := by
  have hT1 : ∀ r, TmOk (r :: H) T p := fun r => hT.sub (fun _ h => List.Mem.tail _ h)
  by_cases h1 : (1 ≤ T.g ∧ T.g ≤ 9) ∧ (1 ≤ T.s ∧ T.s ≤ 9) ∧ (T.g ≤ T.worst ∧ T.worst ≤ 9) ∧ (1 ≤ T.short ∧ T.short ≤ T.s)
  · by_cases h2 : (1 ≤ T.price ∧ T.price ≤ 1000000) ∧ (T.dl ≤ T.dh ∧ 0 ≤ T.dl ∧ T.dh ≤ 60) ∧ (1 ≤ T.bales ∧ T.bales ≤ 20) ∧ (0 ≤ T.fee ∧ T.fee ≤ 1000)
    · by_cases h3 : tablesOk T
      · have c1 := hasClasses_spec T p
        have c2 := hasNumbers_spec T p
        have c3 := fun H h => hasTables_spec T p H h h1.1 h1.2.1
        simp only [decide_eq_true h1] at c1
        simp only [decide_eq_true h2] at c2
        simp only [decide_eq_true h3] at c3
        have c4 := fun H h => leastInvoice_spec T p H h h3.1 h3.2.1 (by omega) (by omega) (by omega)
        refine Fc.mk (callable Tryz.call33) Tryz.func33 rfl Tryz.ntmps33 rfl ?_; dsimp only [fr]
        repeat' (first | (refine XO.op rfl ?_; (first | ((first | refine Xo.ng rfl ?_ | (refine Xo.g rfl rfl ?_; with_reducible refine Xw.ff ?_)); (first | (refine Xg.call (EnF.st rfl (Args.cons rfl Args.nil)) rfl rfl (c1 _) ?_; rintro _ H9 ⟨rfl, hH9⟩; subst H9) | (refine Xg.call (EnF.st rfl (Args.cons rfl Args.nil)) rfl rfl (c2 _) ?_; rintro _ H9 ⟨rfl, hH9⟩; subst H9) | (refine Xg.call (EnF.st rfl (Args.cons rfl Args.nil)) rfl rfl (c3 _ (hT1 _)) ?_; rintro _ H9 ⟨rfl, hH9⟩; subst H9) | (refine Xg.call (EnF.st rfl (Args.cons rfl Args.nil)) rfl rfl (c4 _ (hT1 _)) ?_; rintro _ H9 ⟨rfl, hH9⟩; subst H9) | (refine Xg.ev (EvF.move rfl rfl) rfl rfl ?_) | (refine Xg.ev (EvF.assign rfl rfl) rfl rfl ?_) | (refine Xg.ev (EvF.pickT rfl rfl rfl) rfl rfl ?_) | (refine Xg.ev (EvF.pickF rfl rfl rfl) rfl rfl ?_) | (refine Xg.ev (EvF.cmp rfl rfl rfl rfl) rfl rfl ?_) | (refine Xg.ev (EvF.not rfl rfl) rfl rfl ?_) | (refine Xg.ev (EvF.loadV rfl rfl (LoadV.whole (te rfl) rfl (List.Mem.head _) rfl)) rfl rfl ?_) | (refine Xg.st (StF.boxAgg rfl rfl) rfl rfl ?_; rintro _ _ ⟨bx, rfl, rfl⟩))) | (refine Xo.g rfl rfl ?_; (first | (with_reducible refine Xw.tf rfl rfl ?_) | (with_reducible refine Xw.caseB (fun h => ?_) (fun h => ?_) <;> simp only [h, decide_true, decide_false, Bool.not_true, Bool.not_false, and_self, and_true, true_and, and_false, false_and]))))) | (refine XO.done rfl ?_; refine hK _ _ ?_; clear hK K) | refine X.seq rfl ?_ | refine X.region rfl (fun K hK => ?_) | refine X.skip rfl ?_ | refine X.ret rfl ?_ | (refine X.ite rfl rfl (fun hc => ?_); (first | (with_reducible refine Xb.t hc ?_) | (with_reducible refine Xb.case hc (fun h => ?_) (fun h => ?_))) <;> clear hc))
        all_goals try (exfalso; contradiction)
        all_goals refine ret_one (by first | exact .inr rfl | exact .inl rfl) Tryz.results33 rfl (H' := H) (by (repeat (first | exact List.Sublist.refl _ | apply List.Sublist.cons)); done) ?_; simp only [and_true, true_and]
        all_goals first
          | (have hno : ¬ 1 ≤ val T T.worst T.short := by omega
             rw [if_neg (fun q => hno q.least)])
          | rw [if_pos ⟨h1, h2, h3.1, h3.2.1, h3.2.2.1, h3.2.2.2, by omega⟩]
      · have c1 := hasClasses_spec T p
        have c2 := hasNumbers_spec T p
        have c3 := fun H h => hasTables_spec T p H h h1.1 h1.2.1
        simp only [decide_eq_true h1] at c1
        simp only [decide_eq_true h2] at c2
        simp only [decide_eq_false h3] at c3
        refine Fc.mk (callable Tryz.call33) Tryz.func33 rfl Tryz.ntmps33 rfl ?_; dsimp only [fr]
        repeat' (first | (refine XO.op rfl ?_; (first | ((first | refine Xo.ng rfl ?_ | (refine Xo.g rfl rfl ?_; with_reducible refine Xw.ff ?_)); (first | (refine Xg.call (EnF.st rfl (Args.cons rfl Args.nil)) rfl rfl (c1 _) ?_; rintro _ H9 ⟨rfl, hH9⟩; subst H9) | (refine Xg.call (EnF.st rfl (Args.cons rfl Args.nil)) rfl rfl (c2 _) ?_; rintro _ H9 ⟨rfl, hH9⟩; subst H9) | (refine Xg.call (EnF.st rfl (Args.cons rfl Args.nil)) rfl rfl (c3 _ (hT1 _)) ?_; rintro _ H9 ⟨rfl, hH9⟩; subst H9) | (refine Xg.ev (EvF.move rfl rfl) rfl rfl ?_) | (refine Xg.ev (EvF.assign rfl rfl) rfl rfl ?_) | (refine Xg.ev (EvF.pickT rfl rfl rfl) rfl rfl ?_) | (refine Xg.ev (EvF.pickF rfl rfl rfl) rfl rfl ?_) | (refine Xg.ev (EvF.not rfl rfl) rfl rfl ?_) | (refine Xg.ev (EvF.loadV rfl rfl (LoadV.whole (te rfl) rfl (List.Mem.head _) rfl)) rfl rfl ?_) | (refine Xg.st (StF.boxAgg rfl rfl) rfl rfl ?_; rintro _ _ ⟨bx, rfl, rfl⟩))) | (refine Xo.g rfl rfl ?_; (first | (with_reducible refine Xw.tf rfl rfl ?_) | (with_reducible refine Xw.caseB (fun h => ?_) (fun h => ?_) <;> simp only [h, decide_true, decide_false, Bool.not_true, Bool.not_false, and_self, and_true, true_and, and_false, false_and]))))) | (refine XO.done rfl ?_; refine hK _ _ ?_; clear hK K) | refine X.seq rfl ?_ | refine X.region rfl (fun K hK => ?_) | refine X.ret rfl ?_ | (refine X.ite rfl rfl (fun hc => ?_); (first | (with_reducible refine Xb.t hc ?_)) <;> clear hc))
        all_goals try (exfalso; contradiction)
        refine ret_one (by first | exact .inr rfl | exact .inl rfl) Tryz.results33 rfl (H' := H) (by (repeat (first | exact List.Sublist.refl _ | apply List.Sublist.cons)); done) ?_; simp only [and_true, true_and]
        rw [if_neg (fun q => h3 ⟨q.gr, q.st, q.ord, q.zero⟩)]
    · have c1 := hasClasses_spec T p
      have c2 := hasNumbers_spec T p
      simp only [decide_eq_true h1] at c1
      simp only [decide_eq_false h2] at c2
      refine Fc.mk (callable Tryz.call33) Tryz.func33 rfl Tryz.ntmps33 rfl ?_; dsimp only [fr]
      repeat' (first | (refine XO.op rfl ?_; (first | ((first | refine Xo.ng rfl ?_ | (refine Xo.g rfl rfl ?_; with_reducible refine Xw.ff ?_)); (first | (refine Xg.call (EnF.st rfl (Args.cons rfl Args.nil)) rfl rfl (c1 _) ?_; rintro _ H9 ⟨rfl, hH9⟩; subst H9) | (refine Xg.call (EnF.st rfl (Args.cons rfl Args.nil)) rfl rfl (c2 _) ?_; rintro _ H9 ⟨rfl, hH9⟩; subst H9) | (refine Xg.ev (EvF.move rfl rfl) rfl rfl ?_) | (refine Xg.ev (EvF.assign rfl rfl) rfl rfl ?_) | (refine Xg.ev (EvF.pickT rfl rfl rfl) rfl rfl ?_) | (refine Xg.ev (EvF.pickF rfl rfl rfl) rfl rfl ?_) | (refine Xg.ev (EvF.not rfl rfl) rfl rfl ?_) | (refine Xg.ev (EvF.loadV rfl rfl (LoadV.whole (te rfl) rfl (List.Mem.head _) rfl)) rfl rfl ?_) | (refine Xg.st (StF.boxAgg rfl rfl) rfl rfl ?_; rintro _ _ ⟨bx, rfl, rfl⟩))) | (refine Xo.g rfl rfl ?_; (first | (with_reducible refine Xw.tf rfl rfl ?_) | (with_reducible refine Xw.caseB (fun h => ?_) (fun h => ?_) <;> simp only [h, decide_true, decide_false, Bool.not_true, Bool.not_false, and_self, and_true, true_and, and_false, false_and]))))) | (refine XO.done rfl ?_; refine hK _ _ ?_; clear hK K) | refine X.seq rfl ?_ | refine X.region rfl (fun K hK => ?_) | refine X.ret rfl ?_ | (refine X.ite rfl rfl (fun hc => ?_); (first | (with_reducible refine Xb.t hc ?_)) <;> clear hc))
      all_goals try (exfalso; contradiction)
      refine ret_one (by first | exact .inr rfl | exact .inl rfl) Tryz.results33 rfl (H' := H) (by (repeat (first | exact List.Sublist.refl _ | apply List.Sublist.cons)); done) ?_; simp only [and_true, true_and]
      rw [if_neg (fun q => h2 q.num)]
  · have c1 := hasClasses_spec T p
    simp only [decide_eq_false h1] at c1
    refine Fc.mk (callable Tryz.call33) Tryz.func33 rfl Tryz.ntmps33 rfl ?_; dsimp only [fr]
    repeat' (first | (refine XO.op rfl ?_; (first | ((first | refine Xo.ng rfl ?_ | (refine Xo.g rfl rfl ?_; with_reducible refine Xw.ff ?_)); (first | (refine Xg.call (EnF.st rfl (Args.cons rfl Args.nil)) rfl rfl (c1 _) ?_; rintro _ H9 ⟨rfl, hH9⟩; subst H9) | (refine Xg.ev (EvF.move rfl rfl) rfl rfl ?_) | (refine Xg.ev (EvF.assign rfl rfl) rfl rfl ?_) | (refine Xg.ev (EvF.pickT rfl rfl rfl) rfl rfl ?_) | (refine Xg.ev (EvF.not rfl rfl) rfl rfl ?_) | (refine Xg.ev (EvF.loadV rfl rfl (LoadV.whole (te rfl) rfl (List.Mem.head _) rfl)) rfl rfl ?_) | (refine Xg.st (StF.boxAgg rfl rfl) rfl rfl ?_; rintro _ _ ⟨bx, rfl, rfl⟩))) | (refine Xo.g rfl rfl ?_; (first | (with_reducible refine Xw.tf rfl rfl ?_) | (with_reducible refine Xw.caseB (fun h => ?_) (fun h => ?_) <;> simp only [h, decide_true, decide_false, Bool.not_true, Bool.not_false, and_self, and_true, true_and, and_false, false_and]))))) | (refine XO.done rfl ?_; refine hK _ _ ?_; clear hK K) | refine X.seq rfl ?_ | refine X.region rfl (fun K hK => ?_) | refine X.ret rfl ?_ | (refine X.ite rfl rfl (fun hc => ?_); (first | (with_reducible refine Xb.t hc ?_)) <;> clear hc))
    all_goals try (exfalso; contradiction)
    refine ret_one (by first | exact .inr rfl | exact .inl rfl) Tryz.results33 rfl (H' := H) (by (repeat (first | exact List.Sublist.refl _ | apply List.Sublist.cons)); done) ?_; simp only [and_true, true_and]
    rw [if_neg (fun q => h1 q.cls)]
end Go.Proofs.YtcjlegjchllgjaaGreat
end
section
set_option linter.unusedVariables false
set_option linter.unusedSimpArgs false
namespace Go.Proofs.YtcjlegjchllgjaaGreat
open Go Go.Fw
set_option maxRecDepth 10000
/-- a day, with where its tables lie -/
structure Dy where
  price : Int
  G : List Int
  S : List Int
  a1 : Option Addr
  c1 : Nat
  a2 : Option Addr
  c2 : Nat
def cDy (d : Dy) : List Value := [.int .i64 d.price, .slice d.a1 d.G.length d.c1, .slice d.a2 d.S.length d.c2]
structure DyOk (H : List Row) (d : Dy) : Prop where
  gr : SlE H d.a1 cI 1 d.G
  st : SlE H d.a2 cI 1 d.S
  l1 : d.G.length ≤ 1000000
  l2 : d.S.length ≤ 1000000
theorem DyOk.sub {H H' : List Row} {d : Dy} (h : DyOk H d) (hs : ∀ r ∈ H, r ∈ H') : DyOk H' d := ⟨h.gr.sub hs, h.st.sub hs, h.l1, h.l2⟩
/-- what a call is about -/
structure Ab where
  days : List Dy
  lots : List Lo
  months : List Int
  some : List Lo
structure Pa where
  a0 : Option Addr
  c0 : Nat
  a1 : Option Addr
  c1 : Nat
  a2 : Option Addr
  c2 : Nat
  a3 : Option Addr
  c3 : Nat
def cAb (A : Ab) (p : Pa) : List Value := [.slice p.a0 A.days.length p.c0, .slice p.a1 A.lots.length p.c1, .slice p.a2 A.months.length p.c2, .slice p.a3 A.some.length p.c3]
structure AbOk (H : List Row) (A : Ab) (p : Pa) : Prop where
  days : SlE H p.a0 cDy 3 A.days
  lots : SlE H p.a1 cLo 4 A.lots
  months : SlE H p.a2 cI 1 A.months
  some : SlE H p.a3 cLo 4 A.some
  each : ∀ d ∈ A.days, DyOk H d
  l0 : A.days.length ≤ 1000000
  l1 : A.lots.length ≤ 1000000
  l2 : A.months.length ≤ 1000000
  l3 : A.some.length ≤ 1000000
theorem AbOk.sub {H H' : List Row} {A : Ab} {p : Pa} (h : AbOk H A p) (hs : ∀ r ∈ H, r ∈ H') : AbOk H' A p := ⟨h.days.sub hs, h.lots.sub hs, h.months.sub hs, h.some.sub hs, fun d hd => (h.each d hd).sub hs, h.l0, h.l1, h.l2, h.l3⟩
theorem indexFunc_specLo (l : List Lo) (a : Option Addr) (c g : Nat) (p : Lo → Bool) (cap : List Value) (H : List Row) (hl : SlE H a cLo 4 l) (hb : l.length ≤ 9223372036854775807) (hf : ∀ e ∈ l, Fc Tryz.prog g ([.agg (cLo e).toArray] ++ cap) H (fun v H' => v = .bool (p e) ∧ H' = H)) :
    Fc Tryz.prog 140 [.slice a l.length c, .func (.func g) #[] cap.toArray] H (fun v H' => (∃ z, v = .int .i64 z ∧ IdxR p l z) ∧ H' = H) := by
  refine Fc.mk (callable Tryz.call140) Tryz.func140 rfl Tryz.ntmps140 rfl ?_; dsimp only [fr]
  repeat' (first | (refine XO.op rfl ?_; (first | ((first | refine Xo.ng rfl ?_); (first | (refine Xg.ev (EvF.move rfl rfl) rfl rfl ?_) | (refine Xg.ev (EvF.assign rfl rfl) rfl rfl ?_) | (refine Xg.ev (EvF.cmp rfl rfl rfl rfl) rfl rfl ?_) | (refine Xg.ev (EvF.lenSlice rfl rfl (te rfl)) rfl rfl ?_))))) | (refine XO.done rfl ?_; refine hK _ _ ?_; clear hK K) | refine X.seq rfl ?_ | refine X.region rfl (fun K hK => ?_) | refine X.block rfl ?_ | (refine X.brk rfl ?_; repeat (first | refine blockX_hit rfl ?_ | refine blockX_miss (by decide) ?_)) | refine X.skip rfl ?_ | refine X.ret rfl ?_ | (refine X.ite rfl rfl (fun hc => ?_); (first | (with_reducible refine Xb.case hc (fun h => ?_) (fun h => ?_))) <;> clear hc))
  refine X.lp rfl (fun q F' H' => ∃ k : Nat, q = l.length - k ∧ k ≤ l.length ∧ (∀ i e, i < k → l[i]? = some e → p e = false) ∧ H = H' ∧
      F' = [(0, .slice a l.length c), (1, .func (.func g) #[] cap.toArray), (7, .int .i64 l.length), (8, .int .i64 k)])
    l.length [(0, .slice a l.length c), (1, .func (.func g) #[] cap.toArray), (7, .int .i64 l.length), (8, .int .i64 (0 : Nat))] _ (by (repeat (first | exact Sub.nil _ | refine Sub.cons rfl ?_)); done) (by (repeat (first | exact List.Sublist.refl _ | apply List.Sublist.cons_cons | apply List.Sublist.cons)); done) ⟨0, by omega, by omega, (fun i e hi => absurd hi (by omega)), rfl, rfl⟩ ?_
  rintro _ _ H2 ⟨k, rfl, hk, hn, hH, rfl⟩
  subst hH
  repeat' (first | (refine XO.op rfl ?_; (first | ((first | refine Xo.ng rfl ?_); (first | (refine Xg.ev (EvF.move rfl rfl) rfl rfl ?_) | (refine Xg.ev (EvF.assign rfl rfl) rfl rfl ?_) | (refine Xg.ev (EvF.cmp rfl rfl rfl rfl) rfl rfl ?_) | (refine Xg.ev (EvF.lenSlice rfl rfl (te rfl)) rfl rfl ?_))))) | (refine XO.done rfl ?_; refine hK _ _ ?_; clear hK K) | refine X.seq rfl ?_ | refine X.region rfl (fun K hK => ?_) | refine X.block rfl ?_ | (refine X.brk rfl ?_; repeat (first | refine blockX_hit rfl ?_ | refine blockX_miss (by decide) ?_)) | refine X.skip rfl ?_ | refine X.ret rfl ?_ | (refine X.ite rfl rfl (fun hc => ?_); (first | (with_reducible refine Xb.case hc (fun h => ?_) (fun h => ?_))) <;> clear hc))
  · obtain ⟨b, off, e, rfl, he⟩ := hl.elem (i := k) (by omega)
    repeat' (first | (refine XO.op rfl ?_; (first | ((first | refine Xo.ng rfl ?_); (first | (refine Xg.ev (EvF.loadV rfl rfl (LoadV.elA0 hl he (te rfl) rfl (fun _ hm => hm) rfl)) rfl rfl ?_) | (refine Xg.call (EnF.dyn0 rfl rfl (by (repeat (first | exact Args.nil | refine Args.cons rfl ?_)); done)) rfl rfl (hf e (List.mem_of_getElem? he)) ?_; rintro _ H9 ⟨rfl, hH9⟩; subst H9) | (refine Xg.ev (EvF.move rfl rfl) rfl rfl ?_) | (refine Xg.ev (EvF.assign rfl rfl) rfl rfl ?_) | (refine Xg.ev (EvF.add64 rfl rfl rfl (by omega) (by omega)) rfl rfl ?_) | (refine Xg.ev (EvF.indexSlice rfl rfl rfl (te rfl) (te rfl) (by omega) (by omega)) rfl rfl ?_))))) | (refine XO.done rfl ?_; refine hK _ _ ?_; clear hK K) | refine X.seq rfl ?_ | refine X.region rfl (fun K hK => ?_) | refine X.skip rfl ?_ | refine X.ret rfl ?_ | (refine X.ite rfl rfl (fun hc => ?_); (first | (with_reducible refine Xb.caseB hc (fun h => ?_) (fun h => ?_))) <;> clear hc))
    · refine ret_one (by first | exact .inr rfl | exact .inl rfl) Tryz.results140 rfl (H' := H) (by (repeat (first | exact List.Sublist.refl _ | apply List.Sublist.cons)); done) ?_; simp only [and_true, true_and]
      exact ⟨_, rfl, .inr ⟨k, e, rfl, he, by assumption, hn⟩⟩
    · refine ⟨_, _, _, (by (repeat (first | exact Sub.nil _ | refine Sub.cons rfl ?_)); done), (by (repeat (first | exact List.Sublist.refl _ | apply List.Sublist.cons_cons | apply List.Sublist.cons)); done), ⟨k + 1, rfl, by omega, (fun i e' hi he' => ?_), rfl, rfl⟩, by omega⟩
      rcases Nat.lt_or_ge i k with h1 | h1
      · exact hn i e' h1 he'
      · obtain rfl : i = k := by omega
        rw [he] at he'; cases he'; assumption
  · refine ret_one (by first | exact .inr rfl | exact .inl rfl) Tryz.results140 rfl (H' := H) (by (repeat (first | exact List.Sublist.refl _ | apply List.Sublist.cons)); done) ?_; simp only [and_true, true_and]
    refine ⟨_, rfl, .inl ⟨rfl, fun e he => ?_⟩⟩
    obtain ⟨i, hi, rfl⟩ := List.mem_iff_getElem.1 he
    exact hn i _ (by omega) (List.getElem?_eq_getElem hi)
theorem containsFunc_specLo (l : List Lo) (a : Option Addr) (c g : Nat) (p : Lo → Bool) (cap : List Value) (H : List Row) (hl : SlE H a cLo 4 l) (hb : l.length ≤ 9223372036854775807) (hf : ∀ e ∈ l, Fc Tryz.prog g ([.agg (cLo e).toArray] ++ cap) H (fun v H' => v = .bool (p e) ∧ H' = H)) :
    Fc Tryz.prog 136 [.slice a l.length c, .func (.func g) #[] cap.toArray] H (fun v H' => v = .bool (decide (∃ e ∈ l, p e = true)) ∧ H' = H) := by
  refine Fc.mk (callable Tryz.call136) Tryz.func136 rfl Tryz.ntmps136 rfl ?_; dsimp only [fr]
  repeat' (first | (refine XO.op rfl ?_; (first | ((first | refine Xo.ng rfl ?_); (first | (refine Xg.call (EnF.st rfl (Args.cons rfl (Args.cons rfl Args.nil))) rfl rfl (indexFunc_specLo l a c g p cap H hl hb hf) ?_; rintro _ H9 ⟨⟨z, rfl, hz⟩, hH9⟩; subst H9) | (refine Xg.ev (EvF.move rfl rfl) rfl rfl ?_) | (refine Xg.ev (EvF.assign rfl rfl) rfl rfl ?_) | (refine Xg.ev (EvF.cmp rfl rfl rfl rfl) rfl rfl ?_))))) | (refine XO.done rfl ?_; refine hK _ _ ?_; clear hK K) | refine X.seq rfl ?_ | refine X.region rfl (fun K hK => ?_) | refine X.ret rfl ?_)
  refine ret_one (by first | exact .inr rfl | exact .inl rfl) Tryz.results136 rfl (H' := H) (by (repeat (first | exact List.Sublist.refl _ | apply List.Sublist.cons)); done) ?_; simp only [and_true, true_and]
  congr 1
  exact decide_eq_decide.2 hz.ge
theorem indexFunc_specDy (l : List Dy) (a : Option Addr) (c g : Nat) (p : Dy → Bool) (cap : List Value) (H : List Row) (hl : SlE H a cDy 3 l) (hb : l.length ≤ 9223372036854775807) (hf : ∀ e ∈ l, Fc Tryz.prog g ([.agg (cDy e).toArray] ++ cap) H (fun v H' => v = .bool (p e) ∧ H' = H)) :
    Fc Tryz.prog 135 [.slice a l.length c, .func (.func g) #[] cap.toArray] H (fun v H' => (∃ z, v = .int .i64 z ∧ IdxR p l z) ∧ H' = H) := by
  refine Fc.mk (callable Tryz.call135) Tryz.func135 rfl Tryz.ntmps135 rfl ?_; dsimp only [fr]
  repeat' (first | (refine XO.op rfl ?_; (first | ((first | refine Xo.ng rfl ?_); (first | (refine Xg.ev (EvF.move rfl rfl) rfl rfl ?_) | (refine Xg.ev (EvF.assign rfl rfl) rfl rfl ?_) | (refine Xg.ev (EvF.cmp rfl rfl rfl rfl) rfl rfl ?_) | (refine Xg.ev (EvF.lenSlice rfl rfl (te rfl)) rfl rfl ?_))))) | (refine XO.done rfl ?_; refine hK _ _ ?_; clear hK K) | refine X.seq rfl ?_ | refine X.region rfl (fun K hK => ?_) | refine X.block rfl ?_ | (refine X.brk rfl ?_; repeat (first | refine blockX_hit rfl ?_ | refine blockX_miss (by decide) ?_)) | refine X.skip rfl ?_ | refine X.ret rfl ?_ | (refine X.ite rfl rfl (fun hc => ?_); (first | (with_reducible refine Xb.case hc (fun h => ?_) (fun h => ?_))) <;> clear hc))
  refine X.lp rfl (fun q F' H' => ∃ k : Nat, q = l.length - k ∧ k ≤ l.length ∧ (∀ i e, i < k → l[i]? = some e → p e = false) ∧ H = H' ∧
      F' = [(0, .slice a l.length c), (1, .func (.func g) #[] cap.toArray), (7, .int .i64 l.length), (8, .int .i64 k)])
    l.length [(0, .slice a l.length c), (1, .func (.func g) #[] cap.toArray), (7, .int .i64 l.length), (8, .int .i64 (0 : Nat))] _ (by (repeat (first | exact Sub.nil _ | refine Sub.cons rfl ?_)); done) (by (repeat (first | exact List.Sublist.refl _ | apply List.Sublist.cons_cons | apply List.Sublist.cons)); done) ⟨0, by omega, by omega, (fun i e hi => absurd hi (by omega)), rfl, rfl⟩ ?_
  rintro _ _ H2 ⟨k, rfl, hk, hn, hH, rfl⟩
  subst hH
  repeat' (first | (refine XO.op rfl ?_; (first | ((first | refine Xo.ng rfl ?_); (first | (refine Xg.ev (EvF.move rfl rfl) rfl rfl ?_) | (refine Xg.ev (EvF.assign rfl rfl) rfl rfl ?_) | (refine Xg.ev (EvF.cmp rfl rfl rfl rfl) rfl rfl ?_) | (refine Xg.ev (EvF.lenSlice rfl rfl (te rfl)) rfl rfl ?_))))) | (refine XO.done rfl ?_; refine hK _ _ ?_; clear hK K) | refine X.seq rfl ?_ | refine X.region rfl (fun K hK => ?_) | refine X.block rfl ?_ | (refine X.brk rfl ?_; repeat (first | refine blockX_hit rfl ?_ | refine blockX_miss (by decide) ?_)) | refine X.skip rfl ?_ | refine X.ret rfl ?_ | (refine X.ite rfl rfl (fun hc => ?_); (first | (with_reducible refine Xb.case hc (fun h => ?_) (fun h => ?_))) <;> clear hc))
  · obtain ⟨b, off, e, rfl, he⟩ := hl.elem (i := k) (by omega)
    repeat' (first | (refine XO.op rfl ?_; (first | ((first | refine Xo.ng rfl ?_); (first | (refine Xg.ev (EvF.loadV rfl rfl (LoadV.elA0 hl he (te rfl) rfl (fun _ hm => hm) rfl)) rfl rfl ?_) | (refine Xg.call (EnF.dyn0 rfl rfl (by (repeat (first | exact Args.nil | refine Args.cons rfl ?_)); done)) rfl rfl (hf e (List.mem_of_getElem? he)) ?_; rintro _ H9 ⟨rfl, hH9⟩; subst H9) | (refine Xg.ev (EvF.move rfl rfl) rfl rfl ?_) | (refine Xg.ev (EvF.assign rfl rfl) rfl rfl ?_) | (refine Xg.ev (EvF.add64 rfl rfl rfl (by omega) (by omega)) rfl rfl ?_) | (refine Xg.ev (EvF.indexSlice rfl rfl rfl (te rfl) (te rfl) (by omega) (by omega)) rfl rfl ?_))))) | (refine XO.done rfl ?_; refine hK _ _ ?_; clear hK K) | refine X.seq rfl ?_ | refine X.region rfl (fun K hK => ?_) | refine X.skip rfl ?_ | refine X.ret rfl ?_ | (refine X.ite rfl rfl (fun hc => ?_); (first | (with_reducible refine Xb.caseB hc (fun h => ?_) (fun h => ?_))) <;> clear hc))
    · refine ret_one (by first | exact .inr rfl | exact .inl rfl) Tryz.results135 rfl (H' := H) (by (repeat (first | exact List.Sublist.refl _ | apply List.Sublist.cons)); done) ?_; simp only [and_true, true_and]
      exact ⟨_, rfl, .inr ⟨k, e, rfl, he, by assumption, hn⟩⟩
    · refine ⟨_, _, _, (by (repeat (first | exact Sub.nil _ | refine Sub.cons rfl ?_)); done), (by (repeat (first | exact List.Sublist.refl _ | apply List.Sublist.cons_cons | apply List.Sublist.cons)); done), ⟨k + 1, rfl, by omega, (fun i e' hi he' => ?_), rfl, rfl⟩, by omega⟩
      rcases Nat.lt_or_ge i k with h1 | h1
      · exact hn i e' h1 he'
      · obtain rfl : i = k := by omega
        rw [he] at he'; cases he'; assumption
  · refine ret_one (by first | exact .inr rfl | exact .inl rfl) Tryz.results135 rfl (H' := H) (by (repeat (first | exact List.Sublist.refl _ | apply List.Sublist.cons)); done) ?_; simp only [and_true, true_and]
    refine ⟨_, rfl, .inl ⟨rfl, fun e he => ?_⟩⟩
    obtain ⟨i, hi, rfl⟩ := List.mem_iff_getElem.1 he
    exact hn i _ (by omega) (List.getElem?_eq_getElem hi)
theorem containsFunc_specDy (l : List Dy) (a : Option Addr) (c g : Nat) (p : Dy → Bool) (cap : List Value) (H : List Row) (hl : SlE H a cDy 3 l) (hb : l.length ≤ 9223372036854775807) (hf : ∀ e ∈ l, Fc Tryz.prog g ([.agg (cDy e).toArray] ++ cap) H (fun v H' => v = .bool (p e) ∧ H' = H)) :
    Fc Tryz.prog 109 [.slice a l.length c, .func (.func g) #[] cap.toArray] H (fun v H' => v = .bool (decide (∃ e ∈ l, p e = true)) ∧ H' = H) := by
  refine Fc.mk (callable Tryz.call109) Tryz.func109 rfl Tryz.ntmps109 rfl ?_; dsimp only [fr]
  repeat' (first | (refine XO.op rfl ?_; (first | ((first | refine Xo.ng rfl ?_); (first | (refine Xg.call (EnF.st rfl (Args.cons rfl (Args.cons rfl Args.nil))) rfl rfl (indexFunc_specDy l a c g p cap H hl hb hf) ?_; rintro _ H9 ⟨⟨z, rfl, hz⟩, hH9⟩; subst H9) | (refine Xg.ev (EvF.move rfl rfl) rfl rfl ?_) | (refine Xg.ev (EvF.assign rfl rfl) rfl rfl ?_) | (refine Xg.ev (EvF.cmp rfl rfl rfl rfl) rfl rfl ?_))))) | (refine XO.done rfl ?_; refine hK _ _ ?_; clear hK K) | refine X.seq rfl ?_ | refine X.region rfl (fun K hK => ?_) | refine X.ret rfl ?_)
  refine ret_one (by first | exact .inr rfl | exact .inl rfl) Tryz.results109 rfl (H' := H) (by (repeat (first | exact List.Sublist.refl _ | apply List.Sublist.cons)); done) ?_; simp only [and_true, true_and]
  congr 1
  exact decide_eq_decide.2 hz.ge
def partOk (a b : Int) : Prop := a ≤ b ∧ (1 ≤ a ∧ a ≤ 9) ∧ (1 ≤ b ∧ b ≤ 9)
instance (a b : Int) : Decidable (partOk a b) := by unfold partOk; infer_instance
theorem areGrades1_spec (l : Lo) (H : List Row) : Fc Tryz.prog 137 ([.agg (cLo l).toArray] ++ []) H (fun v H' => v = .bool (!decide (partOk l.g1 l.g2)) ∧ H' = H) := by
  show Fc Tryz.prog 137 [.agg (cLo l).toArray] H _
  refine Fc.mk (callable Tryz.call137) Tryz.func137 rfl Tryz.ntmps137 rfl ?_; dsimp only [fr]
  repeat' (first | (refine XO.op rfl ?_; (first | ((first | refine Xo.ng rfl ?_); (first | (refine Xg.call (EnF.st rfl (Args.cons rfl (Args.cons rfl (Args.cons rfl Args.nil)))) rfl rfl (part_spec ⟨l.g1, l.g2⟩ _ _ _) ?_; rintro _ H9 ⟨rfl, hH9⟩; subst H9) | (refine Xg.ev (EvF.loadV rfl rfl (LoadV.ownAgg (vs := cSp ⟨l.g1, l.g2⟩) (te rfl) rfl (List.Mem.head _) rfl rfl)) rfl rfl ?_) | (refine Xg.ev (EvF.assign rfl rfl) rfl rfl ?_) | (refine Xg.ev (EvF.not rfl rfl) rfl rfl ?_) | (refine Xg.ev (EvF.fieldAddr rfl rfl (te rfl) rfl (te rfl) (by decide)) rfl rfl ?_) | (refine Xg.st (StF.boxAgg rfl rfl) rfl rfl ?_; rintro _ _ ⟨bx, rfl, rfl⟩))))) | (refine XO.done rfl ?_; refine hK _ _ ?_; clear hK K) | refine X.seq rfl ?_ | refine X.region rfl (fun K hK => ?_) | refine X.ret rfl ?_)
  refine ret_one (by first | exact .inr rfl | exact .inl rfl) Tryz.results137 rfl (H' := H) (by (repeat (first | exact List.Sublist.refl _ | apply List.Sublist.cons)); done) ?_; simp only [and_true, true_and]
  rfl
theorem areStaples1_spec (l : Lo) (H : List Row) : Fc Tryz.prog 138 ([.agg (cLo l).toArray] ++ []) H (fun v H' => v = .bool (!decide (partOk l.s1 l.s2)) ∧ H' = H) := by
  show Fc Tryz.prog 138 [.agg (cLo l).toArray] H _
  refine Fc.mk (callable Tryz.call138) Tryz.func138 rfl Tryz.ntmps138 rfl ?_; dsimp only [fr]
  repeat' (first | (refine XO.op rfl ?_; (first | ((first | refine Xo.ng rfl ?_); (first | (refine Xg.call (EnF.st rfl (Args.cons rfl (Args.cons rfl (Args.cons rfl Args.nil)))) rfl rfl (part_spec ⟨l.s1, l.s2⟩ _ _ _) ?_; rintro _ H9 ⟨rfl, hH9⟩; subst H9) | (refine Xg.ev (EvF.loadV rfl rfl (LoadV.ownAgg (vs := cSp ⟨l.s1, l.s2⟩) (te rfl) rfl (List.Mem.head _) rfl rfl)) rfl rfl ?_) | (refine Xg.ev (EvF.assign rfl rfl) rfl rfl ?_) | (refine Xg.ev (EvF.not rfl rfl) rfl rfl ?_) | (refine Xg.ev (EvF.fieldAddr rfl rfl (te rfl) rfl (te rfl) (by decide)) rfl rfl ?_) | (refine Xg.st (StF.boxAgg rfl rfl) rfl rfl ?_; rintro _ _ ⟨bx, rfl, rfl⟩))))) | (refine XO.done rfl ?_; refine hK _ _ ?_; clear hK K) | refine X.seq rfl ?_ | refine X.region rfl (fun K hK => ?_) | refine X.ret rfl ?_)
  refine ret_one (by first | exact .inr rfl | exact .inl rfl) Tryz.results138 rfl (H' := H) (by (repeat (first | exact List.Sublist.refl _ | apply List.Sublist.cons)); done) ?_; simp only [and_true, true_and]
  rfl
def inb (l : Lo) : Prop := (1 ≤ l.g1 ∧ l.g1 ≤ 9) ∧ (1 ≤ l.g2 ∧ l.g2 ≤ 9) ∧ (1 ≤ l.s1 ∧ l.s1 ≤ 9) ∧ (1 ≤ l.s2 ∧ l.s2 ≤ 9)
theorem flatMap_le {α β : Type} {f : α → List β} {n : Nat} : ∀ (l : List α), (∀ x ∈ l, (f x).length ≤ n) → (l.flatMap f).length ≤ l.length * n
  | [], _ => by simp
  | x :: l, h => by
    rw [List.flatMap_cons, List.length_append, List.length_cons, Nat.succ_mul]
    have := flatMap_le l (fun y hy => h y (List.mem_cons_of_mem _ hy))
    have := h x List.mem_cons_self
    omega
theorem cls_len (T : Tm) {l : Lo} (h : inb l) : (cls T l).length ≤ 81 := by
  unfold inb at h
  have h1 : (cls T l).length ≤ (ir l.g1 l.g2).length * 9 := flatMap_le _ (fun g _ => by
    unfold rowC
    refine Nat.le_trans (List.length_filter_le _ _) ?_
    rw [List.length_map, ir_len]; omega)
  rw [ir_len] at h1
  have : (l.g2 - l.g1 + 1).toNat ≤ 9 := by omega
  have := Nat.mul_le_mul_right 9 this
  omega
theorem allowSome1_spec (T : Tm) (p : Pt) (l : Lo) (b cap : Nat) (ow : Option Kd) (H : List Row) (hm : ⟨b, 0, cTm T p, ow, cap⟩ ∈ H) (h : inb l) : Fc Tryz.prog 139 ([.agg (cLo l).toArray] ++ [.pointer (some ⟨b, 0, none⟩)]) H (fun v H' => v = .bool (decide ((cls T l).length = 0)) ∧ H' = H) := by
  show Fc Tryz.prog 139 [.agg (cLo l).toArray, .pointer (some ⟨b, 0, none⟩)] H _
  have hc := cls_len T h
  refine Fc.mk (callable Tryz.call139) Tryz.func139 rfl Tryz.ntmps139 rfl ?_; dsimp only [fr]
  repeat' (first | (refine XO.op rfl ?_; (first | ((first | refine Xo.ng rfl ?_); (first | (refine Xg.ev (EvF.loadV rfl rfl (LoadV.whole (te rfl) rfl (List.Mem.tail _ hm) rfl)) rfl rfl ?_) | (refine Xg.ev (EvF.build (cs := cTm T p) rfl (ArgsP.cons rfl ArgsP.nil) (te rfl) (Places.cons (te rfl) Places.nil) Tryz.zeroValue99 rfl) rfl rfl ?_) | (refine Xg.call (EnF.st rfl (Args.cons rfl (Args.cons rfl Args.nil))) rfl rfl (count_spec T p l _ h (by omega)) ?_; rintro _ H9 ⟨rfl, hH9⟩; subst H9) | (refine Xg.ev (EvF.assign rfl rfl) rfl rfl ?_) | (refine Xg.ev (EvF.cmp rfl rfl rfl rfl) rfl rfl ?_) | (refine Xg.ev (EvF.loadV rfl rfl (LoadV.whole (te rfl) rfl (List.Mem.head _) rfl)) rfl rfl ?_) | (refine Xg.st (StF.boxAgg rfl rfl) rfl rfl ?_; rintro _ _ ⟨bx, rfl, rfl⟩))))) | (refine XO.done rfl ?_; refine hK _ _ ?_; clear hK K) | refine X.seq rfl ?_ | refine X.region rfl (fun K hK => ?_) | refine X.ret rfl ?_)
  refine ret_one (by first | exact .inr rfl | exact .inl rfl) Tryz.results139 rfl (H' := H) (by (repeat (first | exact List.Sublist.refl _ | apply List.Sublist.cons)); done) ?_; simp only [and_true, true_and]
  simp
end Go.Proofs.YtcjlegjchllgjaaGreat
end
section
set_option linter.unusedVariables false
set_option linter.unusedSimpArgs false
namespace Go.Proofs.YtcjlegjchllgjaaGreat
open Go Go.Fw
set_option maxRecDepth 10000
def dayOk (d : Dy) : Prop := (0 ≤ d.price ∧ d.price ≤ 1000000) ∧ tab d.G ∧ tab d.S ∧ ∀ g s, 1 ≤ g ∧ g ≤ 9 → 1 ≤ s ∧ s ≤ 9 → 0 ≤ d.price + at1 d.G g + at1 d.S s
noncomputable instance (d : Dy) : Decidable (dayOk d) := Classical.propDecidable _
def askD (A : Ab) : Prop := ∀ d ∈ A.days, dayOk d
def askG (A : Ab) : Prop := ∀ l ∈ A.lots, partOk l.g1 l.g2
def askS (A : Ab) : Prop := ∀ l ∈ A.lots, partOk l.s1 l.s2
def askM (A : Ab) : Prop := ∀ n ∈ A.months, 0 ≤ n ∧ n ≤ 60
def askN (T : Tm) (A : Ab) : Prop := ∀ l ∈ A.some, (cls T l).length ≠ 0
noncomputable instance (A : Ab) : Decidable (askD A) := Classical.propDecidable _
noncomputable instance (A : Ab) : Decidable (askG A) := Classical.propDecidable _
noncomputable instance (A : Ab) : Decidable (askS A) := Classical.propDecidable _
noncomputable instance (A : Ab) : Decidable (askM A) := Classical.propDecidable _
noncomputable instance (T : Tm) (A : Ab) : Decidable (askN T A) := Classical.propDecidable _
theorem areValid_spec (T : Tm) (p : Pt) (A : Ab) (q : Pa) (H : List Row) (hT : TmOk H T p) : Fc Tryz.prog 121 ([.agg (cTm T p).toArray, .agg (cAb A q).toArray] ++ []) H (fun v H' => v = .bool (decide (tmOk T)) ∧ H' = H) := by
  show Fc Tryz.prog 121 [.agg (cTm T p).toArray, .agg (cAb A q).toArray] H _
  refine Fc.mk (callable Tryz.call121) Tryz.func121 rfl Tryz.ntmps121 rfl ?_; dsimp only [fr]
  repeat' (first | (refine XO.op rfl ?_; (first | ((first | refine Xo.ng rfl ?_); (first | (refine Xg.call (EnF.st rfl (Args.cons rfl Args.nil)) rfl rfl (check_spec T p _ (hT.sub (fun _ h => List.Mem.tail _ (List.Mem.tail _ h)))) ?_; rintro _ H9 ⟨rfl, hH9⟩; subst H9) | (refine Xg.ev (EvF.assign rfl rfl) rfl rfl ?_) | (refine Xg.ev (EvF.cmp rfl rfl rfl rfl) rfl rfl ?_) | (refine Xg.ev (EvF.loadV rfl rfl (LoadV.whole (te rfl) rfl (List.Mem.tail _ (List.Mem.head _)) rfl)) rfl rfl ?_) | (refine Xg.st (StF.boxAgg rfl rfl) rfl rfl ?_; rintro _ _ ⟨bx, rfl, rfl⟩))))) | (refine XO.done rfl ?_; refine hK _ _ ?_; clear hK K) | refine X.seq rfl ?_ | refine X.region rfl (fun K hK => ?_) | refine X.ret rfl ?_)
  refine ret_one (by first | exact .inr rfl | exact .inl rfl) Tryz.results121 rfl (H' := H) (by (repeat (first | exact List.Sublist.refl _ | apply List.Sublist.cons)); done) ?_; simp only [and_true, true_and]
  congr 1
  by_cases h : tmOk T <;> simp [h]
theorem areDays_spec (T : Tm) (p : Pt) (A : Ab) (q : Pa) (H : List Row) (hA : AbOk H A q) (hd : ∀ d ∈ A.days, ∀ H', DyOk H' d → Fc Tryz.prog 110 ([.agg (cDy d).toArray] ++ []) H' (fun v H'' => v = .bool (!decide (dayOk d)) ∧ H'' = H')) : Fc Tryz.prog 77 ([.agg (cTm T p).toArray, .agg (cAb A q).toArray] ++ []) H (fun v H' => v = .bool (decide (askD A)) ∧ H' = H) := by
  show Fc Tryz.prog 77 [.agg (cTm T p).toArray, .agg (cAb A q).toArray] H _
  refine Fc.mk (callable Tryz.call77) Tryz.func77 rfl Tryz.ntmps77 rfl ?_; dsimp only [fr]
  repeat' (first | (refine XO.op rfl ?_; (first | ((first | refine Xo.ng rfl ?_); (first | (refine Xg.call (EnF.st rfl (Args.cons rfl (Args.cons rfl Args.nil))) rfl rfl (containsFunc_specDy A.days q.a0 q.c0 _ _ [] _ (hA.days.sub (fun _ h => List.Mem.tail _ (List.Mem.tail _ h))) (by have := hA.l0; omega) (fun e he => hd e he _ ((hA.each e he).sub (fun _ h => List.Mem.tail _ (List.Mem.tail _ h))))) ?_; rintro _ H9 ⟨rfl, hH9⟩; subst H9) | (refine Xg.ev (EvF.assign rfl rfl) rfl rfl ?_) | (refine Xg.ev (EvF.not rfl rfl) rfl rfl ?_) | (refine Xg.ev (EvF.fieldAddr rfl rfl (te rfl) rfl (te rfl) (by decide)) rfl rfl ?_) | (refine Xg.ev (EvF.loadV rfl rfl (LoadV.own (te rfl) rfl (List.Mem.head _) rfl)) rfl rfl ?_) | (refine Xg.st (StF.boxAgg rfl rfl) rfl rfl ?_; rintro _ _ ⟨bx, rfl, rfl⟩))))) | (refine XO.done rfl ?_; refine hK _ _ ?_; clear hK K) | refine X.seq rfl ?_ | refine X.region rfl (fun K hK => ?_) | refine X.ret rfl ?_)
  refine ret_one (by first | exact .inr rfl | exact .inl rfl) Tryz.results77 rfl (H' := H) (by (repeat (first | exact List.Sublist.refl _ | apply List.Sublist.cons)); done) ?_; simp only [and_true, true_and]
  exact congrArg _ (all_dec (fun e => by simp) Iff.rfl)
theorem areGrades_spec (T : Tm) (p : Pt) (A : Ab) (q : Pa) (H : List Row) (hA : AbOk H A q) : Fc Tryz.prog 122 ([.agg (cTm T p).toArray, .agg (cAb A q).toArray] ++ []) H (fun v H' => v = .bool (decide (askG A)) ∧ H' = H) := by
  show Fc Tryz.prog 122 [.agg (cTm T p).toArray, .agg (cAb A q).toArray] H _
  refine Fc.mk (callable Tryz.call122) Tryz.func122 rfl Tryz.ntmps122 rfl ?_; dsimp only [fr]
  repeat' (first | (refine XO.op rfl ?_; (first | ((first | refine Xo.ng rfl ?_); (first | (refine Xg.call (EnF.st rfl (Args.cons rfl (Args.cons rfl Args.nil))) rfl rfl (containsFunc_specLo A.lots q.a1 q.c1 _ _ [] _ (hA.lots.sub (fun _ h => List.Mem.tail _ (List.Mem.tail _ h))) (by have := hA.l1; omega) (fun e he => areGrades1_spec e _)) ?_; rintro _ H9 ⟨rfl, hH9⟩; subst H9) | (refine Xg.ev (EvF.assign rfl rfl) rfl rfl ?_) | (refine Xg.ev (EvF.not rfl rfl) rfl rfl ?_) | (refine Xg.ev (EvF.fieldAddr rfl rfl (te rfl) rfl (te rfl) (by decide)) rfl rfl ?_) | (refine Xg.ev (EvF.loadV rfl rfl (LoadV.own (te rfl) rfl (List.Mem.head _) rfl)) rfl rfl ?_) | (refine Xg.st (StF.boxAgg rfl rfl) rfl rfl ?_; rintro _ _ ⟨bx, rfl, rfl⟩))))) | (refine XO.done rfl ?_; refine hK _ _ ?_; clear hK K) | refine X.seq rfl ?_ | refine X.region rfl (fun K hK => ?_) | refine X.ret rfl ?_)
  refine ret_one (by first | exact .inr rfl | exact .inl rfl) Tryz.results122 rfl (H' := H) (by (repeat (first | exact List.Sublist.refl _ | apply List.Sublist.cons)); done) ?_; simp only [and_true, true_and]
  exact congrArg _ (all_dec (fun e => by simp) Iff.rfl)
theorem areStaples_spec (T : Tm) (p : Pt) (A : Ab) (q : Pa) (H : List Row) (hA : AbOk H A q) : Fc Tryz.prog 123 ([.agg (cTm T p).toArray, .agg (cAb A q).toArray] ++ []) H (fun v H' => v = .bool (decide (askS A)) ∧ H' = H) := by
  show Fc Tryz.prog 123 [.agg (cTm T p).toArray, .agg (cAb A q).toArray] H _
  refine Fc.mk (callable Tryz.call123) Tryz.func123 rfl Tryz.ntmps123 rfl ?_; dsimp only [fr]
  repeat' (first | (refine XO.op rfl ?_; (first | ((first | refine Xo.ng rfl ?_); (first | (refine Xg.call (EnF.st rfl (Args.cons rfl (Args.cons rfl Args.nil))) rfl rfl (containsFunc_specLo A.lots q.a1 q.c1 _ _ [] _ (hA.lots.sub (fun _ h => List.Mem.tail _ (List.Mem.tail _ h))) (by have := hA.l1; omega) (fun e he => areStaples1_spec e _)) ?_; rintro _ H9 ⟨rfl, hH9⟩; subst H9) | (refine Xg.ev (EvF.assign rfl rfl) rfl rfl ?_) | (refine Xg.ev (EvF.not rfl rfl) rfl rfl ?_) | (refine Xg.ev (EvF.fieldAddr rfl rfl (te rfl) rfl (te rfl) (by decide)) rfl rfl ?_) | (refine Xg.ev (EvF.loadV rfl rfl (LoadV.own (te rfl) rfl (List.Mem.head _) rfl)) rfl rfl ?_) | (refine Xg.st (StF.boxAgg rfl rfl) rfl rfl ?_; rintro _ _ ⟨bx, rfl, rfl⟩))))) | (refine XO.done rfl ?_; refine hK _ _ ?_; clear hK K) | refine X.seq rfl ?_ | refine X.region rfl (fun K hK => ?_) | refine X.ret rfl ?_)
  refine ret_one (by first | exact .inr rfl | exact .inl rfl) Tryz.results123 rfl (H' := H) (by (repeat (first | exact List.Sublist.refl _ | apply List.Sublist.cons)); done) ?_; simp only [and_true, true_and]
  exact congrArg _ (all_dec (fun e => by simp) Iff.rfl)
theorem areMonths_spec (T : Tm) (p : Pt) (A : Ab) (q : Pa) (H : List Row) (hA : AbOk H A q) : Fc Tryz.prog 124 ([.agg (cTm T p).toArray, .agg (cAb A q).toArray] ++ []) H (fun v H' => v = .bool (decide (askM A)) ∧ H' = H) := by
  show Fc Tryz.prog 124 [.agg (cTm T p).toArray, .agg (cAb A q).toArray] H _
  refine Fc.mk (callable Tryz.call124) Tryz.func124 rfl Tryz.ntmps124 rfl ?_; dsimp only [fr]
  repeat' (first | (refine XO.op rfl ?_; (first | ((first | refine Xo.ng rfl ?_); (first | (refine Xg.ev (EvF.build (cs := cSp ⟨0, 60⟩) rfl (ArgsP.cons rfl (ArgsP.cons rfl ArgsP.nil)) (te rfl) (Places.cons (te rfl) (Places.cons (te rfl) Places.nil)) Tryz.zeroValue30 rfl) rfl rfl ?_) | (refine Xg.call (EnF.st rfl (Args.cons rfl (Args.cons rfl Args.nil))) rfl rfl (withinL_spec ⟨0, 60⟩ A.months q.a2 q.c2 _ (hA.months.sub (fun _ h => List.Mem.tail _ (List.Mem.tail _ h))) (by have := hA.l2; omega)) ?_; rintro _ H9 ⟨rfl, hH9⟩; subst H9) | (refine Xg.ev (EvF.assign rfl rfl) rfl rfl ?_) | (refine Xg.ev (EvF.fieldAddr rfl rfl (te rfl) rfl (te rfl) (by decide)) rfl rfl ?_) | (refine Xg.ev (EvF.loadV rfl rfl (LoadV.own (te rfl) rfl (List.Mem.head _) rfl)) rfl rfl ?_) | (refine Xg.st (StF.boxAgg rfl rfl) rfl rfl ?_; rintro _ _ ⟨bx, rfl, rfl⟩))))) | (refine XO.done rfl ?_; refine hK _ _ ?_; clear hK K) | refine X.seq rfl ?_ | refine X.region rfl (fun K hK => ?_) | refine X.ret rfl ?_)
  refine ret_one (by first | exact .inr rfl | exact .inl rfl) Tryz.results124 rfl (H' := H) (by (repeat (first | exact List.Sublist.refl _ | apply List.Sublist.cons)); done) ?_; simp only [and_true, true_and]
  exact congrArg _ (decide_eq_decide.2 Iff.rfl)
theorem allowSome_spec (T : Tm) (p : Pt) (A : Ab) (q : Pa) (H : List Row) (hA : AbOk H A q) (hi : ∀ l ∈ A.some, inb l) : Fc Tryz.prog 125 ([.agg (cTm T p).toArray, .agg (cAb A q).toArray] ++ []) H (fun v H' => v = .bool (decide (askN T A)) ∧ H' = H) := by
  show Fc Tryz.prog 125 [.agg (cTm T p).toArray, .agg (cAb A q).toArray] H _
  refine Fc.mk (callable Tryz.call125) Tryz.func125 rfl Tryz.ntmps125 rfl ?_; dsimp only [fr]
  repeat' (first | (refine XO.op rfl ?_; (first | ((first | refine Xo.ng rfl ?_); (first | (refine Xg.ev (EvF.makeFunc rfl Args.nil (Args.cons rfl Args.nil)) rfl rfl ?_) | (refine Xg.call (EnF.st rfl (Args.cons rfl (Args.cons rfl Args.nil))) rfl rfl (containsFunc_specLo A.some q.a3 q.c3 _ (fun l => decide ((cls T l).length = 0)) [_] _ (hA.some.sub (fun _ h => List.Mem.tail _ (List.Mem.tail _ h))) (by have := hA.l3; omega) (fun e he => allowSome1_spec T p e _ _ _ _ (List.Mem.tail _ (List.Mem.head _)) (hi e he))) ?_; rintro _ H9 ⟨rfl, hH9⟩; subst H9) | (refine Xg.ev (EvF.assign rfl rfl) rfl rfl ?_) | (refine Xg.ev (EvF.not rfl rfl) rfl rfl ?_) | (refine Xg.ev (EvF.fieldAddr rfl rfl (te rfl) rfl (te rfl) (by decide)) rfl rfl ?_) | (refine Xg.ev (EvF.loadV rfl rfl (LoadV.own (te rfl) rfl (List.Mem.head _) rfl)) rfl rfl ?_) | (refine Xg.st (StF.boxAgg rfl rfl) rfl rfl ?_; rintro _ _ ⟨bx, rfl, rfl⟩))))) | (refine XO.done rfl ?_; refine hK _ _ ?_; clear hK K) | refine X.seq rfl ?_ | refine X.region rfl (fun K hK => ?_) | refine X.ret rfl ?_)
  refine ret_one (by first | exact .inr rfl | exact .inl rfl) Tryz.results125 rfl (H' := H) (by (repeat (first | exact List.Sublist.refl _ | apply List.Sublist.cons)); done) ?_; simp only [and_true, true_and]
  exact congrArg _ (all_dec (fun e => by simp) Iff.rfl)
/-- a question and its error -/
structure Qn where
  f : Nat
  e : Int
def cQn (q : Qn) : List Value := [.func (.func q.f) #[] #[], .int .i64 q.e]
def qs6 : List Qn := [⟨121, 40⟩, ⟨77, 43⟩, ⟨122, 41⟩, ⟨123, 42⟩, ⟨124, 44⟩, ⟨125, 6⟩]
def cQ6 : List Value := qs6.flatMap cQn
theorem questions_spec (H : List Row) : Fc Tryz.prog 93 [] H (fun v H' => v = .agg cQ6.toArray ∧ H' = H) := by
  refine Fc.mk (callable Tryz.call93) Tryz.func93 rfl Tryz.ntmps93 rfl ?_; dsimp only [fr]
  repeat' (first | (refine XO.op rfl ?_; (first | ((first | refine Xo.ng rfl ?_); (first | (refine Xg.ev (EvF.build (cs := cQn ⟨121, 40⟩) rfl (ArgsP.cons rfl (ArgsP.cons rfl ArgsP.nil)) (te rfl) (Places.cons (te rfl) (Places.cons (te rfl) Places.nil)) Tryz.zeroValue146 rfl) rfl rfl ?_) | (refine Xg.ev (EvF.build (cs := cQn ⟨77, 43⟩) rfl (ArgsP.cons rfl (ArgsP.cons rfl ArgsP.nil)) (te rfl) (Places.cons (te rfl) (Places.cons (te rfl) Places.nil)) Tryz.zeroValue146 rfl) rfl rfl ?_) | (refine Xg.ev (EvF.build (cs := cQn ⟨122, 41⟩) rfl (ArgsP.cons rfl (ArgsP.cons rfl ArgsP.nil)) (te rfl) (Places.cons (te rfl) (Places.cons (te rfl) Places.nil)) Tryz.zeroValue146 rfl) rfl rfl ?_) | (refine Xg.ev (EvF.build (cs := cQn ⟨123, 42⟩) rfl (ArgsP.cons rfl (ArgsP.cons rfl ArgsP.nil)) (te rfl) (Places.cons (te rfl) (Places.cons (te rfl) Places.nil)) Tryz.zeroValue146 rfl) rfl rfl ?_) | (refine Xg.ev (EvF.build (cs := cQn ⟨124, 44⟩) rfl (ArgsP.cons rfl (ArgsP.cons rfl ArgsP.nil)) (te rfl) (Places.cons (te rfl) (Places.cons (te rfl) Places.nil)) Tryz.zeroValue146 rfl) rfl rfl ?_) | (refine Xg.ev (EvF.build (cs := cQn ⟨125, 6⟩) rfl (ArgsP.cons rfl (ArgsP.cons rfl ArgsP.nil)) (te rfl) (Places.cons (te rfl) (Places.cons (te rfl) Places.nil)) Tryz.zeroValue146 rfl) rfl rfl ?_) | (refine Xg.ev (EvF.buildArr (cs := cQ6) rfl (ArgsP.cons rfl (ArgsP.cons rfl (ArgsP.cons rfl (ArgsP.cons rfl (ArgsP.cons rfl (ArgsP.cons rfl ArgsP.nil)))))) (te rfl) (te rfl) Tryz.zeroValue147 rfl) rfl rfl ?_) | (refine Xg.st (StF.alloc rfl Tryz.zeroValue147 rfl) rfl rfl ?_; rintro _ _ ⟨bx, rfl, rfl⟩) | (refine Xg.st0 (StF.storeAll (i := 0) rfl rfl rfl (te rfl) rfl rfl rfl rfl) rfl ?_; rintro _ _ ⟨rfl, rfl⟩; dsimp only [List.set]))))) | (refine XO.done rfl ?_; refine hK _ _ ?_; clear hK K) | refine X.seq rfl ?_ | refine X.region rfl (fun K hK => ?_) | refine X.ret rfl ?_)
  exact ret_one (by first | exact .inr rfl | exact .inl rfl) Tryz.results93 ⟨_, rfl, LoadV.whole (te rfl) rfl (List.Mem.head _) rfl⟩ (H' := H) (by (repeat (first | exact List.Sublist.refl _ | apply List.Sublist.cons)); done) ⟨rfl, rfl⟩
set_option maxHeartbeats 4000000 in
theorem asked_spec (T : Tm) (p : Pt) (A : Ab) (q : Pa) (qs : List Qn) (a : Option Addr) (c : Nat) (ok : Nat → Bool) (H : List Row) (hq : SlE H a cQn 2 qs) (hb : qs.length ≤ 1000)
    (hf : ∀ k x, qs[k]? = some x → (∀ j, j < k → ok j = true) → ∀ Z : List Row, Fc Tryz.prog x.f ([.agg (cTm T p).toArray, .agg (cAb A q).toArray] ++ []) (Z ++ H) (fun v H' => v = .bool (ok k) ∧ H' = Z ++ H)) :
    Fc Tryz.prog 94 [.agg (cTm T p).toArray, .agg (cAb A q).toArray, .slice a qs.length c] H (fun v H' => ((v = .int .i64 0 ∧ ∀ j, j < qs.length → ok j = true) ∨ ∃ k x, qs[k]? = some x ∧ ok k = false ∧ (∀ j, j < k → ok j = true) ∧ v = .int .i64 x.e) ∧ H' = H) := by
  refine Fc.mk (callable Tryz.call94) Tryz.func94 rfl Tryz.ntmps94 rfl ?_; dsimp only [fr]
  repeat' (first | (refine XO.op rfl ?_; (first | ((first | refine Xo.ng rfl ?_); (first | (refine Xg.ev (EvF.move rfl rfl) rfl rfl ?_) | (refine Xg.ev (EvF.assign rfl rfl) rfl rfl ?_) | (refine Xg.ev (EvF.cmp rfl rfl rfl rfl) rfl rfl ?_) | (refine Xg.ev (EvF.lenSlice rfl rfl (te rfl)) rfl rfl ?_) | (refine Xg.st (StF.boxAgg rfl rfl) rfl rfl ?_; rintro _ _ ⟨bx, rfl, rfl⟩))))) | (refine XO.done rfl ?_; refine hK _ _ ?_; clear hK K) | refine X.seq rfl ?_ | refine X.region rfl (fun K hK => ?_) | refine X.block rfl ?_ | (refine X.brk rfl ?_; repeat (first | refine blockX_hit rfl ?_ | refine blockX_miss (by decide) ?_)) | refine X.skip rfl ?_ | refine X.ret rfl ?_ | (refine X.ite rfl rfl (fun hc => ?_); (first | (with_reducible refine Xb.case hc (fun h => ?_) (fun h => ?_))) <;> clear hc))
  rename_i b1; rename Nat => b2
  refine X.lp rfl (fun m F' H' => ∃ k : Nat, m = qs.length - k ∧ k ≤ qs.length ∧ (∀ j, j < k → ok j = true) ∧ ⟨b2, 0, cAb A q, some 97, 4⟩ :: ⟨b1, 0, cTm T p, some 32, 11⟩ :: H = H' ∧
      F' = [(3, .pointer (some ⟨b1, 0, none⟩)), (4, .pointer (some ⟨b2, 0, none⟩)), (9, .slice a qs.length c), (10, .int .i64 qs.length), (11, .int .i64 k)])
    qs.length [(3, .pointer (some ⟨b1, 0, none⟩)), (4, .pointer (some ⟨b2, 0, none⟩)), (9, .slice a qs.length c), (10, .int .i64 qs.length), (11, .int .i64 (0 : Nat))] _ (by (repeat (first | exact Sub.nil _ | refine Sub.cons rfl ?_)); done) (by (repeat (first | exact List.Sublist.refl _ | apply List.Sublist.cons_cons | apply List.Sublist.cons)); done) ⟨0, by omega, by omega, (fun j hj => absurd hj (by omega)), rfl, rfl⟩ ?_
  rintro _ _ H2 ⟨k, rfl, hk, hn, hH, rfl⟩
  subst hH
  repeat' (first | (refine XO.op rfl ?_; (first | ((first | refine Xo.ng rfl ?_); (first | (refine Xg.ev (EvF.move rfl rfl) rfl rfl ?_) | (refine Xg.ev (EvF.assign rfl rfl) rfl rfl ?_) | (refine Xg.ev (EvF.cmp rfl rfl rfl rfl) rfl rfl ?_) | (refine Xg.ev (EvF.lenSlice rfl rfl (te rfl)) rfl rfl ?_) | (refine Xg.st (StF.boxAgg rfl rfl) rfl rfl ?_; rintro _ _ ⟨bx, rfl, rfl⟩))))) | (refine XO.done rfl ?_; refine hK _ _ ?_; clear hK K) | refine X.seq rfl ?_ | refine X.region rfl (fun K hK => ?_) | refine X.block rfl ?_ | (refine X.brk rfl ?_; repeat (first | refine blockX_hit rfl ?_ | refine blockX_miss (by decide) ?_)) | refine X.skip rfl ?_ | refine X.ret rfl ?_ | (refine X.ite rfl rfl (fun hc => ?_); (first | (with_reducible refine Xb.case hc (fun h => ?_) (fun h => ?_))) <;> clear hc))
  · obtain ⟨b, off, e, rfl, he⟩ := hq.elem (i := k) (by omega)
    have hq2 : ∀ r1 r2, SlE (r1 :: r2 :: H) (some ⟨b, off, none⟩) cQn 2 qs := fun r1 r2 => hq.sub (fun _ h => List.Mem.tail _ (List.Mem.tail _ h))
    obtain ⟨f, er⟩ := e
    repeat' (first | (refine XO.op rfl ?_; (first | ((first | refine Xo.ng rfl ?_); (first | (refine Xg.ev (EvF.loadV rfl rfl (LoadV.elA0 (hq2 _ _) he (te rfl) rfl (fun _ hm => hm) rfl)) rfl rfl ?_) | (refine Xg.call (EnF.dyn0 rfl rfl (by (repeat (first | exact Args.nil | refine Args.cons rfl ?_)); done)) rfl rfl (hf k ⟨f, er⟩ he hn [_, _, _]) ?_; rintro _ H9 ⟨rfl, hH9⟩; subst H9) | (refine Xg.ev (EvF.move rfl rfl) rfl rfl ?_) | (refine Xg.ev (EvF.assign rfl rfl) rfl rfl ?_) | (refine Xg.ev (EvF.add64 rfl rfl rfl (by omega) (by omega)) rfl rfl ?_) | (refine Xg.ev (EvF.not rfl rfl) rfl rfl ?_) | (refine Xg.ev (EvF.fieldAddr rfl rfl (te rfl) rfl (te rfl) (by decide)) rfl rfl ?_) | (refine Xg.ev (EvF.indexSlice rfl rfl rfl (te rfl) (te rfl) (by omega) (by omega)) rfl rfl ?_) | (refine Xg.ev (EvF.loadV rfl rfl (LoadV.own (te rfl) rfl (List.Mem.head _) rfl)) rfl rfl ?_) | (refine Xg.ev (EvF.loadV rfl rfl (LoadV.whole (te rfl) rfl (List.Mem.tail _ (List.Mem.head _)) rfl)) rfl rfl ?_) | (refine Xg.ev (EvF.loadV rfl rfl (LoadV.whole (te rfl) rfl (List.Mem.tail _ (List.Mem.tail _ (List.Mem.head _))) rfl)) rfl rfl ?_) | (refine Xg.st (StF.alloc rfl Tryz.zeroValue146 rfl) rfl rfl ?_; rintro _ _ ⟨bx, rfl, rfl⟩) | (refine Xg.st0 (StF.storeAll (i := 0) rfl rfl rfl (te rfl) rfl rfl rfl rfl) rfl ?_; rintro _ _ ⟨rfl, rfl⟩; dsimp only [List.set]))))) | (refine XO.done rfl ?_; refine hK _ _ ?_; clear hK K) | refine X.seq rfl ?_ | refine X.region rfl (fun K hK => ?_) | refine X.skip rfl ?_ | refine X.ret rfl ?_ | (refine X.ite rfl rfl (fun hc => ?_); (first | (with_reducible refine Xb.caseB hc (fun h => ?_) (fun h => ?_))) <;> clear hc))
    · refine ret_one (by first | exact .inr rfl | exact .inl rfl) Tryz.results94 rfl (H' := H) (by simp only [List.cons_append, List.nil_append]; exact (by (repeat (first | exact List.Sublist.refl _ | apply List.Sublist.cons)); done)) ⟨.inr ⟨k, _, he, ?_, hn, rfl⟩, rfl⟩
      simpa using (by assumption : (!ok k) = true)
    · refine ⟨_, _, _, (by (repeat (first | exact Sub.nil _ | refine Sub.cons rfl ?_)); done), (by simp only [List.cons_append, List.nil_append]; exact (by (repeat (first | exact List.Sublist.refl _ | apply List.Sublist.cons_cons | apply List.Sublist.cons)); done)), ⟨k + 1, rfl, by omega, (fun j hj => ?_), rfl, rfl⟩, by omega⟩
      rcases Nat.lt_or_ge j k with h1 | h1
      · exact hn j h1
      · obtain rfl : j = k := by omega
        simpa using (by assumption : (!ok j) = false)
  · refine ret_one (by first | exact .inr rfl | exact .inl rfl) Tryz.results94 rfl (H' := H) (by (repeat (first | exact List.Sublist.refl _ | apply List.Sublist.cons)); done) ⟨.inl ⟨rfl, fun j hj => hn j (by omega)⟩, rfl⟩
noncomputable def openE (T : Tm) (A : Ab) : Int := if tmOk T then (if askD A then (if askG A then (if askS A then (if askM A then (if askN T A then 0 else 6) else 44) else 42) else 41) else 43) else 40
noncomputable def okQ (T : Tm) (A : Ab) : Nat → Bool
  | 0 => decide (tmOk T)
  | 1 => decide (askD A)
  | 2 => decide (askG A)
  | 3 => decide (askS A)
  | 4 => decide (askM A)
  | 5 => decide (askN T A)
  | _ => true
def Tz : Tm := ⟨0, 0, 0, 0, 0, [], [], 0, 0, 0, 0⟩
def pz : Pt := ⟨none, 0, none, 0⟩
set_option maxHeartbeats 4000000 in
theorem asked6_spec (T : Tm) (p : Pt) (A : Ab) (q : Pa) (b cap : Nat) (ow : Option Kd) (H : List Row) (hT : TmOk H T p) (hA : AbOk H A q) (hm : ⟨b, 0, cQ6, ow, cap⟩ ∈ H)
    (hd : ∀ d ∈ A.days, ∀ H', DyOk H' d → Fc Tryz.prog 110 ([.agg (cDy d).toArray] ++ []) H' (fun v H'' => v = .bool (!decide (dayOk d)) ∧ H'' = H')) (hi : askG A → askS A → ∀ l ∈ A.some, inb l) :
    Fc Tryz.prog 94 [.agg (cTm T p).toArray, .agg (cAb A q).toArray, .slice (some ⟨b, 0, none⟩) 6 6] H (fun v H' => v = .int .i64 (openE T A) ∧ H' = H) := by
  refine (asked_spec T p A q qs6 (some ⟨b, 0, none⟩) 6 (okQ T A) H (SlE.ofRow (cap := cap) (ow := ow) hm (fun _ _ => rfl)) (by decide) ?_).mono ?_
  · intro k x hx hok Z
    have hT' : TmOk (Z ++ H) T p := hT.sub (fun _ h => List.mem_append_right _ h)
    have hA' : AbOk (Z ++ H) A q := hA.sub (fun _ h => List.mem_append_right _ h)
    rcases (show k = 0 ∨ k = 1 ∨ k = 2 ∨ k = 3 ∨ k = 4 ∨ k = 5 by have := (List.getElem?_eq_some_iff.1 hx).1; simp [qs6] at this; omega) with rfl | rfl | rfl | rfl | rfl | rfl
    all_goals (simp [qs6] at hx; subst hx)
    · exact areValid_spec T p A q _ hT'
    · exact areDays_spec T p A q _ hA' hd
    · exact areGrades_spec T p A q _ hA'
    · exact areStaples_spec T p A q _ hA'
    · exact areMonths_spec T p A q _ hA'
    · exact allowSome_spec T p A q _ hA' (hi (of_decide_eq_true (hok 2 (by decide))) (of_decide_eq_true (hok 3 (by decide))))
  · rintro v H' ⟨⟨rfl, hok⟩ | ⟨k, x, hx, hno, hok, rfl⟩, rfl⟩
    · refine ⟨?_, rfl⟩
      have h0 := of_decide_eq_true (hok 0 (by decide)); have h1 := of_decide_eq_true (hok 1 (by decide)); have h2 := of_decide_eq_true (hok 2 (by decide)); have h3 := of_decide_eq_true (hok 3 (by decide)); have h4 := of_decide_eq_true (hok 4 (by decide)); have h5 := of_decide_eq_true (hok 5 (by decide))
      unfold openE
      rw [if_pos h0, if_pos h1, if_pos h2, if_pos h3, if_pos h4, if_pos h5]
    · refine ⟨?_, rfl⟩
      have hk : ∀ j, j < k → okQ T A j = true := hok
      rcases (show k = 0 ∨ k = 1 ∨ k = 2 ∨ k = 3 ∨ k = 4 ∨ k = 5 by have := (List.getElem?_eq_some_iff.1 hx).1; simp [qs6] at this; omega) with rfl | rfl | rfl | rfl | rfl | rfl
      all_goals (simp [qs6] at hx; subst hx; unfold openE)
      · rw [if_neg (of_decide_eq_false hno)]
      · rw [if_pos (of_decide_eq_true (hk 0 (by decide))), if_neg (of_decide_eq_false hno)]
      · rw [if_pos (of_decide_eq_true (hk 0 (by decide))), if_pos (of_decide_eq_true (hk 1 (by decide))), if_neg (of_decide_eq_false hno)]
      · rw [if_pos (of_decide_eq_true (hk 0 (by decide))), if_pos (of_decide_eq_true (hk 1 (by decide))), if_pos (of_decide_eq_true (hk 2 (by decide))), if_neg (of_decide_eq_false hno)]
      · rw [if_pos (of_decide_eq_true (hk 0 (by decide))), if_pos (of_decide_eq_true (hk 1 (by decide))), if_pos (of_decide_eq_true (hk 2 (by decide))), if_pos (of_decide_eq_true (hk 3 (by decide))), if_neg (of_decide_eq_false hno)]
      · rw [if_pos (of_decide_eq_true (hk 0 (by decide))), if_pos (of_decide_eq_true (hk 1 (by decide))), if_pos (of_decide_eq_true (hk 2 (by decide))), if_pos (of_decide_eq_true (hk 3 (by decide))), if_pos (of_decide_eq_true (hk 4 (by decide))), if_neg (of_decide_eq_false hno)]
abbrev HD (A : Ab) : Prop := ∀ d ∈ A.days, ∀ H', DyOk H' d → Fc Tryz.prog 110 ([.agg (cDy d).toArray] ++ []) H' (fun v H'' => v = .bool (!decide (dayOk d)) ∧ H'' = H')
abbrev HI (A : Ab) : Prop := askG A → askS A → ∀ l ∈ A.some, inb l
set_option maxHeartbeats 4000000 in
theorem open_spec (T : Tm) (p : Pt) (A : Ab) (q : Pa) (H : List Row) (hT : TmOk H T p) (hA : AbOk H A q) (hd : HD A) (hi : HI A) :
    Fc Tryz.prog 59 [.agg (cTm T p).toArray, .agg (cAb A q).toArray] H (fun v H' => ((openE T A = 0 ∧ v = .tuple #[.agg (cTm T p).toArray, .int .i64 0]) ∨ (openE T A ≠ 0 ∧ v = .tuple #[.agg (cTm Tz pz).toArray, .int .i64 (openE T A)])) ∧ H' = H) := by
  have hT4 : ∀ r1 r2 r3 r4, TmOk (r1 :: r2 :: r3 :: r4 :: H) T p := fun r1 r2 r3 r4 => hT.sub (fun _ h => List.Mem.tail _ (List.Mem.tail _ (List.Mem.tail _ (List.Mem.tail _ h))))
  have hA4 : ∀ r1 r2 r3 r4, AbOk (r1 :: r2 :: r3 :: r4 :: H) A q := fun r1 r2 r3 r4 => hA.sub (fun _ h => List.Mem.tail _ (List.Mem.tail _ (List.Mem.tail _ (List.Mem.tail _ h))))
  refine Fc.mk (callable Tryz.call59) Tryz.func59 rfl Tryz.ntmps59 rfl ?_; dsimp only [fr]
  repeat' (first | (refine XO.op rfl ?_; (first | ((first | refine Xo.ng rfl ?_); (first | (refine Xg.call (EnF.st rfl (by (repeat (first | exact Args.nil | refine Args.cons rfl ?_)); done)) rfl rfl (questions_spec _) ?_; rintro _ H9 ⟨rfl, hH9⟩; subst H9) | (refine Xg.st (StF.alloc rfl Tryz.zeroValue147 rfl) rfl rfl ?_; rintro _ _ ⟨bx, rfl, rfl⟩) | (refine Xg.st0 (StF.storeAll (i := 0) (vs := cQ6) rfl rfl rfl (te rfl) rfl rfl rfl rfl) rfl ?_; rintro _ _ ⟨rfl, rfl⟩; dsimp only [List.set]) | (refine Xg.ev (EvF.build (cs := cTm T p) rfl (ArgsP.cons rfl ArgsP.nil) (te rfl) (Places.cons (te rfl) Places.nil) Tryz.zeroValue99 rfl) rfl rfl ?_) | (refine Xg.ev (EvF.build (cs := cTm Tz pz) rfl ArgsP.nil (te rfl) (Places.cons (te rfl) Places.nil) Tryz.zeroValue99 rfl) rfl rfl ?_) | (refine Xg.ev (EvF.move rfl rfl) rfl rfl ?_) | (refine Xg.ev (EvF.assign rfl rfl) rfl rfl ?_) | (refine Xg.ev (EvF.cmp rfl rfl rfl rfl) rfl rfl ?_) | (refine Xg.ev (EvF.loadV rfl rfl (LoadV.whole (te rfl) rfl (List.Mem.tail _ (List.Mem.tail _ (List.Mem.tail _ (List.Mem.head _)))) rfl)) rfl rfl ?_) | (refine Xg.st (StF.boxAgg rfl rfl) rfl rfl ?_; rintro _ _ ⟨bx, rfl, rfl⟩) | (refine Xg.st (StF.alloc rfl Tryz.zeroValue32 rfl) rfl rfl ?_; rintro _ _ ⟨bx, rfl, rfl⟩) | (refine Xg.st0 (StF.storeAll (i := 1) rfl rfl rfl (te rfl) rfl rfl rfl rfl) rfl ?_; rintro _ _ ⟨rfl, rfl⟩; dsimp only [List.set]))))) | (refine XO.done rfl ?_; refine hK _ _ ?_; clear hK K) | (refine XQ.op rfl ?_; (first | ((first | refine Yo.ng rfl ?_); (first | (refine Yg.ev (EvF.sliceArrAll rfl rfl (te rfl) (te rfl)) rfl rfl ?_) | (refine Yg.call (EnF.st rfl (Args.cons rfl (Args.cons rfl (Args.cons rfl Args.nil)))) rfl rfl (asked6_spec T p A q _ _ _ _ (hT4 _ _ _ _) (hA4 _ _ _ _) (List.Mem.head _) hd hi) ?_) | (refine Yg.ev (EvF.assign rfl rfl) rfl rfl ?_) | (refine Yg.ev (EvF.loadV rfl rfl (LoadV.whole (te rfl) rfl (List.Mem.tail _ (List.Mem.tail _ (List.Mem.head _))) rfl)) rfl rfl ?_) | (refine Yg.ev (EvF.loadV rfl rfl (LoadV.whole (te rfl) rfl (List.Mem.tail _ (List.Mem.tail _ (List.Mem.tail _ (List.Mem.head _)))) rfl)) rfl rfl ?_))))) | (refine XQ.done rfl ?_; refine hK _ ?_; clear hK K) | refine X.seq rfl ?_ | refine X.region rfl (fun K hK => ?_) | refine X.regionD rfl mixed (by kernel_rfl) (fun K hK => ?_) | refine X.skip rfl ?_ | refine X.ret rfl ?_ | (refine X.ite rfl rfl (fun hc => ?_); (first | (with_reducible refine Xb.caseN hc (fun h => ?_) (fun h => ?_))) <;> clear hc))
  · exact ret_two (by first | exact .inr rfl | exact .inl rfl) Tryz.results59 ⟨_, rfl, LoadV.whole (te rfl) rfl (List.Mem.tail _ (List.Mem.head _)) rfl⟩ rfl (H' := H) (by (repeat (first | exact List.Sublist.refl _ | apply List.Sublist.cons)); done) ⟨.inr ⟨by assumption, rfl⟩, rfl⟩
  · exact ret_two (by first | exact .inr rfl | exact .inl rfl) Tryz.results59 ⟨_, rfl, LoadV.whole (te rfl) rfl (List.Mem.tail _ (List.Mem.head _)) rfl⟩ rfl (H' := H) (by (repeat (first | exact List.Sublist.refl _ | apply List.Sublist.cons)); done) ⟨.inl ⟨by assumption, rfl⟩, rfl⟩
end Go.Proofs.YtcjlegjchllgjaaGreat
end
section
set_option linter.unusedVariables false
set_option linter.unusedSimpArgs false
namespace Go.Proofs.YtcjlegjchllgjaaGreat
open Go Go.Fw
set_option maxRecDepth 10000
theorem open_fn (T : Tm) (p : Pt) (A : Ab) (hd : HD A) (hi : HI A) : ∃ (TX : Tm) (q : Pt), (openE T A = 0 → TX = T ∧ q = p) ∧ ∀ (pa : Pa) (H : List Row), TmOk H T p → AbOk H A pa →
    Fc Tryz.prog 59 [.agg (cTm T p).toArray, .agg (cAb A pa).toArray] H (fun v H' => v = .tuple #[.agg (cTm TX q).toArray, .int .i64 (openE T A)] ∧ H' = H) := by
  by_cases h : openE T A = 0
  · refine ⟨T, p, fun _ => ⟨rfl, rfl⟩, fun pa H hT hA => (open_spec T p A pa H hT hA hd hi).mono fun v H' ⟨h1, h2⟩ => ⟨?_, h2⟩⟩
    rcases h1 with ⟨_, h1⟩ | ⟨h0, _⟩
    · rw [h1, h]
    · exact absurd h h0
  · refine ⟨Tz, pz, fun h0 => absurd h0 h, fun pa H hT hA => (open_spec T p A pa H hT hA hd hi).mono fun v H' ⟨h1, h2⟩ => ⟨?_, h2⟩⟩
    rcases h1 with ⟨h0, _⟩ | ⟨_, h1⟩
    · exact absurd h0 h
    · exact h1
theorem lttoldB_spec (T : Tm) (p : Pt) (e : Int) (f : Nat) (cap : List Value) (r : Bool) (H : List Row)
    (ht : e = 0 → ∀ Z : List Row, Fc Tryz.prog f ([.agg (cTm T p).toArray] ++ cap) (Z ++ H) (fun v H' => v = Value.bool r ∧ H' = Z ++ H)) :
    Fc Tryz.prog 91 [.agg (cTm T p).toArray, .int .i64 e, .func (.func f) #[] cap.toArray] H (fun v H' => v = .tuple #[Value.bool (if e = 0 then r else false), .int .i64 e] ∧ H' = H) := by
  by_cases h0 : e = 0
  · subst h0
    rw [if_pos rfl]
    refine Fc.mk (callable Tryz.call91) Tryz.func91 rfl Tryz.ntmps91 rfl ?_; dsimp only [fr]
    repeat' (first | (refine XO.op rfl ?_; (first | ((first | refine Xo.ng rfl ?_); (first | (refine Xg.call (EnF.dyn0 rfl rfl (by (repeat (first | exact Args.nil | refine Args.cons rfl ?_)); done)) rfl rfl (ht rfl [_]) ?_; rintro _ H9 ⟨rfl, hH9⟩; subst H9) | (refine Xg.ev (EvF.move rfl rfl) rfl rfl ?_) | (refine Xg.ev (EvF.assign rfl rfl) rfl rfl ?_) | (refine Xg.ev (EvF.cmp rfl rfl rfl rfl) rfl rfl ?_) | (refine Xg.ev (EvF.loadV rfl rfl (LoadV.whole (te rfl) rfl (List.Mem.head _) rfl)) rfl rfl ?_) | (refine Xg.st (StF.boxAgg rfl rfl) rfl rfl ?_; rintro _ _ ⟨bx, rfl, rfl⟩))))) | (refine XO.done rfl ?_; refine hK _ _ ?_; clear hK K) | refine X.seq rfl ?_ | refine X.region rfl (fun K hK => ?_) | refine X.skip rfl ?_ | refine X.ret rfl ?_ | (refine X.ite rfl rfl (fun hc => ?_); (first | (with_reducible refine Xb.caseN hc (fun h => ?_) (fun h => ?_))) <;> clear hc))
    all_goals try (exfalso; contradiction)
    exact ret_two (by first | exact .inr rfl | exact .inl rfl) Tryz.results91 rfl rfl (H' := H) (by simp only [List.cons_append, List.nil_append]; exact (by (repeat (first | exact List.Sublist.refl _ | apply List.Sublist.cons)); done)) ⟨rfl, rfl⟩
  · rw [if_neg h0]
    refine Fc.mk (callable Tryz.call91) Tryz.func91 rfl Tryz.ntmps91 rfl ?_; dsimp only [fr]
    repeat' (first | (refine XO.op rfl ?_; (first | ((first | refine Xo.ng rfl ?_); (first | (refine Xg.ev (EvF.cmp (b := true) rfl rfl rfl (congrArg some (by simp [h0]))) rfl rfl ?_) | (refine Xg.ev (EvF.move rfl rfl) rfl rfl ?_) | (refine Xg.ev (EvF.assign rfl rfl) rfl rfl ?_) | (refine Xg.st (StF.boxAgg rfl rfl) rfl rfl ?_; rintro _ _ ⟨bx, rfl, rfl⟩))))) | (refine XO.done rfl ?_; refine hK _ _ ?_; clear hK K) | refine X.seq rfl ?_ | refine X.region rfl (fun K hK => ?_) | refine X.ret rfl ?_ | (refine X.ite rfl rfl (fun hc => ?_); (first | (with_reducible refine Xb.t hc ?_)) <;> clear hc))
    all_goals try (exfalso; contradiction)
    exact ret_two (by first | exact .inr rfl | exact .inl rfl) Tryz.results91 rfl rfl (H' := H) (by (repeat (first | exact List.Sublist.refl _ | apply List.Sublist.cons)); done) ⟨rfl, rfl⟩
set_option maxHeartbeats 4000000 in
theorem toldB_spec (T : Tm) (p : Pt) (A : Ab) (q : Pa) (f : Nat) (cap : List Value) (r : Bool) (H : List Row) (hT : TmOk H T p) (hA : AbOk H A q) (hd : HD A) (hi : HI A)
    (ht : openE T A = 0 → ∀ Z : List Row, Fc Tryz.prog f ([.agg (cTm T p).toArray] ++ cap) (Z ++ H) (fun v H' => v = Value.bool r ∧ H' = Z ++ H)) :
    Fc Tryz.prog 49 [.agg (cTm T p).toArray, .agg (cAb A q).toArray, .func (.func f) #[] cap.toArray] H (fun v H' => v = .tuple #[Value.bool (if openE T A = 0 then r else false), .int .i64 (openE T A)] ∧ H' = H) := by
  have hT4 : ∀ Z : List Row, TmOk (Z ++ H) T p := fun Z => hT.sub (fun _ h => List.mem_append_right _ h)
  have hA4 : ∀ Z : List Row, AbOk (Z ++ H) A q := fun Z => hA.sub (fun _ h => List.mem_append_right _ h)
  obtain ⟨TX, pX, hTX, hop⟩ := open_fn T p A hd hi
  have hl : ∀ Z : List Row, Fc Tryz.prog 91 [.agg (cTm TX pX).toArray, .int .i64 (openE T A), .func (.func f) #[] cap.toArray] (Z ++ H) (fun v H' => v = .tuple #[Value.bool (if openE T A = 0 then r else false), .int .i64 (openE T A)] ∧ H' = Z ++ H) := fun Z => lttoldB_spec TX pX _ f cap r _ (fun h0 Z' => by obtain ⟨rfl, rfl⟩ := hTX h0; rw [← List.append_assoc]; exact ht h0 _)
  obtain ⟨er, her⟩ : ∃ e, openE T A = e := ⟨_, rfl⟩
  obtain ⟨rr, hrr⟩ : ∃ x, (if openE T A = 0 then r else false) = x := ⟨_, rfl⟩
  rw [hrr, her] at hl
  rw [hrr, her]
  rw [her] at hop
  refine Fc.mk (callable Tryz.call49) Tryz.func49 rfl Tryz.ntmps49 rfl ?_; dsimp only [fr]
  repeat' (first | (refine XO.op rfl ?_; (first | ((first | refine Xo.ng rfl ?_); (first | (refine Xg.call (EnF.st rfl (Args.cons rfl (Args.cons rfl Args.nil))) rfl rfl (hop q _ (hT4 [_, _]) (hA4 [_, _])) ?_; rintro _ H9 ⟨rfl, hH9⟩; subst H9) | (refine Xg.call (EnF.st rfl (Args.cons rfl (Args.cons rfl (Args.cons rfl Args.nil)))) rfl rfl (hl [_, _, _]) ?_; rintro _ H9 ⟨rfl, hH9⟩; subst H9) | (refine Xg.ev (EvF.move rfl rfl) rfl rfl ?_) | (refine Xg.ev (EvF.assign rfl rfl) rfl rfl ?_) | (refine Xg.ev (EvF.loadV rfl rfl (LoadV.whole (te rfl) rfl (List.Mem.head _) rfl)) rfl rfl ?_) | (refine Xg.ev (EvF.loadV rfl rfl (LoadV.whole (te rfl) rfl (List.Mem.tail _ (List.Mem.head _)) rfl)) rfl rfl ?_) | (refine Xg.ev (EvF.extract rfl rfl rfl) rfl rfl ?_) | (refine Xg.st (StF.boxAgg rfl rfl) rfl rfl ?_; rintro _ _ ⟨bx, rfl, rfl⟩) | (refine Xg.st (StF.alloc rfl Tryz.zeroValue32 rfl) rfl rfl ?_; rintro _ _ ⟨bx, rfl, rfl⟩) | (refine Xg.st0 (StF.storeAll (i := 0) rfl rfl rfl (te rfl) rfl rfl rfl rfl) rfl ?_; rintro _ _ ⟨rfl, rfl⟩; dsimp only [List.set]))))) | (refine XO.done rfl ?_; refine hK _ _ ?_; clear hK K) | refine X.seq rfl ?_ | refine X.region rfl (fun K hK => ?_) | refine X.ret rfl ?_)
  exact ret_two (by first | exact .inr rfl | exact .inl rfl) Tryz.results49 rfl rfl (H' := H) (by (repeat (first | exact List.Sublist.refl _ | apply List.Sublist.cons)); done) ⟨rfl, rfl⟩
theorem lttoldI_spec (T : Tm) (p : Pt) (e : Int) (f : Nat) (cap : List Value) (r : Int) (H : List Row)
    (ht : e = 0 → ∀ Z : List Row, Fc Tryz.prog f ([.agg (cTm T p).toArray] ++ cap) (Z ++ H) (fun v H' => v = Value.int IntKind.i64 r ∧ H' = Z ++ H)) :
    Fc Tryz.prog 90 [.agg (cTm T p).toArray, .int .i64 e, .func (.func f) #[] cap.toArray] H (fun v H' => v = .tuple #[Value.int IntKind.i64 (if e = 0 then r else 0), .int .i64 e] ∧ H' = H) := by
  by_cases h0 : e = 0
  · subst h0
    rw [if_pos rfl]
    refine Fc.mk (callable Tryz.call90) Tryz.func90 rfl Tryz.ntmps90 rfl ?_; dsimp only [fr]
    repeat' (first | (refine XO.op rfl ?_; (first | ((first | refine Xo.ng rfl ?_); (first | (refine Xg.call (EnF.dyn0 rfl rfl (by (repeat (first | exact Args.nil | refine Args.cons rfl ?_)); done)) rfl rfl (ht rfl [_]) ?_; rintro _ H9 ⟨rfl, hH9⟩; subst H9) | (refine Xg.ev (EvF.move rfl rfl) rfl rfl ?_) | (refine Xg.ev (EvF.assign rfl rfl) rfl rfl ?_) | (refine Xg.ev (EvF.cmp rfl rfl rfl rfl) rfl rfl ?_) | (refine Xg.ev (EvF.loadV rfl rfl (LoadV.whole (te rfl) rfl (List.Mem.head _) rfl)) rfl rfl ?_) | (refine Xg.st (StF.boxAgg rfl rfl) rfl rfl ?_; rintro _ _ ⟨bx, rfl, rfl⟩))))) | (refine XO.done rfl ?_; refine hK _ _ ?_; clear hK K) | refine X.seq rfl ?_ | refine X.region rfl (fun K hK => ?_) | refine X.skip rfl ?_ | refine X.ret rfl ?_ | (refine X.ite rfl rfl (fun hc => ?_); (first | (with_reducible refine Xb.caseN hc (fun h => ?_) (fun h => ?_))) <;> clear hc))
    all_goals try (exfalso; contradiction)
    exact ret_two (by first | exact .inr rfl | exact .inl rfl) Tryz.results90 rfl rfl (H' := H) (by simp only [List.cons_append, List.nil_append]; exact (by (repeat (first | exact List.Sublist.refl _ | apply List.Sublist.cons)); done)) ⟨rfl, rfl⟩
  · rw [if_neg h0]
    refine Fc.mk (callable Tryz.call90) Tryz.func90 rfl Tryz.ntmps90 rfl ?_; dsimp only [fr]
    repeat' (first | (refine XO.op rfl ?_; (first | ((first | refine Xo.ng rfl ?_); (first | (refine Xg.ev (EvF.cmp (b := true) rfl rfl rfl (congrArg some (by simp [h0]))) rfl rfl ?_) | (refine Xg.ev (EvF.move rfl rfl) rfl rfl ?_) | (refine Xg.ev (EvF.assign rfl rfl) rfl rfl ?_) | (refine Xg.st (StF.boxAgg rfl rfl) rfl rfl ?_; rintro _ _ ⟨bx, rfl, rfl⟩))))) | (refine XO.done rfl ?_; refine hK _ _ ?_; clear hK K) | refine X.seq rfl ?_ | refine X.region rfl (fun K hK => ?_) | refine X.ret rfl ?_ | (refine X.ite rfl rfl (fun hc => ?_); (first | (with_reducible refine Xb.t hc ?_)) <;> clear hc))
    all_goals try (exfalso; contradiction)
    exact ret_two (by first | exact .inr rfl | exact .inl rfl) Tryz.results90 rfl rfl (H' := H) (by (repeat (first | exact List.Sublist.refl _ | apply List.Sublist.cons)); done) ⟨rfl, rfl⟩
set_option maxHeartbeats 4000000 in
theorem toldI_spec (T : Tm) (p : Pt) (A : Ab) (q : Pa) (f : Nat) (cap : List Value) (r : Int) (H : List Row) (hT : TmOk H T p) (hA : AbOk H A q) (hd : HD A) (hi : HI A)
    (ht : openE T A = 0 → ∀ Z : List Row, Fc Tryz.prog f ([.agg (cTm T p).toArray] ++ cap) (Z ++ H) (fun v H' => v = Value.int IntKind.i64 r ∧ H' = Z ++ H)) :
    Fc Tryz.prog 46 [.agg (cTm T p).toArray, .agg (cAb A q).toArray, .func (.func f) #[] cap.toArray] H (fun v H' => v = .tuple #[Value.int IntKind.i64 (if openE T A = 0 then r else 0), .int .i64 (openE T A)] ∧ H' = H) := by
  have hT4 : ∀ Z : List Row, TmOk (Z ++ H) T p := fun Z => hT.sub (fun _ h => List.mem_append_right _ h)
  have hA4 : ∀ Z : List Row, AbOk (Z ++ H) A q := fun Z => hA.sub (fun _ h => List.mem_append_right _ h)
  obtain ⟨TX, pX, hTX, hop⟩ := open_fn T p A hd hi
  have hl : ∀ Z : List Row, Fc Tryz.prog 90 [.agg (cTm TX pX).toArray, .int .i64 (openE T A), .func (.func f) #[] cap.toArray] (Z ++ H) (fun v H' => v = .tuple #[Value.int IntKind.i64 (if openE T A = 0 then r else 0), .int .i64 (openE T A)] ∧ H' = Z ++ H) := fun Z => lttoldI_spec TX pX _ f cap r _ (fun h0 Z' => by obtain ⟨rfl, rfl⟩ := hTX h0; rw [← List.append_assoc]; exact ht h0 _)
  obtain ⟨er, her⟩ : ∃ e, openE T A = e := ⟨_, rfl⟩
  obtain ⟨rr, hrr⟩ : ∃ x, (if openE T A = 0 then r else 0) = x := ⟨_, rfl⟩
  rw [hrr, her] at hl
  rw [hrr, her]
  rw [her] at hop
  refine Fc.mk (callable Tryz.call46) Tryz.func46 rfl Tryz.ntmps46 rfl ?_; dsimp only [fr]
  repeat' (first | (refine XO.op rfl ?_; (first | ((first | refine Xo.ng rfl ?_); (first | (refine Xg.call (EnF.st rfl (Args.cons rfl (Args.cons rfl Args.nil))) rfl rfl (hop q _ (hT4 [_, _]) (hA4 [_, _])) ?_; rintro _ H9 ⟨rfl, hH9⟩; subst H9) | (refine Xg.call (EnF.st rfl (Args.cons rfl (Args.cons rfl (Args.cons rfl Args.nil)))) rfl rfl (hl [_, _, _]) ?_; rintro _ H9 ⟨rfl, hH9⟩; subst H9) | (refine Xg.ev (EvF.move rfl rfl) rfl rfl ?_) | (refine Xg.ev (EvF.assign rfl rfl) rfl rfl ?_) | (refine Xg.ev (EvF.loadV rfl rfl (LoadV.whole (te rfl) rfl (List.Mem.head _) rfl)) rfl rfl ?_) | (refine Xg.ev (EvF.loadV rfl rfl (LoadV.whole (te rfl) rfl (List.Mem.tail _ (List.Mem.head _)) rfl)) rfl rfl ?_) | (refine Xg.ev (EvF.extract rfl rfl rfl) rfl rfl ?_) | (refine Xg.st (StF.boxAgg rfl rfl) rfl rfl ?_; rintro _ _ ⟨bx, rfl, rfl⟩) | (refine Xg.st (StF.alloc rfl Tryz.zeroValue32 rfl) rfl rfl ?_; rintro _ _ ⟨bx, rfl, rfl⟩) | (refine Xg.st0 (StF.storeAll (i := 0) rfl rfl rfl (te rfl) rfl rfl rfl rfl) rfl ?_; rintro _ _ ⟨rfl, rfl⟩; dsimp only [List.set]))))) | (refine XO.done rfl ?_; refine hK _ _ ?_; clear hK K) | refine X.seq rfl ?_ | refine X.region rfl (fun K hK => ?_) | refine X.ret rfl ?_)
  exact ret_two (by first | exact .inr rfl | exact .inl rfl) Tryz.results46 rfl rfl (H' := H) (by (repeat (first | exact List.Sublist.refl _ | apply List.Sublist.cons)); done) ⟨rfl, rfl⟩
theorem lttoldU_spec (T : Tm) (p : Pt) (e : Int) (f : Nat) (cap : List Value) (r : Int) (H : List Row)
    (ht : e = 0 → ∀ Z : List Row, Fc Tryz.prog f ([.agg (cTm T p).toArray] ++ cap) (Z ++ H) (fun v H' => v = Value.int IntKind.u8 r ∧ H' = Z ++ H)) :
    Fc Tryz.prog 92 [.agg (cTm T p).toArray, .int .i64 e, .func (.func f) #[] cap.toArray] H (fun v H' => v = .tuple #[Value.int IntKind.u8 (if e = 0 then r else 0), .int .i64 e] ∧ H' = H) := by
  by_cases h0 : e = 0
  · subst h0
    rw [if_pos rfl]
    refine Fc.mk (callable Tryz.call92) Tryz.func92 rfl Tryz.ntmps92 rfl ?_; dsimp only [fr]
    repeat' (first | (refine XO.op rfl ?_; (first | ((first | refine Xo.ng rfl ?_); (first | (refine Xg.call (EnF.dyn0 rfl rfl (by (repeat (first | exact Args.nil | refine Args.cons rfl ?_)); done)) rfl rfl (ht rfl [_]) ?_; rintro _ H9 ⟨rfl, hH9⟩; subst H9) | (refine Xg.ev (EvF.move rfl rfl) rfl rfl ?_) | (refine Xg.ev (EvF.assign rfl rfl) rfl rfl ?_) | (refine Xg.ev (EvF.cmp rfl rfl rfl rfl) rfl rfl ?_) | (refine Xg.ev (EvF.loadV rfl rfl (LoadV.whole (te rfl) rfl (List.Mem.head _) rfl)) rfl rfl ?_) | (refine Xg.st (StF.boxAgg rfl rfl) rfl rfl ?_; rintro _ _ ⟨bx, rfl, rfl⟩))))) | (refine XO.done rfl ?_; refine hK _ _ ?_; clear hK K) | refine X.seq rfl ?_ | refine X.region rfl (fun K hK => ?_) | refine X.skip rfl ?_ | refine X.ret rfl ?_ | (refine X.ite rfl rfl (fun hc => ?_); (first | (with_reducible refine Xb.caseN hc (fun h => ?_) (fun h => ?_))) <;> clear hc))
    all_goals try (exfalso; contradiction)
    exact ret_two (by first | exact .inr rfl | exact .inl rfl) Tryz.results92 rfl rfl (H' := H) (by simp only [List.cons_append, List.nil_append]; exact (by (repeat (first | exact List.Sublist.refl _ | apply List.Sublist.cons)); done)) ⟨rfl, rfl⟩
  · rw [if_neg h0]
    refine Fc.mk (callable Tryz.call92) Tryz.func92 rfl Tryz.ntmps92 rfl ?_; dsimp only [fr]
    repeat' (first | (refine XO.op rfl ?_; (first | ((first | refine Xo.ng rfl ?_); (first | (refine Xg.ev (EvF.cmp (b := true) rfl rfl rfl (congrArg some (by simp [h0]))) rfl rfl ?_) | (refine Xg.ev (EvF.move rfl rfl) rfl rfl ?_) | (refine Xg.ev (EvF.assign rfl rfl) rfl rfl ?_) | (refine Xg.st (StF.boxAgg rfl rfl) rfl rfl ?_; rintro _ _ ⟨bx, rfl, rfl⟩))))) | (refine XO.done rfl ?_; refine hK _ _ ?_; clear hK K) | refine X.seq rfl ?_ | refine X.region rfl (fun K hK => ?_) | refine X.ret rfl ?_ | (refine X.ite rfl rfl (fun hc => ?_); (first | (with_reducible refine Xb.t hc ?_)) <;> clear hc))
    all_goals try (exfalso; contradiction)
    exact ret_two (by first | exact .inr rfl | exact .inl rfl) Tryz.results92 rfl rfl (H' := H) (by (repeat (first | exact List.Sublist.refl _ | apply List.Sublist.cons)); done) ⟨rfl, rfl⟩
set_option maxHeartbeats 4000000 in
theorem toldU_spec (T : Tm) (p : Pt) (A : Ab) (q : Pa) (f : Nat) (cap : List Value) (r : Int) (H : List Row) (hT : TmOk H T p) (hA : AbOk H A q) (hd : HD A) (hi : HI A)
    (ht : openE T A = 0 → ∀ Z : List Row, Fc Tryz.prog f ([.agg (cTm T p).toArray] ++ cap) (Z ++ H) (fun v H' => v = Value.int IntKind.u8 r ∧ H' = Z ++ H)) :
    Fc Tryz.prog 53 [.agg (cTm T p).toArray, .agg (cAb A q).toArray, .func (.func f) #[] cap.toArray] H (fun v H' => v = .tuple #[Value.int IntKind.u8 (if openE T A = 0 then r else 0), .int .i64 (openE T A)] ∧ H' = H) := by
  have hT4 : ∀ Z : List Row, TmOk (Z ++ H) T p := fun Z => hT.sub (fun _ h => List.mem_append_right _ h)
  have hA4 : ∀ Z : List Row, AbOk (Z ++ H) A q := fun Z => hA.sub (fun _ h => List.mem_append_right _ h)
  obtain ⟨TX, pX, hTX, hop⟩ := open_fn T p A hd hi
  have hl : ∀ Z : List Row, Fc Tryz.prog 92 [.agg (cTm TX pX).toArray, .int .i64 (openE T A), .func (.func f) #[] cap.toArray] (Z ++ H) (fun v H' => v = .tuple #[Value.int IntKind.u8 (if openE T A = 0 then r else 0), .int .i64 (openE T A)] ∧ H' = Z ++ H) := fun Z => lttoldU_spec TX pX _ f cap r _ (fun h0 Z' => by obtain ⟨rfl, rfl⟩ := hTX h0; rw [← List.append_assoc]; exact ht h0 _)
  obtain ⟨er, her⟩ : ∃ e, openE T A = e := ⟨_, rfl⟩
  obtain ⟨rr, hrr⟩ : ∃ x, (if openE T A = 0 then r else 0) = x := ⟨_, rfl⟩
  rw [hrr, her] at hl
  rw [hrr, her]
  rw [her] at hop
  refine Fc.mk (callable Tryz.call53) Tryz.func53 rfl Tryz.ntmps53 rfl ?_; dsimp only [fr]
  repeat' (first | (refine XO.op rfl ?_; (first | ((first | refine Xo.ng rfl ?_); (first | (refine Xg.call (EnF.st rfl (Args.cons rfl (Args.cons rfl Args.nil))) rfl rfl (hop q _ (hT4 [_, _]) (hA4 [_, _])) ?_; rintro _ H9 ⟨rfl, hH9⟩; subst H9) | (refine Xg.call (EnF.st rfl (Args.cons rfl (Args.cons rfl (Args.cons rfl Args.nil)))) rfl rfl (hl [_, _, _]) ?_; rintro _ H9 ⟨rfl, hH9⟩; subst H9) | (refine Xg.ev (EvF.move rfl rfl) rfl rfl ?_) | (refine Xg.ev (EvF.assign rfl rfl) rfl rfl ?_) | (refine Xg.ev (EvF.loadV rfl rfl (LoadV.whole (te rfl) rfl (List.Mem.head _) rfl)) rfl rfl ?_) | (refine Xg.ev (EvF.loadV rfl rfl (LoadV.whole (te rfl) rfl (List.Mem.tail _ (List.Mem.head _)) rfl)) rfl rfl ?_) | (refine Xg.ev (EvF.extract rfl rfl rfl) rfl rfl ?_) | (refine Xg.st (StF.boxAgg rfl rfl) rfl rfl ?_; rintro _ _ ⟨bx, rfl, rfl⟩) | (refine Xg.st (StF.alloc rfl Tryz.zeroValue32 rfl) rfl rfl ?_; rintro _ _ ⟨bx, rfl, rfl⟩) | (refine Xg.st0 (StF.storeAll (i := 0) rfl rfl rfl (te rfl) rfl rfl rfl rfl) rfl ?_; rintro _ _ ⟨rfl, rfl⟩; dsimp only [List.set]))))) | (refine XO.done rfl ?_; refine hK _ _ ?_; clear hK K) | refine X.seq rfl ?_ | refine X.region rfl (fun K hK => ?_) | refine X.ret rfl ?_)
  exact ret_two (by first | exact .inr rfl | exact .inl rfl) Tryz.results53 rfl rfl (H' := H) (by (repeat (first | exact List.Sublist.refl _ | apply List.Sublist.cons)); done) ⟨rfl, rfl⟩
end Go.Proofs.YtcjlegjchllgjaaGreat
end
