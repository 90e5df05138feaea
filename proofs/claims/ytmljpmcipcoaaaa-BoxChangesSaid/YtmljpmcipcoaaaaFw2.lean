/- Own work: appending to rows, and literals. No condition. -/
import Derived.Test.YtmljpmcipcoaaaaFw
import Derived.Laws.AppendOwn
import Derived.Laws.OwnMore
import Derived.Deep.Upon
namespace Go.Fw
open Go Go.RowKit

theorem mem_eraseIdx {H : List Row} {i : Nat} {s : Row} (h : s ∈ H.eraseIdx i) : ∃ j, j ≠ i ∧ H[j]? = some s := by
  obtain ⟨j, hj, he⟩ := List.mem_iff_getElem.1 h
  have h1 : (H.eraseIdx i)[j]? = some s := by rw [List.getElem?_eq_getElem hj, he]
  rw [List.getElem?_eraseIdx] at h1
  split at h1
  · exact ⟨j, by omega, h1⟩
  · exact ⟨j + 1, by omega, h1⟩

/-- The row number i has turned into another one in the same block; all else stays. -/
theorem St.turn {B : Nat} {w0 w w' : World} {H : List Row} (h : St B w0 H w) {i b cap cap' : Nat} {el : TypeId} {cs cs' rest : List Value} (hi : H[i]? = some ⟨b, 0, cs, some el, cap⟩)
    (hb : Below B w w') (hs : w.heap.size ≤ w'.heap.size) (ho : ∀ k, k < w.heap.size → k ≠ b → w'.heap[k]? = w.heap[k]?) (hr : w'.heap[b]? = some (.cells (cs' ++ rest).toArray el (0, 0))) (hc : (cs' ++ rest).length = cap') :
    St B w0 (⟨b, 0, cs', some el, cap'⟩ :: H.eraseIdx i) w' := by
  have hr0 := h.ok _ (List.mem_of_getElem? hi)
  refine ⟨h.below.trans hb, by have := h.size; omega, fun r hm => ?_, List.pairwise_cons.2 ⟨fun s hs' _ => ?_, h.sep.sublist (List.eraseIdx_sublist _ _)⟩⟩
  · rcases List.mem_cons.1 hm with rfl | hm
    · exact ⟨hr0.1, rfl, rest, hr, hc⟩
    · obtain ⟨j, hj, hje⟩ := mem_eraseIdx hm
      have hne := sep_other h.sep hi hje (fun e => hj e.symm) rfl
      exact Row.ok_of_block (h.ok r (List.mem_of_getElem? hje)) hs (ho _ (Row.ok_lt (h.ok r (List.mem_of_getElem? hje))) hne)
  · obtain ⟨j, hj, hje⟩ := mem_eraseIdx hs'
    exact fun e => sep_other h.sep hi hje (fun e => hj e.symm) rfl e.symm

/-- cells that can be read, from an address on -/
def Rd (H : List Row) (a : Addr) (vs : List Value) : Prop := ∀ j v, vs[j]? = some v → ∃ r ∈ H, ∃ k, a.spot = none ∧ r.b = a.block ∧ r.off + k = a.off + j ∧ r.cells[k]? = some v
theorem Rd.cell {B : Nat} {w0 w : World} {H : List Row} {a : Addr} {vs : List Value} (h : Rd H a vs) (hS : St B w0 H w) : ∀ j v, vs[j]? = some v → w.cell? (a.add j) = some v := by
  intro j v hj
  obtain ⟨r, hr, k, hsp, hb, ho, hc⟩ := h j v hj
  have := hS.cell hr hc
  rw [hb, ho] at this
  obtain ⟨ab, ao, asp⟩ := a
  simp only at hsp this; subst hsp
  rw [add_none]; exact this
theorem Rd.nil (H : List Row) (a : Addr) : Rd H a [] := fun j v h => by simp at h
theorem Rd.own {H : List Row} {b : Nat} {cs : List Value} {ow : Option TypeId} {cap : Nat} (hr : ⟨b, 0, cs, ow, cap⟩ ∈ H) : Rd H ⟨b, 0, none⟩ cs := fun j v hj => ⟨_, hr, j, rfl, rfl, by simp, hj⟩
theorem flat_get {α : Type} {enc : α → List Value} {sz : Nat} : ∀ {l : List α}, (∀ e ∈ l, (enc e).length = sz) → ∀ {j : Nat} {v : Value}, (l.flatMap enc)[j]? = some v → ∃ i e k, j = i * sz + k ∧ l[i]? = some e ∧ (enc e)[k]? = some v
  | [], _, j, v, h => by simp at h
  | e :: l, hl, j, v, h => by
    rw [List.flatMap_cons, List.getElem?_append] at h
    split at h
    · exact ⟨0, e, j, by omega, rfl, h⟩
    · rename_i hlt
      obtain ⟨i, e', k, hj, hi, hk⟩ := flat_get (fun e he => hl e (List.mem_cons_of_mem _ he)) h
      rw [hl e (List.mem_cons_self ..)] at hj hlt
      exact ⟨i + 1, e', k, by rw [Nat.add_mul]; omega, by simpa using hi, hk⟩
theorem flat_len {α : Type} {enc : α → List Value} {sz : Nat} : ∀ {l : List α}, (∀ e ∈ l, (enc e).length = sz) → (l.flatMap enc).length = l.length * sz
  | [], _ => by simp
  | e :: l, hl => by
    rw [List.flatMap_cons, List.length_append, hl e (List.mem_cons_self ..), flat_len (fun e he => hl e (List.mem_cons_of_mem _ he)), List.length_cons, Nat.add_mul]
    omega
theorem SlE.rd {α : Type} {H : List Row} {b off : Nat} {enc : α → List Value} {sz : Nat} {l : List α} (h : SlE H (some ⟨b, off, none⟩) enc sz l) : Rd H ⟨b, off, none⟩ (l.flatMap enc) := by
  intro j v hj
  obtain ⟨i, e, k, rfl, hi, hk⟩ := flat_get h.1 hj
  obtain ⟨r, hr, q, hb, ho, hc⟩ := h.cell (fun _ h => h) hi hk
  exact ⟨r, hr, q, rfl, hb, ho, hc⟩

/-! ## append -/
section
variable {P : Program} {n : Nat} {H : List Row} {F : FS} {o : Oper}
/-- What is asked of the element type. -/
structure ElT (P : Program) (T e : TypeId) (sz by' : Nat) : Prop where
  t : P.underlying T = some (.slice e)
  i : ∃ i z, P.info? e = some i ∧ i.zero = some z ∧ i.size = sz ∧ i.bytes = by' ∧ z.cells.size = sz
theorem appendOp {B : Nat} {w0 w : World} {T e : TypeId} {sz y ty : Nat} (hT : ElT P T e sz y) (hS : St B w0 H w) {i b m k cap c : Nat} {xs news : List Value} {a : Addr}
    (hi : H[i]? = some ⟨b, 0, xs, some e, cap * sz⟩) (hx : xs.length = k * sz) (hl : news.length = m * sz) (hn : Rd H a news) (h1 : news.all (·.oneCell') = true) (hbig : (k + m) * (y + 1) ≤ 140737488355328) :
    ∃ b' cap' w', (Builtin.append_ #[T, T] ty #[.slice (some ⟨b, 0, none⟩) k cap, .slice (some a) m c]).run P w = .ok (.slice (some ⟨b', 0, none⟩) (k + m) cap') w' ∧ St B w0 (⟨b', 0, xs ++ news, some e, cap' * sz⟩ :: H.eraseIdx i) w' := by
  obtain ⟨ht, inf, z, hinf, hz, rfl, rfl, hzs⟩ := hT
  have hr := hS.ok _ (List.mem_of_getElem? hi)
  obtain ⟨hB, _, rest, hg, hlen⟩ := hr
  dsimp only at hg hlen hB
  have hb0 : k + m ≤ 140737488355328 := Nat.le_trans (Nat.le_mul_of_pos_right _ (Nat.succ_pos _)) hbig
  have hb1 : (k + m) * inf.bytes ≤ 140737488355328 := Nat.le_trans (Nat.mul_le_mul_left _ (Nat.le_succ _)) hbig
  have hnews := hn.cell hS
  have h1' : ∀ u ∈ news, u.oneCell' = true := List.all_eq_true.1 h1
  by_cases hroom : k + m ≤ cap
  · have hfit : k * inf.size + news.length ≤ (xs ++ rest).toArray.size := by
      rw [List.size_toArray, hlen, hl, ← Nat.add_mul]; exact Nat.mul_le_mul_right _ hroom
    have hrun := run_append_room (P := P) w T ty e inf ht hinf b k cap _ hg a m c news hl hnews h1' hroom hfit
    refine ⟨b, cap, _, hrun, ?_⟩
    refine hS.turn (rest := rest.drop news.length) hi ⟨rfl, rfl, rfl, by simp, fun q hq => setRow_other w b q _ (by omega)⟩ (by simp) (fun q _ hq => setRow_other w b q _ hq) ?_ ?_
    · rw [setRow_heap w b _ _ e _ hg]
      congr 3
      have e1 : (xs ++ rest).take (k * inf.size) = xs := by rw [← hx]; exact List.take_left
      have e2 : (xs ++ rest).drop (k * inf.size + news.length) = rest.drop news.length := by rw [← hx, ← List.drop_drop, List.drop_left]
      simp only [e1, e2]
    · simp only [List.length_append, List.length_drop] at hlen hfit ⊢
      simp only [List.size_toArray, List.length_append] at hfit
      omega
  · have holds : ∀ j u, xs[j]? = some u → w.cell? ((⟨b, 0, none⟩ : Addr).add j) = some u := by
      intro j u hj
      have := hS.cell (List.mem_of_getElem? hi) hj
      rw [add_none]; exact this
    have hrun := run_append_grow (P := P) w T ty e inf z ht hinf hz ⟨b, 0, none⟩ k cap xs hx holds a m c news hl hnews (by omega) (by omega) (growslice_fits (by omega) hb1)
    have hge := grownCap_ge w (k + m) cap e
    refine ⟨w.heap.size, grownCap w (k + m) cap e, _, hrun, ?_⟩
    have hS1 : St B w0 (H.eraseIdx i) w.drew := (hS.sub (List.eraseIdx_sublist _ _)).drewN 1
    have hS2 := hS1.allocPre (xs ++ news) (Builtin.zeroCells z.cells (grownCap w (k + m) cap e - (k + m))).toList e
    have e3 : (xs ++ news ++ (Builtin.zeroCells z.cells (grownCap w (k + m) cap e - (k + m))).toList).length = grownCap w (k + m) cap e * inf.size := by
      simp only [List.length_append, Array.length_toList, size_zeroCells, hzs, hx, hl, ← Nat.add_mul]
      congr 1; omega
    rw [e3] at hS2
    have e4 : (xs ++ news ++ (Builtin.zeroCells z.cells (grownCap w (k + m) cap e - (k + m))).toList).toArray = xs.toArray ++ news.toArray ++ Builtin.zeroCells z.cells (grownCap w (k + m) cap e - (k + m)) := by
      apply Array.ext'; simp
    rw [e4] at hS2
    exact hS2
theorem appendNew {B : Nat} {w0 w : World} {T e : TypeId} {sz y ty : Nat} (hT : ElT P T e sz y) (hS : St B w0 H w) {m c : Nat} {news : List Value} {a : Addr} (ao : Option Addr)
    (hm : 0 < m) (hl : news.length = m * sz) (hn : Rd H a news) (hbig : m * (y + 1) ≤ 140737488355328) :
    ∃ b' cap' w', (Builtin.append_ #[T, T] ty #[.slice ao 0 0, .slice (some a) m c]).run P w = .ok (.slice (some ⟨b', 0, none⟩) m cap') w' ∧ St B w0 (⟨b', 0, news, some e, cap' * sz⟩ :: H) w' := by
  obtain ⟨ht, inf, z, hinf, hz, rfl, rfl, hzs⟩ := hT
  have hb0 : m ≤ 140737488355328 := Nat.le_trans (Nat.le_mul_of_pos_right _ (Nat.succ_pos _)) hbig
  have hb1 : m * inf.bytes ≤ 140737488355328 := Nat.le_trans (Nat.mul_le_mul_left _ (Nat.le_succ _)) hbig
  have hnews := hn.cell hS
  have hge := grownCap_ge w m 0 e
  have hrun : (Builtin.append_ #[T, T] ty #[.slice ao 0 0, .slice (some a) m c]).run P w =
      .ok (.slice (some ⟨w.heap.size, 0, none⟩) m (grownCap w m 0 e)) (w.drew.alloc (.cells (news.toArray ++ Builtin.zeroCells z.cells (grownCap w m 0 e - m)) e)) := by
    cases ao with
    | none => exact run_append_nil (P := P) w T ty e inf z ht hinf hz a m c news hl hnews hm (by omega) (by omega)
    | some b =>
      have := run_append_grow (P := P) w T ty e inf z ht hinf hz b 0 0 [] (by simp) (by simp) a m c news hl hnews (by omega) (by omega) (growslice_fits (by omega) (by simpa using hb1))
      simpa using this
  refine ⟨w.heap.size, grownCap w m 0 e, _, hrun, ?_⟩
  have hS2 := (hS.drewN 1).allocPre news (Builtin.zeroCells z.cells (grownCap w m 0 e - m)).toList e
  have e3 : (news ++ (Builtin.zeroCells z.cells (grownCap w m 0 e - m)).toList).length = grownCap w m 0 e * inf.size := by
    simp only [List.length_append, Array.length_toList, size_zeroCells, hzs, hl, ← Nat.add_mul]
    congr 1; omega
  rw [e3] at hS2
  have e4 : (news ++ (Builtin.zeroCells z.cells (grownCap w m 0 e - m)).toList).toArray = news.toArray ++ Builtin.zeroCells z.cells (grownCap w m 0 e - m) := by
    apply Array.ext'; simp
  rw [e4] at hS2
  exact hS2
theorem appendNone {w : World} {T e : TypeId} {sz y ty : Nat} (hT : ElT P T e sz y) {base ao : Option Addr} {k cap c : Nat} (hk : k ≤ cap) :
    (Builtin.append_ #[T, T] ty #[.slice base k cap, .slice ao 0 c]).run P w = .ok (.slice base k cap) w := by
  obtain ⟨ht, inf, z, hinf, hz, rfl, rfl, hzs⟩ := hT
  cases base <;> cases ao <;> simp [Builtin.append_, run_underlying ht, sizeOf, typeInfo, hinf, Builtin.lenOf, Builtin.firstCells, loadCells, loadCellsFrom, hk, storeCells]
abbrev isAppend (o : Oper) (x y : Operand) (T : TypeId) : Prop := o.op = .call { callee := .builtin .append, args := #[x, y], argTypes := #[T, T] }
theorem run_append_op {w : World} {t : List Value} {x y : Operand} {T : TypeId} (h : isAppend o x y T) {v : Value} {w' : World} (hr : (Builtin.append_ #[T, T] o.type #[ev t x, ev t y]).run P w = .ok v w') : (execOp (ev t) o).run P w = .ok (.value v) w' := by
  simp [execOp, h, resolve, invoke, builtin, hr]
/-- onto a row of one's own -/
theorem StF.appendOwn {T e : TypeId} {x y : Operand} {sz by' i b m k cap c : Nat} {xs news : List Value} {a : Addr} (h : isAppend o x y T) (hT : ElT P T e sz by') (hx : evF F x = some (.slice (some ⟨b, 0, none⟩) k cap)) (hy : evF F y = some (.slice (some a) m c))
    (hi : H[i]? = some ⟨b, 0, xs, some e, cap * sz⟩) (hxs : xs.length = k * sz) (hl : news.length = m * sz) (hn : Rd H a news) (h1 : news.all (·.oneCell') = true) (hbig : (k + m) * (by' + 1) ≤ 140737488355328) :
    StF P n H F o (fun v H' => ∃ b' cap', v = .slice (some ⟨b', 0, none⟩) (k + m) cap' ∧ H' = ⟨b', 0, xs ++ news, some e, cap' * sz⟩ :: H.eraseIdx i) := by
  unfold StF StepOp
  intro t ha B w0 w hS
  obtain ⟨b', cap', w', hr, h4⟩ := appendOp hT hS hi hxs hl hn h1 hbig (ty := o.type) (c := c)
  exact ⟨_, w', _, .inl (run_append_op h (by rw [ha.ev hx, ha.ev hy]; exact hr)), h4, b', cap', rfl, rfl⟩
/-- onto what has no room -/
theorem StF.appendNew {T e : TypeId} {x y : Operand} {sz by' m c : Nat} {news : List Value} {a : Addr} {ao : Option Addr} (h : isAppend o x y T) (hT : ElT P T e sz by') (hx : evF F x = some (.slice ao 0 0)) (hy : evF F y = some (.slice (some a) m c))
    (hm : 0 < m) (hl : news.length = m * sz) (hn : Rd H a news) (hbig : m * (by' + 1) ≤ 140737488355328) :
    StF P n H F o (fun v H' => ∃ b' cap', v = .slice (some ⟨b', 0, none⟩) m cap' ∧ H' = ⟨b', 0, news, some e, cap' * sz⟩ :: H) := by
  unfold StF StepOp
  intro t ha B w0 w hS
  obtain ⟨b', cap', w', hr, h4⟩ := Fw.appendNew hT hS ao hm hl hn hbig (ty := o.type) (c := c)
  exact ⟨_, w', _, .inl (run_append_op h (by rw [ha.ev hx, ha.ev hy]; exact hr)), h4, b', cap', rfl, rfl⟩
/-- nothing is appended -/
theorem EvF.appendNone {T e : TypeId} {x y : Operand} {sz by' k cap c : Nat} {base ao : Option Addr} (h : isAppend o x y T) (hT : ElT P T e sz by') (hx : evF F x = some (.slice base k cap)) (hy : evF F y = some (.slice ao 0 c)) (hk : k ≤ cap) :
    EvF P n H F o (.slice base k cap) := by
  unfold EvF EvOp
  intro t ha B w0 w hS
  exact run_append_op h (by rw [ha.ev hx, ha.ev hy]; exact Fw.appendNone hT hk)

/-! ## structs and slices that are written out -/
theorem foldl_set (off : Nat) : ∀ (vs : List Value) (j : Nat) (cs : Array Value), off + j + vs.length ≤ cs.size → ((vs.zipIdx j).foldl (fun cs p => cs.setIfInBounds (off + p.2) p.1) cs).toList = splice cs.toList (off + j) vs
  | [], j, cs, _ => by simp [splice_nil]
  | v :: vs, j, cs, h => by
    simp only [List.length_cons] at h
    rw [List.zipIdx_cons, List.foldl_cons, foldl_set off vs (j + 1) _ (by simp; omega)]
    rw [Array.toList_setIfInBounds, ← Nat.add_assoc, splice_cons (by simp; omega)]
def fillL (place : Nat → Option (Nat × Nat)) : List Value → List (Nat × Value) → Option (List Value)
  | cs, [] => some cs
  | cs, (i, v) :: r => match place i with
    | none => none
    | some (off, size) => match Nat.beq v.cells.toList.length size, Nat.ble (off + size) cs.length with
      | true, true => fillL place (splice cs off v.cells.toList) r
      | _, _ => none
theorem splice_len {cs vs : List Value} {j : Nat} (h : j + vs.length ≤ cs.length) : (splice cs j vs).length = cs.length := by
  unfold splice; simp; omega
theorem fill_eq (place : Nat → Option (Nat × Nat)) : ∀ (ps : List (Nat × Value)) (cs : Array Value) (r : List Value), fillL place cs.toList ps = some r → Instr.fill place cs ps = some r.toArray
  | [], cs, r, h => by simp only [fillL, Option.some.injEq] at h; subst h; simp [Instr.fill]
  | (i, v) :: ps, cs, r, h => by
    simp only [fillL] at h
    cases hp : place i with
    | none => rw [hp] at h; cases h
    | some q =>
      obtain ⟨off, size⟩ := q
      rw [hp] at h
      simp only at h
      split at h
      · rename_i h1 h2
        have e1 := Nat.eq_of_beq_eq_true h1
        have e2 := Nat.le_of_ble_eq_true h2
        simp only [Array.length_toList] at e1 e2
        simp only [Instr.fill, hp]
        rw [if_neg (by simp only [Bool.or_eq_true, decide_eq_true_eq]; omega)]
        refine fill_eq place ps _ r ?_
        rw [← h]
        congr 1
        have := foldl_set off v.cells.toList 0 cs (by simp; omega)
        rw [Nat.add_zero] at this
        rw [← this, ← Array.foldl_toList, Array.toList_zipIdx]
      · cases h
inductive ArgsP (F : FS) : List (Nat × Operand) → List (Nat × Value) → Prop where
  | nil : ArgsP F [] []
  | cons {i : Nat} {x : Operand} {v : Value} {l : List (Nat × Operand)} {vs : List (Nat × Value)} (h : evF F x = some v) (k : ArgsP F l vs) : ArgsP F ((i, x) :: l) ((i, v) :: vs)
theorem ArgsP.ev {t : List Value} (ha : Ag n F t) {l : List (Nat × Operand)} {vs : List (Nat × Value)} (h : ArgsP F l vs) : l.map (fun p => (p.1, Fw.ev t p.2)) = vs := by
  induction h with
  | nil => rfl
  | cons h _ ih => rw [List.map_cons, ha.ev h, ih]
inductive Places (P : Program) : List (Nat × TypeId) → List (Nat × Nat) → Prop where
  | nil : Places P [] []
  | cons {o T : Nat} {ti : TI} {fs : List (Nat × TypeId)} {ps : List (Nat × Nat)} (h : tiOf P T = some ti) (k : Places P fs ps) : Places P ((o, T) :: fs) ((o, ti.size) :: ps)
theorem Places.run {fs : List (Nat × TypeId)} {ps : List (Nat × Nat)} (h : Places P fs ps) : ∀ (fa : List Field) (w : World), fa.map (fun f => (f.offset, f.type)) = fs → (fa.mapM fun f => (Prod.mk f.offset <$> sizeOf f.type : Sem (Nat × Nat))).run P w = .ok ps w := by
  induction h with
  | nil => intro fa w hf; simp at hf; subst hf; simp
  | cons h _ ih =>
    intro fa w hf
    cases fa with
    | nil => simp at hf
    | cons f fa =>
      simp only [List.map_cons, List.cons.injEq, Prod.mk.injEq] at hf
      obtain ⟨⟨rfl, rfl⟩, hf⟩ := hf
      have := ih fa w hf
      have h2 := ti_size h w
      simp [List.mapM_cons, this, h2]
theorem EvF.build {T : TypeId} {l : List (Nat × Operand)} {vs : List (Nat × Value)} {fs : List (Nat × TypeId)} {ps : List (Nat × Nat)} {s y : Nat} {zs cs : List Value} (h : o.op = .build T l.toArray) (hv : ArgsP F l vs) (hT : tiOf P T = some ⟨.st fs, s, y⟩) (hp : Places P fs ps)
    (hz : ∀ w, (zeroValue T).run P w = .ok (.agg zs.toArray) w) (hf : fillL (fun i => ps[i]?) zs vs = some cs) : EvF P n H F o (.agg cs.toArray) := by
  unfold EvF EvOp
  intro t ha B w0 w hS
  obtain ⟨fa, hu, hm⟩ := ti_struct hT
  have h1 := hp.run fa.toList w hm
  have h2 := fill_eq (fun i => ps[i]?) vs zs.toArray cs (by simpa using hf)
  have h3 := hv.ev ha
  have h4 : (l.toArray.map fun (i, x) => (i, Fw.ev t x)).toList = vs := by rw [← h3]; simp
  have h5 : (fa.mapM fun f => (Prod.mk f.offset <$> sizeOf f.type : Sem (Nat × Nat))).run P w = .ok ps.toArray w := by
    rw [show fa = fa.toList.toArray by simp, List.mapM_toArray]
    simp [h1]
  have h6 : l.map (fun x => (x.1, Fw.ev t x.2)) = vs := h3
  simp [execOp, h, Instr.build, hz, underlying, hu, h5, Value.cells, h6, h2]
theorem ElT.un {T e : TypeId} {sz y : Nat} (h : ElT P T e sz y) (w : World) : (underlying T).run P w = .ok (.slice e) w := by simp [underlying, h.t]
theorem ElT.sz {T e : TypeId} {sz y : Nat} (h : ElT P T e sz y) (w : World) : (sizeOf e).run P w = .ok sz w := by
  obtain ⟨_, i, z, hi, _, hs, _⟩ := h
  simp [sizeOf, typeInfo, hi, hs]
theorem ElT.zero {T e : TypeId} {sz y : Nat} (h : ElT P T e sz y) : ∃ z : Value, z.cells.size = sz ∧ ∀ w, (zeroValue e).run P w = .ok z w := by
  obtain ⟨_, i, z, hi, hz, hs, _, hc⟩ := h
  exact ⟨z, hc, fun w => by simp [zeroValue, typeInfo, hi, hz]⟩
theorem StF.buildNil {T e : TypeId} {sz y : Nat} (h : o.op = .buildSlice T 0 #[]) (hT : ElT P T e sz y) :
    StF P n H F o (fun v H' => ∃ b, v = .slice (some ⟨b, 0, none⟩) 0 0 ∧ H' = ⟨b, 0, [], some e, 0⟩ :: H) := by
  unfold StF StepOp
  intro t ha B w0 w hS
  refine ⟨_, _, _, .inl ?_, hS.alloc [] e, _, rfl, rfl⟩
  have e0 : ((Array.range 0).map (fun _ => (default : Value))) = #[] := by simp
  simp [execOp, h, Instr.buildSlice, hT.un, hT.sz, Instr.fill, newRow, newObj, Sem.run, World.alloc_eq, e0]
theorem StF.buildOne {T e : TypeId} {x : Operand} {sz y : Nat} {v0 : Value} {cs : List Value} (h : o.op = .buildSlice T 1 #[(0, x)]) (hT : ElT P T e sz y) (hx : evF F x = some v0) (hc : v0.cells.toList = cs) (hl : cs.length = sz) (hz : 0 < sz) (hz' : sz ≤ 16777216) :
    StF P n H F o (fun v H' => ∃ b, v = .slice (some ⟨b, 0, none⟩) 1 1 ∧ H' = ⟨b, 0, cs, some e, 1 * sz⟩ :: H) := by
  unfold StF StepOp
  intro t ha B w0 w hS
  obtain ⟨z, hzs, hzr⟩ := hT.zero
  have hS' := hS.alloc cs e
  refine ⟨.slice (some ⟨w.heap.size, 0, none⟩) 1 1, _, _, .inl ?_, hS', _, rfl, by rw [hl, Nat.one_mul]⟩
  have hf := fill_eq (fun i => some (i * sz, sz)) [(0, v0)] ((Array.range (1 * sz)).map (z.cells[· % z.cells.size]!)) cs (by
    simp only [fillL, Nat.zero_mul, Nat.zero_add, hc, hl, Nat.beq_refl, Array.length_toList, Array.size_map, Array.size_range, Nat.one_mul]
    rw [show Nat.ble sz sz = true by rw [Nat.ble_eq]; exact Nat.le_refl _]
    simp only [splice, Option.some.injEq, List.take_zero, List.nil_append]
    rw [List.drop_eq_nil_of_le (by simp [hl]), List.append_nil])
  have h0 : ¬ (sz = 0) := by omega
  have h1 : ¬ (16777216 < sz) := by omega
  simp only [Nat.one_mul] at hf
  simp [execOp, h, Instr.buildSlice, hT.un, hT.sz, hzr, ha.ev hx, h0, h1, hf, newRow, newObj, Sem.run, World.alloc_eq]
/-- onto a row of one's own, whatever list, the empty one too -/
theorem StF.appendSl {α : Type} {enc : α → List Value} {l : List α} {a : Option Addr} {T e : TypeId} {x y : Operand} {sz by' i b k cap c : Nat} {xs : List Value} (h : isAppend o x y T) (hT : ElT P T e sz by') (hx : evF F x = some (.slice (some ⟨b, 0, none⟩) k cap)) (hy : evF F y = some (.slice a l.length c))
    (hi : H[i]? = some ⟨b, 0, xs, some e, cap * sz⟩) (hs : SlE H a enc sz l) (h1 : ∀ e ∈ l, (enc e).all (·.oneCell') = true) (hxs : xs.length = k * sz) (hz : 0 < sz) (hbig : (k + l.length) * (by' + 1) ≤ 140737488355328) :
    StF P n H F o (fun v H' => ∃ b' cap', v = .slice (some ⟨b', 0, none⟩) (k + l.length) cap' ∧ H' = ⟨b', 0, xs ++ l.flatMap enc, some e, cap' * sz⟩ :: H.eraseIdx i) := by
  cases l with
  | nil =>
    unfold StF StepOp
    intro t ha B w0 w hS
    have hr := hS.ok _ (List.mem_of_getElem? hi)
    obtain ⟨hB, _, rest, hg, hlen⟩ := hr
    have hk : k ≤ cap := by
      simp only [List.length_append, hxs] at hlen
      exact Nat.le_of_mul_le_mul_right (by omega : k * sz ≤ cap * sz) hz
    refine ⟨.slice (some ⟨b, 0, none⟩) k cap, w, _, .inl ?_, hS.turn (cs' := xs) (rest := rest) hi (Below.refl _ _) (Nat.le_refl _) (fun _ _ _ => rfl) hg hlen, b, cap, rfl, ?_⟩
    · exact run_append_op h (by rw [ha.ev hx, ha.ev hy]; exact Fw.appendNone hT hk)
    · simp
  | cons q l =>
    obtain ⟨b1, o1, rfl, _⟩ := hs.2 (by simp)
    refine StF.appendOwn h hT hx hy hi hxs (flat_len hs.1) hs.rd ?_ hbig
    rw [List.all_eq_true]
    intro v hv
    obtain ⟨e', he, hv⟩ := List.mem_flatMap.1 hv
    exact List.all_eq_true.1 (h1 e' he) v hv
/-- A row of one's own read as a list of elements. -/
theorem SlE.ofRow {α : Type} {enc : α → List Value} {sz b cap : Nat} {l : List α} {ow : Option TypeId} (hm : ⟨b, 0, l.flatMap enc, ow, cap⟩ ∈ H) (hl : ∀ e ∈ l, (enc e).length = sz) : SlE H (some ⟨b, 0, none⟩) enc sz l := by
  have key : ∀ (i : Nat) (e : α) (j : Nat) (v : Value), l[i]? = some e → (enc e)[j]? = some v → (l.flatMap enc)[i * sz + j]? = some v := by
    clear hm
    intro i e j v
    revert i
    induction l with
    | nil => intro i hi; simp at hi
    | cons q l ih =>
      intro i hi hj
      rw [List.flatMap_cons, List.getElem?_append]
      have hq := hl q (List.mem_cons_self ..)
      cases i with
      | zero =>
        simp only [List.getElem?_cons_zero, Option.some.injEq] at hi
        subst hi
        rw [if_pos (by have := (List.getElem?_eq_some_iff.1 hj).1; omega)]
        simpa using hj
      | succ i =>
        rw [if_neg (by rw [hq, Nat.add_mul]; omega), hq, show (i + 1) * sz + j - sz = i * sz + j by rw [Nat.add_mul]; omega]
        exact ih (fun e he => hl e (List.mem_cons_of_mem _ he)) i (by simpa using hi) hj
  exact ⟨hl, fun _ => ⟨b, 0, rfl, _, 0, hm, rfl, rfl, fun i e j v hi hj => by dsimp only; rw [Nat.zero_add]; exact key i e j v hi hj⟩⟩
end
end Go.Fw
