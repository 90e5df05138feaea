/- Own work: copy, clear, append of a make, literals of two, slices held against nil. No condition. -/
import Derived.Test.YtmljpmcipcoaaaaFw4
import Derived.Lib.Overlaps
import Derived.Lib.AppendZerosOnto
namespace Go.Fw
open Go Go.RowKit
section
variable {P : Program} {n : Nat} {ops : Array Oper} {i : Nat} {o : Oper} {F : FS} {H : List Row}
/-- a slice that has an address, held against nil -/
theorem EvF.eqNil {T T' e : TypeId} {x : Operand} {ad : Addr} {len cap s y : Nat} (h : o.op = .binOp .eql T x (.const (.slice none 0 0)) T') (hx : evF F x = some (.slice (some ad) len cap)) (hT : tiOf P T = some ⟨.sl e, s, y⟩) : EvF P n H F o (.bool false) := by
  unfold EvF EvOp
  intro t ha B w0 w hS
  have hu := ti_slice hT
  have h1 : (binOp .eql T (.slice (some ad) len cap) (.slice none 0 0)).run P w = .ok (.bool false) w := by
    show Sem.run P (do pure (Value.bool (← Op.equalIn 10000 T (.slice (some ad) len cap) (.slice none 0 0)))) w = _
    rw [show (10000 : Nat) = 9999 + 1 from rfl]
    unfold Op.equalIn
    simp [underlying, hu]
  have hxv := ha.ev hx
  simp [execOp, h, hxv, show Fw.ev t (.const (.slice none 0 0)) = .slice none 0 0 from rfl, eqGuard, h1]
theorem EvF.capSlice {T e : TypeId} {x : Operand} {a : Option Addr} {len cap s y : Nat} (h : o.op = .call { callee := .builtin .cap, args := #[x], argTypes := #[T] }) (hx : evF F x = some (.slice a len cap))
    (hT : tiOf P T = some ⟨.sl e, s, y⟩) : EvF P n H F o (.int .i64 cap) := by
  unfold EvF EvOp
  intro t ha B w0 w hS
  simp [execOp, h, ha.ev hx, resolve, invoke, builtin, Builtin.cap_, underlying, ti_slice hT, goInt]
theorem loadCells_rd {B : Nat} {w0 w : World} {a : Addr} {vs : List Value} (h : Rd H a vs) (hS : St B w0 H w) : (loadCells a vs.length).run P w = .ok vs.toArray w := run_loadCells_list (P := P) (w := w) a vs (h.cell hS)
/-- copy into a row of one's own -/
theorem StF.copyOwn {T e : TypeId} {x y : Operand} {sz by' q b j dLen dCap sLen sCap m cap : Nat} {a : Addr} {cs vs : List Value} (h : o.op = .call { callee := .builtin .copy, args := #[x, y], argTypes := #[T, T] }) (hT : ElT P T e sz by')
    (hx : evF F x = some (.slice (some ⟨b, j, none⟩) dLen dCap)) (hy : evF F y = some (.slice (some a) sLen sCap)) (hi : H[q]? = some ⟨b, 0, cs, some e, cap⟩) (hm : Nat.min sLen dLen = m) (hn : vs.length = m * sz) (hr : Rd H a vs) (h1 : vs.all (·.oneCell') = true) (hl : j + vs.length ≤ cs.length) :
    StF P n H F o (fun v H' => v = .int .i64 m ∧ H' = H.set q ⟨b, 0, splice cs j vs, some e, cap⟩) := by
  unfold StF StepOp
  intro t ha B w0 w hS
  obtain ⟨w', hst, hS'⟩ := store_cells (P := P) vs cs H w j 0 hS hi (fun v hv => List.all_eq_true.1 h1 v hv) (by omega)
  refine ⟨.int .i64 m, w', _, .inl ?_, hS', rfl, rfl⟩
  have hld := loadCells_rd (P := P) hr hS
  rw [hn] at hld
  simp [execOp, h, ha.ev hx, ha.ev hy, resolve, invoke, builtin, Builtin.copy_, hT.un, hT.sz, Builtin.lenOf, Builtin.firstCells, hm, hld, hst, goInt]
/-- what is known of a row may be forgotten from some cell on -/
theorem St.forget {B : Nat} {w0 w : World} (hS : St B w0 H w) {q b cap : Nat} {el : TypeId} {cs cs' : List Value} (hi : H[q]? = some ⟨b, 0, cs ++ cs', some el, cap⟩) : St B w0 (H.set q ⟨b, 0, cs, some el, cap⟩) w := by
  refine ⟨hS.below, hS.size, fun r hr => ?_, pairwise_set H q _ _ hi (fun s k ho => k ho) (fun s k ho => k ho) hS.sep⟩
  rcases List.mem_or_eq_of_mem_set hr with hr | rfl
  · exact hS.ok r hr
  · obtain ⟨h1, h2, rest, h3, h4⟩ := hS.ok _ (List.mem_of_getElem? hi)
    exact ⟨h1, h2, cs' ++ rest, by rw [← List.append_assoc]; exact h3, by rw [← List.append_assoc]; exact h4⟩
theorem X.forget {c : Code} {Q : QX} {q b cap : Nat} {el : TypeId} {cs cs' : List Value} (hi : H[q]? = some ⟨b, 0, cs ++ cs', some el, cap⟩) (k : X P n c F (H.set q ⟨b, 0, cs, some el, cap⟩) Q) : X P n c F H Q := by
  unfold X W at *
  intro t ha B w0 w hS
  exact k t ha B w0 w (hS.forget hi)
/-- all cells of a row -/
theorem St.reveal {B : Nat} {w0 w : World} (hS : St B w0 H w) {q b cap : Nat} {el : TypeId} {cs : List Value} (hi : H[q]? = some ⟨b, 0, cs, some el, cap⟩) : ∃ rest, (cs ++ rest).length = cap ∧ St B w0 (H.set q ⟨b, 0, cs ++ rest, some el, cap⟩) w := by
  obtain ⟨h1, h2, rest, h3, h4⟩ := hS.ok _ (List.mem_of_getElem? hi)
  refine ⟨rest, h4, hS.below, hS.size, fun r hr => ?_, pairwise_set H q _ _ hi (fun s k ho => k ho) (fun s k ho => k ho) hS.sep⟩
  rcases List.mem_or_eq_of_mem_set hr with hr | rfl
  · exact hS.ok r hr
  · exact ⟨h1, h2, [], by simpa using h3, by simpa using h4⟩
theorem X.reveal {c : Code} {Q : QX} {q b cap : Nat} {el : TypeId} {cs : List Value} (hi : H[q]? = some ⟨b, 0, cs, some el, cap⟩) (k : ∀ rest, (cs ++ rest).length = cap → X P n c F (H.set q ⟨b, 0, cs ++ rest, some el, cap⟩) Q) : X P n c F H Q := by
  unfold X W at *
  intro t ha B w0 w hS
  obtain ⟨rest, hl, hS'⟩ := hS.reveal hi
  exact k rest hl t ha B w0 w hS'
/-- append of a make, where there is no room -/
theorem StF.appendMake {T TI e : TypeId} {x y : Operand} {kn : IntKind} {sz by' b k cap q s y' : Nat} {xs : List Value} (h : o.op = .call { callee := .builtin .append, args := #[x, y], argTypes := #[T, TI] }) (hT : ElT P T e sz by') (hI : tiOf P TI = some ⟨.int kn, s, y'⟩)
    (hx : evF F x = some (.slice (some ⟨b, 0, none⟩) k cap)) (hy : evF F y = some (.int .i64 (q : Int))) (hr : Rd H ⟨b, 0, none⟩ xs) (hxs : xs.length = k * sz) (hz : 0 < sz) (hq : 0 < q) (hg : cap < k + q) (hbig : (k + q) * (by' + 1) ≤ 140737488355328) :
    StF P n H F o (fun v H' => ∃ b' cap' zs, v = .slice (some ⟨b', 0, none⟩) (k + q) cap' ∧ zs.length = q * sz ∧ k + q ≤ cap' ∧ H' = ⟨b', 0, xs ++ zs, some e, cap' * sz⟩ :: H) := by
  unfold StF StepOp
  intro t ha B w0 w hS
  obtain ⟨ht, inf, z, hinf, hzz, rfl, rfl, hzs⟩ := hT
  have htn : ∃ kn, P.underlying TI = some (.int kn) := by
    obtain ⟨i, d, hi, hd, hk, _⟩ := ti_spec hI
    cases d <;> simp only [tkOf, reduceCtorEq, TK.int.injEq] at hk
    exact ⟨_, hd⟩
  obtain ⟨kn', htn⟩ := htn
  have hb0 : k + q ≤ 140737488355328 := Nat.le_trans (Nat.le_mul_of_pos_right _ (Nat.succ_pos _)) hbig
  have hb1 : (k + q) * inf.bytes ≤ 140737488355328 := Nat.le_trans (Nat.mul_le_mul_left _ (Nat.le_succ _)) hbig
  have hb2 : q * inf.bytes ≤ 281474976710656 := Nat.le_trans (Nat.mul_le_mul_right _ (by omega : q ≤ k + q)) (by omega)
  have hold : (Builtin.firstCells inf.size k (.slice (some ⟨b, 0, none⟩) k cap)).run P w.drew = .ok xs.toArray w.drew := by
    have := loadCells_rd (P := P) hr (hS.drewN 1)
    rw [hxs] at this
    exact this
  have hrun := Lib.run_append_grow_zeros (P := P) w T TI o.type e inf z .i64 kn' ht htn hinf hzz (some ⟨b, 0, none⟩) k cap xs hold q hq hz hg (by omega) hb2 (growslice_fits (by omega) hb1)
  have hge := grownCap_ge w (k + q) cap e
  have hS2 := (hS.drewN 1).allocPre (xs ++ (Builtin.zeroCells z.cells q).toList) (Builtin.zeroCells z.cells (grownCap w (k + q) cap e - (k + q))).toList e
  refine ⟨_, w.drew.alloc (.cells (xs.toArray ++ Builtin.zeroCells z.cells q ++ Builtin.zeroCells z.cells (grownCap w (k + q) cap e - (k + q))) e), _, .inl ?_, ?_, w.heap.size, grownCap w (k + q) cap e, (Builtin.zeroCells z.cells q).toList, rfl, ?_, hge, rfl⟩
  · simp [execOp, h, ha.ev hx, ha.ev hy, resolve, invoke, builtin, hrun]
  · have e3 : (xs ++ (Builtin.zeroCells z.cells q).toList ++ (Builtin.zeroCells z.cells (grownCap w (k + q) cap e - (k + q))).toList).length = grownCap w (k + q) cap e * inf.size := by
      simp only [List.length_append, Array.length_toList, size_zeroCells, hzs, hxs, ← Nat.add_mul]
      congr 1; omega
    rw [e3] at hS2
    have e4 : (xs ++ (Builtin.zeroCells z.cells q).toList ++ (Builtin.zeroCells z.cells (grownCap w (k + q) cap e - (k + q))).toList).toArray = xs.toArray ++ Builtin.zeroCells z.cells q ++ Builtin.zeroCells z.cells (grownCap w (k + q) cap e - (k + q)) := by
      apply Array.ext'; simp
    rw [e4] at hS2
    exact hS2
  · rw [Array.length_toList, size_zeroCells, hzs]
/-- slices of two blocks of one's own do not overlap -/
theorem StF.apart {T TR e : TypeId} {f : FuncId} {fn : Func} {x y : Operand} {tys : Array TypeId} {sz by' p q a b j la ca lb cb capA capB : Nat} {csA csB : List Value} {elA elB : TypeId} (h : o.op = .call { callee := .value (.func f), args := #[x, y], argTypes := tys })
    (hf : P.funcs[f]? = some fn) (hname : (fn.name == "runtime.NumGoroutine") = false) (hb : fn.body.isNone = true) (hn : Extern.findNext fn = none) (hE : Extern.find fn = some (Extern.SlicesOverlaps.overlaps #[T, T] #[TR])) (hT : ElT P T e sz by')
    (hx : evF F x = some (.slice (some ⟨a, 0, none⟩) la ca)) (hy : evF F y = some (.slice (some ⟨b, j, none⟩) lb cb)) (hp : H[p]? = some ⟨a, 0, csA, some elA, capA⟩) (hq : H[q]? = some ⟨b, 0, csB, some elB, capB⟩) (hpq : p ≠ q) (hc : capB ≠ 0) :
    StF P n H F o (fun v H' => v = .bool false ∧ H' = H) := by
  unfold StF StepOp
  intro t ha B w0 w hS
  refine ⟨.bool false, w, H, .inl ?_, hS, rfl, rfl⟩
  obtain ⟨_, _, rA, hA, hAl⟩ := hS.ok _ (List.mem_of_getElem? hp)
  obtain ⟨_, _, rB, hB, hBl⟩ := hS.ok _ (List.mem_of_getElem? hq)
  have hne : a ≠ b := fun e => (sep_other hS.sep hp hq hpq rfl) e.symm
  dsimp only at hA hAl hB hBl
  have hov := Lib.run_overlaps_apart (P := P) w T TR e hT.t sz hT.sz ⟨a, 0, none⟩ ⟨b, j, none⟩ la ca lb cb hne elA elB capA capB (by unfold World.shape?; rw [hA]; simp [← hAl]) (by unfold World.shape?; rw [hB]; simp [← hBl]) hc
    (by unfold World.frozen?; simp [hA]) (by unfold World.frozen?; simp [hA])
  have hcall := run_callFunc_extern (P := P) hf hname hb hn hE #[.slice (some ⟨a, 0, none⟩) la ca, .slice (some ⟨b, j, none⟩) lb cb] w
  rw [hov] at hcall
  have hcall' : (callFunc f #[.slice (some ⟨a, 0, none⟩) la ca, .slice (some ⟨b, j, none⟩) lb cb]).run P w = .ok (.value (.bool false)) w := hcall
  have hxv := ha.ev hx
  have hyv := ha.ev hy
  simp [execOp, h, hxv, hyv, show Fw.ev t (.func f) = .func (.func f) #[] #[] from rfl, resolve, Deferred.ofValue, invoke, hcall']
/-- a literal of two -/
theorem StF.buildTwo {T e : TypeId} {x y : Operand} {sz y' : Nat} {v0 v1 : Value} {cs ds : List Value} (h : o.op = .buildSlice T 2 #[(0, x), (1, y)]) (hT : ElT P T e sz y') (hx : evF F x = some v0) (hy : evF F y = some v1) (hc : v0.cells.toList = cs) (hd : v1.cells.toList = ds) (hl : cs.length = sz) (hl' : ds.length = sz) (hz : 0 < sz) (hz' : 2 * sz ≤ 16777216) :
    StF P n H F o (fun v H' => ∃ b, v = .slice (some ⟨b, 0, none⟩) 2 2 ∧ H' = ⟨b, 0, cs ++ ds, some e, 2 * sz⟩ :: H) := by
  unfold StF StepOp
  intro t ha B w0 w hS
  obtain ⟨z, hzs, hzr⟩ := hT.zero
  have hS' := hS.alloc (cs ++ ds) e
  refine ⟨.slice (some ⟨w.heap.size, 0, none⟩) 2 2, _, _, .inl ?_, hS', _, rfl, by rw [List.length_append, hl, hl']; congr 2; omega⟩
  have hf := fill_eq (fun i => some (i * sz, sz)) [(0, v0), (1, v1)] ((Array.range (2 * sz)).map (z.cells[· % z.cells.size]!)) (cs ++ ds) (by
    simp only [fillL, Nat.zero_mul, Nat.zero_add, Nat.one_mul, hc, hd, hl, hl', Nat.beq_refl, Array.length_toList, Array.size_map, Array.size_range]
    rw [show Nat.ble sz (2 * sz) = true by rw [Nat.ble_eq]; omega]
    simp only [splice, List.take_zero, List.nil_append, Nat.zero_add, hl]
    rw [show Nat.ble (sz + sz) (cs ++ List.drop sz (Array.map (fun x => z.cells[x % z.cells.size]!) (Array.range (2 * sz))).toList).length = true by
      rw [Nat.ble_eq]; simp [hl]; omega]
    simp only [Option.some.injEq]
    rw [show List.take sz (cs ++ List.drop sz (Array.map (fun x => z.cells[x % z.cells.size]!) (Array.range (2 * sz))).toList) = cs by rw [← hl, List.take_left]]
    rw [List.drop_eq_nil_of_le (by simp [hl, hl']; omega), List.append_nil])
  have h0 : ¬ (sz = 0) := by omega
  have h1 : ¬ (16777216 < 2 * sz) := by omega
  simp [execOp, h, Instr.buildSlice, hT.un, hT.sz, hzr, ha.ev hx, ha.ev hy, h1, hf, newRow, newObj, Sem.run, World.alloc_eq]
  intro h2; omega
theorem zero_one {z : Value} (h : z.cells.all (·.oneCell') = true) (m : Nat) : ∀ v ∈ (Builtin.zeroCells z.cells m).toList, v.oneCell' = true := by
  intro v hv
  unfold Builtin.zeroCells at hv
  simp only [Array.toList_map, List.mem_map, Array.toList_range, List.mem_range] at hv
  obtain ⟨k, hk, rfl⟩ := hv
  have h0 : 0 < z.cells.size := by
    rcases Nat.eq_zero_or_pos z.cells.size with h0 | h0
    · rw [h0, Nat.mul_zero] at hk; omega
    · exact h0
  have hlt : k % z.cells.size < z.cells.size := Nat.mod_lt _ h0
  rw [getElem!_pos z.cells _ hlt]
  exact Array.all_eq_true_iff_forall_mem.1 h _ (Array.getElem_mem hlt)
/-- clear of a part of a row of one's own -/
theorem StF.clear {T e : TypeId} {x : Operand} {sz by' q b j m c cap : Nat} {cs : List Value} (h : o.op = .call { callee := .builtin .clear, args := #[x], argTypes := #[T] }) (hT : ElT P T e sz by')
    (hx : evF F x = some (.slice (some ⟨b, j, none⟩) m c)) (hi : H[q]? = some ⟨b, 0, cs, some e, cap⟩) (hl : j + m * sz ≤ cs.length) (hone : ∀ (z : Value) (w : World), (zeroValue e).run P w = .ok z w → z.cells.all (·.oneCell') = true) :
    StF P n H F o (fun _ H' => ∃ zs, zs.length = m * sz ∧ H' = H.set q ⟨b, 0, splice cs j zs, some e, cap⟩) := by
  unfold StF StepOp
  intro t ha B w0 w hS
  obtain ⟨z, hzs, hzr⟩ := hT.zero
  have hz1 := zero_one (hone z w (hzr w)) m
  have hzl : (Builtin.zeroCells z.cells m).toList.length = m * sz := by rw [Array.length_toList, size_zeroCells, hzs]
  obtain ⟨w', hst, hS'⟩ := store_cells (P := P) (Builtin.zeroCells z.cells m).toList cs H w j 0 hS hi hz1 (by rw [hzl]; omega)
  have hxv := ha.ev hx
  refine ⟨.tuple #[], w', _, .inl ?_, hS', _, hzl, rfl⟩
  cases m with
  | zero =>
    have h0 : (Builtin.zeroCells z.cells 0).toList = [] := List.eq_nil_of_length_eq_zero (by rw [hzl, Nat.zero_mul])
    rw [h0] at hst
    simp [storeCells] at hst
    subst hst
    simp [execOp, h, hxv, resolve, invoke, builtin, Builtin.clear_, hT.un]
  | succ m =>
    simp [execOp, h, hxv, resolve, invoke, builtin, Builtin.clear_, hT.un, hzr, hst]
/-- a struct is stored in a row of one's own -/
theorem StF.storeAt {T : TypeId} {a x : Operand} {q b j cap : Nat} {el : TypeId} {cs vs : List Value} {ti : TI} (h : o.op = .store T a x) (hx : evF F a = some (.pointer (some ⟨b, j, none⟩))) (hv : evF F x = some (.agg vs.toArray)) (hT : tiOf P T = some ti) (hi : H[q]? = some ⟨b, 0, cs, some el, cap⟩)
    (hn : vs.length = ti.size) (h1 : vs.all (·.oneCell') = true) (hl : j + vs.length ≤ cs.length) : StF P n H F o (fun u H' => u = undef ∧ H' = H.set q ⟨b, 0, splice cs j vs, some el, cap⟩) := by
  unfold StF
  intro t ha
  exact StepOp.store h (ha.ev hx) hT (by rw [ha.ev hv]; rfl) hi hn h1 hl
end
end Go.Fw
