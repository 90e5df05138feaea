/- Own work: slices of slices, rows in another order. No condition. -/
import Derived.Test.YtmljpmcipcoaaaaFw5
namespace Go.Fw
open Go Go.RowKit
section
variable {P : Program} {n : Nat} {ops : Array Oper} {i : Nat} {o : Oper} {F : FS} {H : List Row}
theorem add_zero' (a : Addr) : a.add 0 = a := by unfold Addr.add; simp
/-- where the rest of a slice from some element on lies -/
def sfrom (a : Option Addr) (cap lo sz : Nat) : Option Addr := if cap = lo then a else a.map (·.add (lo * sz))
theorem EvF.sliceTo {T e : TypeId} {x q : Operand} {a : Option Addr} {len cap hh s y : Nat} {kk : IntKind} {ti : TI} (h : o.op = .slice T x none (some q) none) (hx : evF F x = some (.slice a len cap)) (hT : tiOf P T = some ⟨.sl e, s, y⟩) (he : tiOf P e = some ti) (hq : evF F q = some (.int kk (hh : Int))) (h1 : hh ≤ cap) :
    EvF P n H F o (.slice a hh cap) := by
  unfold EvF EvOp
  intro t ha B w0 w hS
  have hu := ti_slice hT
  have hsz := ti_size he w
  have hxv := ha.ev hx
  have hqv := ha.ev hq
  have hbd : (Instr.sliceBounds true len cap none (some (.int kk (hh : Int))) none).run P w = .ok (0, hh, cap) w := by
    simp [Instr.sliceBounds, Instr.sliceBound, asIntOf, h1]
  have e1 : (if cap = 0 then a else Option.map (fun x => x.add (0 * ti.size)) a) = a := by
    split
    · rfl
    · cases a <;> simp [add_zero']
  simp only [Nat.zero_mul] at e1
  simp [execOp, h, hxv, hqv, Instr.sliceAt, Instr.slice, underlying, hu, hbd, hsz, e1]
theorem EvF.sliceFrom {T e : TypeId} {x q : Operand} {a : Option Addr} {len cap lo s y : Nat} {kk : IntKind} {ti : TI} (h : o.op = .slice T x (some q) none none) (hx : evF F x = some (.slice a len cap)) (hT : tiOf P T = some ⟨.sl e, s, y⟩) (he : tiOf P e = some ti) (hq : evF F q = some (.int kk (lo : Int))) (h1 : lo ≤ len) (_h2 : len ≤ cap) :
    EvF P n H F o (.slice (sfrom a cap lo ti.size) (len - lo) (cap - lo)) := by
  unfold EvF EvOp
  intro t ha B w0 w hS
  have hu := ti_slice hT
  have hsz := ti_size he w
  have hxv := ha.ev hx
  have hqv := ha.ev hq
  have hbd : (Instr.sliceBounds true len cap (some (.int kk (lo : Int))) none none).run P w = .ok (lo, len, cap) w := by
    simp [Instr.sliceBounds, Instr.sliceBound, asIntOf, h1]
  simp [execOp, h, hxv, hqv, Instr.sliceAt, Instr.slice, underlying, hu, hbd, hsz, sfrom]
theorem sfrom_lt {b off cap lo sz : Nat} (h : lo < cap) : sfrom (some ⟨b, off, none⟩) cap lo sz = some ⟨b, off + lo * sz, none⟩ := by
  unfold sfrom
  rw [if_neg (by omega)]
  simp [add_none]
theorem EvF.sliceFromL {T e : TypeId} {x q : Operand} {b off len cap lo s y : Nat} {kk : IntKind} {ti : TI} (h : o.op = .slice T x (some q) none none) (hx : evF F x = some (.slice (some ⟨b, off, none⟩) len cap)) (hT : tiOf P T = some ⟨.sl e, s, y⟩) (he : tiOf P e = some ti) (hq : evF F q = some (.int kk (lo : Int))) (h1 : lo ≤ len) (h2 : len ≤ cap) (h3 : lo < cap) :
    EvF P n H F o (.slice (some ⟨b, off + lo * ti.size, none⟩) (len - lo) (cap - lo)) := by
  have := EvF.sliceFrom (P := P) (n := n) (H := H) h hx hT he hq h1 h2
  rwa [sfrom_lt h3] at this
theorem sleFrom {α : Type} {a : Option Addr} {enc : α → List Value} {sz cap : Nat} {l : List α} (h : SlE H a enc sz l) (hc : l.length ≤ cap) (k : Nat) : SlE H (sfrom a cap k sz) enc sz (l.drop k) := by
  unfold SlE at h ⊢
  refine ⟨fun e he => h.1 e (List.mem_of_mem_drop he), fun hk => ?_⟩
  rw [List.length_drop] at hk
  obtain ⟨b, off, rfl, r, j0, hr, hb, ho, hcl⟩ := h.2 (by omega)
  refine ⟨b, off + k * sz, sfrom_lt (by omega), r, j0 + k * sz, hr, hb, by omega, fun i e j v hi hj => ?_⟩
  rw [List.getElem?_drop] at hi
  have := hcl (k + i) e j v hi hj
  rw [← this]
  congr 1
  rw [Nat.add_mul]; omega
theorem sleTake {α : Type} {a : Option Addr} {enc : α → List Value} {sz : Nat} {l : List α} (h : SlE H a enc sz l) (k : Nat) : SlE H a enc sz (l.take k) := by
  unfold SlE at h ⊢
  refine ⟨fun e he => h.1 e (List.mem_of_mem_take he), fun hk => ?_⟩
  rw [List.length_take] at hk
  obtain ⟨b, off, ha, r, j0, hr, hb, ho, hc⟩ := h.2 (by omega)
  refine ⟨b, off, ha, r, j0, hr, hb, ho, fun i e j v hi hj => hc i e j v ?_ hj⟩
  rw [List.getElem?_take] at hi
  split at hi
  · exact hi
  · cases hi
theorem XO.forget {N : FS → List Row → Prop} {q b cap : Nat} {el : TypeId} {cs cs' : List Value} (hi : H[q]? = some ⟨b, 0, cs ++ cs', some el, cap⟩) (k : XO P n ops i F (H.set q ⟨b, 0, cs, some el, cap⟩) N) : XO P n ops i F H N := by
  unfold XO WO at *
  intro t ha B w0 w hS
  exact k t ha B w0 w (hS.forget hi)
/-- rows in another order -/
theorem X.permH {c : Code} {Q : QX} {H' : List Row} (hp : H'.Perm H) (k : X P n c F H' Q) : X P n c F H Q := by
  unfold X W at *
  intro t ha B w0 w hS
  exact k t ha B w0 w (hS.perm hp)
/-- a piece of a row can be read -/
theorem Rd.piece {b j cap : Nat} {xs ys zs : List Value} {ow : Option TypeId} (hr : ⟨b, 0, xs ++ ys ++ zs, ow, cap⟩ ∈ H) (hj : xs.length = j) : Rd H ⟨b, 0 + j, none⟩ ys := by
  intro k v hk
  refine ⟨_, hr, j + k, rfl, rfl, by show 0 + (j + k) = 0 + j + k; omega, ?_⟩
  subst hj
  have hk' := (List.getElem?_eq_some_iff.1 hk).1
  rw [List.append_assoc, List.getElem?_append_right (by omega), Nat.add_sub_cancel_left, List.getElem?_append_left hk']
  exact hk
theorem splice_at {xs ys zs vs : List Value} {j : Nat} (hj : xs.length = j) (hv : vs.length = ys.length) : splice (xs ++ ys ++ zs) j vs = xs ++ vs ++ zs := by
  subst hj
  unfold splice
  rw [hv]
  rw [show List.take xs.length (xs ++ ys ++ zs) = xs by rw [List.append_assoc]; exact List.take_left]
  rw [show List.drop (xs.length + ys.length) (xs ++ ys ++ zs) = zs by rw [← List.length_append]; exact List.drop_left]
/-- a table of a region whose last operation alone does something: nothing is drawn -/
def valL (vs : List Value) (k : Nat) (_ : Env) : Value := vs.getD k undef
def rowsL (m : Nat) (new old : Row) (k : Nat) (_ : Env) : List Row := match Nat.beq k m with
  | true => [new]
  | false => match Nat.beq k (m + 1) with
    | true => [old]
    | false => []
end
end Go.Fw
