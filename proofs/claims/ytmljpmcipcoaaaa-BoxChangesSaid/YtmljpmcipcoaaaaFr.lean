/- Own work: operations that are skipped since their guard was. No condition. -/
import Derived.Test.YtmljpmcipcoaaaaFq
namespace Go.Fw
open Go
def udF (ops : List Oper) (F : FS) (j : Nat) : Bool :=
  match opAt ops j with
  | some o => match o.dst with
    | some d => match lk F d with
      | some (.tuple _) => true
      | _ => false
    | none => false
  | none => false
theorem udF_eq {n : Nat} {ops : Array Oper} {F : FS} {t : List Value} {j : Nat} (ha : Ag n F t) (h : udF ops.toList F j = true) : yielded ops t.toArray j = none := by
  unfold udF at h
  unfold yielded
  cases ho : opAt ops.toList j with
  | none => rw [ho] at h; cases h
  | some o =>
    rw [ho] at h
    simp only at h
    have := opAt_arr ho
    rw [this]
    cases hd : o.dst with
    | none => rw [hd] at h; cases h
    | some d =>
      rw [hd] at h
      simp only at h
      simp only [Option.bind_some, hd, List.getElem?_toArray]
      cases ht : lk F d with
      | none => rw [ht] at h; cases h
      | some v => rw [ha.2 d v ht]; rw [ht] at h; cases v <;> simp_all
theorem ud_wanted {n : Nat} {ops : Array Oper} {F : FS} {t : List Value} {o : Oper} {j : Nat} {w : Bool} (hg : o.guard = some (j, w)) (ha : Ag n F t) (h : udF ops.toList F j = true) : Region.wanted o (yielded ops t.toArray) = false := by
  unfold Region.wanted
  rw [hg]
  simp only [udF_eq ha h]
  rfl
section
variable {P : Program} {n : Nat} {ops : Array Oper} {i : Nat} {o : Oper} {F : FS} {H : List Row}
theorem Xo.sk {N : FS → List Row → Prop} {j d : Nat} {w : Bool} (hg : o.guard = some (j, w)) (hy : udF ops.toList F j = true) (hx : o.dst = some d) (hd : Nat.blt d n = true) (k : XO P n ops (i + 1) ((d, undef) :: F) H N) : Xo P n ops i o F H N := by
  unfold Xo XO
  unfold XO at k
  exact fun ho t ha => WO.skip ho (ud_wanted hg ha hy) (k _ (hx ▸ ha.put (d := some d) hd _))
theorem Yo.sk {N : FS → Prop} {j d : Nat} {w : Bool} (hg : o.guard = some (j, w)) (hy : udF ops.toList F j = true) (hx : o.dst = some d) (hd : Nat.blt d n = true) (k : XQ P n ops (i + 1) ((d, undef) :: F) H N) : Yo P n ops i o F H N := by
  unfold Yo XQ
  unfold XQ at k
  exact fun ho t ha => WQ.skip ho (ud_wanted hg ha hy) (k _ (hx ▸ ha.put (d := some d) hd _))
end
end Go.Fw
