/- Structs of this translation that are compared. -/
import Derived.Test.YtmljpmcipcoaaaaB6
import Derived.Test.YtmljpmcipcoaaaaFq
import Derived.Test.YtmljpmcipcoaaaaChecked
import Derived.Tactics2
namespace Go.Proofs.Ytmljpmcipcoaaaa
open Go Go.Fw
noncomputable instance : DecidableEq Sp := fun _ _ => Classical.propDecidable _
noncomputable instance : DecidableEq Bx := fun _ _ => Classical.propDecidable _
noncomputable instance : DecidableEq Mt := fun _ _ => Classical.propDecidable _
noncomputable instance : DecidableEq Rm := fun _ _ => Classical.propDecidable _
theorem eqI (d : Nat) (a b : Int) (w : World) : (Op.equalIn (d + 1) 3 (.int .i64 a) (.int .i64 b)).run Try.prog w = .ok (decide (a = b)) w := by
  rw [run_equalIn_int w d 3 .i64 .i64 a b (by kernel_rfl)]
  by_cases h : a = b <;> simp [h]
theorem eqSp (d : Nat) (e f : Sp) (w : World) : (Op.equalIn (d + 2) 35 (.agg (cSp e).toArray) (.agg (cSp f).toArray)).run Try.prog w = .ok (decide (e = f)) w := by
  have hS : Try.prog.underlying 35 = some (.struct (Try.prog.fieldsOf 35)) := by kernel_rfl
  rw [run_equalIn_agg w (d + 1) 35 _ _ hS (by kernel_rfl)]
  simp only [Program.fieldsOf, Try.underlying35]
  go_simp
  obtain ⟨e1, e2⟩ := e
  obtain ⟨f1, f2⟩ := f
  by_cases h1 : e1 = f1 <;> by_cases h2 : e2 = f2 <;> simp [cSp, eqI, Result.andThen, h1, h2]
theorem eqBx (d : Nat) (e f : Bx) (w : World) : (Op.equalIn (d + 2) 77 (.agg (cBx e).toArray) (.agg (cBx f).toArray)).run Try.prog w = .ok (decide (e = f)) w := by
  have hS : Try.prog.underlying 77 = some (.struct (Try.prog.fieldsOf 77)) := by kernel_rfl
  rw [run_equalIn_agg w (d + 1) 77 _ _ hS (by kernel_rfl)]
  simp only [Program.fieldsOf, Try.underlying77]
  go_simp
  obtain ⟨e1, e2⟩ := e
  obtain ⟨f1, f2⟩ := f
  by_cases h1 : e1 = f1 <;> by_cases h2 : e2 = f2 <;> simp [cBx, eqI, Result.andThen, h1, h2]
theorem eqMt (d : Nat) (e f : Mt) (w : World) : (Op.equalIn (d + 3) 75 (.agg (cMt e).toArray) (.agg (cMt f).toArray)).run Try.prog w = .ok (decide (e = f)) w := by
  have hS : Try.prog.underlying 75 = some (.struct (Try.prog.fieldsOf 75)) := by kernel_rfl
  rw [run_equalIn_agg w (d + 2) 75 _ _ hS (by kernel_rfl)]
  simp only [Program.fieldsOf, Try.underlying75]
  go_simp
  obtain ⟨e1, e2, e3, e4, e5, e6⟩ := e
  obtain ⟨f1, f2, f3, f4, f5, f6⟩ := f
  by_cases h1 : e1 = f1
  · by_cases h2 : e2 = f2
    · by_cases h3 : e3 = f3
      · by_cases h4 : e4 = f4
        · by_cases h5 : e5 = f5 <;> by_cases h6 : e6 = f6 <;> simp [cMt, eqI, Result.andThen, h1, h2, h3, h4, h5, h6]
        · simp [cMt, eqI, Result.andThen, h1, h2, h3, h4]
      · simp [cMt, eqI, Result.andThen, h1, h2, h3]
    · simp [cMt, eqI, Result.andThen, h1, h2]
  · simp [cMt, eqI, Result.andThen, h1]
end Go.Proofs.Ytmljpmcipcoaaaa
