/- Own work: structs that are compared. No condition. -/
import Derived.Test.YtmljpmcipcoaaaaFw3
import Derived.Laws.StructEq
namespace Go.Fw
open Go
section
variable {P : Program} {H : List Row} {n : Nat} {F : FS} {o : Oper}
theorem EvF.eqSt {op : BinOp} {T T' : TypeId} {x y : Operand} {xs ys : Array Value} {r b : Bool} (h : o.op = .binOp op T x y T') (hx : evF F x = some (.agg xs)) (hy : evF F y = some (.agg ys)) (hm : P.eqGuardType P.depth T = false)
    (hE : ∀ w, (Op.equalIn 10000 T (.agg xs) (.agg ys)).run P w = .ok r w) (hb : (match (generalizing := false) op with | .eql => some r | .neq => some (!r) | _ => none) = some b) : EvF P n H F o (.bool b) := by
  unfold EvF EvOp; intro t ha B w0 w hS
  have ex := ha.ev hx
  have ey := ha.ev hy
  cases op <;> simp only [Option.some.injEq, reduceCtorEq] at hb <;> subst hb
  · simp [execOp, h, ex, ey, run_eqGuard_agg w _ T x y xs ys hm, run_eql_struct w T xs ys, hE]
  · simp [execOp, h, ex, ey, run_eqGuard_agg w _ T x y xs ys hm, run_neq_struct w T xs ys, hE]
end
end Go.Fw
