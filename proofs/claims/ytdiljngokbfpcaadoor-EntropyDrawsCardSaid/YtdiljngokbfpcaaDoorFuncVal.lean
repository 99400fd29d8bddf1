/- A method value: made, and called, in a region that draws its order. Own work. -/
import Derived.Test.YtdiljngokbfpcaaDoorReg
import Derived.Test.YtdiljngokbfpcaaDoorMem
import Derived.WalkKit
namespace Go.Proofs.YtdiljngokbfpcaaDoor
open Go.ChangeShapes Go.WideShapes Go.ChangeAt Go.RowKit
theorem run_makeFunc (fn : Fn) (first cap : Array Value) (w : World) : (Instr.makeFunc fn first cap).run Tryd.prog w = .ok (.func fn first cap) w := rfl
/-- A function value that is a method value is called: the method, its receiver first. -/
theorem ex_call_fn {o : Oper} {a : Act} {w : World} {t : Operand} {g : FuncId} {r : Value} {xs : Array Operand} {ts : Array TypeId} {vs : Array Value} (ho : o.op = .call { callee := .value t, args := xs, argTypes := ts }) (ht : a.eval t = .func (.func g) #[r] #[]) (hx : xs.map a.eval = vs) (hf : (callFunc g (#[r] ++ vs)).run Tryd.prog w = .ok (.enter g (#[r] ++ vs)) w) : (execOp a.eval o).run Tryd.prog w = .ok (.enter g (#[r] ++ vs)) w := by
  subst hx
  obtain ⟨ρ, hρ⟩ : ∃ ρ, ρ = a.eval := ⟨_, rfl⟩
  rw [← hρ] at ht hf ⊢
  unfold execOp
  rw [ho]
  simp only [resolve, ht]
  go_simp
  rw [← hρ]
  exact hf
end Go.Proofs.YtdiljngokbfpcaaDoor
