/- What single operations do to values: fields, loads, indexes. Own work. -/
import Derived.Test.YtglhlhflbomkoaaReg
namespace Go.Proofs.Ytglhlhflbomkoaa
open Go.ChangeShapes Go.WideShapes Go.ChangeAt Go.RowKit
section
variable {P : Program} {o : Oper} {a : Act} {w : World}
theorem ex_nilCheck {x : Operand} {p : Addr} (ho : o.op = .nilCheck x) (hx : a.eval x = .pointer (some p)) : (execOp a.eval o).run P w = .ok (.value (.pointer (some p))) w := by
  unfold execOp; rw [ho]; simp only [hx]; go_simp
theorem ex_fieldAddr {x : Operand} {t : TypeId} {p q : Addr} {f : Nat} (ho : o.op = .fieldAddr t x f) (hx : a.eval x = .pointer (some p)) (h : (Instr.fieldAt t (.pointer (some p)) f).run P w = .ok (.pointer (some q)) w) : (execOp a.eval o).run P w = .ok (.value (.pointer (some q))) w := by
  unfold execOp; rw [ho]; simp only [hx, Sem.run_bind, h, Result.andThen_ok, Sem.run_pure]
end
end Go.Proofs.Ytglhlhflbomkoaa
