/- A guard that is not met since what it asks was itself passed over. Cut off SlotsBack's walk in round 16. Own work. -/
import Derived.Test.YtoacdeddkfcllaaDoorReg
namespace Go.Proofs.YtoacdeddkfcllaaDoor
open Go.ChangeShapes Go.WideShapes Go.ChangeAt Go.RowKit
theorem yielded_undef {ops : List Oper} {a : Act} {j : Nat} {d : Tmp} (hd : (ops[j]?).bind (·.dst) = some d) (h : a.tmps.getD d undef = undef) : yielded ops.toArray a.tmps j = none := by
  unfold yielded
  have e : ((ops.toArray[j]?).bind (·.dst)) = some d := by simpa using hd
  rw [e]
  rw [Array.getD_eq_getD_getElem?] at h
  cases q : a.tmps[d]? with
  | none => simp [q]
  | some x => rw [q] at h; simp at h; subst h; simp [q, undef]
theorem unwanted_undef {o : Oper} {ops : List Oper} {a : Act} {j : Nat} {b : Bool} (hg : o.guard = some (j, b)) (h : yielded ops.toArray a.tmps j = none) : Region.wanted o (yielded ops.toArray a.tmps) = false := by
  unfold Region.wanted
  rw [hg]
  show (yielded ops.toArray a.tmps j == some b) = false
  rw [h]; rfl
end Go.Proofs.YtoacdeddkfcllaaDoor
