/- One operation of a region whose value is told. Own work. -/
import Derived.Test.YtflegnlldidmaaaMem
namespace Go.Proofs.Ytflegnlldidmaaa
open Go.RowKit
/-- An operation behind a guard that lets it be done, whose value is told. -/
theorem wpList_wanted {P : Program} {ops : Array Oper} {rest : List Oper} {op : Oper} {a : Act} {w : World} {Q : Exit → Act → World → Prop} (hw : Region.wanted op (yielded ops a.tmps) = true) (v : Value) (h : (execOp a.eval op).run P w = .ok (.value v) w) (hr : wpList P ops Q rest (a.put op.dst v) w) : wpList P ops Q (op :: rest) a w :=
  wpList_step fun K hK => by
    rw [if_pos hw]
    unfold Oper.wp
    rw [h]
    exact hK _ _ hr
end Go.Proofs.Ytflegnlldidmaaa
