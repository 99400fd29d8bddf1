/- Single operations of a region: an allocation of a row, a call with one row. Own work. -/
import Derived.Test.YthbeabpbogekcaaTwiceMath
import Derived.WalkKit
namespace Go.Proofs.Ythbeabpbogekcaa
open Go.ChangeShapes Go.WideShapes Go.ChangeAt Go.RowKit
open FM
theorem alloc_step {o : Oper} {a : Act} {w : World} {K : Act → World → Prop} {Q : Exit → Act → World → Prop} (ho : o.op = .alloc 29)
    (h : K (a.put o.dst (.pointer (some ⟨w.heap.size, 0, none⟩))) (w.alloc (.cells (row8 (twTo [] 0)).toArray 29))) : o.wp Try.prog a w K Q := by
  unfold Oper.wp execOp
  rw [ho]
  go_simp
  exact h
theorem call_step {o : Oper} {a : Act} {w : World} {K : Act → World → Prop} {Q : Exit → Act → World → Prop} (x : Nat) (ho : o.op = .call { callee := .value (.func 22), args := #[.tmp x], argTypes := #[29] })
    (l : List Nat) (hl : Bytes 16 l) (hx : a.eval (.tmp x) = .agg (row8 l).toArray) (h : ∀ w', Below w.heap.size w w' → K (a.put o.dst (.agg (row8 (tw l)).toArray)) w') : o.wp Try.prog a w K Q := by
  have e : (execOp a.eval o).run Try.prog w = .ok (.enter 22 #[.agg (row8 l).toArray]) w := by
    unfold execOp; rw [ho]; go_simp; simpa [Act.eval] using hx
  unfold Oper.wp; rw [e]
  refine Calls.mono (twice_any l hl w) ?_
  intro e w' hh
  obtain ⟨h1, hb⟩ := hh
  rw [h1]
  exact h _ hb
end Go.Proofs.Ythbeabpbogekcaa
