/- Bytes and the strings of them; strings compared. Own work. -/
import Derived.Test.YtllhljhbnopafaaDoorOctMem
import Derived.BigQuiet
namespace Go.Proofs.YtllhljhbnopafaaDoor
open Go.ChangeShapes Go.WideShapes Go.ChangeAt Go.RowKit
theorem sb_bstr (l : List Nat) (hl : ∀ k, gb l k < 256) : sb (bstr l) = l := by
  unfold sb bstr strOfNums
  apply List.ext_getElem
  · simp
  · intro i h1 h2
    have := hl i
    unfold gb at this
    rw [List.getD_eq_getElem?_getD, List.getElem?_eq_getElem h2] at this
    simp at this ⊢
    omega
theorem bstr_iff {l m : List Nat} (hl : ∀ k, gb l k < 256) (hm : ∀ k, gb m k < 256) : bstr l = bstr m ↔ l = m := by
  refine ⟨fun h => ?_, fun h => by rw [h]⟩
  rw [← sb_bstr l hl, ← sb_bstr m hm, h]
theorem run_eql_str (s t : ByteArray) (w : World) : (binOp .eql 9 (.string s) (.string t)).run Tryd.prog w = .ok (.bool (decide (s = t))) w := by
  by_cases h : s = t
  · subst h; go_simp
  · go_simp; intro e; rw [ByteArray.toList_eq, ByteArray.toList_eq] at e; exact h (by cases s; cases t; congr 1; exact Array.toList_inj.1 e)
theorem run_eql_bool (a b : Bool) (w : World) : (binOp .eql 4 (.bool a) (.bool b)).run Tryd.prog w = .ok (.bool (decide (a = b))) w := by
  cases a <;> cases b <;> go_simp <;> rfl
end Go.Proofs.YtllhljhbnopafaaDoor
