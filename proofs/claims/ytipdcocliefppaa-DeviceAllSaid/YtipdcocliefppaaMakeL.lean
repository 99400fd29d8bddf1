/- 'make([]byte, n)' where operations come in order; texts cut and joined. Own work. -/
import Derived.Test.YtipdcocliefppaaMakeG
namespace Go.Proofs.Ytipdcocliefppaa
open Go.ChangeShapes Go.WideShapes Go.ChangeAt Go.RowKit
theorem wpList_make_bytes {ops : Array Oper} {rest : List Oper} {o : Oper} {a : Act} {w : World} {Q : Exit → Act → World → Prop} (hgd : o.guard = none) (x y : Operand) (ho : o.op = .makeSlice 33 x y) (B n : Nat) (hn : n ≤ 140737488355328) (hx : a.eval x = .int .i64 (n : Int)) (hy : a.eval y = .int .i64 (n : Int)) (hB : B ≤ w.heap.size)
    (h : ∀ w', Own w' B (.slice (some ⟨w.heap.size, 0, none⟩) n n) (List.replicate n 0) → Below w.heap.size w w' → wpList Try.prog ops Q rest (a.put o.dst (.slice (some ⟨w.heap.size, 0, none⟩) n n)) w') : wpList Try.prog ops Q (o :: rest) a w := by
  refine wpList_plain hgd fun K hK => ?_
  obtain ⟨w', hr, hown, hb⟩ := run_make_bytes w B hB n hn
  unfold Oper.wp
  simp only [execOp, ho, hx, hy, Sem.run_bind, hr, Result.andThen_ok, Sem.run_pure, Oper.upon_value]
  exact hK _ _ (h w' hown hb)
theorem bstr_join (l m : List Nat) : bstr l ++ bstr m = bstr (l ++ m) := by
  unfold bstr strOfNums
  apply ByteArray.ext
  simp
theorem bstr_head (l : List Nat) (n : Nat) : (bstr l).extract 0 n = bstr (l.take n) := by
  unfold bstr strOfNums
  apply ByteArray.ext
  simp [ByteArray.data_extract, List.map_take]
theorem bstr_tail (l : List Nat) (n : Nat) : (bstr l).extract n (bstr l).size = bstr (l.drop n) := by
  rw [bstr_size]
  unfold bstr strOfNums
  apply ByteArray.ext
  simp [ByteArray.data_extract, List.map_drop]
  exact List.take_of_length_le (by simp)
theorem bstr_mid (l : List Nat) (a b : Nat) : (bstr l).extract a b = bstr ((l.take b).drop a) := by
  unfold bstr strOfNums
  apply ByteArray.ext
  simp [ByteArray.data_extract, List.map_drop, List.map_take]
  rw [List.drop_take]
end Go.Proofs.Ytipdcocliefppaa
