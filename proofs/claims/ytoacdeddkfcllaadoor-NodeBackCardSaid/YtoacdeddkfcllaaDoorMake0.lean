/- 'make([]byte, 0, n)'. Own work. -/
import Derived.Test.YtoacdeddkfcllaaDoorMem
import Derived.Test.YtoacdeddkfcllaaDoorReg
import Derived.Test.YtoacdeddkfcllaaDoorEqX
import Derived.Laws.MakeOwn
namespace Go.Proofs.YtoacdeddkfcllaaDoor
open Go.ChangeShapes Go.WideShapes Go.ChangeAt Go.RowKit
theorem run_make0 (w : World) (B : Nat) (hB : B ≤ w.heap.size) (n : Nat) (hn : n ≤ 1024) : ∃ w', (Instr.makeSlice 29 (.int .i64 0) (.int .i64 (n : Int))).run Tryd.prog w = .ok (.slice (some ⟨w.heap.size, 0, none⟩) 0 n) w' ∧ Own w' B (.slice (some ⟨w.heap.size, 0, none⟩) 0 n) [] ∧ Below w.heap.size w w' ∧ w.heap.size < w'.heap.size := by
  obtain ⟨i0, hi, hz0, hz1, hz2⟩ := info_parts infoB
  obtain ⟨w', hr, ho, hg⟩ := run_makeSlice_owned (P := Tryd.prog) w B 29 5 i0 (.int .u8 0) 1 Tryd.underlying29 hi hz0 hz1 .i64 .i64 n (by omega) (by rw [hz2]; omega) (by unfold maxLen; omega) hB
  exact ⟨w', hr, ⟨ho, fun k => by rw [gb_nil]; omega, by simp⟩, below_of_grown hg, (ho.lt _ rfl).2⟩
theorem wpList_make0 {ops : Array Oper} {rest : List Oper} {o : Oper} {a : Act} {w : World} {Q : Exit → Act → World → Prop} (hgd : o.guard = none) (x y : Operand) (ho : o.op = .makeSlice 29 x y) (B n : Nat) (hn : n ≤ 1024) (hx : a.eval x = .int .i64 0) (hy : a.eval y = .int .i64 (n : Int)) (hB : B ≤ w.heap.size)
    (h : ∀ w', Own w' B (.slice (some ⟨w.heap.size, 0, none⟩) 0 n) [] → Below w.heap.size w w' → w.heap.size < w'.heap.size → wpList Tryd.prog ops Q rest (a.put o.dst (.slice (some ⟨w.heap.size, 0, none⟩) 0 n)) w') : wpList Tryd.prog ops Q (o :: rest) a w := by
  refine wpList_plain hgd fun K hK => ?_
  obtain ⟨w', hr, hown, hb, hlt⟩ := run_make0 w B hB n hn
  unfold Oper.wp
  simp only [execOp, ho, hx, hy, Sem.run_bind, hr, Result.andThen_ok, Sem.run_pure, Oper.upon_value]
  exact hK _ _ (h w' hown hb hlt)
/-- A slice of one byte just made. -/
theorem rd_byte (w : World) (n : Nat) (hn : n < 256) (b : Nat) (hb : b = w.heap.size) : Rd (w.alloc (.cells #[.int .u8 (n : Int)] 5)) (.slice (some ⟨b, 0, none⟩) 1 1) [n] :=
  (own_new w [n] (small_bytes (by simpa using hn)) (by simp) hb (base := w.heap.size) (Nat.le_refl _)).rd
end Go.Proofs.YtoacdeddkfcllaaDoor
