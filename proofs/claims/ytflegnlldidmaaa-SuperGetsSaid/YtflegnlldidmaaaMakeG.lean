/- 'make([]byte, n)' in a region that draws, and strings told apart. Own work. -/
import Derived.Test.YtflegnlldidmaaaReg
import Derived.Test.YtflegnlldidmaaaMem
import Derived.OwnWalk
namespace Go.Proofs.Ytflegnlldidmaaa
open Go.ChangeShapes Go.WideShapes Go.ChangeAt Go.RowKit
theorem noughts8 (n : Nat) : row8 (List.replicate n 0) = List.replicate n (.int .u8 0) := by unfold row8; rw [List.map_replicate]; rfl
theorem run_make_bytes (w : World) (B : Nat) (hB : B ≤ w.heap.size) (n : Nat) (hn : n ≤ 140737488355328) : ∃ w', (Instr.makeSlice 22 (.int .i64 (n : Int)) (.int .i64 (n : Int))).run Try.prog w = .ok (.slice (some ⟨w.heap.size, 0, none⟩) n n) w' ∧ Own w' B (.slice (some ⟨w.heap.size, 0, none⟩) n n) (List.replicate n 0) ∧ Below w.heap.size w w' := by
  obtain ⟨i0, hi, hz0, hz1, hz2⟩ := info_parts infoB
  obtain ⟨w', hr, ho, hg⟩ := run_make_full (P := Try.prog) w B 22 5 i0 (.int .u8 0) 1 Try.underlying22 hi hz0 hz1 .i64 .i64 n (by rw [hz2]; omega) (by unfold maxLen; omega) hB
  refine ⟨w', hr, ?_, below_of_grown hg⟩
  rw [Nat.mul_one] at ho
  have e : (madeCells (Value.int .u8 0).cells n).toList = row8 (List.replicate n 0) := by rw [noughts8, ← toList_madeCells_one]; rfl
  rw [e] at ho
  exact ⟨by rw [List.length_replicate]; exact ho, (bytes_zero n).2, by rw [List.length_replicate]; exact hn⟩
theorem doesG_make {B : Nat} {ops : List Oper} {Q : Exit → Act → World → Prop} {T : List (Pred B)} {U : Nat → Nat} {i : Nat} {o : Oper} {a : Act} {w : World} (hw : Region.wanted o (yielded ops.toArray a.tmps) = true) (n : Nat) (hn : n ≤ 140737488355328) (ho : o.op = .makeSlice 22 (.const (.int .i64 (n : Int))) (.const (.int .i64 (n : Int)))) (hB : B ≤ w.heap.size)
    (hf : ∀ v' w', Own w' B v' (List.replicate n 0) → (T.getD i (.val undef)).holds v' w') : DoesG Try.prog ops Q T U i o a w := by
  refine doesG_new hw fun K hK => ?_
  obtain ⟨w', hr, hown, hb⟩ := run_make_bytes w B hB n hn
  unfold Oper.wp execOp
  rw [ho]
  simp only [Act.eval, Sem.run_bind, hr, Result.andThen_ok, Sem.run_pure, Oper.upon_value]
  refine hK _ _ (hf _ _ hown) hb fun g hg => ?_
  have e : w.heap.size = g := Option.some.inj hg
  exact ⟨by omega, (hown.from g (by rw [← e]; rfl)).2⟩
theorem run_neq_str (s t : ByteArray) (w : World) : (binOp .neq 9 (.string s) (.string t)).run Try.prog w = .ok (.bool (!decide (s = t))) w := by
  by_cases h : s = t
  · subst h; go_simp
  · go_simp; intro e; rw [ByteArray.toList_eq, ByteArray.toList_eq] at e; exact h (by cases s; cases t; congr 1; exact Array.toList_inj.1 e)
end Go.Proofs.Ytflegnlldidmaaa
