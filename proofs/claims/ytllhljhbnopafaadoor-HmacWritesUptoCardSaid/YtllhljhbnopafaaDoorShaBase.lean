/- What all laws over sums share, also those of later layers. Own work. -/
import Derived.Test.YtllhljhbnopafaaDoorShaParts
import Derived.Test.YtllhljhbnopafaaDoorRowEql
import Derived.Test.YtllhljhbnopafaaDoorRowArg
namespace Go.Proofs.YtllhljhbnopafaaDoor
open Go.ChangeShapes Go.WideShapes Go.ChangeAt Go.RowKit
open SM
theorem sha_len (l : List Nat) : (sha l).length = 32 := by
  show (out _).length = 32
  rw [← outK_all, outK_len]
theorem sha_bytes (l : List Nat) : Bytes 32 (sha l) := by
  refine ⟨sha_len l, fun k => ?_⟩
  show gb (out _) k < 256
  unfold out
  rw [gb_map]; split
  · exact Nat.mod_lt _ (by omega)
  · omega
/-- One part. -/
theorem rds_one {w : World} {x : Value} {l : List Nat} (h : Rd w x l) {b : Nat} (hb : b = w.heap.size) : Rds (w.alloc (.cells #[x] 22)) (.slice (some ⟨b, 0, none⟩) 1 1) [l] := by
  subst hb
  refine ⟨by simp, .inr ⟨_, 1, rfl, Nat.le_refl _, fun j l' hj => ?_⟩⟩
  cases j with
  | zero =>
    simp at hj; subst hj
    exact ⟨x, (Blk.new w 22 [x] _ rfl).cell 0 x rfl, h.alloc _⟩
  | succ j => simp at hj
theorem sizeB (w : World) : (sizeOf 5).run Tryd.prog w = .ok 1 w := by kernel_rfl
theorem eqTypeS : Tryd.prog.eqGuardType Tryd.prog.depth 26 = false := by kernel_rfl
/-- Two sums are compared. -/
theorem run_eql_sum {x y : List Nat} (hx : Bytes 32 x) (hy : Bytes 32 y) (w : World) : (binOp .eql 26 (.agg (row8 x).toArray) (.agg (row8 y).toArray)).run Tryd.prog w = .ok (.bool (decide (x = y))) w :=
  run_eql_row 26 5 32 Tryd.underlying26 Tryd.underlying5 sizeB x y hx hy w
theorem run_neq_sum {x y : List Nat} (hx : Bytes 32 x) (hy : Bytes 32 y) (w : World) : (binOp .neq 26 (.agg (row8 x).toArray) (.agg (row8 y).toArray)).run Tryd.prog w = .ok (.bool (!decide (x = y))) w := by
  have h := run_eql_sum hx hy w
  simp only [binOp, Sem.run_bind, Sem.run_pure] at h ⊢
  cases q : (Op.equal 26 (.agg (row8 x).toArray) (.agg (row8 y).toArray)).run Tryd.prog w with
  | ok b w' =>
    rw [q] at h
    simp only [Result.andThen_ok, Result.ok.injEq, Value.bool.injEq] at h ⊢
    exact ⟨by rw [h.1], h.2⟩
  | _ => rw [q] at h; simp [Result.andThen] at h
/-- A new block is stored to: all that was there before it is as it was. -/
theorem own_turn {a w w' : World} {o : Obj} (h : Below a.heap.size a w) (hg : (w.alloc o).grownBy w' (some w.heap.size)) : Below a.heap.size a w' :=
  (h.alloc h.size o).grown hg (by have := h.size; simp; omega) (fun k hk => by have := Option.some.inj hk; have := h.size; omega)
end Go.Proofs.YtllhljhbnopafaaDoor
