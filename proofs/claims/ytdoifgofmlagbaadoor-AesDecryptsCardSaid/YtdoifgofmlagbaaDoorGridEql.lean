/- A row of rows of bytes is compared with itself: '==' on arrays of arrays. Own work. -/
import Derived.Test.YtdoifgofmlagbaaDoorMem
namespace Go.Proofs.YtdoifgofmlagbaaDoor
open Go.ChangeShapes Go.WideShapes Go.ChangeAt Go.RowKit
theorem bytes_cut {S : List Nat} (h : ∀ k, gb S k < 256) (o n : Nat) : ∀ x ∈ (S.drop o).take n, x < 256 := fun x hx => gb_of_mem h x (List.mem_of_mem_drop (List.mem_of_mem_take hx))
theorem run_eql_grid {P : Program} (t e b : TypeId) (m n : Nat) (ht : P.underlying t = some (.array m e)) (he : P.underlying e = some (.array n b)) (hb : P.underlying b = some (.int .u8)) (hse : ∀ w, (sizeOf e).run P w = .ok n w) (hsb : ∀ w, (sizeOf b).run P w = .ok 1 w)
    (S : List Nat) (hS : Bytes (m * n) S) (w : World) : (binOp .eql t (.agg (row8 S).toArray) (.agg (row8 S).toArray)).run P w = .ok (.bool true) w := by
  rw [run_eql_struct, Op.equalIn]
  simp only [Sem.run_bind, run_underlying ht, Result.andThen_ok, hse, Std.Legacy.Range.forIn_eq_forIn_range', Std.Legacy.Range.size, Nat.sub_zero, Nat.add_sub_cancel, Nat.div_one]
  have hl : ∀ i ∈ List.range' 0 m 1, i < m := fun i hi => by simpa using (List.mem_range'_1.1 hi).2
  have key : ∀ i, i < m → (part e (row8 S).toArray (i * n)).run P w = .ok (.agg (row8 ((S.drop (i * n)).take n)).toArray) w := fun i _ => by
    simp only [part, isAgg, Sem.run_bind, run_underlying he, Sem.run_pure, Result.andThen_ok, hse, if_true]
    congr 2
    unfold row8
    rw [List.extract_toArray]
    simp [List.extract_eq_take_drop, List.map_take, List.map_drop]
  have one : ∀ i, i < m → (Op.equalIn 9999 e (.agg (row8 ((S.drop (i * n)).take n)).toArray) (.agg (row8 ((S.drop (i * n)).take n)).toArray)).run P w = .ok true w := fun i hi => by
    have hlen : ((S.drop (i * n)).take n).length = n := by
      rw [List.length_take, List.length_drop, hS.1]
      have : i * n + n ≤ m * n := by
        have := Nat.mul_le_mul_right n (show i + 1 ≤ m from hi)
        rwa [Nat.succ_mul] at this
      omega
    rw [row8_cells (bytes_cut hS.2 _ _), run_equalIn_bytes w 9997 e b n he hb hsb _ _ (by rw [List.length_map]; exact hlen) (by rw [List.length_map]; exact hlen)]
    simp
  generalize List.range' 0 m 1 = l at hl ⊢
  induction l with
  | nil => simp
  | cons i l ih =>
    have hi : i < m := hl i (by simp)
    simp only [List.forIn_cons, Sem.run_bind, key i hi, one i hi, Result.andThen_ok, Bool.not_true, Bool.false_eq_true, if_false, Sem.run_pure]
    exact ih fun j hj => hl j (by simp [hj])
end Go.Proofs.YtdoifgofmlagbaaDoor
