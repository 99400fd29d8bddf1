/- What the laws over sums share. Own work. -/
import Derived.Test.YtaephclooajabaaDoorShaAwake
import Derived.Test.YtaephclooajabaaDoorRowEql
import Derived.Test.YtaephclooajabaaDoorRowArg
namespace Go.Proofs.YtaephclooajabaaDoor
open Go.ChangeShapes Go.WideShapes Go.ChangeAt Go.RowKit
open SM
theorem sizeB (w : World) : (sizeOf 5).run Tryd.prog w = .ok 1 w := by kernel_rfl
theorem eqTypeS : Tryd.prog.eqGuardType Tryd.prog.depth 26 = false := by kernel_rfl
/-- Two sums are compared. -/
theorem run_eql_sum {x y : List Nat} (hx : Bytes 32 x) (hy : Bytes 32 y) (w : World) : (binOp .eql 26 (.agg (row8 x).toArray) (.agg (row8 y).toArray)).run Tryd.prog w = .ok (.bool (decide (x = y))) w :=
  run_eql_row 26 5 32 Tryd.underlying26 Tryd.underlying5 sizeB x y hx hy w
theorem run_neq_sum {x y : List Nat} (hx : Bytes 32 x) (hy : Bytes 32 y) (w : World) : (binOp .neq 26 (.agg (row8 x).toArray) (.agg (row8 y).toArray)).run Tryd.prog w = .ok (.bool (!decide (x = y))) w := by
  have h := run_eql_sum hx hy w
  simp only [binOp, Sem.run_bind, Sem.run_pure] at h ⊢
  cases q : (Op.equal 26 (.agg (row8 x).toArray) (.agg (row8 y).toArray)).run Tryd.prog w with
  | ok b w' =>
    rw [q] at h
    simp only [Result.andThen_ok, Result.ok.injEq, Value.bool.injEq] at h ⊢
    exact ⟨by rw [h.1], h.2⟩
  | _ => rw [q] at h; simp [Result.andThen] at h
theorem parK_bytes (l : List Nat) (h : Digits64 l) : Bytes 32 (parK l 32) := by
  refine ⟨parK_len _ _, fun k => ?_⟩
  unfold parK
  rw [gb_map]
  by_cases hk : k < 32
  · rw [if_pos hk, if_pos hk]
    have h1 := (h.2 k hk)
    have h2 := dg_le (gb l (2 * k))
    have h3 := dg_le (gb l (2 * k + 1))
    unfold okd at h1
    unfold pb
    omega
  · rw [if_neg hk]; omega
/-- What a text tells: a sum, and an error. -/
noncomputable def told (l : List Nat) : List Nat × Int := open Classical in if Digits64 l then (parK l 32, 0) else (List.replicate 32 0, 4)
theorem told_bytes (l : List Nat) : Bytes 32 (told l).1 := by
  unfold told; split
  · exact parK_bytes l (by assumption)
  · exact bytes_zero 32
theorem parse_told (s : ByteArray) (w : World) : Calls Tryd.prog 20 #[.string s] w fun e w' => e = .returned (.tuple #[.agg (row8 (told (sb s)).1).toArray, .int .i64 (told (sb s)).2]) ∧ Below w.heap.size w w' :=
  (parse_any s w).mono fun e w' h => by
    obtain ⟨r, x, rfl, h1, h2⟩ := h
    refine ⟨?_, h2⟩
    unfold told
    rcases h1 with ⟨hd, rfl, rfl⟩ | ⟨hd, rfl, rfl⟩
    · rw [if_pos hd]
    · rw [if_neg hd]
theorem rparse_told (s : ByteArray) (w : World) : Calls Tryd.prog 21 #[.string s] w fun e w' => e = .returned (.tuple #[.agg (row8 (told (sb s)).1).toArray, .int .i64 (told (sb s)).2]) ∧ Below w.heap.size w w' :=
  (rparse_any s w).mono fun e w' h => by
    obtain ⟨r, x, rfl, h1, h2⟩ := h
    refine ⟨?_, h2⟩
    unfold told
    rcases h1 with ⟨hd, rfl, rfl⟩ | ⟨hd, rfl, rfl⟩
    · rw [if_pos hd]
    · rw [if_neg hd]
/-- A new block is stored to: all that was there before it is as it was. -/
theorem own_turn {a w w' : World} {o : Obj} (h : Below a.heap.size a w) (hg : (w.alloc o).grownBy w' (some w.heap.size)) : Below a.heap.size a w' :=
  (h.alloc h.size o).grown hg (by have := h.size; simp; omega) (fun k hk => by have := Option.some.inj hk; have := h.size; omega)
end Go.Proofs.YtaephclooajabaaDoor
