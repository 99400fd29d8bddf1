/- The cell: its contracts. Own work. -/
import Derived.Test.YtglhlhflbomkoaaMem
import Derived.Laws.LoneSync
import Derived.RegionCalls
import Derived.BigQuiet
import Derived.BigRegion
import Derived.Deep.DeepCutAuto
namespace Go.Proofs.Ytglhlhflbomkoaa
open Go.ChangeShapes Go.WideShapes Go.ChangeAt Go.RowKit
theorem infoCell : (Try.prog.info? 44).map (·.size) = some 2 := by kernel_rfl
theorem zeroCell (w : World) : (zeroValue 44).run Try.prog w = .ok (.agg #[.int .u64 0, .int .i64 0]) w := by kernel_rfl
/-- In block b lies a cell of the value n that was raised r times. -/
def Ce (w : World) (b n r : Nat) : Prop := Blk w b 44 [.int .u64 (n : Int), .int .i64 (r : Int)]
theorem Ce.value {w : World} {b n r : Nat} (h : Ce w b n r) : w.cell? ⟨b, 0, none⟩ = some (.int .u64 (n : Int)) := Blk.cell h 0 _ rfl
theorem Ce.raised {w : World} {b n r : Nat} (h : Ce w b n r) : w.cell? ⟨b, 1, none⟩ = some (.int .i64 (r : Int)) := Blk.cell h 1 _ rfl
theorem Ce.lt {w : World} {b n r : Nat} (h : Ce w b n r) : b < w.heap.size := Blk.lt h
theorem Ce.below {w w' : World} {b n r : Nat} (h : Ce w b n r) (hb : Below w.heap.size w w') : Ce w' b n r := Blk.below h hb (Blk.lt h)
theorem Ce.grown {w w' : World} {b n r : Nat} (h : Ce w b n r) {row : Option Nat} (hg : w.grownBy w' row) (hne : some b ≠ row) : Ce w' b n r := Blk.grown h hg hne
theorem cnew_any (n : Nat) (w : World) : Calls Try.prog 6 #[.int .u64 (n : Int)] w fun e w' => e = .returned (.pointer (some ⟨w.heap.size, 0, none⟩)) ∧ Ce w' w.heap.size n 0 ∧ Below w.heap.size w w' := by
  go_enter Try.func6, Try.ntmps6
  have hz := zeroCell
  go_wp2_with fail
  go_ret
  exact ⟨rfl, Blk.new w 44 _ _ rfl, (Below.refl _ _).alloc (Nat.le_refl _) _⟩
theorem cnew_ex (n : Nat) (w : World) : Calls Try.prog 6 #[.int .u64 (n : Int)] w fun e w' => ∃ b, w.heap.size ≤ b ∧ e = .returned (.pointer (some ⟨b, 0, none⟩)) ∧ Ce w' b n 0 ∧ Below w.heap.size w w' :=
  (cnew_any n w).mono fun _ _ ⟨h1, h2, h3⟩ => ⟨_, Nat.le_refl _, h1, h2, h3⟩
theorem cvalue_nil (w : World) : Calls Try.prog 9 #[.pointer none] w fun e w' => e = .returned (.int .u64 0) ∧ w' = w := by
  go_enter Try.func9, Try.ntmps9
  go_wp2_with fail
  go_ret
  exact ⟨rfl, rfl⟩
theorem cvalue_any (b n r : Nat) (w : World) (h : Ce w b n r) : Calls Try.prog 9 #[.pointer (some ⟨b, 0, none⟩)] w fun e w' => e = .returned (.int .u64 (n : Int)) ∧ w' = w := by
  have c0 := h.value
  go_enter Try.func9, Try.ntmps9
  go_wp2_with fail
  go_ret
  exact ⟨rfl, rfl⟩
theorem craised_nil (w : World) : Calls Try.prog 10 #[.pointer none] w fun e w' => e = .returned (.int .i64 0) ∧ w' = w := by
  go_enter Try.func10, Try.ntmps10
  go_wp2_with fail
  go_ret
  exact ⟨rfl, rfl⟩
theorem craised_any (b n r : Nat) (w : World) (h : Ce w b n r) : Calls Try.prog 10 #[.pointer (some ⟨b, 0, none⟩)] w fun e w' => e = .returned (.int .i64 (r : Int)) ∧ w' = w := by
  have c1 := h.raised
  have hl := run_call_load (P := Try.prog) Try.func17 (by kernel_rfl) (by kernel_rfl) (by kernel_rfl) .i64 (by kernel_rfl) c1
  go_enter Try.func10, Try.ntmps10
  go_wp2
  go_ret
  exact ⟨rfl, rfl⟩
theorem craise_nil (tt : Nat) (w : World) : Calls Try.prog 7 #[.pointer none, .int .u64 (tt : Int)] w fun e w' => e = .returned (.int .i64 1) ∧ w' = w := by
  go_enter Try.func7, Try.ntmps7
  go_wp2_with fail
  go_ret
  exact ⟨rfl, rfl⟩
/-- What a raise of the value n tt the number t answers. -/
def cerr (n t : Nat) : Int := if n = 18446744073709551615 then 42 else if t = n + 1 then 0 else 2
theorem craise_full (b n r tt : Nat) (w : World) (h : Ce w b n r) (hn : n = 18446744073709551615) : Calls Try.prog 7 #[.pointer (some ⟨b, 0, none⟩), .int .u64 (tt : Int)] w fun e w' => e = .returned (.int .i64 42) ∧ w' = w := by
  have c0 := h.value
  have hN : (n : Int) = 18446744073709551615 := by omega
  go_enter Try.func7, Try.ntmps7
  go_wp2_with fail
  go_ret
  exact ⟨rfl, rfl⟩
theorem craise_not (b n r tt : Nat) (w : World) (h : Ce w b n r) (hn : n < 18446744073709551615) (ht : tt ≠ n + 1) : Calls Try.prog 7 #[.pointer (some ⟨b, 0, none⟩), .int .u64 (tt : Int)] w fun e w' => e = .returned (.int .i64 2) ∧ w' = w := by
  have c0 := h.value
  have hN : ¬ (n : Int) = 18446744073709551615 := by omega
  have hw : IntKind.u64.wrap ((n : Int) + 1) = ((n + 1 : Nat) : Int) := by rw [IntKind.wrap_u64]; omega
  have hT : ¬ (tt : Int) = ((n + 1 : Nat) : Int) := by omega
  go_enter Try.func7, Try.ntmps7
  go_wp2_with fail
  go_ret
  exact ⟨rfl, rfl⟩
theorem craise_ok (b n r tt : Nat) (w : World) (h : Ce w b n r) (hn : n < 18446744073709551615) (hr : r < 9223372036854775807) (ht : tt = n + 1) : Calls Try.prog 7 #[.pointer (some ⟨b, 0, none⟩), .int .u64 (tt : Int)] w fun e w' => e = .returned (.int .i64 0) ∧ Ce w' b tt (r + 1) ∧ w.grownBy w' (some b) := by
  have c0 := h.value
  have f0 := Blk.free h 0
  have hN : ¬ (n : Int) = 18446744073709551615 := by omega
  have hw : IntKind.u64.wrap ((n : Int) + 1) = (tt : Int) := by rw [IntKind.wrap_u64]; omega
  have h1 : Blk (w.setCell ⟨b, 0, none⟩ (.int .u64 (tt : Int))) b 44 [.int .u64 (tt : Int), .int .i64 (r : Int)] := Blk.set h 0 _
  have hadd := run_call_add (P := Try.prog) Try.func16 (by kernel_rfl) (by kernel_rfl) (by kernel_rfl) .i64 (by kernel_rfl) (y := 1) (s := ((r + 1 : Nat) : Int)) (h1.cell 1 _ rfl) (h1.free 1) (by simp [go_sem, IntKind.wrap_i64]; omega)
  clear ht
  go_enter Try.func7, Try.ntmps7
  go_wp2
  go_ret
  refine ⟨rfl, Blk.set h1 1 _, ?_⟩
  exact ⟨rfl, rfl, rfl, by simp, fun k hk hne => by
    rw [Below.heap_setCell _ _ _ k (fun e => hne (by rw [e])), Below.heap_setCell _ _ _ k (fun e => hne (by rw [e]))]⟩
end Go.Proofs.Ytglhlhflbomkoaa
