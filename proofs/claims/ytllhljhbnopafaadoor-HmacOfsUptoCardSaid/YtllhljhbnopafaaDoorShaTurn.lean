/- Words turned to the right, in the program: contracts. Own work. -/
import Derived.Test.YtllhljhbnopafaaDoorShaBlock
namespace Go.Proofs.YtllhljhbnopafaaDoor
open Go.ChangeShapes Go.WideShapes Go.ChangeAt Go.RowKit
open SM
theorem low5 (n : Nat) (h1 : 1 ≤ n) (h2 : n < 32) : bits .and .u64 (IntKind.u64.wrap (-(n : Int))) 31 = ((32 - n : Nat) : Int) := by
  have e : IntKind.u64.wrap (-(n : Int)) = ((18446744073709551616 - n : Nat) : Int) := by rw [IntKind.wrap_u64]; omega
  have h := u64_and_nat (18446744073709551616 - n) 31 (by omega) (by omega)
  rw [e]
  refine h.trans ?_
  rw [show (31 : Nat) = 2 ^ 5 - 1 from rfl, Nat.and_two_pow_sub_one_eq_mod]
  omega
theorem rot_any (x n : Nat) (hx : x < 4294967296) (h1 : 1 ≤ n) (h2 : n < 32) (w : World) :
    Calls Tryd.prog 36 #[.int .u32 x, .int .i64 (-(n : Int))] w fun e w' => e = .returned (.int .u32 (rr x n)) ∧ w' = w := by
  go_enter Tryd.func36, Tryd.ntmps36
  go_upto_region 2 with (fail)
  rw [low5 n h1 h2]
  obtain ⟨m, hm⟩ : ∃ m, m = 32 - n := ⟨_, rfl⟩
  rw [← hm]
  have m1 : 1 ≤ m := by omega
  have m2 : m < 32 := by omega
  go_wp2_with fail
  go_ret
  refine ⟨?_, rfl⟩
  have e0 : 32 - (32 - n) = n := by omega
  have e1 : ((x : Int) / 2 ^ n) = ((x / 2 ^ n : Nat) : Int) := by simp
  have e2 : ((x : Int) * 2 ^ (32 - n) % 4294967296) = ((x * 2 ^ (32 - n) % 4294967296 : Nat) : Int) := by simp
  show Ending.returned (Value.int IntKind.u32 (bits BinOp.or IntKind.u32 ((x : Int) * 2 ^ (32 - n) % 4294967296) ((x : Int) / 2 ^ (32 - (32 - n))))) = _
  rw [e0, e1, e2, u32_or_nat _ _ (Nat.mod_lt _ (by omega)) (Nat.lt_of_le_of_lt (Nat.div_le_self _ _) hx), Nat.or_comm]
  rfl
theorem right_q (x n : Nat) (hx : x < 4294967296) (h1 : 1 ≤ n) (h2 : n < 32) (w : World) :
    Calls Tryd.prog 33 #[.int .u32 x, .int .i64 n] w fun e w' => e = .returned (.int .u32 (rr x n)) ∧ w' = w := by
  go_enter Tryd.func33, Tryd.ntmps33
  go_wp2_with (go_at_call 36; refine Calls.mono (rot_any x n hx h1 h2 _) ?_; rintro e w' ⟨rfl, rfl⟩)
  go_ret
  exact ⟨rfl, rfl⟩
theorem right_c (x : Nat) (c : Int) (hx : x < 4294967296) (h1 : 1 ≤ c) (h2 : c < 32) (w : World) :
    Calls Tryd.prog 33 #[.int .u32 x, .int .i64 c] w fun e w' => e = .returned (.int .u32 (rr x c.toNat)) ∧ w' = w := by
  obtain ⟨n, rfl⟩ : ∃ n : Nat, c = n := ⟨c.toNat, by omega⟩
  rw [Int.toNat_natCast]
  exact right_q x n hx (by omega) (by omega) w
end Go.Proofs.YtllhljhbnopafaaDoor
