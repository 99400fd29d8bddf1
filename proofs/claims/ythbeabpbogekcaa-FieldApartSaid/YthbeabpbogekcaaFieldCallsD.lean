/- Small facts for the laws of package field. -/
import Derived.Test.YthbeabpbogekcaaFieldCallsC
import Derived.WalkKit
import Derived.Lib.Hide
namespace Go.Proofs.Ythbeabpbogekcaa
open Go.ChangeShapes Go.WideShapes Go.ChangeAt Go.RowKit
open FM
theorem u8_nat {a : Int} (h : (Lit.int .u8 a).wf = true) : ∃ n : Nat, n < 256 ∧ a = (n : Int) := by
  have k : 0 ≤ a ∧ a ≤ 255 := by simpa [Lit.wf, IntKind.min, IntKind.max, IntKind.signed, IntKind.bits] using h
  exact ⟨a.toNat, by omega, by omega⟩
theorem i16_in {a : Int} (h : (Lit.int .i16 a).wf = true) : -32768 ≤ a ∧ a ≤ 32767 := by
  simpa [Lit.wf, IntKind.min, IntKind.max, IntKind.signed, IntKind.bits] using h
theorem beq_cast {x y : Nat} (h : x = y) : (((x : Nat) : Int) == ((y : Nat) : Int)) = true := by rw [h]; exact beq_self_eq_true _
theorem mul_1 (a : Nat) (ha : a < 256) (w : World) : Calls Try.prog 13 #[.int .u8 a, .int .u8 1] w fun e w' => e = .returned (.int .u8 a) ∧ w = w' := by
  have c := mul_any a 1 ha (by omega) w
  rw [mul_one a ha] at c; exact c
theorem mul_0 (a : Nat) (ha : a < 256) (w : World) : Calls Try.prog 13 #[.int .u8 a, .int .u8 0] w fun e w' => e = .returned (.int .u8 0) ∧ w = w' := by
  have c := mul_any a 0 ha (by omega) w
  rw [mul_zero_right a] at c; exact c
theorem power_0 (n : Int) (w : World) : Calls Try.prog 18 #[.int .u8 0, .int .i64 n] w fun e w' => e = .returned (.int .u8 ((power 0 n : Nat) : Int)) ∧ w = w' := by
  have c := power_any 0 n (by omega) w
  exact c
end Go.Proofs.Ythbeabpbogekcaa
