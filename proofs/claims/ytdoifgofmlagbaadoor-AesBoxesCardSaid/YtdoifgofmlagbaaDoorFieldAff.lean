/- What Affine tells for every byte. Own work. -/
import Derived.Test.YtdoifgofmlagbaaDoorFieldCallsA
import Derived.WalkKit
import Derived.Lib.Hide
namespace Go.Proofs.YtdoifgofmlagbaaDoor
open Go.ChangeShapes Go.WideShapes Go.ChangeAt Go.RowKit
open FM
def rotI (a k : Nat) : Int := bits .or .u8 ((a : Int) * 2 ^ k % 256) ((a : Int) / 2 ^ (8 - k))
def affS (a : Nat) : Nat → Int
  | 0 => 99
  | k + 1 => bits .xor .u8 (affS a k) (rotI a k)
def affB (a k : Nat) : Int :=
  bits .xor .u8 (bits .xor .u8 (bits .xor .u8 (bits .xor .u8 (bits .xor .u8 ((a : Int) / 2 ^ k) ((a : Int) / 2 ^ ((k + 4) % 8))) ((a : Int) / 2 ^ ((k + 5) % 8))) ((a : Int) / 2 ^ ((k + 6) % 8))) ((a : Int) / 2 ^ ((k + 7) % 8))) (99 / 2 ^ k)
def affI (a : Nat) : Nat → Int
  | 0 => 0
  | k + 1 => bits .or .u8 (affI a k) (bits .and .u8 (affB a k) 1 * 2 ^ k % 256)
def aff (a : Nat) : Nat := (affS a 5).toNat
theorem aff_all : ((List.range 256).all fun a => affI a 8 == affS a 5 && decide (0 ≤ affS a 5) && decide (affS a 5 < 256)) = true := by decide +kernel
theorem aff_at (a : Nat) (ha : a < 256) : affI a 8 = (aff a : Int) ∧ affS a 5 = (aff a : Int) ∧ aff a < 256 := by
  have k := aff_all
  simp only [List.all_eq_true, List.mem_range, Bool.and_eq_true, beq_iff_eq, decide_eq_true_eq] at k
  obtain ⟨⟨h1, h2⟩, h3⟩ := k a ha
  have e : affS a 5 = (aff a : Int) := by unfold aff; omega
  exact ⟨by rw [h1, e], e, by omega⟩
/- The way back. -/
def unaff (y : Nat) : Nat := (bits .xor .u8 (bits .xor .u8 (rotI (bits .xor .u8 (y : Int) 99).toNat 1) (rotI (bits .xor .u8 (y : Int) 99).toNat 3)) (rotI (bits .xor .u8 (y : Int) 99).toNat 6)).toNat
theorem unaff_aff (a : Nat) (ha : a < 256) : unaff (aff a) = a := by
  have k : ((List.range 256).all fun a => unaff (aff a) == a) = true := by decide +kernel
  simp only [List.all_eq_true, List.mem_range, beq_iff_eq] at k
  exact k a ha
theorem aff_inj (a b : Nat) (ha : a < 256) (hb : b < 256) (h : aff a = aff b) : a = b := by
  rw [← unaff_aff a ha, ← unaff_aff b hb, h]

set_option maxRecDepth 100000 in
set_option maxHeartbeats 400000 in
theorem rotate_any (a k : Nat) (hk : k < 5) (w : World) :
    Calls Tryd.prog 40 #[.int .u8 a, .int .i64 k] w fun e w' => e = .returned (.int .u8 (rotI a k)) ∧ w = w' := by
  have e : bits .and .u64 (k : Int) 7 = (k : Int) := by
    have := u64_and_nat k 7 (by omega) (by omega)
    rw [nat_mask3, Nat.mod_eq_of_lt (by omega)] at this; exact this
  go_enter Tryd.func40, Tryd.ntmps40
  go_wp2
  go_ret
  exact ⟨rfl, rfl⟩
set_option maxRecDepth 100000 in
set_option maxHeartbeats 400000 in
theorem affine_any (a : Nat) (ha : a < 256) (w : World) :
    Calls Tryd.prog 23 #[.int .u8 a] w fun e w' => e = .returned (.int .u8 (aff a)) ∧ w = w' := by
  have HA := Lib.hid (aff_at a ha).2.1
  go_enter Tryd.func23, Tryd.ntmps23
  go_wp2_with fail
  go_loop [3, 5] (fun x i => ∃ k : Nat, k ≤ 5 ∧ i = .int .i64 k ∧ x = .int .u8 (affS a k)) (fun _ i => 5 - (intOf i).toNat)
  case atStart => exact ⟨0, Nat.zero_le _, rfl, rfl⟩
  case round =>
    obtain ⟨k, hk, rfl, rfl⟩ := hrel
    by_cases hlt : k < 5
    · go_wp2_with (go_at_call 40; refine (rotate_any _ _ hlt _).mono ?_; rintro e w' ⟨rfl, rfl⟩)
      go_round
      case rel => exact ⟨k + 1, by omega, by go_num, rfl⟩
      case measure => simp [intOf]; omega
    · obtain rfl : k = 5 := by omega
      go_wp2_with fail
      go_ret
      exact ⟨by rw [← HA.out]; rfl, rfl⟩
end Go.Proofs.YtdoifgofmlagbaaDoor
