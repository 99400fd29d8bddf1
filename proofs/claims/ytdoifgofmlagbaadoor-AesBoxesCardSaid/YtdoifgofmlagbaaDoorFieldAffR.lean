/- What the document's Affine tells for every byte. -/
import Derived.Test.YtdoifgofmlagbaaDoorFieldAff
import Derived.WalkKit
import Derived.Lib.Hide
namespace Go.Proofs.YtdoifgofmlagbaaDoor
open Go.ChangeShapes Go.WideShapes Go.ChangeAt Go.RowKit
open FM
set_option maxRecDepth 100000 in
set_option maxHeartbeats 1000000 in
theorem raffine_any (a : Nat) (ha : a < 256) (w : World) :
    Calls Tryd.prog 11 #[.int .u8 a] w fun e w' => e = .returned (.int .u8 (aff a)) ∧ w = w' := by
  have HA := Lib.hid (aff_at a ha).1
  go_enter Tryd.func11, Tryd.ntmps11
  go_wp2_with fail
  go_loop [3, 4] (fun x i => ∃ k : Nat, k ≤ 8 ∧ i = .int .i64 k ∧ x = .int .u8 (affI a k)) (fun _ i => 8 - (intOf i).toNat)
  case atStart => exact ⟨0, Nat.zero_le _, rfl, rfl⟩
  case round =>
    obtain ⟨k, hk, rfl, rfl⟩ := hrel
    by_cases hlt : k < 8
    · go_wp2_with fail
      go_round
      case rel => exact ⟨k + 1, by omega, by go_num, rfl⟩
      case measure => simp [intOf]; omega
    · obtain rfl : k = 8 := by omega
      go_wp2_with fail
      go_ret
      exact ⟨by rw [← HA.out]; rfl, rfl⟩
end Go.Proofs.YtdoifgofmlagbaaDoor
