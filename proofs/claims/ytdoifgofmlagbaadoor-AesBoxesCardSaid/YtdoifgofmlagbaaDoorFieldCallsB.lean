import Derived.Test.YtdoifgofmlagbaaDoorFieldCallsA
import Derived.WalkKit
import Derived.Lib.Hide

namespace Go.Proofs.YtdoifgofmlagbaaDoor
open Go.ChangeShapes Go.WideShapes Go.ChangeAt Go.RowKit
open FM
set_option maxRecDepth 100000 in
set_option maxHeartbeats 400000 in
theorem rinverse_any (a : Nat) (ha : a < 256) (w : World) :
    Calls Tryd.prog 12 #[.int .u8 a] w fun e w' => e = .returned (.int .u8 (inv a)) ∧ w = w' := by
  go_enter Tryd.func12, Tryd.ntmps12
  go_wp2_with fail
  go_loop [3] (fun i => ∃ k : Nat, k ≤ 256 ∧ i = .int .i64 k ∧ Hid (∀ j, j < k → mul a j ≠ 1)) (fun i => 256 - (intOf i).toNat)
  case atStart => exact ⟨0, Nat.zero_le _, rfl, Lib.hid fun j hj => absurd hj (Nat.not_lt_zero j)⟩
  case round =>
    obtain ⟨k, hk, rfl, H⟩ := hrel
    by_cases hlt : k < 256
    · by_cases hm : mul a k = 1
      · have hu := Lib.hid (inv_uniq a k ha hlt hm)
        have hm1 : (((mul a k : Nat) : Int) == 1) = true := by rw [hm]; rfl
        clear hm
        go_wp2_with (go_at_call 26; refine (rmul_any _ _ (by assumption) (by assumption) _).mono ?_; rintro e w' ⟨rfl, rfl⟩)
        go_ret
        exact ⟨by rw [← hu.out]; rfl, rfl⟩
      · have hm1 : (((mul a k : Nat) : Int) == 1) = false := by simp; omega
        have hm2 := Lib.hid hm
        clear hm
        go_wp2_with (go_at_call 26; refine (rmul_any _ _ (by assumption) (by assumption) _).mono ?_; rintro e w' ⟨rfl, rfl⟩)
        go_round
        case rel =>
          refine ⟨k + 1, by omega, by go_num, Lib.hid fun j hj => ?_⟩
          rcases Nat.lt_or_ge j k with h | h
          · exact H.out j h
          · obtain rfl : j = k := by omega
            exact hm2.out
        case measure => simp [intOf]; omega
    · obtain rfl : k = 256 := by omega
      have ha0 : a = 0 := by
        rcases Nat.eq_zero_or_pos a with e | e
        · exact e
        · exact absurd (mul_inv a e ha) (H.out _ (inv_lt a))
      subst ha0
      go_wp2_with fail
      go_ret
      exact ⟨rfl, rfl⟩
end Go.Proofs.YtdoifgofmlagbaaDoor
