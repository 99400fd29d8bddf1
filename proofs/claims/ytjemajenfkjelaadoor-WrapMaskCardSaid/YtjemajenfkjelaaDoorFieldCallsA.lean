/- What the functions of package field, and those of the document's answer, tell for every byte: their contracts. -/
import Derived.Test.YtjemajenfkjelaaDoorRows
import Derived.Test.YtjemajenfkjelaaDoorFieldMath
import Derived.WalkKit
import Derived.ProofKit
import Derived.OpenShut

import Derived.Lib.Hide
import Derived.Laws.BitsAllLaws
namespace Go.Proofs.YtjemajenfkjelaaDoor
open Go.ChangeShapes Go.WideShapes Go.ChangeAt Go.RowKit
open FM

theorem bit_u8 (b k : Nat) (hb : b < 256) : bits .and .u8 ((b : Int) / 2 ^ k) 1 = ((bt b k : Nat) : Int) := by
  have e : ((b : Int) / 2 ^ k) = ((b / 2 ^ k : Nat) : Int) := by simp
  have l : b / 2 ^ k < 256 := Nat.lt_of_le_of_lt (Nat.div_le_self _ _) hb
  rw [e]
  have := u8_and_nat (b / 2 ^ k) 1 l (by omega)
  rw [nat_mask1] at this; exact this
theorem bit_u8_yes {b k : Nat} (hb : b < 256) (h : (bits .and .u8 ((b : Int) / 2 ^ k) 1 == 1) = true) : bt b k = 1 := by
  rw [bit_u8 b k hb] at h; simp at h; omega
theorem bit_u8_no {b k : Nat} (hb : b < 256) (h : (bits .and .u8 ((b : Int) / 2 ^ k) 1 == 1) = false) : bt b k = 0 := by
  rw [bit_u8 b k hb] at h; have := bt_01 b k; simp at h; omega
theorem wraps_i64 (n : Int) (h₀ : 0 ≤ n) (h₁ : n < 2 ^ 62) : IntKind.i64.wrap n = n := by rw [IntKind.wrap_i64]; omega
theorem i64_and_nat (a b : Nat) (ha : a < 2 ^ 62) (hb : b < 2 ^ 62) : bits .and .i64 (a : Int) (b : Int) = ((a &&& b : Nat) : Int) :=
  (bits_nat .i64 62 (by decide) wraps_i64 a b ha hb).1
theorem i64_xor_nat (a b : Nat) (ha : a < 2 ^ 62) (hb : b < 2 ^ 62) : bits .xor .i64 (a : Int) (b : Int) = ((a ^^^ b : Nat) : Int) := by
  have ha' : a % 2 ^ 64 = a := Nat.mod_eq_of_lt (by omega)
  have hb' : b % 2 ^ 64 = b := Nat.mod_eq_of_lt (by omega)
  have hx : a ^^^ b < 2 ^ 62 := Nat.xor_lt_two_pow ha hb
  have e : IntKind.i64.bits = 64 := rfl
  simp only [bits, e, BitVec.ofInt_natCast, BitVec.toNat_xor, BitVec.toNat_ofNat, ha', hb']
  exact wraps_i64 _ (Int.natCast_nonneg _) (by exact_mod_cast hx)
theorem bit_i64 (m k : Nat) (hm : m < 2 ^ 62) : bits .and .i64 ((m : Int) / 2 ^ k) 1 = ((bt m k : Nat) : Int) := by
  have e : ((m : Int) / 2 ^ k) = ((m / 2 ^ k : Nat) : Int) := by simp
  have l : m / 2 ^ k < 2 ^ 62 := Nat.lt_of_le_of_lt (Nat.div_le_self _ _) hm
  rw [e]
  have := i64_and_nat (m / 2 ^ k) 1 l (by omega)
  rw [nat_mask1] at this; exact this
theorem bit_i64_yes {m k : Nat} (hm : m < 2 ^ 62) (h : (bits .and .i64 ((m : Int) / 2 ^ k) 1 == 1) = true) : bt m k = 1 := by
  rw [bit_i64 m k hm] at h; simp at h; omega
theorem bit_i64_no {m k : Nat} (hm : m < 2 ^ 62) (h : (bits .and .i64 ((m : Int) / 2 ^ k) 1 == 1) = false) : bt m k = 0 := by
  rw [bit_i64 m k hm] at h; have := bt_01 m k; simp at h; omega

theorem xt_hi (a : Nat) (h : a < 256) (h2 : 128 ≤ a) : bits .xor .u8 ((a : Int) * 2 % 256) 27 = ((xt a : Nat) : Int) := by
  have e : ((a : Int) * 2 % 256) = ((2 * a % 256 : Nat) : Int) := by omega
  have b : bt a 7 = 1 := by unfold bt; omega
  rw [e]; unfold xt; rw [b, Nat.one_mul]
  exact u8_xor_nat (2 * a % 256) 27 (by omega) (by omega)
theorem xt_lo (a : Nat) (h : a < 128) : xt a = 2 * a := by
  have b : bt a 7 = 0 := by unfold bt; omega
  unfold xt; rw [b, Nat.zero_mul, Nat.xor_zero]; omega

set_option maxHeartbeats 400000 in
theorem double_any (a : Nat) (h : a < 256) (w : World) :
    Calls Tryd.prog 64 #[.int .u8 a] w fun e w' => e = .returned (.int .u8 (xt a)) ∧ w = w' := by
  by_cases h2 : a < 128
  · go_enter Tryd.func64, Tryd.ntmps64
    have b : ((a : Int) / 128 == 1) = false := by simp; omega
    go_wp2
    go_ret
    exact ⟨by rw [xt_lo a h2]; simp [Int.mul_comm], rfl⟩
  · go_enter Tryd.func64, Tryd.ntmps64
    have b : ((a : Int) / 128 == 1) = true := by simp; omega
    go_wp2
    go_ret
    exact ⟨by rw [← xt_hi a h (by omega)]; rfl, rfl⟩
set_option maxHeartbeats 400000 in
theorem mul_any (a b : Nat) (ha : a < 256) (hb : b < 256) (w : World) :
    Calls Tryd.prog 62 #[.int .u8 a, .int .u8 b] w fun e w' => e = .returned (.int .u8 (mul a b)) ∧ w = w' := by
  go_enter Tryd.func62, Tryd.ntmps62
  go_wp2_with fail
  go_loop [0, 5, 7] (fun x p i => ∃ k : Nat, k ≤ 8 ∧ i = .int .i64 k ∧ x = .int .u8 (xtn a k) ∧ p = .int .u8 (mulTo a b k)) (fun _ _ i => 8 - (intOf i).toNat)
  case atStart => exact ⟨0, Nat.zero_le _, rfl, rfl, rfl⟩
  case round =>
    obtain ⟨k, hk, rfl, rfl, rfl⟩ := hrel
    by_cases hlt : k < 8
    · have hx := xtn_lt a k ha
      have hp := mulTo_lt a b k ha
      go_wp2_with (go_at_call 64; refine (double_any _ hx _).mono ?_; rintro e w' ⟨rfl, rfl⟩)
      · have hb1 : bt b k = 1 := bit_u8_yes hb (by assumption)
        go_round
        case rel => exact ⟨k + 1, by omega, by go_num, rfl, by rw [u8_xor_nat _ _ hp hx]; simp only [mulTo, hb1, Nat.one_mul]⟩
        case measure => simp [intOf]; omega
      · have hb1 : bt b k = 0 := bit_u8_no hb (by assumption)
        go_round
        case rel => exact ⟨k + 1, by omega, by go_num, rfl, by simp only [mulTo, hb1, Nat.zero_mul, Nat.xor_zero]⟩
        case measure => simp [intOf]; omega
    · obtain rfl : k = 8 := by omega
      go_wp2_with fail
      go_ret
      exact ⟨rfl, rfl⟩

theorem clTo_lt (a b n : Nat) (h : a < 256) (hn : n ≤ 8) : clTo a b n < 2 ^ 16 := by
  induction n with
  | zero => show 0 < 2 ^ 16; omega
  | succ n ih =>
    refine Nat.xor_lt_two_pow (ih (by omega)) ?_
    have k : a * 2 ^ n < 2 ^ 16 := by
      have : 2 ^ n ≤ 2 ^ 7 := Nat.pow_le_pow_right (by omega) (by omega)
      have := Nat.mul_le_mul (show a ≤ 255 by omega) this
      omega
    rcases bt_01 b n with e | e <;> rw [e] <;> omega
theorem red_lt (m k : Nat) (h : m < 2 ^ 16) (hk : k ≤ 7) : red m k < 2 ^ 16 := by
  induction k with
  | zero => exact h
  | succ k ih =>
    refine Nat.xor_lt_two_pow (ih (by omega)) ?_
    have q : 283 * 2 ^ (6 - k) < 2 ^ 16 := by
      have : 2 ^ (6 - k) ≤ 2 ^ 6 := Nat.pow_le_pow_right (by omega) (by omega)
      omega
    rcases bt_01 (red m k) (14 - k) with e | e <;> rw [e] <;> omega
theorem shl_i64 (a k c : Nat) (ha : a < 512) (hk : k ≤ c) (hc : c ≤ 8) : wrap64 ((a : Int) * 2 ^ k) = ((a * 2 ^ k : Nat) : Int) := by
  have q : a * 2 ^ k < 2 ^ 17 := by
    have : 2 ^ k ≤ 2 ^ 8 := Nat.pow_le_pow_right (by omega) (by omega)
    have := Nat.mul_le_mul (show a ≤ 511 by omega) this
    omega
  have e : (a : Int) * 2 ^ k = ((a * 2 ^ k : Nat) : Int) := by simp
  rw [e, IntWalk.wrap64_in _ ⟨by omega, by omega⟩]
set_option maxHeartbeats 400000 in
theorem rmul_any (a b : Nat) (ha : a < 256) (hb : b < 256) (w : World) :
    Calls Tryd.prog 50 #[.int .u8 a, .int .u8 b] w fun e w' => e = .returned (.int .u8 (mul a b)) ∧ w = w' := by
  rw [← mul_rmul a b ha hb]
  go_enter Tryd.func50, Tryd.ntmps50
  go_wp2_with fail
  go_loop [5, 6] (fun p i => ∃ k : Nat, k ≤ 8 ∧ i = .int .i64 k ∧ p = .int .i64 (clTo a b k)) (fun _ i => 8 - (intOf i).toNat)
  case atStart => exact ⟨0, Nat.zero_le _, rfl, rfl⟩
  case round =>
    obtain ⟨k, hk, rfl, rfl, rfl⟩ := hrel
    have hp := clTo_lt a b k ha hk
    by_cases hlt : k < 8
    · go_wp2_with fail
      · have hb1 : bt b k = 1 := bit_u8_yes hb (by assumption)
        have hs : a * 2 ^ k < 2 ^ 62 := by
          have : 2 ^ k ≤ 2 ^ 8 := Nat.pow_le_pow_right (by omega) (by omega)
          have := Nat.mul_le_mul (show a ≤ 511 by omega) this
          omega
        go_round
        case rel => exact ⟨k + 1, by omega, by go_num, by rw [shl_i64 a k 8 (by omega) hk (by omega), i64_xor_nat _ _ (by omega) hs]; simp only [clTo, hb1, Nat.one_mul]⟩
        case measure => simp [intOf]; omega
      · have hb1 : bt b k = 0 := bit_u8_no hb (by assumption)
        go_round
        case rel => exact ⟨k + 1, by omega, by go_num, by simp only [clTo, hb1, Nat.zero_mul, Nat.xor_zero]⟩
        case measure => simp [intOf]; omega
    · obtain rfl : k = 8 := by omega
      go_wp2_with fail
      go_loop [5, 7] (fun p i => ∃ k : Nat, k ≤ 7 ∧ i = .int .i64 (14 - (k : Int)) ∧ p = .int .i64 (red (clTo a b 8) k)) (fun _ i => (intOf i).toNat)
      case atStart => exact ⟨0, Nat.zero_le _, rfl, rfl⟩
      case round =>
        obtain ⟨k, hk7, rfl, rfl, rfl⟩ := hrel
        have hq := red_lt _ k hp hk7
        by_cases hlt : k < 7
        · have es : 14 - k - 8 = 6 - k := by omega
          go_wp2_with fail
          · have hb1 : bt (red (clTo a b 8) k) (14 - k) = 1 := bit_i64_yes (by omega) (by assumption)
            have hs : 283 * 2 ^ (6 - k) < 2 ^ 62 := by
              have : 2 ^ (6 - k) ≤ 2 ^ 6 := Nat.pow_le_pow_right (by omega) (by omega)
              omega
            have hv := shl_i64 283 (6 - k) 8 (by omega) (by omega) (by omega)
            go_round
            case rel => exact ⟨k + 1, by omega, by congr 1; omega, by rw [show ((283 : Int) * 2 ^ (6 - k)) = (((283 : Nat) : Int) * 2 ^ (6 - k)) from rfl, hv, i64_xor_nat _ _ (by omega) hs]; simp only [red, hb1, Nat.one_mul]⟩
            case measure => simp [intOf]; omega
          · have hb1 : bt (red (clTo a b 8) k) (14 - k) = 0 := bit_i64_no (by omega) (by assumption)
            go_round
            case rel => exact ⟨k + 1, by omega, by congr 1; omega, by simp only [red, hb1, Nat.zero_mul, Nat.xor_zero]⟩
            case measure => simp [intOf]; omega
        · obtain rfl : k = 7 := by omega
          go_wp2_with fail
          go_ret
          exact ⟨by unfold rmul; simp, rfl⟩

/- Powers. -/
theorem emod_toNat (n : Int) : (n % 255).toNat < 255 := by omega
theorem tmod_lo (n : Int) (h : n < 0) : -255 < n.tmod 255 ∧ n.tmod 255 ≤ 0 ∧ (n.tmod 255 < 0 → n % 255 = n.tmod 255 + 255) ∧ (n.tmod 255 = 0 → n % 255 = 0) := by
  have k1 : n.tmod 255 = -((-n) % 255) := by
    rw [show n = -(-n) by omega, Int.neg_tmod, Int.tmod_eq_emod_of_nonneg (by omega)]; omega
  omega
set_option maxHeartbeats 1000000 in
theorem power_loop (a : Nat) (n : Int) (ha : a < 256) (h0 : 0 < a) (hn : n ≠ 0) (w : World) :
    Calls Tryd.prog 57 #[.int .u8 a, .int .i64 n] w fun e w' => e = .returned (.int .u8 (power a n)) ∧ w = w' := by
  have e0 : (n == 0) = false := by simp; exact hn
  have ea : ((a : Int) == 0) = false := by simp; omega
  have em : ∃ m : Nat, m < 255 ∧ (n % 255).toNat = m := ⟨_, emod_toNat n, rfl⟩
  obtain ⟨m, hm, em⟩ := em
  have hpw : power a n = pw a m := by unfold power; rw [if_neg (by omega), em]
  rw [hpw]; clear hpw
  have parts : (0 ≤ n ∧ n % 255 = (m : Int)) ∨ (n < 0 ∧ n.tmod 255 = (m : Int) - 255 ∧ -255 < n.tmod 255 ∧ n.tmod 255 < 0) ∨ (n < 0 ∧ n.tmod 255 = (m : Int) ∧ 0 ≤ n.tmod 255) := by
    by_cases hp : 0 ≤ n
    · left; omega
    · right; have := tmod_lo n (by omega); omega
  clear em hn
  rcases parts with ⟨hp, hr⟩ | ⟨hp, hr, h1, h2⟩ | ⟨hp, hr, h1⟩
  all_goals
    have HR := Lib.hid hr
    clear hr
    go_enter Tryd.func57, Tryd.ntmps57
    go_wp2_with fail
    rw [HR.out]
    try rw [show ((m : Int) - 255 + 255) = (m : Int) by omega]
    go_loop [0, 5, 17] (fun x p i => ∃ k : Nat, k ≤ 8 ∧ i = .int .i64 k ∧ x = .int .u8 (pw a (2 ^ k)) ∧ p = .int .u8 (pw a (m % 2 ^ k))) (fun _ _ i => 8 - (intOf i).toNat)
    case atStart => exact ⟨0, Nat.zero_le _, rfl, by rw [show pw a (2 ^ 0) = a from one_mul a ha], by rw [Nat.pow_zero, Nat.mod_one]; rfl⟩
    case round =>
      obtain ⟨k, hk, rfl, rfl, rfl⟩ := hrel
      by_cases hlt : k < 8
      · have hx := pw_lt a (2 ^ k)
        have hy := pw_lt a (m % 2 ^ k)
        go_wp2_with (go_at_call 62; refine (mul_any _ _ (by assumption) (by assumption) _).mono ?_; rintro e w' ⟨rfl, rfl⟩)
        · have hb1 : bt m k = 1 := bit_i64_yes (by omega) (by assumption)
          go_round
          case rel => exact ⟨k + 1, by omega, by go_num, by rw [pw_sq a k ha], by rw [pw_bit a m k ha, if_pos hb1]⟩
          case measure => simp [intOf]; omega
        · have hb1 : bt m k = 0 := bit_i64_no (by omega) (by assumption)
          go_round
          case rel => exact ⟨k + 1, by omega, by go_num, by rw [pw_sq a k ha], by rw [pw_bit a m k ha, if_neg (by omega)]⟩
          case measure => simp [intOf]; omega
      · obtain rfl : k = 8 := by omega
        have HM := Lib.hid (Nat.mod_eq_of_lt (show m < 2 ^ 8 by omega))
        go_wp2_with fail
        go_ret
        exact ⟨by show Ending.returned (.int .u8 (pw a (m % 2 ^ 8))) = _; rw [HM.out], rfl⟩
set_option maxHeartbeats 400000 in
theorem power_any (a : Nat) (n : Int) (ha : a < 256) (w : World) :
    Calls Tryd.prog 57 #[.int .u8 a, .int .i64 n] w fun e w' => e = .returned (.int .u8 (power a n)) ∧ w = w' := by
  by_cases hn : n = 0
  · subst hn
    have hp : power a 0 = 1 := by unfold power; split <;> rfl
    rw [hp]
    go_enter Tryd.func57, Tryd.ntmps57
    go_wp2_with fail
    go_ret
    exact ⟨rfl, rfl⟩
  · by_cases h0 : a = 0
    · subst h0
      have hp : power 0 n = 0 := by unfold power; rw [if_pos rfl, if_neg hn]
      rw [hp]; clear hp
      have e0 : (n == 0) = false := by simp; exact hn
      go_enter Tryd.func57, Tryd.ntmps57
      go_wp2_with fail
      go_ret
      exact ⟨rfl, rfl⟩
    · exact power_loop a n ha (by omega) hn w
set_option maxHeartbeats 1000000 in
theorem rpower_loop (a : Nat) (n : Int) (ha : a < 256) (h0 : 0 < a) (w : World) :
    Calls Tryd.prog 37 #[.int .u8 a, .int .i64 n] w fun e w' => e = .returned (.int .u8 (power a n)) ∧ w = w' := by
  have ea : ((a : Int) == 0) = false := by simp; omega
  have em : ∃ m : Nat, m < 255 ∧ (n % 255).toNat = m := ⟨_, emod_toNat n, rfl⟩
  obtain ⟨m, hm, em⟩ := em
  have hpw : power a n = pw a m := by unfold power; rw [if_neg (by omega), em]
  rw [hpw]; clear hpw
  have parts : (0 ≤ n ∧ n % 255 = (m : Int)) ∨ (n < 0 ∧ n.tmod 255 = (m : Int) - 255 ∧ -255 < n.tmod 255 ∧ n.tmod 255 < 0) ∨ (n < 0 ∧ n.tmod 255 = (m : Int) ∧ 0 ≤ n.tmod 255) := by
    by_cases hp : 0 ≤ n
    · left; omega
    · right; have := tmod_lo n (by omega); omega
  clear em
  rcases parts with ⟨hp, hr⟩ | ⟨hp, hr, h1, h2⟩ | ⟨hp, hr, h1⟩
  all_goals
    have HR := Lib.hid hr
    clear hr
    go_enter Tryd.func37, Tryd.ntmps37
    go_wp2_with fail
    rw [HR.out]
    try rw [show ((m : Int) - 255 + 255) = (m : Int) by omega]
    go_loop [5, 6] (fun p i => ∃ k : Nat, k ≤ m ∧ i = .int .i64 k ∧ p = .int .u8 (pw a k)) (fun _ i => m - (intOf i).toNat)
    case atStart => exact ⟨0, Nat.zero_le _, rfl, rfl⟩
    case round =>
      obtain ⟨k, hk, rfl, rfl⟩ := hrel
      by_cases hlt : k < m
      · have hy := pw_lt a k
        go_wp2_with (go_at_call 50; refine (rmul_any _ _ (by assumption) (by assumption) _).mono ?_; rintro e w' ⟨rfl, rfl⟩)
        go_round
        case rel => exact ⟨k + 1, by omega, by go_num, rfl⟩
        case measure => simp [intOf]; omega
      · obtain rfl : k = m := by omega
        go_wp2_with fail
        go_ret
        exact ⟨rfl, rfl⟩
set_option maxHeartbeats 400000 in
theorem rpower_any (a : Nat) (n : Int) (ha : a < 256) (w : World) :
    Calls Tryd.prog 37 #[.int .u8 a, .int .i64 n] w fun e w' => e = .returned (.int .u8 (power a n)) ∧ w = w' := by
  by_cases h0 : a = 0
  · subst h0
    by_cases hn : n = 0
    · subst hn
      go_enter Tryd.func37, Tryd.ntmps37
      go_wp2_with fail
      go_ret
      exact ⟨rfl, rfl⟩
    · have hp : power 0 n = 0 := by unfold power; rw [if_pos rfl, if_neg hn]
      rw [hp]; clear hp
      have e0 : (n == 0) = false := by simp; exact hn
      go_enter Tryd.func37, Tryd.ntmps37
      go_wp2_with fail
      go_ret
      exact ⟨rfl, rfl⟩
  · exact rpower_loop a n ha (by omega) w
end Go.Proofs.YtjemajenfkjelaaDoor
