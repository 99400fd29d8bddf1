/- Texts of 3 subjects in one file: AesA, AesEnc, AesKeysR. Own work. -/
import Derived.Test.YtflnodkajhokhaaDoorRows
import Derived.WalkKit
import Derived.ProofKit
import Derived.OpenShut
import Derived.Lib.Hide
import Derived.Laws.BitsAllLaws
import Derived.Test.YtflnodkajhokhaaDoorMa0
import Derived.BigRegion
import Derived.BigQuiet
import Derived.StillTailTactics
import Derived.Deep.DeepCutAuto
import Derived.Test.YtflnodkajhokhaaDoorMa1
section
namespace Go.Proofs.YtflnodkajhokhaaDoor
namespace FM
def bt (b i : Nat) : Nat := b / 2 ^ i % 2
def xt (a : Nat) : Nat := (2 * a % 256) ^^^ (bt a 7 * 27)
def xtn (a : Nat) : Nat -> Nat
  | 0 => a
  | n + 1 => xt (xtn a n)
def mulTo (a b : Nat) : Nat -> Nat
  | 0 => 0
  | n + 1 => mulTo a b n ^^^ (bt b n * xtn a n)
def mul (a b : Nat) : Nat := mulTo a b 8

theorem bt_xor (b c i : Nat) : bt (b ^^^ c) i = (bt b i + bt c i) % 2 := by
  have e : (b / 2 ^ i ^^^ c / 2 ^ i) % 2 = (b / 2 ^ i) % 2 ^^^ (c / 2 ^ i) % 2 := Nat.xor_mod_two_pow (n := 1)
  unfold bt; rw [Nat.xor_div_two_pow, e]
  rcases Nat.mod_two_eq_zero_or_one (b / 2 ^ i) with h | h <;> rcases Nat.mod_two_eq_zero_or_one (c / 2 ^ i) with k | k <;> rw [h, k] <;> rfl
theorem bt_01 (b i : Nat) : bt b i = 0 \/ bt b i = 1 := by unfold bt; omega
theorem bmul_xor (x y v : Nat) (hx : x = 0 \/ x = 1) (hy : y = 0 \/ y = 1) : (x + y) % 2 * v = x * v ^^^ y * v := by
  rcases hx with rfl | rfl <;> rcases hy with rfl | rfl <;> simp
theorem mul_xor (x v u : Nat) (hx : x = 0 \/ x = 1) : x * (v ^^^ u) = x * v ^^^ x * u := by
  rcases hx with rfl | rfl <;> simp
theorem xt_xor (a b : Nat) : xt (a ^^^ b) = xt a ^^^ xt b := by
  unfold xt
  rw [bt_xor, bmul_xor _ _ _ (bt_01 _ _) (bt_01 _ _)]
  have h : 2 * (a ^^^ b) % 256 = (2 * a % 256) ^^^ (2 * b % 256) := by
    have h1 : 2 * (a ^^^ b) = 2 * a ^^^ 2 * b := by
      have := Nat.shiftLeft_xor_distrib (a := a) (b := b) (i := 1)
      simp [Nat.shiftLeft_eq] at this
      rw [Nat.mul_comm, this, Nat.mul_comm a, Nat.mul_comm b]
    rw [h1]; exact Nat.xor_mod_two_pow (n := 8)
  rw [h]; ac_rfl
theorem xtn_xor (a b n : Nat) : xtn (a ^^^ b) n = xtn a n ^^^ xtn b n := by
  induction n with
  | zero => rfl
  | succ n ih => simp only [xtn, ih, xt_xor]
theorem mulTo_xor_left (a b c n : Nat) : mulTo (a ^^^ b) c n = mulTo a c n ^^^ mulTo b c n := by
  induction n with
  | zero => simp [mulTo]
  | succ n ih => simp only [mulTo, ih, xtn_xor, mul_xor _ _ _ (bt_01 c n)]; ac_rfl
theorem mulTo_xor_right (a b c n : Nat) : mulTo a (b ^^^ c) n = mulTo a b n ^^^ mulTo a c n := by
  induction n with
  | zero => simp [mulTo]
  | succ n ih => simp only [mulTo, ih, bt_xor, bmul_xor _ _ _ (bt_01 b n) (bt_01 c n)]; ac_rfl
theorem mul_xor_left (a b c : Nat) : mul (a ^^^ b) c = mul a c ^^^ mul b c := mulTo_xor_left a b c 8
theorem mul_xor_right (a b c : Nat) : mul a (b ^^^ c) = mul a b ^^^ mul a c := mulTo_xor_right a b c 8

theorem lt_of_xor {a b : Nat} (h : a < 256) (k : b < 256) : a ^^^ b < 256 := Nat.xor_lt_two_pow (n := 8) h k
theorem xt_lt (a : Nat) : xt a < 256 := by
  unfold xt; exact lt_of_xor (by omega) (by rcases bt_01 a 7 with h | h <;> rw [h] <;> omega)
theorem xtn_lt (a n : Nat) (h : a < 256) : xtn a n < 256 := by
  cases n with
  | zero => exact h
  | succ n => exact xt_lt _
theorem mulTo_lt (a b n : Nat) (h : a < 256) : mulTo a b n < 256 := by
  induction n with
  | zero => show 0 < 256; omega
  | succ n ih => exact lt_of_xor ih (by have := xtn_lt a n h; rcases bt_01 b n with k | k <;> rw [k] <;> omega)
theorem mul_lt (a b : Nat) (h : a < 256) : mul a b < 256 := mulTo_lt a b 8 h

def span (f : Nat -> Nat) (a : Nat) : Nat -> Nat
  | 0 => 0
  | n + 1 => span f a n ^^^ (bt a n * f (2 ^ n))
theorem low_succ (a n : Nat) : a % 2 ^ (n + 1) = a % 2 ^ n ^^^ (bt a n * 2 ^ n) := by
  have e : a % 2 ^ (n + 1) = a % 2 ^ n + bt a n * 2 ^ n := by
    unfold bt; rw [Nat.pow_succ, Nat.mod_mul]; rw [Nat.mul_comm (2 ^ n)]
  rw [e]
  rcases bt_01 a n with h | h
  . rw [h]; simp
  . rw [h, Nat.one_mul]
    apply Nat.eq_of_testBit_eq; intro i
    rw [Nat.testBit_xor, Nat.add_comm, Nat.testBit_two_pow]
    by_cases hi : n = i
    . subst hi; rw [Nat.testBit_two_pow_add_eq]; simp
    . have hl : a % 2 ^ n < 2 ^ n := Nat.mod_lt _ (Nat.two_pow_pos n)
      rcases Nat.lt_or_gt_of_ne hi with k | k
      . have k1 : a % 2 ^ n < 2 ^ i := Nat.lt_trans hl (Nat.pow_lt_pow_right (by omega) k)
        have k2 : 2 ^ n + a % 2 ^ n < 2 ^ i := by
          have : 2 ^ (n + 1) <= 2 ^ i := Nat.pow_le_pow_right (by omega) k
          rw [Nat.pow_succ] at this; omega
        rw [Nat.testBit_lt_two_pow k1, Nat.testBit_lt_two_pow k2]; simp [hi]
      . rw [Nat.testBit_two_pow_add_gt k]; simp [hi]
theorem span_of (f : Nat -> Nat) (h0 : f 0 = 0) (hx : ∀ a b, f (a ^^^ b) = f a ^^^ f b) (a n : Nat) : f (a % 2 ^ n) = span f a n := by
  induction n with
  | zero => rw [Nat.pow_zero, Nat.mod_one]; exact h0
  | succ n ih => rw [low_succ, hx, ih]; show _ = span f a n ^^^ _; rcases bt_01 a n with h | h <;> rw [h] <;> simp [h0]
theorem span_congr (f g : Nat -> Nat) (a n : Nat) (h : ∀ i, i < n -> f (2 ^ i) = g (2 ^ i)) : span f a n = span g a n := by
  induction n with
  | zero => rfl
  | succ n ih => simp only [span]; rw [ih fun i hi => h i (by omega), h n (by omega)]
theorem lin_ext (f g : Nat -> Nat) (hf0 : f 0 = 0) (hg0 : g 0 = 0) (hf : ∀ a b, f (a ^^^ b) = f a ^^^ f b) (hg : ∀ a b, g (a ^^^ b) = g a ^^^ g b)
    (h : ∀ i, i < 8 -> f (2 ^ i) = g (2 ^ i)) (a : Nat) (ha : a < 256) : f a = g a := by
  have e : a = a % 2 ^ 8 := (Nat.mod_eq_of_lt ha).symm
  rw [e, span_of f hf0 hf, span_of g hg0 hg]; exact span_congr f g a 8 h

theorem mul_zero_left (b : Nat) : mul 0 b = 0 := by
  have h := mul_xor_left 0 0 b; simp at h; exact h
theorem mul_zero_right (a : Nat) : mul a 0 = 0 := by
  have h := mul_xor_right a 0 0; simp at h; exact h
theorem mul_comm (a b : Nat) (ha : a < 256) (hb : b < 256) : mul a b = mul b a := by
  refine lin_ext (fun a => mul a b) (fun a => mul b a) (mul_zero_left b) (mul_zero_right b) (fun x y => mul_xor_left x y b) (fun x y => mul_xor_right b x y) (fun i hi => ?_) a ha
  refine lin_ext (fun b => mul (2 ^ i) b) (fun b => mul b (2 ^ i)) (mul_zero_right _) (mul_zero_left _) (fun x y => mul_xor_right _ x y) (fun x y => mul_xor_left x y _) (fun j hj => ?_) b hb
  have k : ((List.range 8).all fun i => (List.range 8).all fun j => mul (2 ^ i) (2 ^ j) == mul (2 ^ j) (2 ^ i)) = true := by decide +kernel
  simp only [List.all_eq_true, List.mem_range, beq_iff_eq] at k
  exact k i hi j hj
theorem mul_assoc (a b c : Nat) (ha : a < 256) (hb : b < 256) (hc : c < 256) : mul a (mul b c) = mul (mul a b) c := by
  refine lin_ext (fun a => mul a (mul b c)) (fun a => mul (mul a b) c) (mul_zero_left _) (by simp only [mul_zero_left]) (fun x y => mul_xor_left x y _) (fun x y => by simp only [mul_xor_left]) (fun i hi => ?_) a ha
  refine lin_ext (fun b => mul (2 ^ i) (mul b c)) (fun b => mul (mul (2 ^ i) b) c) (by simp only [mul_zero_left, mul_zero_right]) (by simp only [mul_zero_left, mul_zero_right]) (fun x y => by simp only [mul_xor_left, mul_xor_right]) (fun x y => by simp only [mul_xor_left, mul_xor_right]) (fun j hj => ?_) b hb
  refine lin_ext (fun c => mul (2 ^ i) (mul (2 ^ j) c)) (fun c => mul (mul (2 ^ i) (2 ^ j)) c) (by simp only [mul_zero_right]) (by simp only [mul_zero_right]) (fun x y => by simp only [mul_xor_right]) (fun x y => by simp only [mul_xor_right]) (fun l hl => ?_) c hc
  have k : ((List.range 8).all fun i => (List.range 8).all fun j => (List.range 8).all fun l => mul (2 ^ i) (mul (2 ^ j) (2 ^ l)) == mul (mul (2 ^ i) (2 ^ j)) (2 ^ l)) = true := by decide +kernel
  simp only [List.all_eq_true, List.mem_range, beq_iff_eq] at k
  exact k i hi j hj l hl
theorem mul_one (a : Nat) (ha : a < 256) : mul a 1 = a := by
  refine lin_ext (fun a => mul a 1) (fun a => a) (mul_zero_left _) rfl (fun x y => mul_xor_left x y _) (fun x y => rfl) (fun i hi => ?_) a ha
  have k : ((List.range 8).all fun i => mul (2 ^ i) 1 == 2 ^ i) = true := by decide +kernel
  simp only [List.all_eq_true, List.mem_range, beq_iff_eq] at k
  exact k i hi

def pw (a : Nat) : Nat -> Nat
  | 0 => 1
  | n + 1 => mul (pw a n) a
theorem pw_lt (a n : Nat) : pw a n < 256 := by
  induction n with
  | zero => show 1 < 256; omega
  | succ n ih => exact mul_lt _ _ ih
theorem one_mul (a : Nat) (ha : a < 256) : mul 1 a = a := by rw [mul_comm 1 a (by omega) ha, mul_one a ha]
theorem pw_add (a m n : Nat) (ha : a < 256) : pw a (m + n) = mul (pw a m) (pw a n) := by
  induction n with
  | zero => exact (mul_one _ (pw_lt a m)).symm
  | succ n ih =>
    show mul (pw a (m + n)) a = mul (pw a m) (mul (pw a n) a)
    rw [ih, mul_assoc _ _ _ (pw_lt a m) (pw_lt a n) ha]
def power (a : Nat) (n : Int) : Nat := if a = 0 then (if n = 0 then 1 else 0) else pw a (n % 255).toNat
theorem power_lt (a : Nat) (n : Int) : power a n < 256 := by
  unfold power; split
  . split <;> omega
  . exact pw_lt _ _
theorem pw_bit (a m k : Nat) (ha : a < 256) : pw a (m % 2 ^ (k + 1)) = if bt m k = 1 then mul (pw a (m % 2 ^ k)) (pw a (2 ^ k)) else pw a (m % 2 ^ k) := by
  have e : m % 2 ^ (k + 1) = m % 2 ^ k + bt m k * 2 ^ k := by
    unfold bt; rw [Nat.pow_succ, Nat.mod_mul]; rw [Nat.mul_comm (2 ^ k)]
  rw [e]
  rcases bt_01 m k with h | h
  . rw [h, if_neg (by omega), Nat.zero_mul, Nat.add_zero]
  . rw [h, if_pos rfl, Nat.one_mul, pw_add a _ _ ha]
theorem pw_sq (a k : Nat) (ha : a < 256) : mul (pw a (2 ^ k)) (pw a (2 ^ k)) = pw a (2 ^ (k + 1)) := by
  rw [<- pw_add a _ _ ha, Nat.pow_succ, Nat.mul_two]
end FM
end Go.Proofs.YtflnodkajhokhaaDoor

namespace Go.Proofs.YtflnodkajhokhaaDoor
open Go.ChangeShapes Go.WideShapes Go.ChangeAt Go.RowKit
open FM

theorem bit_u8 (b k : Nat) (hb : b < 256) : bits .and .u8 ((b : Int) / 2 ^ k) 1 = ((bt b k : Nat) : Int) := by
  have e : ((b : Int) / 2 ^ k) = ((b / 2 ^ k : Nat) : Int) := by simp
  have l : b / 2 ^ k < 256 := Nat.lt_of_le_of_lt (Nat.div_le_self _ _) hb
  rw [e]
  have := u8_and_nat (b / 2 ^ k) 1 l (by omega)
  rw [nat_mask1] at this; exact this
theorem bit_u8_yes {b k : Nat} (hb : b < 256) (h : (bits .and .u8 ((b : Int) / 2 ^ k) 1 == 1) = true) : bt b k = 1 := by
  rw [bit_u8 b k hb] at h; simp at h; omega
theorem bit_u8_no {b k : Nat} (hb : b < 256) (h : (bits .and .u8 ((b : Int) / 2 ^ k) 1 == 1) = false) : bt b k = 0 := by
  rw [bit_u8 b k hb] at h; have := bt_01 b k; simp at h; omega
theorem wraps_i64 (n : Int) (h₀ : 0 <= n) (h₁ : n < 2 ^ 62) : IntKind.i64.wrap n = n := by rw [IntKind.wrap_i64]; omega
theorem i64_and_nat (a b : Nat) (ha : a < 2 ^ 62) (hb : b < 2 ^ 62) : bits .and .i64 (a : Int) (b : Int) = ((a &&& b : Nat) : Int) :=
  (bits_nat .i64 62 (by decide) wraps_i64 a b ha hb).1
theorem bit_i64 (m k : Nat) (hm : m < 2 ^ 62) : bits .and .i64 ((m : Int) / 2 ^ k) 1 = ((bt m k : Nat) : Int) := by
  have e : ((m : Int) / 2 ^ k) = ((m / 2 ^ k : Nat) : Int) := by simp
  have l : m / 2 ^ k < 2 ^ 62 := Nat.lt_of_le_of_lt (Nat.div_le_self _ _) hm
  rw [e]
  have := i64_and_nat (m / 2 ^ k) 1 l (by omega)
  rw [nat_mask1] at this; exact this
theorem bit_i64_yes {m k : Nat} (hm : m < 2 ^ 62) (h : (bits .and .i64 ((m : Int) / 2 ^ k) 1 == 1) = true) : bt m k = 1 := by
  rw [bit_i64 m k hm] at h; simp at h; omega
theorem bit_i64_no {m k : Nat} (hm : m < 2 ^ 62) (h : (bits .and .i64 ((m : Int) / 2 ^ k) 1 == 1) = false) : bt m k = 0 := by
  rw [bit_i64 m k hm] at h; have := bt_01 m k; simp at h; omega

theorem xt_hi (a : Nat) (h : a < 256) (h2 : 128 <= a) : bits .xor .u8 ((a : Int) * 2 % 256) 27 = ((xt a : Nat) : Int) := by
  have e : ((a : Int) * 2 % 256) = ((2 * a % 256 : Nat) : Int) := by omega
  have b : bt a 7 = 1 := by unfold bt; omega
  rw [e]; unfold xt; rw [b, Nat.one_mul]
  exact u8_xor_nat (2 * a % 256) 27 (by omega) (by omega)
theorem xt_lo (a : Nat) (h : a < 128) : xt a = 2 * a := by
  have b : bt a 7 = 0 := by unfold bt; omega
  unfold xt; rw [b, Nat.zero_mul, Nat.xor_zero]; omega

set_option maxHeartbeats 400000 in
theorem double_any (a : Nat) (h : a < 256) (w : World) :
    Calls Tryd.prog 94 #[.int .u8 a] w fun e w' => e = .returned (.int .u8 (xt a)) /\ w = w' := by
  by_cases h2 : a < 128
  . go_enter Tryd.func94, Tryd.ntmps94
    have b : ((a : Int) / 128 == 1) = false := by simp; omega
    go_wp2
    go_ret
    exact ⟨by rw [xt_lo a h2]; simp [Int.mul_comm], rfl⟩
  . go_enter Tryd.func94, Tryd.ntmps94
    have b : ((a : Int) / 128 == 1) = true := by simp; omega
    go_wp2
    go_ret
    exact ⟨by rw [<- xt_hi a h (by omega)]; rfl, rfl⟩
set_option maxHeartbeats 400000 in
theorem mul_any (a b : Nat) (ha : a < 256) (hb : b < 256) (w : World) :
    Calls Tryd.prog 93 #[.int .u8 a, .int .u8 b] w fun e w' => e = .returned (.int .u8 (mul a b)) /\ w = w' := by
  go_enter Tryd.func93, Tryd.ntmps93
  go_wp2_with fail
  go_loop [0, 5, 7] (fun x p i => ∃ k : Nat, k <= 8 /\ i = .int .i64 k /\ x = .int .u8 (xtn a k) /\ p = .int .u8 (mulTo a b k)) (fun _ _ i => 8 - (intOf i).toNat)
  case atStart => exact ⟨0, Nat.zero_le _, rfl, rfl, rfl⟩
  case round =>
    obtain ⟨k, hk, rfl, rfl, rfl⟩ := hrel
    by_cases hlt : k < 8
    . have hx := xtn_lt a k ha
      have hp := mulTo_lt a b k ha
      go_wp2_with (go_at_call 94; refine (double_any _ hx _).mono ?_; rintro e w' ⟨rfl, rfl⟩)
      . have hb1 : bt b k = 1 := bit_u8_yes hb (by assumption)
        go_round
        case rel => exact ⟨k + 1, by omega, by go_num, rfl, by rw [u8_xor_nat _ _ hp hx]; simp only [mulTo, hb1, Nat.one_mul]⟩
        case measure => simp [intOf]; omega
      . have hb1 : bt b k = 0 := bit_u8_no hb (by assumption)
        go_round
        case rel => exact ⟨k + 1, by omega, by go_num, rfl, by simp only [mulTo, hb1, Nat.zero_mul, Nat.xor_zero]⟩
        case measure => simp [intOf]; omega
    . obtain rfl : k = 8 := by omega
      go_wp2_with fail
      go_ret
      exact ⟨rfl, rfl⟩

theorem emod_toNat (n : Int) : (n % 255).toNat < 255 := by omega
theorem tmod_lo (n : Int) (h : n < 0) : -255 < n.tmod 255 /\ n.tmod 255 <= 0 /\ (n.tmod 255 < 0 -> n % 255 = n.tmod 255 + 255) /\ (n.tmod 255 = 0 -> n % 255 = 0) := by
  have k1 : n.tmod 255 = -((-n) % 255) := by
    rw [show n = -(-n) by omega, Int.neg_tmod, Int.tmod_eq_emod_of_nonneg (by omega)]; omega
  omega
set_option maxHeartbeats 1000000 in
theorem power_loop (a : Nat) (n : Int) (ha : a < 256) (h0 : 0 < a) (hn : n ≠ 0) (w : World) :
    Calls Tryd.prog 88 #[.int .u8 a, .int .i64 n] w fun e w' => e = .returned (.int .u8 (power a n)) /\ w = w' := by
  have e0 : (n == 0) = false := by simp; exact hn
  have ea : ((a : Int) == 0) = false := by simp; omega
  have em : ∃ m : Nat, m < 255 /\ (n % 255).toNat = m := ⟨_, emod_toNat n, rfl⟩
  obtain ⟨m, hm, em⟩ := em
  have hpw : power a n = pw a m := by unfold power; rw [if_neg (by omega), em]
  rw [hpw]; clear hpw
  have parts : (0 <= n /\ n % 255 = (m : Int)) \/ (n < 0 /\ n.tmod 255 = (m : Int) - 255 /\ -255 < n.tmod 255 /\ n.tmod 255 < 0) \/ (n < 0 /\ n.tmod 255 = (m : Int) /\ 0 <= n.tmod 255) := by
    by_cases hp : 0 <= n
    . left; omega
    . right; have := tmod_lo n (by omega); omega
  clear em hn
  rcases parts with ⟨hp, hr⟩ | ⟨hp, hr, h1, h2⟩ | ⟨hp, hr, h1⟩
  all_goals
    have HR := Lib.hid hr
    clear hr
    go_enter Tryd.func88, Tryd.ntmps88
    go_wp2_with fail
    rw [HR.out]
    try rw [show ((m : Int) - 255 + 255) = (m : Int) by omega]
    go_loop [0, 5, 17] (fun x p i => ∃ k : Nat, k <= 8 /\ i = .int .i64 k /\ x = .int .u8 (pw a (2 ^ k)) /\ p = .int .u8 (pw a (m % 2 ^ k))) (fun _ _ i => 8 - (intOf i).toNat)
    case atStart => exact ⟨0, Nat.zero_le _, rfl, by rw [show pw a (2 ^ 0) = a from one_mul a ha], by rw [Nat.pow_zero, Nat.mod_one]; rfl⟩
    case round =>
      obtain ⟨k, hk, rfl, rfl, rfl⟩ := hrel
      by_cases hlt : k < 8
      . have hx := pw_lt a (2 ^ k)
        have hy := pw_lt a (m % 2 ^ k)
        go_wp2_with (go_at_call 93; refine (mul_any _ _ (by assumption) (by assumption) _).mono ?_; rintro e w' ⟨rfl, rfl⟩)
        . have hb1 : bt m k = 1 := bit_i64_yes (by omega) (by assumption)
          go_round
          case rel => exact ⟨k + 1, by omega, by go_num, by rw [pw_sq a k ha], by rw [pw_bit a m k ha, if_pos hb1]⟩
          case measure => simp [intOf]; omega
        . have hb1 : bt m k = 0 := bit_i64_no (by omega) (by assumption)
          go_round
          case rel => exact ⟨k + 1, by omega, by go_num, by rw [pw_sq a k ha], by rw [pw_bit a m k ha, if_neg (by omega)]⟩
          case measure => simp [intOf]; omega
      . obtain rfl : k = 8 := by omega
        have HM := Lib.hid (Nat.mod_eq_of_lt (show m < 2 ^ 8 by omega))
        go_wp2_with fail
        go_ret
        exact ⟨by show Ending.returned (.int .u8 (pw a (m % 2 ^ 8))) = _; rw [HM.out], rfl⟩
set_option maxHeartbeats 400000 in
theorem power_any (a : Nat) (n : Int) (ha : a < 256) (w : World) :
    Calls Tryd.prog 88 #[.int .u8 a, .int .i64 n] w fun e w' => e = .returned (.int .u8 (power a n)) /\ w = w' := by
  by_cases hn : n = 0
  . subst hn
    have hp : power a 0 = 1 := by unfold power; split <;> rfl
    rw [hp]
    go_enter Tryd.func88, Tryd.ntmps88
    go_wp2_with fail
    go_ret
    exact ⟨rfl, rfl⟩
  . by_cases h0 : a = 0
    . subst h0
      have hp : power 0 n = 0 := by unfold power; rw [if_pos rfl, if_neg hn]
      rw [hp]; clear hp
      have e0 : (n == 0) = false := by simp; exact hn
      go_enter Tryd.func88, Tryd.ntmps88
      go_wp2_with fail
      go_ret
      exact ⟨rfl, rfl⟩
    . exact power_loop a n ha (by omega) hn w
end Go.Proofs.YtflnodkajhokhaaDoor
namespace Go.Proofs.YtflnodkajhokhaaDoor
namespace AM
open FM
def tab : List Nat := [
  99, 124, 119, 123, 242, 107, 111, 197, 48, 1, 103, 43, 254, 215, 171, 118, 202, 130, 201, 125, 250, 89, 71, 240, 173, 212, 162, 175, 156, 164, 114, 192,
  183, 253, 147, 38, 54, 63, 247, 204, 52, 165, 229, 241, 113, 216, 49, 21, 4, 199, 35, 195, 24, 150, 5, 154, 7, 18, 128, 226, 235, 39, 178, 117,
  9, 131, 44, 26, 27, 110, 90, 160, 82, 59, 214, 179, 41, 227, 47, 132, 83, 209, 0, 237, 32, 252, 177, 91, 106, 203, 190, 57, 74, 76, 88, 207,
  208, 239, 170, 251, 67, 77, 51, 133, 69, 249, 2, 127, 80, 60, 159, 168, 81, 163, 64, 143, 146, 157, 56, 245, 188, 182, 218, 33, 16, 255, 243, 210,
  205, 12, 19, 236, 95, 151, 68, 23, 196, 167, 126, 61, 100, 93, 25, 115, 96, 129, 79, 220, 34, 42, 144, 136, 70, 238, 184, 20, 222, 94, 11, 219,
  224, 50, 58, 10, 73, 6, 36, 92, 194, 211, 172, 98, 145, 149, 228, 121, 231, 200, 55, 109, 141, 213, 78, 169, 108, 86, 244, 234, 101, 122, 174, 8,
  186, 120, 37, 46, 28, 166, 180, 198, 232, 221, 116, 31, 75, 189, 139, 138, 112, 62, 181, 102, 72, 3, 246, 14, 97, 53, 87, 185, 134, 193, 29, 158,
  225, 248, 152, 17, 105, 217, 142, 148, 155, 30, 135, 233, 206, 85, 40, 223, 140, 161, 137, 13, 191, 230, 66, 104, 65, 153, 45, 15, 176, 84, 187, 22]
def box (x : Nat) : Nat := gb tab x
def untab : List Nat := (List.range 256).map fun x => tab.idxOf x
def unb (x : Nat) : Nat := gb untab x
theorem tab_len : tab.length = 256 := by decide +kernel
theorem box_all : ((List.range 256).all fun x => decide (box x < 256) && unb (box x) == x && decide (unb x < 256) && box (unb x) == x) = true := by decide +kernel
theorem box_at (x : Nat) (h : x < 256) : box x < 256 /\ unb (box x) = x /\ unb x < 256 /\ box (unb x) = x := by
  have h1 := List.all_eq_true.1 box_all x (by simpa using h)
  simp only [Bool.and_eq_true, decide_eq_true_eq, beq_iff_eq] at h1
  exact ⟨h1.1.1.1, h1.1.1.2, h1.1.2, h1.2⟩
theorem box_byte (x : Nat) : box x < 256 := by
  rcases Nat.lt_or_ge x 256 with h | h
  . exact (box_at x h).1
  . unfold box gb
    rw [List.getD_eq_getElem?_getD, List.getElem?_eq_none (by rw [tab_len]; exact h)]
    show 0 < 256; omega
theorem unb_byte (x : Nat) : unb x < 256 := by
  rcases Nat.lt_or_ge x 256 with h | h
  . exact (box_at x h).2.2.1
  . unfold unb gb untab
    rw [List.getD_eq_getElem?_getD, List.getElem?_eq_none (by simpa using h)]
    show 0 < 256; omega
def row (f : Nat -> Nat) : List Nat := (List.range 16).map f
theorem row_len (f : Nat -> Nat) : (row f).length = 16 := by simp [row]
theorem row_get (f : Nat -> Nat) (k : Nat) (h : k < 16) : gb (row f) k = f k := by
  unfold row; rw [gb_map, if_pos h]
theorem row_bytes (f : Nat -> Nat) (h : ∀ k, k < 16 -> f k < 256) : Bytes 16 (row f) := by
  refine ⟨row_len f, fun k => ?_⟩
  unfold row; rw [gb_map]
  split
  . exact h k (by assumption)
  . omega
def ax (a b : List Nat) : List Nat := row fun i => gb a i ^^^ gb b i
def ss (s : List Nat) : List Nat := row fun i => box (gb s (4 * ((i / 4 + i % 4) % 4) + i % 4))
def iss (s : List Nat) : List Nat := row fun i => unb (gb s (4 * ((i / 4 + 4 - i % 4) % 4) + i % 4))
def at_ (t : List Nat) (i j : Nat) : Nat := gb t (4 * (i / 4) + (i % 4 + j) % 4)
def mx (t : List Nat) : List Nat := row fun i => mul 2 (at_ t i 0) ^^^ mul 3 (at_ t i 1) ^^^ at_ t i 2 ^^^ at_ t i 3
def imx (t : List Nat) : List Nat := row fun i => mul 14 (at_ t i 0) ^^^ mul 11 (at_ t i 1) ^^^ mul 13 (at_ t i 2) ^^^ mul 9 (at_ t i 3)
theorem ax_bytes {a b : List Nat} (ha : Bytes 16 a) (hb : Bytes 16 b) : Bytes 16 (ax a b) := row_bytes _ fun k _ => lt_of_xor (ha.2 k) (hb.2 k)
theorem ss_bytes (s : List Nat) : Bytes 16 (ss s) := row_bytes _ fun _ _ => box_byte _
theorem iss_bytes (s : List Nat) : Bytes 16 (iss s) := row_bytes _ fun _ _ => unb_byte _
theorem at_lt {t : List Nat} (h : Bytes 16 t) (i j : Nat) : at_ t i j < 256 := h.2 _
theorem mx_bytes {t : List Nat} (h : Bytes 16 t) : Bytes 16 (mx t) := row_bytes _ fun k _ => lt_of_xor (lt_of_xor (lt_of_xor (mul_lt _ _ (by omega)) (mul_lt _ _ (by omega))) (at_lt h _ _)) (at_lt h _ _)
theorem imx_bytes (t : List Nat) : Bytes 16 (imx t) := row_bytes _ fun k _ => lt_of_xor (lt_of_xor (lt_of_xor (mul_lt _ _ (by omega)) (mul_lt _ _ (by omega))) (mul_lt _ _ (by omega))) (mul_lt _ _ (by omega))
theorem ax_ax {a b : List Nat} (ha : Bytes 16 a) : ax (ax a b) b = a :=
  bytes_ext (n := 16) (row_len _) ha.1 fun k hk => by
    unfold ax
    rw [row_get _ _ hk, row_get _ _ hk, Nat.xor_assoc, Nat.xor_self, Nat.xor_zero]
theorem shift_there (i : Nat) (h : i < 16) : 4 * ((i / 4 + 4 - i % 4) % 4) + i % 4 < 16 /\ 4 * (((4 * ((i / 4 + 4 - i % 4) % 4) + i % 4) / 4 + (4 * ((i / 4 + 4 - i % 4) % 4) + i % 4) % 4) % 4) + (4 * ((i / 4 + 4 - i % 4) % 4) + i % 4) % 4 = i := by omega
theorem iss_ss {s : List Nat} (hs : Bytes 16 s) : iss (ss s) = s :=
  bytes_ext (n := 16) (row_len _) hs.1 fun k hk => by
    obtain ⟨h1, h2⟩ := shift_there k hk
    unfold iss ss
    rw [row_get _ _ hk, row_get _ _ h1, h2, (box_at _ (hs.2 k)).2.1]
theorem mm (a b x : Nat) (ha : a < 256) (hb : b < 256) (hx : x < 256) : mul a (mul b x) = mul (mul a b) x := mul_assoc a b x ha hb hx
theorem four (p q r s t x : Nat) (h : p ^^^ q ^^^ r ^^^ s = t) : mul p x ^^^ mul q x ^^^ mul r x ^^^ mul s x = mul t x := by
  rw [<- mul_xor_left, <- mul_xor_left, <- mul_xor_left, h]
theorem col_back (a b c d : Nat) (ha : a < 256) (hb : b < 256) (hc : c < 256) (hd : d < 256) :
    mul 14 (mul 2 a ^^^ mul 3 b ^^^ c ^^^ d) ^^^ mul 11 (mul 2 b ^^^ mul 3 c ^^^ d ^^^ a) ^^^ mul 13 (mul 2 c ^^^ mul 3 d ^^^ a ^^^ b) ^^^ mul 9 (mul 2 d ^^^ mul 3 a ^^^ b ^^^ c) = a := by
  simp only [mul_xor_right]
  rw [mm 14 2 a (by omega) (by omega) ha, mm 14 3 b (by omega) (by omega) hb, mm 11 2 b (by omega) (by omega) hb, mm 11 3 c (by omega) (by omega) hc, mm 13 2 c (by omega) (by omega) hc, mm 13 3 d (by omega) (by omega) hd, mm 9 2 d (by omega) (by omega) hd, mm 9 3 a (by omega) (by omega) ha]
  have e0 := four (mul 14 2) 11 13 (mul 9 3) 1 a (by decide +kernel)
  have e1 := four (mul 14 3) (mul 11 2) 13 9 0 b (by decide +kernel)
  have e2 := four 14 (mul 11 3) (mul 13 2) 9 0 c (by decide +kernel)
  have e3 := four 14 11 (mul 13 3) (mul 9 2) 0 d (by decide +kernel)
  rw [one_mul a ha] at e0
  rw [mul_zero_left] at e1 e2 e3
  generalize mul (mul 14 2) a = x1 at *
  generalize mul (mul 14 3) b = x2 at *
  generalize mul 14 c = x3 at *
  generalize mul 14 d = x4 at *
  generalize mul (mul 11 2) b = x5 at *
  generalize mul (mul 11 3) c = x6 at *
  generalize mul 11 d = x7 at *
  generalize mul 11 a = x8 at *
  generalize mul (mul 13 2) c = x9 at *
  generalize mul (mul 13 3) d = y1 at *
  generalize mul 13 a = y2 at *
  generalize mul 13 b = y3 at *
  generalize mul (mul 9 2) d = y4 at *
  generalize mul (mul 9 3) a = y5 at *
  generalize mul 9 b = y6 at *
  generalize mul 9 c = y7 at *
  calc _ = (x1 ^^^ x8 ^^^ y2 ^^^ y5) ^^^ (x2 ^^^ x5 ^^^ y3 ^^^ y6) ^^^ (x3 ^^^ x6 ^^^ x9 ^^^ y7) ^^^ (x4 ^^^ x7 ^^^ y1 ^^^ y4) := by ac_rfl
    _ = a := by rw [e0, e1, e2, e3]; simp
theorem at_row (f : Nat -> Nat) (i j : Nat) (h : i < 16) : at_ (row f) i j = f (4 * (i / 4) + (i % 4 + j) % 4) := by
  unfold at_; rw [row_get _ _ (by omega)]
theorem at_at (t : List Nat) (i j k : Nat) : at_ t (4 * (i / 4) + (i % 4 + j) % 4) k = at_ t i ((j + k) % 4) := by
  unfold at_; congr 1; omega
theorem at_zero (t : List Nat) (i : Nat) : at_ t i 0 = gb t i := by
  unfold at_; congr 1; omega
theorem imx_mx {t : List Nat} (ht : Bytes 16 t) : imx (mx t) = t :=
  bytes_ext (n := 16) (row_len _) ht.1 fun k hk => by
    unfold imx mx
    rw [row_get _ _ hk, at_row _ _ _ hk, at_row _ _ _ hk, at_row _ _ _ hk, at_row _ _ _ hk]
    simp only [at_at, Nat.reduceAdd, Nat.reduceMod]
    rw [col_back _ _ _ _ (at_lt ht _ _) (at_lt ht _ _) (at_lt ht _ _) (at_lt ht _ _), at_zero]
def encTo (k : Nat -> List Nat) (s : List Nat) : Nat -> List Nat
  | 0 => ax s (k 0)
  | n + 1 => ax (mx (ss (encTo k s n))) (k (n + 1))
def enc (k : Nat -> List Nat) (s : List Nat) : List Nat := ax (ss (encTo k s 13)) (k 14)
def decTo (k : Nat -> List Nat) (b : List Nat) : Nat -> List Nat
  | 0 => b
  | 1 => iss (ax b (k 14))
  | n + 2 => iss (imx (ax (decTo k b (n + 1)) (k (13 - n))))
def dec (k : Nat -> List Nat) (b : List Nat) : List Nat := ax (decTo k b 14) (k 0)
theorem encTo_bytes {k : Nat -> List Nat} (hk : ∀ n, Bytes 16 (k n)) {s : List Nat} (hs : Bytes 16 s) : ∀ n, Bytes 16 (encTo k s n)
  | 0 => ax_bytes hs (hk 0)
  | n + 1 => ax_bytes (mx_bytes (ss_bytes _)) (hk (n + 1))
theorem enc_bytes {k : Nat -> List Nat} (hk : ∀ n, Bytes 16 (k n)) (s : List Nat) : Bytes 16 (enc k s) := ax_bytes (ss_bytes _) (hk 14)
theorem decTo_bytes {k : Nat -> List Nat} {b : List Nat} (hb : Bytes 16 b) : ∀ n, Bytes 16 (decTo k b n)
  | 0 => hb
  | 1 => iss_bytes _
  | _ + 2 => iss_bytes _
theorem dec_bytes {k : Nat -> List Nat} (hk : ∀ n, Bytes 16 (k n)) {b : List Nat} (hb : Bytes 16 b) : Bytes 16 (dec k b) := ax_bytes (decTo_bytes hb 14) (hk 0)
theorem dec_steps {k : Nat -> List Nat} (hk : ∀ n, Bytes 16 (k n)) {s : List Nat} (hs : Bytes 16 s) : ∀ n, n <= 13 -> decTo k (enc k s) (n + 1) = encTo k s (13 - n)
  | 0, _ => by
    show iss (ax (ax (ss (encTo k s 13)) (k 14)) (k 14)) = encTo k s 13
    rw [ax_ax (ss_bytes _), iss_ss (encTo_bytes hk hs 13)]
  | n + 1, h => by
    show iss (imx (ax (decTo k (enc k s) (n + 1)) (k (13 - n)))) = _
    rw [dec_steps hk hs n (by omega)]
    obtain ⟨m, hm⟩ : ∃ m, 13 - n = m + 1 := ⟨12 - n, by omega⟩
    rw [hm, show 13 - (n + 1) = m by omega]
    show iss (imx (ax (ax (mx (ss (encTo k s m))) (k (m + 1))) (k (m + 1)))) = _
    rw [ax_ax (mx_bytes (ss_bytes _)), imx_mx (ss_bytes _), iss_ss (encTo_bytes hk hs m)]
theorem dec_enc {k : Nat -> List Nat} (hk : ∀ n, Bytes 16 (k n)) {s : List Nat} (hs : Bytes 16 s) : dec k (enc k s) = s := by
  unfold dec
  rw [dec_steps hk hs 13 (by omega)]
  exact ax_ax hs
end AM
end Go.Proofs.YtflnodkajhokhaaDoor
namespace Go.Proofs.YtflnodkajhokhaaDoor
theorem info16 : (Tryd.prog.info? 96).map (·.size) = some 16 := by kernel_rfl
end Go.Proofs.YtflnodkajhokhaaDoor
namespace Go.Proofs.YtflnodkajhokhaaDoor
open AM FM
def rk (KS : List Nat) (n : Nat) : List Nat := row fun i => gb KS (16 * n + i)
theorem rk_bytes {KS : List Nat} (h : ∀ k, gb KS k < 256) (n : Nat) : Bytes 16 (rk KS n) := row_bytes _ fun _ _ => h _
namespace AM
def nxt (key l : List Nat) (i : Nat) : Nat :=
  if i < 32 then gb key i
  else if i / 4 % 8 = 0 then gb l (i - 32) ^^^ (box (gb l (4 * (i / 4 - 1) + (i + 1) % 4)) ^^^ (if i % 4 = 0 then power 2 ((i / 4 / 8 - 1 : Nat) : Int) else 0))
  else if i / 4 % 8 = 4 then gb l (i - 32) ^^^ box (gb l (i - 4))
  else gb l (i - 32) ^^^ gb l (i - 4)
def sl (key : List Nat) : Nat -> List Nat
  | 0 => []
  | n + 1 => sl key n ++ [nxt key (sl key n) n]
def sched (key : List Nat) : List Nat := sl key 240
theorem sl_len (key : List Nat) : ∀ n, (sl key n).length = n
  | 0 => rfl
  | n + 1 => by show (sl key n ++ _).length = _; rw [List.length_append, sl_len key n]; rfl
theorem sl_old (key : List Nat) (n j : Nat) (h : j < n) : gb (sl key (n + 1)) j = gb (sl key n) j := by
  show gb (sl key n ++ _) j = _
  unfold gb
  rw [List.getD_eq_getElem?_getD, List.getD_eq_getElem?_getD, List.getElem?_append_left (by rw [sl_len]; exact h)]
theorem sl_new (key : List Nat) (n : Nat) : gb (sl key (n + 1)) n = nxt key (sl key n) n := by
  show gb (sl key n ++ _) n = _
  unfold gb
  rw [List.getD_eq_getElem?_getD, List.getElem?_append_right (by rw [sl_len]; exact Nat.le_refl _), sl_len, Nat.sub_self]
  rfl
theorem sl_same (key : List Nat) (m j : Nat) (h : j < m) : ∀ d, gb (sl key (m + d)) j = gb (sl key m) j
  | 0 => rfl
  | d + 1 => by rw [<- sl_same key m j h d]; exact sl_old key (m + d) j (by omega)
theorem nxt_congr (key l m : List Nat) (i : Nat) (h : ∀ j, j < i -> gb l j = gb m j) : nxt key l i = nxt key m i := by
  unfold nxt
  by_cases h1 : i < 32
  . rw [if_pos h1, if_pos h1]
  . rw [if_neg h1, if_neg h1, h (i - 32) (by omega), h (i - 4) (by omega), h (4 * (i / 4 - 1) + (i + 1) % 4) (by omega)]
theorem sched_get (key : List Nat) (i : Nat) (h : i < 240) : gb (sched key) i = nxt key (sched key) i := by
  have e : ∀ j, j <= i -> gb (sched key) j = gb (sl key (i + 1)) j := fun j hj => by
    unfold sched
    rw [show (240 : Nat) = i + 1 + (239 - i) by omega]
    exact sl_same key (i + 1) j (by omega) _
  rw [e i (Nat.le_refl _), sl_new]
  refine nxt_congr _ _ _ _ fun j hj => ?_
  rw [e j (by omega)]
  exact (sl_old key i j hj).symm
theorem nxt_lt {key l : List Nat} (hk : ∀ k, gb key k < 256) (hl : ∀ k, gb l k < 256) (i : Nat) : nxt key l i < 256 := by
  unfold nxt
  split
  . exact hk i
  split
  . refine lt_of_xor (hl _) (lt_of_xor (box_byte _) ?_)
    split
    . exact power_lt _ _
    . omega
  split
  . exact lt_of_xor (hl _) (box_byte _)
  . exact lt_of_xor (hl _) (hl _)
theorem sl_byte {key : List Nat} (hk : ∀ k, gb key k < 256) : ∀ n k, gb (sl key n) k < 256
  | 0, k => Nat.zero_lt_succ _
  | n + 1, k => by
    rcases Nat.lt_trichotomy k n with h | h | h
    . rw [sl_old key n k h]; exact sl_byte hk n k
    . subst h; rw [sl_new]; exact nxt_lt hk (sl_byte hk k) k
    . unfold gb
      rw [List.getD_eq_getElem?_getD, List.getElem?_eq_none (by rw [sl_len]; omega)]
      show 0 < 256; omega
theorem sched_bytes {key : List Nat} (hk : ∀ k, gb key k < 256) : Bytes 240 (sched key) := ⟨sl_len key 240, sl_byte hk 240⟩
end AM
end Go.Proofs.YtflnodkajhokhaaDoor
namespace Go.Proofs.YtflnodkajhokhaaDoor
open Go.ChangeShapes Go.WideShapes Go.ChangeAt Go.RowKit
open AM FM
def axTo (a b : List Nat) (n : Nat) : List Nat := row fun i => if i < n then gb a i ^^^ gb b i else gb a i
theorem axTo_len (a b : List Nat) (n : Nat) : (axTo a b n).length = 16 := row_len _
theorem axTo_get (a b : List Nat) (n k : Nat) (h : k < 16) : gb (axTo a b n) k = if k < n then gb a k ^^^ gb b k else gb a k := row_get _ _ h
theorem axTo_zero {a : List Nat} (ha : a.length = 16) (b : List Nat) : axTo a b 0 = a :=
  bytes_ext (n := 16) (axTo_len _ _ _) ha fun k hk => by rw [axTo_get _ _ _ _ hk, if_neg (by omega)]
theorem axTo_all (a b : List Nat) : axTo a b 16 = ax a b :=
  bytes_ext (n := 16) (axTo_len _ _ _) (row_len _) fun k hk => by
    rw [axTo_get _ _ _ _ hk, if_pos hk]; unfold ax; rw [row_get _ _ hk]
theorem axTo_step (a b : List Nat) (k : Nat) (hk : k < 16) : (axTo a b k).set k (gb a k ^^^ gb b k) = axTo a b (k + 1) :=
  bytes_ext (n := 16) (by rw [List.length_set, axTo_len]) (axTo_len _ _ _) fun j hj => by
    rw [gb_set _ _ _ _ (by rw [axTo_len]; exact hk), axTo_get _ _ _ _ hj, axTo_get _ _ _ _ hj]
    by_cases e : k = j
    . subst e; rw [if_pos rfl, if_pos (by omega)]
    . rw [if_neg e]
      by_cases h : j < k
      . rw [if_pos h, if_pos (by omega)]
      . rw [if_neg h, if_neg (by omega)]
theorem zero16 (w : World) : (zeroValue 96).run Tryd.prog w = .ok (.agg (row8 (List.replicate 16 0)).toArray) w := by kernel_rfl
theorem xt_high (a : Nat) (h : a < 256) (h2 : 128 <= a) : bits .xor .u8 ((a : Int) * 2 % 256) 27 = ((xt a : Nat) : Int) := by
  have e : ((a : Int) * 2 % 256) = ((2 * a % 256 : Nat) : Int) := by omega
  have h7 : bt a 7 = 1 := by unfold bt; omega
  have hx := u8_xor_nat (2 * a % 256) 27 (by omega) (by omega)
  rw [e]
  unfold xt
  rw [h7, Nat.one_mul]
  exact hx
theorem xt_low (a : Nat) (h2 : a < 128) : xt a = 2 * a := by
  have h7 : bt a 7 = 0 := by unfold bt; omega
  unfold xt
  rw [h7, Nat.zero_mul, Nat.xor_zero]
  omega
theorem xt_mul (a : Nat) (h : a < 256) : xt a = mul 2 a :=
  lin_ext xt (mul 2) (by decide +kernel) (mul_zero_right 2) xt_xor (fun _ _ => mul_xor_right 2 _ _) (fun i hi => by
    match i, hi with
    | 0, _ => decide +kernel
    | 1, _ => decide +kernel
    | 2, _ => decide +kernel
    | 3, _ => decide +kernel
    | 4, _ => decide +kernel
    | 5, _ => decide +kernel
    | 6, _ => decide +kernel
    | 7, _ => decide +kernel) a h
end Go.Proofs.YtflnodkajhokhaaDoor
end

section
namespace Go.Proofs.YtflnodkajhokhaaDoor
open Go.ChangeShapes Go.WideShapes Go.ChangeAt Go.RowKit
open AM FM
theorem rk_part {KS : List Nat} (hl : KS.length = 240) (n : Nat) (hn : n < 15) (j : Nat) (v : Value) (h : (row8 (rk KS n))[j]? = some v) : (row8 KS)[16 * n + j]? = some v := by
  by_cases hj : j < 16
  . rw [row8_val _ j (by unfold rk; rw [row_len]; exact hj)] at h
    unfold rk at h
    rw [row_get _ _ hj] at h
    rw [row8_val _ _ (by omega), h]
  . rw [List.getElem?_eq_none (by rw [row8_len]; unfold rk; rw [row_len]; omega)] at h; cases h
def mxE (t : List Nat) (i : Nat) : Nat := mul 2 (at_ t i 0) ^^^ mul 3 (at_ t i 1) ^^^ at_ t i 2 ^^^ at_ t i 3
def mxTo (t : List Nat) (n : Nat) : List Nat := row fun i => if i < n then mxE t i else gb t i
theorem mxTo_len (t : List Nat) (n : Nat) : (mxTo t n).length = 16 := row_len _
theorem mxTo_get (t : List Nat) (n k : Nat) (h : k < 16) : gb (mxTo t n) k = if k < n then mxE t k else gb t k := row_get _ _ h
theorem mxTo_zero {t : List Nat} (ht : t.length = 16) : mxTo t 0 = t :=
  bytes_ext (n := 16) (mxTo_len _ _) ht fun k hk => by rw [mxTo_get _ _ _ hk, if_neg (by omega)]
theorem mxTo_all (t : List Nat) : mxTo t 16 = mx t :=
  bytes_ext (n := 16) (mxTo_len _ _) (row_len _) fun k hk => by
    rw [mxTo_get _ _ _ hk, if_pos hk]; unfold mx; rw [row_get _ _ hk]; rfl
theorem mxTo_step (t : List Nat) (k : Nat) (hk : k < 16) : (mxTo t k).set k (mxE t k) = mxTo t (k + 1) :=
  bytes_ext (n := 16) (by rw [List.length_set, mxTo_len]) (mxTo_len _ _) fun j hj => by
    rw [gb_set _ _ _ _ (by rw [mxTo_len]; exact hk), mxTo_get _ _ _ hj, mxTo_get _ _ _ hj]
    by_cases e : k = j
    . subst e; rw [if_pos rfl, if_pos (by omega)]
    . rw [if_neg e]
      by_cases h : j < k
      . rw [if_pos h, if_pos (by omega)]
      . rw [if_neg h, if_neg (by omega)]
theorem mul_three (a : Nat) (h : a < 256) : mul 2 a ^^^ a = mul 3 a := by
  have e := mul_xor_left 2 1 a
  rw [one_mul a h] at e
  exact e.symm
theorem info240 : (Tryd.prog.info? 97).map (·.size) = some 240 := by kernel_rfl
end Go.Proofs.YtflnodkajhokhaaDoor
end

section
namespace Go.Proofs.YtflnodkajhokhaaDoor
open Go.ChangeShapes Go.WideShapes Go.ChangeAt Go.RowKit
open AM FM
def swd (S : List Nat) (n : Nat) : List Nat := (List.range 240).map fun j => if j < n then gb S j else 0
theorem swd_len (S : List Nat) (n : Nat) : (swd S n).length = 240 := by simp [swd]
theorem swd_get (S : List Nat) (n k : Nat) (h : k < 240) : gb (swd S n) k = if k < n then gb S k else 0 := by
  unfold swd; rw [gb_map, if_pos h]
theorem swd_zero (S : List Nat) : row8 (swd S 0) = row8 (List.replicate 240 0) := by
  refine congrArg row8 (bytes_ext (n := 240) (swd_len _ _) List.length_replicate fun k hk => ?_)
  rw [swd_get _ _ _ hk, if_neg (by omega)]
  unfold gb
  rw [List.getD_eq_getElem?_getD, List.getElem?_replicate, if_pos hk]
  rfl
theorem swd_all {S : List Nat} (hS : S.length = 240) : swd S 240 = S :=
  bytes_ext (n := 240) (swd_len _ _) hS fun k hk => by rw [swd_get _ _ _ hk, if_pos hk]
theorem swd_step (S : List Nat) (k : Nat) (hk : k < 240) : (swd S k).set k (gb S k) = swd S (k + 1) :=
  bytes_ext (n := 240) (by rw [List.length_set, swd_len]) (swd_len _ _) fun j hj => by
    rw [gb_set _ _ _ _ (by rw [swd_len]; exact hk), swd_get _ _ _ hj, swd_get _ _ _ hj]
    by_cases e : k = j
    . subst e; rw [if_pos rfl, if_pos (by omega)]
    . rw [if_neg e]
      by_cases h : j < k
      . rw [if_pos h, if_pos (by omega)]
      . rw [if_neg h, if_neg (by omega)]
def w4 (S : List Nat) (i : Nat) : List Nat := [gb S (4 * i), gb S (4 * i + 1), gb S (4 * i + 2), gb S (4 * i + 3)]
def wt (S : List Nat) (i : Nat) : List Nat :=
  if i % 8 = 0 then [box (gb S (4 * (i - 1) + 1)) ^^^ power 2 ((i / 8 - 1 : Nat) : Int), box (gb S (4 * (i - 1) + 2)), box (gb S (4 * (i - 1) + 3)), box (gb S (4 * (i - 1)))]
  else if i % 8 = 4 then [box (gb S (4 * (i - 1))), box (gb S (4 * (i - 1) + 1)), box (gb S (4 * (i - 1) + 2)), box (gb S (4 * (i - 1) + 3))]
  else w4 S (i - 1)
theorem wt_next (key : List Nat) (i k : Nat) (h8 : 8 <= i) (h60 : i < 60) (hk : k < 4) : gb (sched key) (4 * i + k) = gb (sched key) (4 * (i - 8) + k) ^^^ gb (wt (sched key) i) k := by
  rw [sched_get key (4 * i + k) (by omega)]
  unfold nxt
  rw [if_neg (by omega), show (4 * i + k) / 4 = i by omega, show 4 * i + k - 32 = 4 * (i - 8) + k by omega, show 4 * i + k - 4 = 4 * (i - 1) + k by omega, show (4 * i + k) % 4 = k by omega]
  generalize sched key = S
  unfold wt
  by_cases h0 : i % 8 = 0
  . rw [if_pos h0, if_pos h0]
    congr 1
    match k, hk with
    | 0, _ => rw [if_pos rfl, show (4 * i + 0 + 1) % 4 = 1 by omega]; rfl
    | 1, _ => rw [if_neg (by omega), Nat.xor_zero, show (4 * i + 1 + 1) % 4 = 2 by omega]; rfl
    | 2, _ => rw [if_neg (by omega), Nat.xor_zero, show (4 * i + 2 + 1) % 4 = 3 by omega]; rfl
    | 3, _ => rw [if_neg (by omega), Nat.xor_zero, show (4 * i + 3 + 1) % 4 = 0 by omega]; rfl
  . rw [if_neg h0, if_neg h0]
    by_cases h4 : i % 8 = 4
    . rw [if_pos h4, if_pos h4]
      congr 1
      match k, hk with
      | 0, _ => rfl
      | 1, _ => rfl
      | 2, _ => rfl
      | 3, _ => rfl
    . rw [if_neg h4, if_neg h4]
      congr 1
      match k, hk with
      | 0, _ => rfl
      | 1, _ => rfl
      | 2, _ => rfl
      | 3, _ => rfl
theorem bytes4 {a b c d : Nat} (ha : a < 256) (hb : b < 256) (hc : c < 256) (hd : d < 256) : Bytes 4 [a, b, c, d] := by
  refine ⟨rfl, fun k => ?_⟩
  match k with
  | 0 => exact ha
  | 1 => exact hb
  | 2 => exact hc
  | 3 => exact hd
  | _ + 4 => exact Nat.zero_lt_succ _
theorem w4_bytes {S : List Nat} (hS : ∀ k, gb S k < 256) (i : Nat) : Bytes 4 (w4 S i) := bytes4 (hS _) (hS _) (hS _) (hS _)
theorem w4_key (key : List Nat) (i : Nat) (hi : i < 8) : w4 (sched key) i = w4 key i := by
  have e : ∀ j, j < 32 -> gb (sched key) j = gb key j := fun j hj => by
    rw [sched_get key j (by omega)]; unfold nxt; rw [if_pos hj]
  unfold w4
  rw [e _ (by omega), e _ (by omega), e _ (by omega), e _ (by omega)]
theorem w4_part (S : List Nat) (n i : Nat) (hi : 4 * (i + 1) <= n) (hn : n <= 240) (j : Nat) (v : Value) (h : (row8 (w4 S i))[j]? = some v) : (row8 (swd S n))[4 * i + j]? = some v := by
  by_cases hj : j < 4
  . rw [row8_val _ _ (by rw [swd_len]; omega), swd_get _ _ _ (by omega), if_pos (by omega), <- h]
    match j, hj with
    | 0, _ => rfl
    | 1, _ => rfl
    | 2, _ => rfl
    | 3, _ => rfl
  . rw [List.getElem?_eq_none (by rw [row8_len]; show 4 <= j; omega)] at h; cases h
theorem zeroK (w : World) : (zeroValue 97).run Tryd.prog w = .ok (.agg (row8 (List.replicate 240 0)).toArray) w := by kernel_rfl
end Go.Proofs.YtflnodkajhokhaaDoor
end
