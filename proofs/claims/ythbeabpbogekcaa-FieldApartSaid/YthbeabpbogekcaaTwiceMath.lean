/- Doubling goes through sums, and no two rows of sixteen have one double. -/
import Derived.Test.YthbeabpbogekcaaTwiceCalls
namespace Go.Proofs.Ythbeabpbogekcaa
open FM
theorem or_bit (x c : Nat) (hx : x % 2 = 0) (hc : c < 2) : x ||| c = x + c := by
  rcases (show c = 0 ∨ c = 1 by omega) with rfl | rfl
  · simp
  · have h := Nat.two_pow_add_eq_or_of_lt (i := 1) (b := 1) (by omega) (x / 2)
    rw [show 2 ^ 1 * (x / 2) = x by omega] at h
    omega
theorem xor_bit (x c : Nat) (hx : x % 2 = 0) (hc : c < 2) : x ^^^ c = x + c := by
  rw [← or_bit x c hx hc]
  apply Nat.eq_of_testBit_eq
  intro i
  rw [Nat.testBit_xor, Nat.testBit_or]
  rcases (show c = 0 ∨ c = 1 by omega) with rfl | rfl
  · simp
  · cases i with
    | zero => simp; omega
    | succ i => simp [Nat.testBit_succ]
theorem twTo_gb (l : List Nat) (k j : Nat) (hk : k ≤ 16) : gb (twTo l k) j = if j < k then (gb l j * 2 % 256) ||| car l j else 0 := by
  induction k with
  | zero =>
    rw [if_neg (by omega)]
    show gb (List.replicate 16 0) j = 0
    unfold gb; rw [List.getD_eq_getElem?_getD, List.getElem?_replicate]; split <;> rfl
  | succ k ih =>
    show gb ((twTo l k).set k _) j = _
    rw [gb_set _ _ _ _ (by rw [twTo_len]; omega), ih (by omega)]
    by_cases h : k = j
    · subst h; rw [if_pos rfl, if_pos (by omega)]
    · rw [if_neg h]
      by_cases h2 : j < k
      · rw [if_pos h2, if_pos (by omega)]
      · rw [if_neg h2, if_neg (by omega)]
theorem tw_gb (l : List Nat) (h : ∀ k, gb l k < 256) (j : Nat) (hj : j < 16) : gb (tw l) j = (gb l j * 2 % 256 ^^^ car l j) ^^^ (if j = 0 then car l 16 * 135 else 0) := by
  have e : gb (twTo l 16) j = gb l j * 2 % 256 ^^^ car l j := by
    rw [twTo_gb l 16 j (by omega), if_pos hj]
    have := car_lt l j h
    rw [or_bit _ _ (by omega) this, xor_bit _ _ (by omega) this]
  unfold tw
  have hc := car_lt l 16 h
  split
  · rename_i h1
    rw [gb_set _ _ _ _ (by rw [twTo_len]; omega), h1]
    by_cases h0 : j = 0
    · subst h0; rw [if_pos rfl, if_pos rfl, e]
    · rw [if_neg (by omega), if_neg h0, e, Nat.xor_zero]
  · rename_i h1
    rw [e, show car l 16 = 0 by omega, Nat.zero_mul]
    split <;> rw [Nat.xor_zero]
def xl (s t : List Nat) (n : Nat) : List Nat := (List.range n).map fun k => gb s k ^^^ gb t k
theorem xl_gb (s t : List Nat) (n k : Nat) (hs : s.length = n) (ht : t.length = n) : gb (xl s t n) k = gb s k ^^^ gb t k := by
  unfold xl
  by_cases hk : k < n
  · have e : ((List.range n).map fun k => gb s k ^^^ gb t k)[k]? = some (gb s k ^^^ gb t k) := by
      rw [List.getElem?_map, List.getElem?_range hk]; rfl
    show ((List.range n).map fun k => gb s k ^^^ gb t k).getD k 0 = _
    rw [List.getD_eq_getElem?_getD, e]; rfl
  · have z : ∀ l : List Nat, l.length ≤ k → gb l k = 0 := fun l hl => by
      unfold gb; rw [List.getD_eq_getElem?_getD, List.getElem?_eq_none hl]; rfl
    rw [z s (by omega), z t (by omega)]
    exact z _ (by simp; omega)
theorem xl_bytes (s t : List Nat) (n : Nat) (hs : Bytes n s) (ht : Bytes n t) : Bytes n (xl s t n) := by
  refine ⟨by simp [xl], fun k => ?_⟩
  rw [xl_gb s t n k hs.1 ht.1]; exact lt_of_xor (hs.2 k) (ht.2 k)
theorem dbl_xor (a b : Nat) : (a ^^^ b) * 2 % 256 = (a * 2 % 256) ^^^ (b * 2 % 256) := by
  have h1 := shl_xor a b 1
  rw [Nat.pow_one] at h1
  rw [h1]; exact xor_256 _ _
theorem car_xor (s t : List Nat) (n : Nat) (hs : s.length = n) (ht : t.length = n) (k : Nat) : car (xl s t n) k = car s k ^^^ car t k := by
  cases k with
  | zero => simp [car]
  | succ k => show gb (xl s t n) k / 128 = gb s k / 128 ^^^ gb t k / 128; rw [xl_gb s t n k hs ht]; exact Nat.xor_div_two_pow (n := 7)
theorem tw_xor (s t : List Nat) (hs : Bytes 16 s) (ht : Bytes 16 t) (j : Nat) (hj : j < 16) : gb (tw (xl s t 16)) j = gb (tw s) j ^^^ gb (tw t) j := by
  rw [tw_gb _ (xl_bytes s t 16 hs ht).2 j hj, tw_gb s hs.2 j hj, tw_gb t ht.2 j hj, xl_gb s t 16 j hs.1 ht.1, dbl_xor, car_xor s t 16 hs.1 ht.1, car_xor s t 16 hs.1 ht.1]
  have h1 := car_lt s 16 hs.2
  have h2 := car_lt t 16 ht.2
  by_cases h0 : j = 0
  · rw [if_pos h0, if_pos h0, if_pos h0]
    have e : (car s 16 ^^^ car t 16) * 135 = car s 16 * 135 ^^^ car t 16 * 135 := by
      rcases (show car s 16 = 0 ∨ car s 16 = 1 by omega) with a | a <;> rcases (show car t 16 = 0 ∨ car t 16 = 1 by omega) with b | b <;> rw [a, b] <;> rfl
    rw [e]; ac_rfl
  · rw [if_neg h0, if_neg h0, if_neg h0]; simp only [Nat.xor_zero]; ac_rfl
theorem tw_inj (s t : List Nat) (hs : Bytes 16 s) (ht : Bytes 16 t) (h : tw s = tw t) : s = t := by
  have g : ∀ j, j < 16 → (gb s j * 2 % 256 ^^^ car s j) ^^^ (if j = 0 then car s 16 * 135 else 0) = (gb t j * 2 % 256 ^^^ car t j) ^^^ (if j = 0 then car t 16 * 135 else 0) := fun j hj => by
    rw [← tw_gb s hs.2 j hj, ← tw_gb t ht.2 j hj, h]
  have c1 := car_lt s 16 hs.2
  have c2 := car_lt t 16 ht.2
  have p : ∀ x y : Nat, (x ^^^ y) % 2 = x % 2 ^^^ y % 2 := fun x y => Nat.xor_mod_two_pow (n := 1)
  have g0 := g 0 (by omega)
  rw [if_pos rfl, if_pos rfl] at g0
  have z : ∀ l, car l 0 = 0 := fun _ => rfl
  rw [z, z, Nat.xor_zero, Nat.xor_zero] at g0
  have hc : car s 16 = car t 16 := by
    have q := congrArg (· % 2) g0
    simp only [p] at q
    rw [show gb s 0 * 2 % 256 % 2 = 0 by omega, show gb t 0 * 2 % 256 % 2 = 0 by omega, Nat.zero_xor, Nat.zero_xor] at q
    omega
  have low : ∀ j, j < 16 → gb s j % 128 = gb t j % 128 ∧ car s j = car t j := fun j hj => by
    by_cases h0 : j = 0
    · subst h0
      rw [hc] at g0
      have q2 := congrArg (· ^^^ car t 16 * 135) g0
      simp only [Nat.xor_assoc, Nat.xor_self, Nat.xor_zero] at q2
      exact ⟨by omega, rfl⟩
    · have q := g j hj
      have d1 := car_lt s j hs.2
      have d2 := car_lt t j ht.2
      rw [if_neg h0, if_neg h0, Nat.xor_zero, Nat.xor_zero, xor_bit _ _ (by omega) d1, xor_bit _ _ (by omega) d2] at q
      omega
  refine bytes_ext hs.1 ht.1 fun k hk => ?_
  have l := (low k hk).1
  have e1 : gb s k / 128 = gb t k / 128 := by
    by_cases h15 : k = 15
    · subst h15; exact hc
    · exact (low (k + 1) (by omega)).2
  omega
end Go.Proofs.Ythbeabpbogekcaa
