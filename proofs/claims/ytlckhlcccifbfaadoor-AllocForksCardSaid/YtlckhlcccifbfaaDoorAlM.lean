/- Sets of clusters on numbers: words of bits, the lists of those that are used, the lowest free one, and how many (what math/bits.OnesCount64 reckons). Own work. -/
import Derived.Lib.TrailingZeros
namespace Go.Proofs.YtlckhlcccifbfaaDoor
namespace AL
open Go
/-- Is the n-th cluster's bit set? -/
def has (ws : List Nat) (n : Nat) : Bool := (ws.getD (n / 64) 0).testBit (n % 64)
/-- The bits of a word that are set, rising. -/
def bits (w : Nat) : List Nat := (List.range 64).filter (fun i => w.testBit i)
/-- The clusters of the first i words that are used, rising. -/
def upto (ws : List Nat) (i : Nat) : List Nat := (List.range (64 * i)).filter (has ws)
theorem range_plus (a b : Nat) : List.range (a + b) = List.range a ++ (List.range b).map (a + ·) := by
  induction b with
  | zero => simp
  | succ b ih => rw [← Nat.add_assoc, List.range_succ, ih, List.range_succ, List.map_append, List.append_assoc]; rfl
theorem upto_zero (ws : List Nat) : upto ws 0 = [] := rfl
theorem upto_succ (ws : List Nat) (i : Nat) : upto ws (i + 1) = upto ws i ++ (bits (ws.getD i 0)).map (64 * i + ·) := by
  unfold upto bits
  rw [Nat.mul_succ, range_plus, List.filter_append, List.filter_map]
  congr 2
  apply List.filter_congr
  intro k hk
  have := List.mem_range.1 hk
  simp only [Function.comp_apply, has]
  rw [show (64 * i + k) / 64 = i by omega, show (64 * i + k) % 64 = k by omega]
theorem bits_zero : bits 0 = [] := by decide
theorem bits_low (w : Nat) (h0 : w ≠ 0) (h1 : w < 18446744073709551616) : bits w = Lib.ctz 64 w :: bits (w &&& (w - 1)) ∧ Lib.ctz 64 w < 64 ∧ w &&& (w - 1) < w := by
  unfold Lib.ctz
  rw [if_neg h0]
  obtain ⟨m, hm, hk⟩ := Lib.ctzFrom_spec 64 w (by omega) (by simpa using h1)
  obtain ⟨k, hK⟩ : ∃ k, k = Lib.ctzFrom 64 w := ⟨_, rfl⟩
  rw [← hK] at hm hk ⊢
  have hand : w &&& (w - 1) = 2 ^ k * (2 * m) := by
    have e1 : w - 1 = 2 ^ k * (2 * m) + (2 ^ k - 1) := by
      have hp : 0 < 2 ^ k := Nat.two_pow_pos k
      rw [hm, Nat.mul_add, Nat.mul_one]; omega
    apply Nat.eq_of_testBit_eq
    intro i
    rw [Nat.testBit_and, e1]
    rw [Nat.testBit_two_pow_mul_add _ (by have := Nat.two_pow_pos k; omega), hm]
    by_cases hi : i < k
    · rw [if_pos hi, Nat.testBit_two_pow_mul, Nat.testBit_two_pow_mul]
      simp [show ¬ k ≤ i by omega]
    · rw [if_neg hi, Nat.testBit_two_pow_mul, Nat.testBit_two_pow_mul]
      have hik : k ≤ i := by omega
      simp only [hik, decide_true, Bool.true_and]
      cases hd : i - k with
      | zero => simp
      | succ j =>
        rw [Nat.testBit_succ, Nat.testBit_succ, show (2 * m + 1) / 2 = m by omega, show 2 * m / 2 = m by omega, Bool.and_self]
  refine ⟨?_, hk, ?_⟩
  · rw [hand]
    unfold bits
    obtain ⟨d, hd⟩ : ∃ d, 64 = k + (1 + d) := ⟨63 - k, by omega⟩
    rw [hd, range_plus, range_plus 1 d, List.filter_append, List.filter_append]
    have z1 : (List.range k).filter (fun i => w.testBit i) = [] := by
      rw [List.filter_eq_nil_iff]
      intro i hi
      have hik := List.mem_range.1 hi
      rw [hm, Nat.testBit_two_pow_mul]
      simp [show ¬ k ≤ i by omega]
    have z2 : (List.range k).filter (fun i => (2 ^ k * (2 * m)).testBit i) = [] := by
      rw [List.filter_eq_nil_iff]
      intro i hi
      have hik := List.mem_range.1 hi
      rw [Nat.testBit_two_pow_mul]
      simp [show ¬ k ≤ i by omega]
    rw [z1, z2, List.nil_append, List.nil_append, List.map_append, List.filter_append, List.filter_append]
    have y1 : (List.map (fun x => k + x) (List.range 1)).filter (fun i => w.testBit i) = [k] := by
      rw [show List.map (fun x => k + x) (List.range 1) = [k] by simp]
      have : w.testBit k = true := by rw [hm, Nat.testBit_two_pow_mul]; simp
      simp [this]
    have y2 : (List.map (fun x => k + x) (List.range 1)).filter (fun i => (2 ^ k * (2 * m)).testBit i) = [] := by
      rw [show List.map (fun x => k + x) (List.range 1) = [k] by simp]
      have : (2 ^ k * (2 * m)).testBit k = false := by rw [Nat.testBit_two_pow_mul]; simp
      simp [this]
    rw [y1, y2, List.nil_append, List.singleton_append]
    congr 1
    apply List.filter_congr
    intro i hi
    obtain ⟨j, hj, rfl⟩ := List.mem_map.1 hi
    obtain ⟨l, _, rfl⟩ := List.mem_map.1 hj
    rw [hm, Nat.testBit_two_pow_mul, Nat.testBit_two_pow_mul]
    simp only [show k ≤ k + (1 + l) by omega, decide_true, Bool.true_and]
    rw [show k + (1 + l) - k = l + 1 by omega, Nat.testBit_succ, Nat.testBit_succ, show (2 * m + 1) / 2 = m by omega, show 2 * m / 2 = m by omega]
  · rw [hand, hm, Nat.mul_add, Nat.mul_one]
    have hp : 0 < 2 ^ k := Nat.two_pow_pos k
    omega
-- how many
theorem and_digit (a b c d : Nat) (hb : b < 256) (hd : d < 256) : (256 * a + b) &&& (256 * c + d) = 256 * (a &&& c) + (b &&& d) := by
  have hbd : b &&& d < 256 := Nat.lt_of_le_of_lt Nat.and_le_left hb
  apply Nat.eq_of_testBit_eq
  intro i
  rw [Nat.testBit_and, show (256 : Nat) = 2 ^ 8 from rfl, Nat.testBit_two_pow_mul_add _ (by simpa using hb), Nat.testBit_two_pow_mul_add _ (by simpa using hd), Nat.testBit_two_pow_mul_add _ (by simpa using hbd)]
  by_cases h : i < 8
  · rw [if_pos h, if_pos h, if_pos h, Nat.testBit_and]
  · rw [if_neg h, if_neg h, if_neg h, Nat.testBit_and]
/-- n bytes of one kind. -/
def rep (m : Nat) : Nat → Nat
  | 0 => 0
  | n + 1 => 256 * rep m n + m
def s1 (n w : Nat) : Nat := (w / 2 &&& rep 85 n) + (w &&& rep 85 n)
def s2 (n w : Nat) : Nat := (s1 n w / 4 &&& rep 51 n) + (s1 n w &&& rep 51 n)
def s3 (n w : Nat) : Nat := (s2 n w / 16 + s2 n w) &&& rep 15 n
def f1 (b : Nat) : Nat := (b / 2 &&& 85) + (b &&& 85)
def f2 (b : Nat) : Nat := (b / 4 &&& 51) + (b &&& 51)
def cnt (n w : Nat) : Nat := ((List.range n).filter (fun i => w.testBit i)).length
theorem d1 : ∀ b, b < 256 → ∀ p, p < 2 → (128 * p + b / 2) &&& 85 = b / 2 &&& 85 := by decide +kernel
theorem d1' : ∀ b, b < 256 → f1 b < 256 := by decide +kernel
theorem d2 : ∀ b, b < 256 → ∀ p, p < 4 → (64 * p + b / 4) &&& 51 = b / 4 &&& 51 := by decide +kernel
theorem d2' : ∀ b, b < 256 → f2 (f1 b) < 69 ∧ f2 (f1 b) % 16 < 5 := by decide +kernel
theorem d3 : ∀ b, b < 256 → ∀ p, p < 5 → (16 * p + f2 (f1 b) / 16 + f2 (f1 b)) &&& 15 = cnt 8 b := by decide +kernel
theorem d4 : ∀ b, b < 256 → cnt 8 b < 9 := by decide +kernel
theorem s1_step (n y b : Nat) (hb : b < 256) : s1 (n + 1) (256 * y + b) = 256 * s1 n y + f1 b := by
  unfold s1 f1
  rw [show (256 * y + b) / 2 = 256 * (y / 2) + (128 * (y % 2) + b / 2) by omega]
  show ((256 * (y / 2) + (128 * (y % 2) + b / 2)) &&& (256 * rep 85 n + 85)) + ((256 * y + b) &&& (256 * rep 85 n + 85)) = _
  rw [and_digit _ _ _ _ (by omega) (by omega), and_digit _ _ _ _ hb (by omega), d1 b hb _ (Nat.mod_lt _ (by omega))]
  omega
theorem s2_step (n y b : Nat) (hb : b < 256) : s2 (n + 1) (256 * y + b) = 256 * s2 n y + f2 (f1 b) := by
  unfold s2 f2
  rw [s1_step n y b hb]
  have h1 := d1' b hb
  obtain ⟨Y, hY⟩ : ∃ Y, Y = s1 n y := ⟨_, rfl⟩
  obtain ⟨B, hB⟩ : ∃ B, B = f1 b := ⟨_, rfl⟩
  rw [← hB] at h1 ⊢
  rw [← hY]
  rw [show (256 * Y + B) / 4 = 256 * (Y / 4) + (64 * (Y % 4) + B / 4) by omega]
  show ((256 * (Y / 4) + (64 * (Y % 4) + B / 4)) &&& (256 * rep 51 n + 51)) + ((256 * Y + B) &&& (256 * rep 51 n + 51)) = _
  rw [and_digit _ _ _ _ (by omega) (by omega), and_digit _ _ _ _ h1 (by omega), d2 B h1 _ (Nat.mod_lt _ (by omega))]
  omega
theorem s2_low (n w : Nat) : s2 (n + 1) w % 16 < 5 := by
  have h := s2_step n (w / 256) (w % 256) (Nat.mod_lt _ (by omega))
  rw [show 256 * (w / 256) + w % 256 = w by omega] at h
  have := (d2' (w % 256) (Nat.mod_lt _ (by omega))).2
  rw [h]; omega
theorem s2_low' (n w : Nat) : s2 n w % 16 < 5 := by
  cases n with
  | zero => simp [s2, s1, rep]
  | succ n => exact s2_low n w
theorem s3_step (n y b : Nat) (hb : b < 256) : s3 (n + 1) (256 * y + b) = 256 * s3 n y + cnt 8 b := by
  unfold s3
  rw [s2_step n y b hb]
  have h1 := d2' b hb
  have h2 := s2_low' n y
  have h3 := d3 b hb
  obtain ⟨Y, hY⟩ : ∃ Y, Y = s2 n y := ⟨_, rfl⟩
  obtain ⟨B, hB⟩ : ∃ B, B = f2 (f1 b) := ⟨_, rfl⟩
  rw [← hY] at h2 ⊢
  rw [← hB] at h1 h3 ⊢
  rw [show (256 * Y + B) / 16 + (256 * Y + B) = 256 * (Y / 16 + Y) + (16 * (Y % 16) + B / 16 + B) by omega]
  show (256 * (Y / 16 + Y) + (16 * (Y % 16) + B / 16 + B)) &&& (256 * rep 15 n + 15) = _
  rw [and_digit _ _ _ _ (by omega) (by omega), h3 _ h2]
theorem cnt_step (n y b : Nat) (hb : b < 256) : cnt (8 + n) (256 * y + b) = cnt 8 b + cnt n y := by
  unfold cnt
  rw [range_plus, List.filter_append, List.length_append, List.filter_map, List.length_map]
  congr 1
  · congr 1
    apply List.filter_congr
    intro i hi
    have := List.mem_range.1 hi
    rw [show (256 : Nat) = 2 ^ 8 from rfl, Nat.testBit_two_pow_mul_add _ (by simpa using hb), if_pos this]
  · congr 1
    apply List.filter_congr
    intro i _
    rw [Function.comp_apply, show (256 : Nat) = 2 ^ 8 from rfl, Nat.testBit_two_pow_mul_add _ (by simpa using hb), if_neg (by omega), Nat.add_sub_cancel_left]
theorem fold8 (g0 g1 g2 g3 g4 g5 g6 g7 : Nat) (e0 : g0 < 9) (e1 : g1 < 9) (e2 : g2 < 9) (e3 : g3 < 9) (e4 : g4 < 9) (e5 : g5 < 9) (e6 : g6 < 9) (e7 : g7 < 9)
    (a b c : Nat) (ha : a = 256 * (256 * (256 * (256 * (256 * (256 * (256 * (256 * 0 + g7) + g6) + g5) + g4) + g3) + g2) + g1) + g0) (hb : b = a + a / 256) (hc : c = b + b / 65536) :
    (c + c / 4294967296) % 128 = g0 + (g1 + (g2 + (g3 + (g4 + (g5 + (g6 + (g7 + 0))))))) := by
  have h1 : a / 256 = 256 * (256 * (256 * (256 * (256 * (256 * g7 + g6) + g5) + g4) + g3) + g2) + g1 := by omega
  have h2 : b = 65536 * (65536 * (65536 * (256 * g7 + (g6 + g7)) + (256 * (g5 + g6) + (g4 + g5))) + (256 * (g3 + g4) + (g2 + g3))) + (256 * (g1 + g2) + (g0 + g1)) := by rw [hb, h1, ha]; omega
  have h3 : b / 65536 = 65536 * (65536 * (256 * g7 + (g6 + g7)) + (256 * (g5 + g6) + (g4 + g5))) + (256 * (g3 + g4) + (g2 + g3)) := by rw [h2]; clear ha h1 hb h2; omega
  have h4 : c = 4294967296 * (65536 * (256 * g7 + (g6 + g7)) + (256 * (g5 + g6 + g7) + (g4 + g5 + g6 + g7))) + (65536 * (256 * (g3 + g4 + g5 + g6) + (g2 + g3 + g4 + g5)) + (256 * (g1 + g2 + g3 + g4) + (g0 + g1 + g2 + g3))) := by rw [hc, h3, h2]; clear ha h1 hb h2 h3 hc; omega
  have h5 : c / 4294967296 = 65536 * (256 * g7 + (g6 + g7)) + (256 * (g5 + g6 + g7) + (g4 + g5 + g6 + g7)) := by rw [h4]; clear ha h1 hb h2 h3 hc h4; omega
  rw [h5, h4]
  clear ha h1 hb h2 h3 hc h4 h5
  omega
/-- What bits.OnesCount64 reckons. -/
def ones (w : Nat) : Nat :=
  let a := s3 8 w
  let b := a + a / 256
  let c := b + b / 65536
  (c + c / 4294967296) % 128
theorem digits (w : Nat) : w = 256 * (w / 256) + w % 256 := by omega
theorem ones_cnt (w : Nat) : ones w = (bits w).length := by
  have key : ∀ n y, s3 (n + 1) y = 256 * s3 n (y / 256) + cnt 8 (y % 256) ∧ cnt (8 + 8 * n) y = cnt 8 (y % 256) + cnt (8 * n) (y / 256) ∧ cnt 8 (y % 256) < 9 := fun n y => by
    have hb : y % 256 < 256 := Nat.mod_lt _ (by omega)
    have e := digits y
    refine ⟨?_, ?_, d4 _ hb⟩
    · have := s3_step n (y / 256) (y % 256) hb
      rwa [← e] at this
    · have := cnt_step (8 * n) (y / 256) (y % 256) hb
      rwa [← e] at this
  show ones w = cnt 64 w
  have c0 : ∀ y, cnt 0 y = 0 := fun _ => rfl
  have z0 : ∀ y, s3 0 y = 0 := fun y => by simp [s3, rep]
  obtain ⟨a7, b7, e7⟩ := key 7 w
  obtain ⟨a6, b6, e6⟩ := key 6 (w / 256)
  obtain ⟨a5, b5, e5⟩ := key 5 (w / 256 / 256)
  obtain ⟨a4, b4, e4⟩ := key 4 (w / 256 / 256 / 256)
  obtain ⟨a3, b3, e3⟩ := key 3 (w / 256 / 256 / 256 / 256)
  obtain ⟨a2, b2, e2⟩ := key 2 (w / 256 / 256 / 256 / 256 / 256)
  obtain ⟨a1, b1, e1⟩ := key 1 (w / 256 / 256 / 256 / 256 / 256 / 256)
  obtain ⟨a0, b0, e0⟩ := key 0 (w / 256 / 256 / 256 / 256 / 256 / 256 / 256)
  rw [z0] at a0
  rw [c0] at b0
  simp only [Nat.reduceAdd, Nat.reduceMul] at a7 a6 a5 a4 a3 a2 a1 a0 b7 b6 b5 b4 b3 b2 b1 b0
  rw [b0] at b1; rw [b1] at b2; rw [b2] at b3; rw [b3] at b4; rw [b4] at b5; rw [b5] at b6; rw [b6] at b7
  rw [a0] at a1; rw [a1] at a2; rw [a2] at a3; rw [a3] at a4; rw [a4] at a5; rw [a5] at a6; rw [a6] at a7
  rw [b7]
  unfold ones
  rw [a7]
  clear a7 a6 a5 a4 a3 a2 a1 a0 b7 b6 b5 b4 b3 b2 b1 b0 key c0 z0
  revert e7 e6 e5 e4 e3 e2 e1 e0
  generalize cnt 8 (w % 256) = g0
  generalize cnt 8 (w / 256 % 256) = g1
  generalize cnt 8 (w / 256 / 256 % 256) = g2
  generalize cnt 8 (w / 256 / 256 / 256 % 256) = g3
  generalize cnt 8 (w / 256 / 256 / 256 / 256 % 256) = g4
  generalize cnt 8 (w / 256 / 256 / 256 / 256 / 256 % 256) = g5
  generalize cnt 8 (w / 256 / 256 / 256 / 256 / 256 / 256 % 256) = g6
  generalize cnt 8 (w / 256 / 256 / 256 / 256 / 256 / 256 / 256 % 256) = g7
  intro e7 e6 e5 e4 e3 e2 e1 e0
  exact fold8 g0 g1 g2 g3 g4 g5 g6 g7 e7 e6 e5 e4 e3 e2 e1 e0 _ _ _ rfl rfl rfl


-- sets of clusters
/-- The clusters below T that are used, rising. -/
def lst (T : Nat) (u : Nat → Bool) : List Nat := (List.range T).filter u
def mark (T : Nat) (u : Nat → Bool) (n : Nat) : Nat → Bool := fun k => u k || decide (k = n ∧ n < T)
def clear (u : Nat → Bool) (n : Nat) : Nat → Bool := fun k => u k && decide (k ≠ n)
def merr (T : Nat) (u : Nat → Bool) (n : Nat) : Nat := if T ≤ n then 43 else if u n = true then 23 else 0
def cerr (T : Nat) (u : Nat → Bool) (n : Nat) : Nat := if T ≤ n then 43 else if u n = true then 0 else 22
/-- n is the lowest that is not used. -/
def Low (u : Nat → Bool) (n : Nat) : Prop := u n = false ∧ ∀ j, j < n → u j = true
theorem Low.one {u : Nat → Bool} {n m : Nat} (h : Low u n) (k : Low u m) : n = m := by
  rcases Nat.lt_trichotomy n m with q | q | q
  · have := k.2 n q; rw [h.1] at this; cases this
  · exact q
  · have := h.2 m q; rw [k.1] at this; cases this
/-- These words are the set of T clusters of which u are used. -/
structure Rep (ws : List Nat) (T : Nat) (u : Nat → Bool) : Prop where
  most : T ≤ 65536
  len : ws.length = (T + 63) / 64
  word : ∀ j, ws.getD j 0 < 18446744073709551616
  bit : ∀ n, has ws n = u n
  out : ∀ n, T ≤ n → u n = false
theorem lst_len (T : Nat) (u : Nat → Bool) : (lst T u).length ≤ T := by
  have := List.length_filter_le u (List.range T)
  rw [List.length_range] at this
  exact this
theorem lst_more (T d : Nat) (u : Nat → Bool) (h : ∀ n, T ≤ n → u n = false) : lst (T + d) u = lst T u := by
  unfold lst
  rw [range_plus, List.filter_append]
  have : (List.map (fun x => T + x) (List.range d)).filter u = [] := by
    rw [List.filter_eq_nil_iff]
    intro a ha
    obtain ⟨j, _, rfl⟩ := List.mem_map.1 ha
    rw [h _ (by omega)]; simp
  rw [this, List.append_nil]
theorem Rep.list {ws : List Nat} {T : Nat} {u : Nat → Bool} (h : Rep ws T u) : upto ws ws.length = lst T u := by
  have e : has ws = u := funext h.bit
  unfold upto
  rw [e, h.len, show 64 * ((T + 63) / 64) = T + (64 * ((T + 63) / 64) - T) by omega]
  exact lst_more T _ u h.out
theorem Rep.low {ws : List Nat} {T : Nat} {u : Nat → Bool} (h : Rep ws T u) {n : Nat} (hl : Low u n) : n ≤ T := by
  apply Nat.le_of_not_lt
  intro hlt
  have := hl.2 T hlt
  rw [h.out T (Nat.le_refl _)] at this
  cases this
theorem getD_replicate (m j : Nat) : (List.replicate m 0).getD j 0 = 0 := by
  rw [List.getD_eq_getElem?_getD, List.getElem?_replicate]
  by_cases q : j < m
  · rw [if_pos q]; rfl
  · rw [if_neg q]; rfl
theorem rep_new (T : Nat) (hT : T ≤ 65536) : Rep (List.replicate ((T + 63) / 64) 0) T (fun _ => false) := by
  refine ⟨hT, by simp, fun j => ?_, fun n => ?_, fun _ _ => rfl⟩
  · rw [getD_replicate]; omega
  · unfold has; rw [getD_replicate]; simp
theorem getD_set (ws : List Nat) (i j x : Nat) : (ws.set i x).getD j 0 = if i = j ∧ i < ws.length then x else ws.getD j 0 := by
  rw [List.getD_eq_getElem?_getD, List.getD_eq_getElem?_getD, List.getElem?_set]
  by_cases h : i = j
  · subst h
    by_cases h2 : i < ws.length
    · simp [h2]
    · simp [h2]
  · simp [h]
theorem bit_lt (i : Nat) (h : i < 64) : 2 ^ i < 18446744073709551616 := by
  have : 2 ^ i < 2 ^ 64 := Nat.pow_lt_pow_right (by omega) h
  simpa using this
theorem Rep.at_ {ws : List Nat} {T : Nat} {u : Nat → Bool} (h : Rep ws T u) (n : Nat) (hn : n < T) : n / 64 < ws.length := by rw [h.len]; omega
theorem Rep.mark {ws : List Nat} {T : Nat} {u : Nat → Bool} (h : Rep ws T u) (n : Nat) (hn : n < T) : Rep (ws.set (n / 64) (ws.getD (n / 64) 0 ||| 2 ^ (n % 64))) T (AL.mark T u n) := by
  have hl := h.at_ n hn
  refine ⟨h.most, by rw [List.length_set]; exact h.len, fun j => ?_, fun k => ?_, fun k hk => ?_⟩
  · rw [getD_set]
    split
    · exact Nat.or_lt_two_pow (n := 64) (h.word _) (bit_lt _ (Nat.mod_lt _ (by omega)))
    · exact h.word j
  · unfold has AL.mark
    rw [getD_set, ← h.bit k]
    unfold has
    by_cases hq : n / 64 = k / 64
    · rw [if_pos ⟨hq, hl⟩, Nat.testBit_or, Nat.testBit_two_pow, ← hq]
      congr 1
      by_cases he : k = n
      · subst he; simp [hn]
      · have : ¬ n % 64 = k % 64 := by omega
        simp [this, he]
    · rw [if_neg (fun q => hq q.1)]
      have he : ¬ k = n := fun e => hq (by rw [e])
      simp [he]
  · unfold AL.mark
    rw [h.out k hk]
    have he : ¬ k = n := by omega
    simp [he]
theorem Rep.clear {ws : List Nat} {T : Nat} {u : Nat → Bool} (h : Rep ws T u) (n x : Nat) (hn : n < T) (hx : x < 18446744073709551616) (hb : ∀ i, x.testBit i = ((ws.getD (n / 64) 0).testBit i && decide (i ≠ n % 64))) : Rep (ws.set (n / 64) x) T (AL.clear u n) := by
  have hl := h.at_ n hn
  refine ⟨h.most, by rw [List.length_set]; exact h.len, fun j => ?_, fun k => ?_, fun k hk => ?_⟩
  · rw [getD_set]
    split
    · exact hx
    · exact h.word j
  · unfold has AL.clear
    rw [getD_set, ← h.bit k]
    unfold has
    by_cases hq : n / 64 = k / 64
    · rw [if_pos ⟨hq, hl⟩, hb, ← hq]
      congr 1
      apply decide_eq_decide.2
      omega
    · rw [if_neg (fun q => hq q.1)]
      have he : ¬ k = n := fun e => hq (by rw [e])
      simp [he]
  · unfold AL.clear
    rw [h.out k hk]; rfl
/-- The place of n in a rising list. -/
def Spot (L : List Nat) (n i : Nat) : Prop := i ≤ L.length ∧ (∀ j, j < i → L.getD j 0 < n) ∧ (i < L.length → n ≤ L.getD i 0)
theorem lst_cut (T : Nat) (u : Nat → Bool) (n : Nat) (hn : n ≤ T) : lst T u = lst n u ++ ((List.range (T - n)).map (n + ·)).filter u := by
  unfold lst
  rw [← List.filter_append, ← range_plus, show n + (T - n) = T by omega]
theorem lst_mem {T : Nat} {u : Nat → Bool} {x : Nat} (h : x ∈ lst T u) : x < T ∧ u x = true := by
  unfold lst at h
  have := List.mem_filter.1 h
  exact ⟨List.mem_range.1 this.1, this.2⟩
theorem getD_mem (L : List Nat) (j : Nat) (h : j < L.length) : L.getD j 0 ∈ L := by
  rw [List.getD_eq_getElem?_getD, List.getElem?_eq_getElem h]
  exact List.getElem_mem _
theorem getD_left (A B : List Nat) (j : Nat) (h : j < A.length) : (A ++ B).getD j 0 = A.getD j 0 := by
  rw [List.getD_eq_getElem?_getD, List.getD_eq_getElem?_getD, List.getElem?_append_left h]
theorem getD_right (A B : List Nat) (j : Nat) (h : A.length ≤ j) : (A ++ B).getD j 0 = B.getD (j - A.length) 0 := by
  rw [List.getD_eq_getElem?_getD, List.getD_eq_getElem?_getD, List.getElem?_append_right h]
theorem spot_in (T : Nat) (u : Nat → Bool) (n i : Nat) (hn : n ≤ T) (h : Spot (lst T u) n i) : i = (lst n u).length := by
  have hc := lst_cut T u n hn
  obtain ⟨R, hR⟩ : ∃ R, R = ((List.range (T - n)).map (n + ·)).filter u := ⟨_, rfl⟩
  rw [← hR] at hc
  have hlen : (lst T u).length = (lst n u).length + R.length := by rw [hc, List.length_append]
  rcases Nat.lt_trichotomy i (lst n u).length with q | q | q
  · have h1 := h.2.2 (by omega)
    rw [hc, getD_left _ _ _ q] at h1
    have := (lst_mem (getD_mem _ _ q)).1
    omega
  · exact q
  · have h1 := h.2.1 _ q
    rw [hc, getD_right _ _ _ (Nat.le_refl _), Nat.sub_self] at h1
    have hr : 0 < R.length := by have := h.1; omega
    have := getD_mem R 0 hr
    rw [hR] at this
    obtain ⟨m, _, hm⟩ := List.mem_map.1 (List.mem_filter.1 this).1
    rw [← hR] at hm
    omega
theorem spot_out (T : Nat) (u : Nat → Bool) (n i : Nat) (hn : T ≤ n) (h : Spot (lst T u) n i) : i = (lst T u).length := by
  rcases Nat.lt_or_ge i (lst T u).length with q | q
  · have h1 := h.2.2 q
    have := (lst_mem (getD_mem _ _ q)).1
    omega
  · exact Nat.le_antisymm h.1 q
/-- What stands behind n. -/
theorem cut_next (T : Nat) (u : Nat → Bool) (n : Nat) (hn : n < T) : ((List.range (T - n)).map (n + ·)).filter u = (if u n = true then [n] else []) ++ ((List.range (T - (n + 1))).map ((n + 1) + ·)).filter u := by
  rw [show T - n = 1 + (T - (n + 1)) by omega, range_plus, List.map_append, List.filter_append]
  congr 1
  · have : List.map (fun x => n + x) (List.range 1) = [n] := by simp
    rw [this]
    by_cases h : u n = true
    · simp [h]
    · simp [h]
  · rw [List.map_map]
    congr 2
    funext x
    simp only [Function.comp_apply]
    omega
theorem spot_take (T : Nat) (u : Nat → Bool) (n i : Nat) (hn : n < T) (h : Spot (lst T u) n i) : (lst T u).take i = lst n u ∧ (lst T u).drop i = (if u n = true then [n] else []) ++ ((List.range (T - (n + 1))).map ((n + 1) + ·)).filter u := by
  have e := spot_in T u n i (by omega) h
  rw [lst_cut T u n (by omega), e, cut_next T u n hn]
  exact ⟨by simp, by simp⟩
theorem spot_is (T : Nat) (u : Nat → Bool) (n i : Nat) (hn : n < T) (h : Spot (lst T u) n i) : (i < (lst T u).length ∧ (lst T u).getD i 0 = n) ↔ u n = true := by
  have e := spot_in T u n i (by omega) h
  obtain ⟨R, hR⟩ : ∃ R, R = ((List.range (T - (n + 1))).map ((n + 1) + ·)).filter u := ⟨_, rfl⟩
  have hc : lst T u = lst n u ++ ((if u n = true then [n] else []) ++ R) := by rw [hR, ← cut_next T u n hn]; exact lst_cut T u n (by omega)
  constructor
  · rintro ⟨h1, h2⟩
    have := (lst_mem (getD_mem _ _ h1)).2
    rwa [h2] at this
  · intro hu
    rw [if_pos hu] at hc
    rw [hc, e]
    refine ⟨by simp, ?_⟩
    rw [getD_right _ _ _ (Nat.le_refl _), Nat.sub_self]
    rfl
theorem mark_same (T : Nat) (u : Nat → Bool) (n : Nat) (h : T ≤ n ∨ u n = true) : mark T u n = u := by
  funext k
  unfold mark
  rcases h with q | q
  · simp [show ¬ n < T by omega]
  · by_cases e : k = n
    · subst e; simp [q]
    · simp [e]
theorem clear_same (u : Nat → Bool) (n : Nat) (h : u n = false) : clear u n = u := by
  funext k
  unfold clear
  by_cases e : k = n
  · subst e; simp [h]
  · simp [e]
theorem filter_off (T n a : Nat) (u v : Nat → Bool) (h : ∀ k, k ≠ n → u k = v k) (ha : n < a) : ((List.range T).map (a + ·)).filter u = ((List.range T).map (a + ·)).filter v := by
  apply List.filter_congr
  intro k hk
  obtain ⟨j, _, rfl⟩ := List.mem_map.1 hk
  exact h _ (by omega)
theorem lst_off (n : Nat) (u v : Nat → Bool) (h : ∀ k, k ≠ n → u k = v k) : lst n u = lst n v := by
  apply List.filter_congr
  intro k hk
  have := List.mem_range.1 hk
  exact h _ (by omega)
theorem lst_mark (T : Nat) (u : Nat → Bool) (n i : Nat) (hn : n < T) (hu : u n = false) (h : Spot (lst T u) n i) : lst T (mark T u n) = (lst T u).take i ++ [n] ++ (lst T u).drop i := by
  obtain ⟨h1, h2⟩ := spot_take T u n i hn h
  have hoff : ∀ k, k ≠ n → mark T u n k = u k := fun k hk => by unfold mark; simp [hk]
  rw [h1, h2, hu, lst_cut T _ n (by omega), cut_next T _ n hn, filter_off _ n _ _ u hoff (by omega), lst_off n _ u hoff]
  have : mark T u n n = true := by unfold mark; simp [hn]
  rw [if_pos this]
  simp
theorem lst_clear (T : Nat) (u : Nat → Bool) (n i : Nat) (hn : n < T) (hu : u n = true) (h : Spot (lst T u) n i) : lst T (clear u n) = (lst T u).take i ++ (lst T u).drop (i + 1) := by
  obtain ⟨h1, h2⟩ := spot_take T u n i hn h
  have hoff : ∀ k, k ≠ n → clear u n k = u k := fun k hk => by unfold clear; simp [hk]
  rw [h1, ← List.drop_drop, h2, lst_cut T _ n (by omega), cut_next T _ n hn, filter_off _ n _ _ u hoff (by omega), lst_off n _ u hoff]
  have : clear u n n = false := by unfold clear; simp
  rw [this, hu]
  simp
/-- As far as n all are used. -/
theorem full_lst (n : Nat) (u : Nat → Bool) (h : ∀ j, j < n → u j = true) : lst n u = List.range n := by
  unfold lst
  rw [List.filter_eq_self]
  intro k hk
  exact h k (List.mem_range.1 hk)
theorem low_at (T : Nat) (u : Nat → Bool) (n : Nat) (hn : n < T) (h : ∀ j, j < n → u j = true) : (n < (lst T u).length ∧ (lst T u).getD n 0 = n) ↔ u n = true := by
  have hc : lst T u = List.range n ++ ((if u n = true then [n] else []) ++ ((List.range (T - (n + 1))).map ((n + 1) + ·)).filter u) := by rw [← full_lst n u h, ← cut_next T u n hn]; exact lst_cut T u n (by omega)
  constructor
  · rintro ⟨h1, h2⟩
    have := (lst_mem (getD_mem _ _ h1)).2
    rwa [h2] at this
  · intro hu
    rw [if_pos hu] at hc
    rw [hc]
    refine ⟨by simp, ?_⟩
    rw [getD_right _ _ _ (by simp), List.length_range, Nat.sub_self]
    rfl
theorem lst_none (T : Nat) : lst T (fun _ => false) = [] := by unfold lst; simp
theorem ctz_low (w : Nat) (h0 : w ≠ 0) (h1 : w < 18446744073709551616) : w.testBit (Lib.ctz 64 w) = true ∧ Lib.ctz 64 w < 64 ∧ ∀ i, i < Lib.ctz 64 w → w.testBit i = false := by
  unfold Lib.ctz
  rw [if_neg h0]
  obtain ⟨m, hm, hk⟩ := Lib.ctzFrom_spec 64 w (by omega) (by simpa using h1)
  obtain ⟨k, hK⟩ : ∃ k, k = Lib.ctzFrom 64 w := ⟨_, rfl⟩
  rw [← hK] at hm hk ⊢
  refine ⟨by rw [hm, Nat.testBit_two_pow_mul]; simp, hk, fun i hi => ?_⟩
  rw [hm, Nat.testBit_two_pow_mul]
  simp [show ¬ k ≤ i by omega]
theorem not_bit (x i : Nat) (hx : x < 18446744073709551616) (hi : i < 64) : (18446744073709551615 - x).testBit i = !x.testBit i := by
  have e : 18446744073709551615 - x = 2 ^ 64 - (x + 1) := by omega
  rw [e, Nat.testBit_two_pow_sub_succ (by simpa using hx)]
  simp [hi]
theorem Rep.split {ws : List Nat} {T : Nat} {u : Nat → Bool} (h : Rep ws T u) (k i : Nat) (hi : i < 64) : u (64 * k + i) = (ws.getD k 0).testBit i := by
  rw [← h.bit]
  unfold has
  rw [show (64 * k + i) / 64 = k by omega, show (64 * k + i) % 64 = i by omega]
theorem low_here {ws : List Nat} {T : Nat} {u : Nat → Bool} (h : Rep ws T u) (k : Nat) (hf : ∀ n, n < 64 * k → u n = true) (h0 : 18446744073709551615 - ws.getD k 0 ≠ 0) : Low u (64 * k + Lib.ctz 64 (18446744073709551615 - ws.getD k 0)) ∧ Lib.ctz 64 (18446744073709551615 - ws.getD k 0) < 64 := by
  obtain ⟨h1, h2, h3⟩ := ctz_low (18446744073709551615 - ws.getD k 0) h0 (by omega)
  have hw := h.word k
  refine ⟨⟨?_, fun j hj => ?_⟩, h2⟩
  · rw [h.split k _ h2]
    rw [not_bit _ _ hw h2] at h1
    simpa using h1
  · by_cases q : j < 64 * k
    · exact hf j q
    · have e := h.split k (j - 64 * k) (by omega)
      rw [show 64 * k + (j - 64 * k) = j by omega] at e
      have := h3 (j - 64 * k) (by omega)
      rw [not_bit _ _ hw (by omega)] at this
      rw [e]
      simpa using this
theorem low_next {ws : List Nat} {T : Nat} {u : Nat → Bool} (h : Rep ws T u) (k : Nat) (hf : ∀ n, n < 64 * k → u n = true) (h0 : 18446744073709551615 - ws.getD k 0 = 0) : ∀ n, n < 64 * (k + 1) → u n = true := by
  intro n hn
  by_cases q : n < 64 * k
  · exact hf n q
  · have hw := h.word k
    have e := h.split k (n - 64 * k) (by omega)
    rw [show 64 * k + (n - 64 * k) = n by omega] at e
    have := not_bit (ws.getD k 0) (n - 64 * k) hw (by omega)
    rw [h0] at this
    rw [e]
    simpa using this.symm
theorem low_end {ws : List Nat} {T : Nat} {u : Nat → Bool} (h : Rep ws T u) (hf : ∀ n, n < 64 * ws.length → u n = true) : Low u (64 * ws.length) := by
  refine ⟨h.out _ ?_, hf⟩
  have := h.len
  omega
theorem upto_len (ws : List Nat) (k : Nat) : (upto ws k).length ≤ 64 * k := by
  have := List.length_filter_le (has ws) (List.range (64 * k))
  rw [List.length_range] at this
  exact this
theorem ones_upto (ws : List Nat) (k : Nat) : (upto ws (k + 1)).length = (upto ws k).length + ones (ws.getD k 0) := by
  rw [upto_succ, List.length_append, List.length_map, ones_cnt]
theorem lst_rise (T : Nat) (u : Nat → Bool) (i j : Nat) (hij : i < j) (hj : j < (lst T u).length) : (lst T u).getD i 0 < (lst T u).getD j 0 := by
  have hp : (lst T u).Pairwise (· < ·) := List.Pairwise.filter _ List.pairwise_lt_range
  rw [List.getD_eq_getElem?_getD, List.getD_eq_getElem?_getD, List.getElem?_eq_getElem hj, List.getElem?_eq_getElem (by omega)]
  exact List.pairwise_iff_getElem.1 hp i j (by omega) hj hij
theorem mark_more (T : Nat) (u : Nat → Bool) (m : Nat) (hm : m < T) (hu : u m = false) : (lst T (mark T u m)).length = (lst T u).length + 1 := by
  have hoff : ∀ k, k ≠ m → mark T u m k = u k := fun k hk => by unfold mark; simp [hk]
  have hmm : mark T u m m = true := by unfold mark; simp [hm]
  rw [lst_cut T u m (by omega), cut_next T u m hm, lst_cut T (mark T u m) m (by omega), cut_next T (mark T u m) m hm, filter_off _ m _ _ u hoff (by omega), lst_off m _ u hoff, hu, hmm]
  simp
  omega
end AL
end Go.Proofs.YtlckhlcccifbfaaDoor
