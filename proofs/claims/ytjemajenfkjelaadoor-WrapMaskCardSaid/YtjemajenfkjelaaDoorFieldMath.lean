/- The field of 256 numbers, on natural numbers: products, inverses and powers. Own work; nothing of the program is named here. -/
namespace Go.Proofs.YtjemajenfkjelaaDoor
namespace FM
def bt (b i : Nat) : Nat := b / 2 ^ i % 2
def xt (a : Nat) : Nat := (2 * a % 256) ^^^ (bt a 7 * 27)
def xtn (a : Nat) : Nat → Nat
  | 0 => a
  | n + 1 => xt (xtn a n)
def mulTo (a b : Nat) : Nat → Nat
  | 0 => 0
  | n + 1 => mulTo a b n ^^^ (bt b n * xtn a n)
def mul (a b : Nat) : Nat := mulTo a b 8

theorem bt_xor (b c i : Nat) : bt (b ^^^ c) i = (bt b i + bt c i) % 2 := by
  have e : (b / 2 ^ i ^^^ c / 2 ^ i) % 2 = (b / 2 ^ i) % 2 ^^^ (c / 2 ^ i) % 2 := Nat.xor_mod_two_pow (n := 1)
  unfold bt; rw [Nat.xor_div_two_pow, e]
  rcases Nat.mod_two_eq_zero_or_one (b / 2 ^ i) with h | h <;> rcases Nat.mod_two_eq_zero_or_one (c / 2 ^ i) with k | k <;> rw [h, k] <;> rfl
theorem bt_01 (b i : Nat) : bt b i = 0 ∨ bt b i = 1 := by unfold bt; omega
theorem bmul_xor (x y v : Nat) (hx : x = 0 ∨ x = 1) (hy : y = 0 ∨ y = 1) : (x + y) % 2 * v = x * v ^^^ y * v := by
  rcases hx with rfl | rfl <;> rcases hy with rfl | rfl <;> simp
theorem mul_xor (x v u : Nat) (hx : x = 0 ∨ x = 1) : x * (v ^^^ u) = x * v ^^^ x * u := by
  rcases hx with rfl | rfl <;> simp
theorem xt_xor (a b : Nat) : xt (a ^^^ b) = xt a ^^^ xt b := by
  unfold xt
  rw [bt_xor, bmul_xor _ _ _ (bt_01 _ _) (bt_01 _ _)]
  have h : 2 * (a ^^^ b) % 256 = (2 * a % 256) ^^^ (2 * b % 256) := by
    have h1 : 2 * (a ^^^ b) = 2 * a ^^^ 2 * b := by
      have := Nat.shiftLeft_xor_distrib (a := a) (b := b) (i := 1)
      simp [Nat.shiftLeft_eq] at this
      rw [Nat.mul_comm, this, Nat.mul_comm a, Nat.mul_comm b]
    rw [h1]; exact Nat.xor_mod_two_pow (n := 8)
  rw [h]; ac_rfl
theorem xtn_xor (a b n : Nat) : xtn (a ^^^ b) n = xtn a n ^^^ xtn b n := by
  induction n with
  | zero => rfl
  | succ n ih => simp only [xtn, ih, xt_xor]
theorem mulTo_xor_left (a b c n : Nat) : mulTo (a ^^^ b) c n = mulTo a c n ^^^ mulTo b c n := by
  induction n with
  | zero => simp [mulTo]
  | succ n ih => simp only [mulTo, ih, xtn_xor, mul_xor _ _ _ (bt_01 c n)]; ac_rfl
theorem mulTo_xor_right (a b c n : Nat) : mulTo a (b ^^^ c) n = mulTo a b n ^^^ mulTo a c n := by
  induction n with
  | zero => simp [mulTo]
  | succ n ih => simp only [mulTo, ih, bt_xor, bmul_xor _ _ _ (bt_01 b n) (bt_01 c n)]; ac_rfl
theorem mul_xor_left (a b c : Nat) : mul (a ^^^ b) c = mul a c ^^^ mul b c := mulTo_xor_left a b c 8
theorem mul_xor_right (a b c : Nat) : mul a (b ^^^ c) = mul a b ^^^ mul a c := mulTo_xor_right a b c 8

theorem lt_of_xor {a b : Nat} (h : a < 256) (k : b < 256) : a ^^^ b < 256 := Nat.xor_lt_two_pow (n := 8) h k
theorem xt_lt (a : Nat) : xt a < 256 := by
  unfold xt; exact lt_of_xor (by omega) (by rcases bt_01 a 7 with h | h <;> rw [h] <;> omega)
theorem xtn_lt (a n : Nat) (h : a < 256) : xtn a n < 256 := by
  cases n with
  | zero => exact h
  | succ n => exact xt_lt _
theorem mulTo_lt (a b n : Nat) (h : a < 256) : mulTo a b n < 256 := by
  induction n with
  | zero => show 0 < 256; omega
  | succ n ih => exact lt_of_xor ih (by have := xtn_lt a n h; rcases bt_01 b n with k | k <;> rw [k] <;> omega)
theorem mul_lt (a b : Nat) (h : a < 256) : mul a b < 256 := mulTo_lt a b 8 h

/- A function that goes through sums is known by what it makes of the eight bits. -/
def span (f : Nat → Nat) (a : Nat) : Nat → Nat
  | 0 => 0
  | n + 1 => span f a n ^^^ (bt a n * f (2 ^ n))
theorem low_succ (a n : Nat) : a % 2 ^ (n + 1) = a % 2 ^ n ^^^ (bt a n * 2 ^ n) := by
  have e : a % 2 ^ (n + 1) = a % 2 ^ n + bt a n * 2 ^ n := by
    unfold bt; rw [Nat.pow_succ, Nat.mod_mul]; rw [Nat.mul_comm (2 ^ n)]
  rw [e]
  rcases bt_01 a n with h | h
  · rw [h]; simp
  · rw [h, Nat.one_mul]
    apply Nat.eq_of_testBit_eq; intro i
    rw [Nat.testBit_xor, Nat.add_comm, Nat.testBit_two_pow]
    by_cases hi : n = i
    · subst hi; rw [Nat.testBit_two_pow_add_eq]; simp
    · have hl : a % 2 ^ n < 2 ^ n := Nat.mod_lt _ (Nat.two_pow_pos n)
      rcases Nat.lt_or_gt_of_ne hi with k | k
      · have k1 : a % 2 ^ n < 2 ^ i := Nat.lt_trans hl (Nat.pow_lt_pow_right (by omega) k)
        have k2 : 2 ^ n + a % 2 ^ n < 2 ^ i := by
          have : 2 ^ (n + 1) ≤ 2 ^ i := Nat.pow_le_pow_right (by omega) k
          rw [Nat.pow_succ] at this; omega
        rw [Nat.testBit_lt_two_pow k1, Nat.testBit_lt_two_pow k2]; simp [hi]
      · rw [Nat.testBit_two_pow_add_gt k]; simp [hi]
theorem span_of (f : Nat → Nat) (h0 : f 0 = 0) (hx : ∀ a b, f (a ^^^ b) = f a ^^^ f b) (a n : Nat) : f (a % 2 ^ n) = span f a n := by
  induction n with
  | zero => rw [Nat.pow_zero, Nat.mod_one]; exact h0
  | succ n ih => rw [low_succ, hx, ih]; show _ = span f a n ^^^ _; rcases bt_01 a n with h | h <;> rw [h] <;> simp [h0]
theorem span_congr (f g : Nat → Nat) (a n : Nat) (h : ∀ i, i < n → f (2 ^ i) = g (2 ^ i)) : span f a n = span g a n := by
  induction n with
  | zero => rfl
  | succ n ih => simp only [span]; rw [ih fun i hi => h i (by omega), h n (by omega)]
theorem lin_ext (f g : Nat → Nat) (hf0 : f 0 = 0) (hg0 : g 0 = 0) (hf : ∀ a b, f (a ^^^ b) = f a ^^^ f b) (hg : ∀ a b, g (a ^^^ b) = g a ^^^ g b)
    (h : ∀ i, i < 8 → f (2 ^ i) = g (2 ^ i)) (a : Nat) (ha : a < 256) : f a = g a := by
  have e : a = a % 2 ^ 8 := (Nat.mod_eq_of_lt ha).symm
  rw [e, span_of f hf0 hf, span_of g hg0 hg]; exact span_congr f g a 8 h

theorem mul_zero_left (b : Nat) : mul 0 b = 0 := by
  have h := mul_xor_left 0 0 b; simp at h; exact h
theorem mul_zero_right (a : Nat) : mul a 0 = 0 := by
  have h := mul_xor_right a 0 0; simp at h; exact h
theorem mul_comm (a b : Nat) (ha : a < 256) (hb : b < 256) : mul a b = mul b a := by
  refine lin_ext (fun a => mul a b) (fun a => mul b a) (mul_zero_left b) (mul_zero_right b) (fun x y => mul_xor_left x y b) (fun x y => mul_xor_right b x y) (fun i hi => ?_) a ha
  refine lin_ext (fun b => mul (2 ^ i) b) (fun b => mul b (2 ^ i)) (mul_zero_right _) (mul_zero_left _) (fun x y => mul_xor_right _ x y) (fun x y => mul_xor_left x y _) (fun j hj => ?_) b hb
  have k : ((List.range 8).all fun i => (List.range 8).all fun j => mul (2 ^ i) (2 ^ j) == mul (2 ^ j) (2 ^ i)) = true := by decide +kernel
  simp only [List.all_eq_true, List.mem_range, beq_iff_eq] at k
  exact k i hi j hj
theorem mul_assoc (a b c : Nat) (ha : a < 256) (hb : b < 256) (hc : c < 256) : mul a (mul b c) = mul (mul a b) c := by
  refine lin_ext (fun a => mul a (mul b c)) (fun a => mul (mul a b) c) (mul_zero_left _) (by simp only [mul_zero_left]) (fun x y => mul_xor_left x y _) (fun x y => by simp only [mul_xor_left]) (fun i hi => ?_) a ha
  refine lin_ext (fun b => mul (2 ^ i) (mul b c)) (fun b => mul (mul (2 ^ i) b) c) (by simp only [mul_zero_left, mul_zero_right]) (by simp only [mul_zero_left, mul_zero_right]) (fun x y => by simp only [mul_xor_left, mul_xor_right]) (fun x y => by simp only [mul_xor_left, mul_xor_right]) (fun j hj => ?_) b hb
  refine lin_ext (fun c => mul (2 ^ i) (mul (2 ^ j) c)) (fun c => mul (mul (2 ^ i) (2 ^ j)) c) (by simp only [mul_zero_right]) (by simp only [mul_zero_right]) (fun x y => by simp only [mul_xor_right]) (fun x y => by simp only [mul_xor_right]) (fun l hl => ?_) c hc
  have k : ((List.range 8).all fun i => (List.range 8).all fun j => (List.range 8).all fun l => mul (2 ^ i) (mul (2 ^ j) (2 ^ l)) == mul (mul (2 ^ i) (2 ^ j)) (2 ^ l)) = true := by decide +kernel
  simp only [List.all_eq_true, List.mem_range, beq_iff_eq] at k
  exact k i hi j hj l hl
theorem mul_one (a : Nat) (ha : a < 256) : mul a 1 = a := by
  refine lin_ext (fun a => mul a 1) (fun a => a) (mul_zero_left _) rfl (fun x y => mul_xor_left x y _) (fun x y => rfl) (fun i hi => ?_) a ha
  have k : ((List.range 8).all fun i => mul (2 ^ i) 1 == 2 ^ i) = true := by decide +kernel
  simp only [List.all_eq_true, List.mem_range, beq_iff_eq] at k
  exact k i hi

/- The document's product: the polynomials' product, and what is left of it. -/
def clTo (a b : Nat) : Nat → Nat
  | 0 => 0
  | n + 1 => clTo a b n ^^^ (bt b n * (a * 2 ^ n))
def red (m : Nat) : Nat → Nat
  | 0 => m
  | k + 1 => red m k ^^^ (bt (red m k) (14 - k) * (283 * 2 ^ (6 - k)))
def rmul (a b : Nat) : Nat := red (clTo a b 8) 7 % 256
theorem red_xor (m n k : Nat) : red (m ^^^ n) k = red m k ^^^ red n k := by
  induction k with
  | zero => rfl
  | succ k ih => simp only [red, ih, bt_xor, bmul_xor _ _ _ (bt_01 _ _) (bt_01 _ _)]; ac_rfl
theorem shl_xor (a b n : Nat) : (a ^^^ b) * 2 ^ n = a * 2 ^ n ^^^ b * 2 ^ n := by
  have := Nat.shiftLeft_xor_distrib (a := a) (b := b) (i := n)
  simpa [Nat.shiftLeft_eq] using this
theorem clTo_xor_left (a b c n : Nat) : clTo (a ^^^ b) c n = clTo a c n ^^^ clTo b c n := by
  induction n with
  | zero => simp [clTo]
  | succ n ih => simp only [clTo, ih, shl_xor, mul_xor _ _ _ (bt_01 c n)]; ac_rfl
theorem clTo_xor_right (a b c n : Nat) : clTo a (b ^^^ c) n = clTo a b n ^^^ clTo a c n := by
  induction n with
  | zero => simp [clTo]
  | succ n ih => simp only [clTo, ih, bt_xor, bmul_xor _ _ _ (bt_01 b n) (bt_01 c n)]; ac_rfl
theorem xor_256 (x y : Nat) : (x ^^^ y) % 256 = x % 256 ^^^ y % 256 := Nat.xor_mod_two_pow (n := 8)
theorem rmul_xor_left (a b c : Nat) : rmul (a ^^^ b) c = rmul a c ^^^ rmul b c := by
  unfold rmul; rw [clTo_xor_left, red_xor, xor_256]
theorem rmul_xor_right (a b c : Nat) : rmul a (b ^^^ c) = rmul a b ^^^ rmul a c := by
  unfold rmul; rw [clTo_xor_right, red_xor, xor_256]
theorem rmul_zero_left (b : Nat) : rmul 0 b = 0 := by
  have h := rmul_xor_left 0 0 b; simp at h; exact h
theorem rmul_zero_right (a : Nat) : rmul a 0 = 0 := by
  have h := rmul_xor_right a 0 0; simp at h; exact h
theorem mul_rmul (a b : Nat) (ha : a < 256) (hb : b < 256) : rmul a b = mul a b := by
  refine lin_ext (fun a => rmul a b) (fun a => mul a b) (rmul_zero_left b) (mul_zero_left b) (fun x y => rmul_xor_left x y b) (fun x y => mul_xor_left x y b) (fun i hi => ?_) a ha
  refine lin_ext (fun b => rmul (2 ^ i) b) (fun b => mul (2 ^ i) b) (rmul_zero_right _) (mul_zero_right _) (fun x y => rmul_xor_right _ x y) (fun x y => mul_xor_right _ x y) (fun j hj => ?_) b hb
  have k : ((List.range 8).all fun i => (List.range 8).all fun j => rmul (2 ^ i) (2 ^ j) == mul (2 ^ i) (2 ^ j)) = true := by decide +kernel
  simp only [List.all_eq_true, List.mem_range, beq_iff_eq] at k
  exact k i hi j hj

/- Powers. -/
def pw (a : Nat) : Nat → Nat
  | 0 => 1
  | n + 1 => mul (pw a n) a
theorem pw_lt (a n : Nat) : pw a n < 256 := by
  induction n with
  | zero => show 1 < 256; omega
  | succ n ih => exact mul_lt _ _ ih
theorem one_mul (a : Nat) (ha : a < 256) : mul 1 a = a := by rw [mul_comm 1 a (by omega) ha, mul_one a ha]
theorem pw_add (a m n : Nat) (ha : a < 256) : pw a (m + n) = mul (pw a m) (pw a n) := by
  induction n with
  | zero => exact (mul_one _ (pw_lt a m)).symm
  | succ n ih =>
    show mul (pw a (m + n)) a = mul (pw a m) (mul (pw a n) a)
    rw [ih, mul_assoc _ _ _ (pw_lt a m) (pw_lt a n) ha]
theorem pw_zero (n : Nat) (h : 0 < n) : pw 0 n = 0 := by
  cases n with
  | zero => omega
  | succ n => exact mul_zero_right _
theorem pw_one (n : Nat) : pw 1 n = 1 := by
  induction n with
  | zero => rfl
  | succ n ih => show mul (pw 1 n) 1 = 1; rw [ih, mul_one 1 (by omega)]
/- Squared again and again: what the kernel reckons. -/
def sq (a : Nat) : Nat → Nat
  | 0 => a
  | n + 1 => mul (sq a n) (sq a n)
theorem sq_pw (a n : Nat) (ha : a < 256) : sq a n = pw a (2 ^ n) := by
  induction n with
  | zero => show a = mul 1 a; exact (one_mul a ha).symm
  | succ n ih => show mul (sq a n) (sq a n) = _; rw [ih, ← pw_add a _ _ ha, Nat.pow_succ, Nat.mul_two]
def sqp (a : Nat) : Nat → Nat
  | 0 => 1
  | n + 1 => mul (sqp a n) (sq a n)
theorem sqp_pw (a n : Nat) (ha : a < 256) : sqp a n = pw a (2 ^ n - 1) := by
  induction n with
  | zero => rfl
  | succ n ih =>
    show mul (sqp a n) (sq a n) = _
    rw [ih, sq_pw a n ha, ← pw_add a _ _ ha]
    have := Nat.two_pow_pos n
    congr 1; rw [Nat.pow_succ]; omega
theorem pw_255 (a : Nat) (h0 : 0 < a) (ha : a < 256) : pw a 255 = 1 := by
  have k : ((List.range 255).all fun i => sqp (i + 1) 8 == 1) = true := by decide +kernel
  simp only [List.all_eq_true, List.mem_range, beq_iff_eq] at k
  have e := k (a - 1) (by omega)
  rw [show a - 1 + 1 = a by omega, sqp_pw a 8 ha] at e
  exact e
theorem pw_mod (a n : Nat) (h0 : 0 < a) (ha : a < 256) : pw a n = pw a (n % 255) := by
  have h : ∀ q r, pw a (255 * q + r) = pw a r := fun q r => by
    induction q with
    | zero => rw [Nat.mul_zero, Nat.zero_add]
    | succ q ih => rw [show 255 * (q + 1) + r = 255 + (255 * q + r) by omega, pw_add a _ _ ha, pw_255 a h0 ha, one_mul _ (pw_lt _ _), ih]
  have e := h (n / 255) (n % 255)
  rwa [Nat.div_add_mod] at e
def inv (a : Nat) : Nat := if a = 0 then 0 else pw a 254
theorem inv_lt (a : Nat) : inv a < 256 := by unfold inv; split; omega; exact pw_lt _ _
theorem inv_zero : inv 0 = 0 := rfl
theorem mul_inv (a : Nat) (h0 : 0 < a) (ha : a < 256) : mul a (inv a) = 1 := by
  unfold inv; rw [if_neg (by omega), mul_comm a _ ha (pw_lt _ _)]; exact pw_255 a h0 ha
theorem inv_uniq (a x : Nat) (ha : a < 256) (hx : x < 256) (h : mul a x = 1) : x = inv a := by
  have h0 : 0 < a := by
    rcases Nat.eq_zero_or_pos a with e | e
    · rw [e, mul_zero_left] at h; omega
    · exact e
  have e1 : mul x (mul a (inv a)) = x := by rw [mul_inv a h0 ha, mul_one x hx]
  rw [mul_assoc _ _ _ hx ha (inv_lt a), mul_comm x a hx ha, h, one_mul _ (inv_lt a)] at e1
  exact e1.symm
theorem inv_pos (a : Nat) (h0 : 0 < a) (ha : a < 256) : 0 < inv a := by
  rcases Nat.eq_zero_or_pos (inv a) with e | e
  · have := mul_inv a h0 ha; rw [e, mul_zero_right] at this; omega
  · exact e
theorem inv_inv (a : Nat) (ha : a < 256) : inv (inv a) = a := by
  rcases Nat.eq_zero_or_pos a with rfl | h0
  · rfl
  · exact (inv_uniq (inv a) a (inv_lt a) ha (by rw [mul_comm _ _ (inv_lt a) ha]; exact mul_inv a h0 ha)).symm
theorem mul_pos (a b : Nat) (ha : a < 256) (hb : b < 256) (h0 : 0 < a) (h1 : 0 < b) : 0 < mul a b := by
  rcases Nat.eq_zero_or_pos (mul a b) with e | e
  · have h : mul (inv a) (mul a b) = b := by
      rw [mul_assoc _ _ _ (inv_lt a) ha hb, mul_comm _ _ (inv_lt a) ha, mul_inv a h0 ha, one_mul b hb]
    rw [e, mul_zero_right] at h; omega
  · exact e
theorem inv_mul (a b : Nat) (ha : a < 256) (hb : b < 256) : inv (mul a b) = mul (inv a) (inv b) := by
  rcases Nat.eq_zero_or_pos a with rfl | h0
  · rw [mul_zero_left, inv_zero, mul_zero_left]
  rcases Nat.eq_zero_or_pos b with rfl | h1
  · rw [mul_zero_right, inv_zero, mul_zero_right]
  refine (inv_uniq _ _ (mul_lt _ _ ha) (mul_lt _ _ (inv_lt a)) ?_).symm
  have i1 := inv_lt a; have i2 := inv_lt b
  rw [mul_comm a b ha hb, mul_assoc _ _ _ (mul_lt b a hb) i1 i2, ← mul_assoc b a _ hb ha i1, mul_inv a h0 ha, mul_one b hb, mul_inv b h1 hb]
def power (a : Nat) (n : Int) : Nat := if a = 0 then (if n = 0 then 1 else 0) else pw a (n % 255).toNat
theorem power_lt (a : Nat) (n : Int) : power a n < 256 := by
  unfold power; split
  · split <;> omega
  · exact pw_lt _ _
theorem power_neg1 (a : Nat) : power a (-1) = inv a := by
  unfold power inv; split
  · rfl
  · rfl
theorem power_add (a : Nat) (m n : Int) (h0 : 0 < a) (ha : a < 256) : power a (m + n) = mul (power a m) (power a n) := by
  unfold power
  rw [if_neg (by omega), if_neg (by omega), if_neg (by omega), ← pw_add a _ _ ha, pw_mod a ((m % 255).toNat + (n % 255).toNat) h0 ha]
  congr 1; omega
theorem power_255 (a : Nat) (h0 : 0 < a) : power a 255 = 1 := by unfold power; rw [if_neg (by omega)]; rfl
theorem pw_bit (a m k : Nat) (ha : a < 256) : pw a (m % 2 ^ (k + 1)) = if bt m k = 1 then mul (pw a (m % 2 ^ k)) (pw a (2 ^ k)) else pw a (m % 2 ^ k) := by
  have e : m % 2 ^ (k + 1) = m % 2 ^ k + bt m k * 2 ^ k := by
    unfold bt; rw [Nat.pow_succ, Nat.mod_mul]; rw [Nat.mul_comm (2 ^ k)]
  rw [e]
  rcases bt_01 m k with h | h
  · rw [h, if_neg (by omega), Nat.zero_mul, Nat.add_zero]
  · rw [h, if_pos rfl, Nat.one_mul, pw_add a _ _ ha]
theorem pw_sq (a k : Nat) (ha : a < 256) : mul (pw a (2 ^ k)) (pw a (2 ^ k)) = pw a (2 ^ (k + 1)) := by
  rw [← pw_add a _ _ ha, Nat.pow_succ, Nat.mul_two]
end FM
end Go.Proofs.YtjemajenfkjelaaDoor
