/- Keys of passphrases on numbers: the sums of a block, the blocks, what is told. Own work. -/
import Derived.Test.YtbepchikngoknaaDoorHmacA
import Derived.Test.YtbepchikngoknaaDoorMem
import Derived.Test.YtbepchikngoknaaDoorShaD
namespace Go.Proofs.YtbepchikngoknaaDoor
namespace SM
/-- Of 32 bytes the first n exclusive-ored with those of another row. -/
def xq (a b : List Nat) (n : Nat) : List Nat := (List.range 32).map fun i => if i < n then gb a i ^^^ gb b i else gb a i
/-- The n-th sum of a block (the first is number 0), and the exclusive or of the first n + 1. -/
def ku (p s : List Nat) (i : Nat) : Nat → List Nat
  | 0 => mac p (s ++ be i 4)
  | n + 1 => mac p (ku p s i n)
def kt (p s : List Nat) (i : Nat) : Nat → List Nat
  | 0 => ku p s i 0
  | n + 1 => xq (kt p s i n) (ku p s i (n + 1)) 32
/-- The first n blocks of so many turns. -/
def kblocks (p s : List Nat) (t : Nat) (n : Nat) : List Nat := ((List.range n).map fun i => kt p s (i + 1) (t - 1)).flatten
def kder (p s : List Nat) (t z : Nat) : List Nat := (kblocks p s t ((z + 31) / 32)).take z
def kerr (p s : List Nat) (t z : Int) : Int := if 512 < p.length ∨ 1024 < s.length then 5 else if t < 1 ∨ 4096 < t ∨ z < 0 ∨ 1024 < z then 2 else 0
def kres (p s : List Nat) (t z : Int) : List Nat := if kerr p s t z = 0 then kder p s t.toNat z.toNat else []
/-- The bytes that stand ahead of a label. -/
def ahead : List Nat := [114, 101, 108, 105, 113, 117, 97, 114, 121, 32]
def klabel (key label : List Nat) : List Nat := mac key (ahead ++ label)
theorem xq_len (a b : List Nat) (n : Nat) : (xq a b n).length = 32 := by simp [xq]
theorem xq_get (a b : List Nat) (n k : Nat) (hk : k < 32) : gb (xq a b n) k = if k < n then gb a k ^^^ gb b k else gb a k := by
  unfold xq; rw [gb_map, if_pos hk]
theorem xq_bytes {a b : List Nat} (ha : ∀ k, gb a k < 256) (hb : ∀ k, gb b k < 256) (n : Nat) : Bytes 32 (xq a b n) := by
  refine ⟨xq_len a b n, fun k => ?_⟩
  unfold xq; rw [gb_map]
  split
  · split
    · exact Nat.xor_lt_two_pow (n := 8) (ha k) (hb k)
    · exact ha k
  · omega
theorem xq_zero {a : List Nat} (ha : a.length = 32) (b : List Nat) : xq a b 0 = a :=
  bytes_ext (n := 32) (xq_len _ _ _) ha fun k hk => by rw [xq_get _ _ _ _ hk, if_neg (by omega)]
theorem xq_step (a b : List Nat) (k : Nat) (hk : k < 32) : (xq a b k).set k (gb a k ^^^ gb b k) = xq a b (k + 1) :=
  bytes_ext (n := 32) (by rw [List.length_set, xq_len]) (xq_len _ _ _) fun j hj => by
    rw [gb_set _ _ _ _ (by rw [xq_len]; exact hk), xq_get _ _ _ _ hj, xq_get _ _ _ _ hj]
    by_cases e : k = j
    · subst e; rw [if_pos rfl, if_pos (by omega)]
    · rw [if_neg e]
      by_cases h : j < k
      · rw [if_pos h, if_pos (by omega)]
      · rw [if_neg h, if_neg (by omega)]
theorem ku_bytes (p s : List Nat) (i : Nat) : ∀ n, Bytes 32 (ku p s i n)
  | 0 => sha_bytes _
  | _ + 1 => sha_bytes _
theorem kt_bytes (p s : List Nat) (i : Nat) : ∀ n, Bytes 32 (kt p s i n)
  | 0 => ku_bytes p s i 0
  | n + 1 => xq_bytes (kt_bytes p s i n).2 (ku_bytes p s i (n + 1)).2 32
theorem kblocks_len (p s : List Nat) (t : Nat) : ∀ n, (kblocks p s t n).length = 32 * n
  | 0 => rfl
  | n + 1 => by
    have ih := kblocks_len p s t n
    unfold kblocks at ih ⊢
    rw [List.range_succ, List.map_append, List.flatten_append, List.length_append, ih]
    simp [(kt_bytes p s (n + 1) (t - 1)).1]
    omega
theorem kblocks_step (p s : List Nat) (t n : Nat) : kblocks p s t n ++ kt p s (n + 1) (t - 1) = kblocks p s t (n + 1) := by
  unfold kblocks
  rw [List.range_succ, List.map_append, List.flatten_append]
  simp
theorem kblocks_take (p s : List Nat) (t n : Nat) : ∀ d, (kblocks p s t (n + d)).take (32 * n) = kblocks p s t n
  | 0 => List.take_of_length_le (by rw [kblocks_len]; exact Nat.le_refl _)
  | d + 1 => by
    rw [show n + (d + 1) = n + d + 1 by omega, ← kblocks_step, List.take_append_of_le_length (by rw [kblocks_len]; omega), kblocks_take p s t n d]
/-- What is shorter is a beginning of what is longer; whole blocks, cut. -/
theorem kder_cut (p s : List Nat) (t n z : Nat) (h : z ≤ 32 * n) : (kblocks p s t n).take z = kder p s t z := by
  unfold kder
  obtain ⟨d, hd⟩ : ∃ d, n = (z + 31) / 32 + d := ⟨n - (z + 31) / 32, by omega⟩
  rw [hd, ← kblocks_take p s t ((z + 31) / 32) d, List.take_take, Nat.min_eq_left (by omega)]
theorem kder_len (p s : List Nat) (t z : Nat) : (kder p s t z).length = z := by
  unfold kder; rw [List.length_take, kblocks_len]; omega
theorem kder_begins (p s : List Nat) (t m n : Nat) : (kder p s t (m + n)).take m = kder p s t m := by
  rw [← kder_cut p s t ((m + n + 31) / 32) m (by omega)]
  unfold kder
  rw [List.take_take, Nat.min_eq_left (by omega)]
theorem kblocks_byte (p s : List Nat) (t : Nat) : ∀ n k, gb (kblocks p s t n) k < 256
  | 0, k => Nat.zero_lt_succ _
  | n + 1, k => by
    rw [← kblocks_step]
    exact gb_app _ _ (kblocks_byte p s t n) (kt_bytes p s (n + 1) (t - 1)).2 k
/-- A passphrase of more than 64 bytes is as good as its sum. -/
theorem ku_sum (p s : List Nat) (i : Nat) (h : 64 < p.length) : ∀ n, ku (sha p) s i n = ku p s i n
  | 0 => mac_sum p _ h
  | n + 1 => by
    show mac (sha p) (ku (sha p) s i n) = mac p (ku p s i n)
    rw [ku_sum p s i h n, mac_sum p _ h]
theorem kt_sum (p s : List Nat) (i : Nat) (h : 64 < p.length) : ∀ n, kt (sha p) s i n = kt p s i n
  | 0 => ku_sum p s i h 0
  | n + 1 => by
    show xq (kt (sha p) s i n) (ku (sha p) s i (n + 1)) 32 = xq (kt p s i n) (ku p s i (n + 1)) 32
    rw [kt_sum p s i h n, ku_sum p s i h (n + 1)]
theorem kder_sum (p s : List Nat) (t z : Nat) (h : 64 < p.length) : kder (sha p) s t z = kder p s t z := by
  unfold kder kblocks
  congr 2
  apply List.map_congr_left
  intro i _
  exact kt_sum p s _ h _
theorem kder_one (p s : List Nat) : kder p s 1 32 = mac p (s ++ [0, 0, 0, 1]) := by
  rw [← kder_cut p s 1 1 32 (by omega)]
  have e : kblocks p s 1 1 = mac p (s ++ be 1 4) := by
    rw [← kblocks_step]; rfl
  rw [e, List.take_of_length_le (by rw [mac, sha_length]; exact Nat.le_refl _)]
  rfl
theorem kder_two (p s : List Nat) : kder p s 2 32 = xq (mac p (s ++ [0, 0, 0, 1])) (mac p (mac p (s ++ [0, 0, 0, 1]))) 32 := by
  rw [← kder_cut p s 2 1 32 (by omega)]
  have e : kblocks p s 2 1 = xq (mac p (s ++ be 1 4)) (mac p (mac p (s ++ be 1 4))) 32 := by
    rw [← kblocks_step]; rfl
  rw [e, List.take_of_length_le (by rw [xq_len]; exact Nat.le_refl _)]
  rfl
end SM
end Go.Proofs.YtbepchikngoknaaDoor
