/- Sectors as the document makes them: on numbers. Own work. -/
import Derived.Test.YtmidbmihadhgdaaDoorXtsMath
import Derived.Test.YtmidbmihadhgdaaDoorMem
namespace Go.Proofs.YtmidbmihadhgdaaDoor
open AM FM
/-- A key's round keys. -/
def keys (K : List Nat) : Nat → List Nat := rk (sched K)
theorem keys_bytes {K : List Nat} (h : Bytes 32 K) (n : Nat) : Bytes 16 (keys K n) := rk_bytes (sched_bytes h.2).2 n
/-- What is told of so many bytes. -/
def xerr (n : Nat) : Int := if n % 512 ≠ 0 ∨ 65536 < n then 2 else 0
theorem splice_get (L : List Nat) (o : Nat) (p : List Nat) (h : o + p.length ≤ L.length) (j : Nat) : gb (splice L o p) j = if j < o then gb L j else if j < o + p.length then gb p (j - o) else gb L j := by
  unfold gb splice
  rw [List.getD_eq_getElem?_getD, List.getD_eq_getElem?_getD, List.getD_eq_getElem?_getD]
  have hm : min o L.length = o := Nat.min_eq_left (by omega)
  by_cases h1 : j < o
  · rw [if_pos h1, List.getElem?_append_left (by rw [List.length_take, hm]; exact h1), List.getElem?_take, if_pos h1]
  · rw [if_neg h1, List.getElem?_append_right (by rw [List.length_take, hm]; omega), List.length_take, hm]
    by_cases h2 : j < o + p.length
    · rw [if_pos h2, List.getElem?_append_left (by omega)]
    · rw [if_neg h2, List.getElem?_append_right (by omega), List.getElem?_drop]
      congr 2; omega
theorem splice_len8 (L : List Nat) (o : Nat) (p : List Nat) (h : o + p.length ≤ L.length) : (splice L o p).length = L.length := length_splice L o p h
theorem row8_splice8 (o : List Nat) (f : Nat) (p : List Nat) : row8 (splice o f p) = splice (row8 o) f (row8 p) := by
  unfold splice row8
  rw [List.map_append, List.map_append, List.map_take, List.map_drop, List.length_map]
namespace XM
/-- The first m of a sector's tweaks, noughts behind them. -/
def twf (k : Nat → List Nat) (n m : Nat) : List Nat := (List.range 512).map fun j => if j < 16 * m then gb (tweak k n (j / 16)) (j % 16) else 0
theorem twf_len (k : Nat → List Nat) (n m : Nat) : (twf k n m).length = 512 := by simp [twf]
theorem twf_get (k : Nat → List Nat) (n m j : Nat) (h : j < 512) : gb (twf k n m) j = if j < 16 * m then gb (tweak k n (j / 16)) (j % 16) else 0 := by
  unfold twf; rw [gb_map, if_pos h]
theorem twf_zero (k : Nat → List Nat) (n : Nat) : twf k n 0 = List.replicate 512 0 :=
  bytes_ext (n := 512) (twf_len _ _ _) List.length_replicate fun j hj => by
    rw [twf_get _ _ _ _ hj, if_neg (by omega)]
    unfold gb
    rw [List.getD_eq_getElem?_getD, List.getElem?_replicate, if_pos hj]
    rfl
theorem twf_step {k : Nat → List Nat} (hk : ∀ n, Bytes 16 (k n)) (n m : Nat) (hm : m < 32) : splice (twf k n m) (16 * m) (tweak k n m) = twf k n (m + 1) := by
  have hl : (tweak k n m).length = 16 := (tweak_bytes hk n m).1
  have hle : 16 * m + (tweak k n m).length ≤ (twf k n m).length := by rw [hl, twf_len]; omega
  refine bytes_ext (n := 512) (by rw [splice_len8 _ _ _ hle, twf_len]) (twf_len _ _ _) fun j hj => ?_
  rw [splice_get _ _ _ hle, hl, twf_get _ _ _ _ hj, twf_get _ _ _ _ hj]
  by_cases h1 : j < 16 * m
  · rw [if_pos h1, if_pos h1, if_pos (by omega)]
  · rw [if_neg h1]
    by_cases h2 : j < 16 * m + 16
    · rw [if_pos h2, if_pos (by omega), show j / 16 = m by omega, show j % 16 = j - 16 * m by omega]
    · rw [if_neg h2, if_neg h1, if_neg (by omega)]
/-- A tweak among all. -/
theorem twf_part {k : Nat → List Nat} (hk : ∀ n, Bytes 16 (k n)) (n m i : Nat) (hi : i < m) (hm : m ≤ 32) (j : Nat) (v : Value) (h : (row8 (tweak k n i))[j]? = some v) : (row8 (twf k n m))[16 * i + j]? = some v := by
  have hl : (tweak k n i).length = 16 := (tweak_bytes hk n i).1
  by_cases hj : j < 16
  · rw [row8_val _ _ (by omega)] at h
    rw [row8_val _ _ (by rw [twf_len]; omega), twf_get _ _ _ _ (by omega), if_pos (by omega), show (16 * i + j) / 16 = i by omega, show (16 * i + j) % 16 = j by omega]
    exact h
  · rw [List.getElem?_eq_none (by rw [row8_len]; omega)] at h; cases h
/-- What is made of what was made, block by block. -/
theorem bw_bw {f g : Nat → List Nat → List Nat} {b : List Nat} (n : Nat) (hg : ∀ q, q < n → (g q (blk b q)).length = 16) : bw f (bw g b n) n = bw (fun q x => f q (g q x)) b n :=
  bw_congr n fun q hq => by rw [blk_bw n q hq hg]
/-- A sector sealed, or opened, by its number. -/
def sec (op : Bool) (k1 k2 : Nat → List Nat) (n : Nat) (b : List Nat) : List Nat := if op = true then bw (fun q => ob1 k1 (tweak k2 n q)) b 32 else bw (fun q => sb1 k1 (tweak k2 n q)) b 32
/-- Sectors: the first m. -/
def secs (op : Bool) (k1 k2 : Nat → List Nat) (n : Nat) (b : List Nat) (m : Nat) : List Nat := if op = true then openTo k1 k2 n b (32 * m) else sealTo k1 k2 n b (32 * m)
theorem tq_more (k : Nat → List Nat) (n j q : Nat) (hq : q < 32) : tq k n (32 * j + q) = tweak k ((n + j) % 2 ^ 64) q := by
  unfold tq
  rw [show (32 * j + q) / 32 = j by omega, show (32 * j + q) % 32 = q by omega]
theorem secs_step (op : Bool) (k1 k2 : Nat → List Nat) (n : Nat) (b : List Nat) (j : Nat) : secs op k1 k2 n b j ++ sec op k1 k2 ((n + j) % 2 ^ 64) ((b.drop (512 * j)).take 512) = secs op k1 k2 n b (j + 1) := by
  have e : ∀ q, q < 32 → blk ((b.drop (512 * j)).take 512) q = blk (b.drop (16 * (32 * j))) q := fun q hq => by
    unfold blk
    rw [List.drop_take, List.take_take, Nat.min_eq_left (by omega), show 16 * (32 * j) = 512 * j by omega]
  unfold secs sec openTo sealTo
  rw [show 32 * (j + 1) = 32 * j + 32 by omega]
  cases op
  · rw [if_neg (by decide), if_neg (by decide), if_neg (by decide), bw_add (32 * j) 32]
    refine congrArg _ (bw_congr 32 fun q hq => ?_)
    rw [e q hq, tq_more k2 n j q hq]
  · rw [if_pos rfl, if_pos rfl, if_pos rfl, bw_add (32 * j) 32]
    refine congrArg _ (bw_congr 32 fun q hq => ?_)
    rw [e q hq, tq_more k2 n j q hq]
theorem secs_zero (op : Bool) (k1 k2 : Nat → List Nat) (n : Nat) (b : List Nat) : secs op k1 k2 n b 0 = [] := by
  unfold secs openTo sealTo
  cases op <;> rfl
theorem secs_all (op : Bool) (k1 k2 : Nat → List Nat) (n : Nat) (b : List Nat) (m : Nat) (h : b.length = 512 * m) : secs op k1 k2 n b m = if op = true then xopen k1 k2 n b else xseal k1 k2 n b := by
  unfold secs xopen xseal
  rw [show b.length / 16 = 32 * m by omega]
/-- A sector's blocks with their tweaks, and what the document makes of them. -/
theorem sec_seal {k1 k2 : Nat → List Nat} (n : Nat) (b : List Nat) : bw (fun q x => ax (enc k1 x) (tweak k2 n q)) (bw (fun q x => ax x (tweak k2 n q)) b 32) 32 = sec false k1 k2 n b := by
  rw [bw_bw 32 (fun q _ => row_len _)]; rfl
theorem sec_open {k1 k2 : Nat → List Nat} (n : Nat) (b : List Nat) : bw (fun q x => ax x (tweak k2 n q)) (bw (fun _ x => dec k1 x) (bw (fun q x => ax x (tweak k2 n q)) b 32) 32) 32 = sec true k1 k2 n b := by
  rw [bw_bw 32 (fun q _ => row_len _), bw_bw 32 (fun q _ => row_len _)]; rfl
theorem num_le (n i : Nat) : n / 2 ^ (8 * i) % 256 = n / 256 ^ i % 256 := by rw [Nat.pow_mul]
end XM
end Go.Proofs.YtmidbmihadhgdaaDoor
