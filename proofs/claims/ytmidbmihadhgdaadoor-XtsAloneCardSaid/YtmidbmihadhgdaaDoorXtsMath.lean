/- Sectors with two keys, on numbers: blocks of sixteen one by one, tweaks, there and back. Own work. -/
import Derived.Test.YtmidbmihadhgdaaDoorAesSched
import Derived.Test.YtmidbmihadhgdaaDoorTwNum
import Derived.Test.YtmidbmihadhgdaaDoorMem
namespace Go.Proofs.YtmidbmihadhgdaaDoor
open AM FM
namespace XM
/-- The q-th sixteen bytes. -/
def blk (b : List Nat) (q : Nat) : List Nat := (b.drop (16 * q)).take 16
/-- Block by block. -/
def bw (f : Nat → List Nat → List Nat) (b : List Nat) : Nat → List Nat
  | 0 => []
  | n + 1 => bw f b n ++ f n (blk b n)
theorem blk_len (b : List Nat) (q : Nat) (h : 16 * (q + 1) ≤ b.length) : (blk b q).length = 16 := by
  unfold blk; rw [List.length_take, List.length_drop]; omega
theorem blk_bytes {b : List Nat} (hb : ∀ k, gb b k < 256) (q : Nat) (h : 16 * (q + 1) ≤ b.length) : Bytes 16 (blk b q) := by
  refine ⟨blk_len b q h, fun k => ?_⟩
  unfold blk gb
  rw [List.getD_eq_getElem?_getD, List.getElem?_take]
  split
  · rw [List.getElem?_drop]
    have := hb (16 * q + k)
    unfold gb at this
    rwa [List.getD_eq_getElem?_getD] at this
  · show 0 < 256; omega
theorem bw_len {f : Nat → List Nat → List Nat} {b : List Nat} : ∀ n, (∀ q, q < n → (f q (blk b q)).length = 16) → (bw f b n).length = 16 * n
  | 0, _ => rfl
  | n + 1, h => by
    show (bw f b n ++ f n (blk b n)).length = _
    rw [List.length_append, bw_len n (fun q hq => h q (by omega)), h n (by omega)]; omega
theorem bw_byte {f : Nat → List Nat → List Nat} {b : List Nat} : ∀ n, (∀ q, q < n → Bytes 16 (f q (blk b q))) → ∀ k, gb (bw f b n) k < 256
  | 0, _, k => Nat.zero_lt_succ _
  | n + 1, h, k => gb_app _ _ (bw_byte n (fun q hq => h q (by omega))) (h n (by omega)).2 k
theorem bw_take {f : Nat → List Nat → List Nat} {b : List Nat} (n : Nat) : ∀ d, (∀ q, q < n + d → (f q (blk b q)).length = 16) → (bw f b (n + d)).take (16 * n) = bw f b n
  | 0, h => by
    show (bw f b n).take (16 * n) = bw f b n
    exact List.take_of_length_le (by rw [bw_len n (fun q hq => h q (by omega))]; exact Nat.le_refl _)
  | d + 1, h => by
    show (bw f b (n + d) ++ f (n + d) (blk b (n + d))).take (16 * n) = _
    rw [List.take_append_of_le_length (by rw [bw_len (n + d) (fun q hq => h q (by omega))]; omega)]
    exact bw_take n d (fun q hq => h q (by omega))
/-- A block of what was made. -/
theorem blk_bw {f : Nat → List Nat → List Nat} {b : List Nat} (n q : Nat) (hq : q < n) (h : ∀ q, q < n → (f q (blk b q)).length = 16) : blk (bw f b n) q = f q (blk b q) := by
  obtain ⟨d, rfl⟩ : ∃ d, n = q + 1 + d := ⟨n - (q + 1), by omega⟩
  have e := bw_take (f := f) (b := b) (q + 1) d h
  have hl := bw_len (f := f) (b := b) q (fun r hr => h r (by omega))
  have e2 : blk (bw f b (q + 1 + d)) q = blk ((bw f b (q + 1 + d)).take (16 * (q + 1))) q := by
    unfold blk
    rw [List.drop_take, List.take_take, Nat.min_eq_left (by omega)]
  rw [e2, e]
  unfold blk
  show ((bw f b q ++ f q ((b.drop (16 * q)).take 16)).drop (16 * q)).take 16 = _
  rw [List.drop_append_of_le_length (by omega), List.drop_of_length_le (by omega), List.nil_append, List.take_of_length_le]
  have := h q (by omega)
  unfold blk at this
  omega
theorem bw_congr {f g : Nat → List Nat → List Nat} {b c : List Nat} : ∀ n, (∀ q, q < n → f q (blk b q) = g q (blk c q)) → bw f b n = bw g c n
  | 0, _ => rfl
  | n + 1, h => by
    show bw f b n ++ f n (blk b n) = bw g c n ++ g n (blk c n)
    rw [bw_congr n (fun q hq => h q (by omega)), h n (by omega)]
/-- All blocks as they are. -/
theorem bw_self (b : List Nat) : ∀ n, 16 * n ≤ b.length → bw (fun _ x => x) b n = b.take (16 * n)
  | 0, _ => by simp [bw]
  | n + 1, h => by
    show bw (fun _ x => x) b n ++ blk b n = _
    rw [bw_self b n (by omega)]
    unfold blk
    rw [show 16 * (n + 1) = 16 * n + 16 by omega, List.take_add]
theorem bw_back {f g : Nat → List Nat → List Nat} {b : List Nat} (n : Nat) (hn : b.length = 16 * n) (hf : ∀ q, q < n → (f q (blk b q)).length = 16) (h : ∀ q, q < n → g q (f q (blk b q)) = blk b q) : bw g (bw f b n) n = b := by
  rw [bw_congr (g := fun _ x => x) (c := b) n (fun q hq => by rw [blk_bw n q hq hf, h q hq]), bw_self b n (by omega), List.take_of_length_le (by omega)]
/-- Blocks behind others. -/
theorem bw_add {f : Nat → List Nat → List Nat} {b : List Nat} (m : Nat) : ∀ n, bw f b (m + n) = bw f b m ++ bw (fun q => f (m + q)) (b.drop (16 * m)) n
  | 0 => by simp [bw]
  | n + 1 => by
    show bw f b (m + n) ++ f (m + n) (blk b (m + n)) = _ ++ (bw (fun q => f (m + q)) (b.drop (16 * m)) n ++ f (m + n) (blk (b.drop (16 * m)) n))
    rw [bw_add m n, List.append_assoc]
    congr 3
    unfold blk
    rw [List.drop_drop, ← Nat.mul_add]
/-- A sector's number in sixteen bytes, the lowest one first. -/
def num (n : Nat) : List Nat := row fun i => if i < 8 then n / 256 ^ i % 256 else 0
theorem num_bytes (n : Nat) : Bytes 16 (num n) := row_bytes _ fun k _ => by split <;> omega
/-- A sector's tweaks. -/
def tweak (k : Nat → List Nat) (n : Nat) : Nat → List Nat
  | 0 => enc k (num n)
  | i + 1 => tw (tweak k n i)
theorem tweak_bytes {k : Nat → List Nat} (hk : ∀ n, Bytes 16 (k n)) (n : Nat) : ∀ i, Bytes 16 (tweak k n i)
  | 0 => enc_bytes hk _
  | i + 1 => tw_bytes _ (tweak_bytes hk n i).2
/-- A block between two tweaks. -/
def sb1 (k : Nat → List Nat) (t x : List Nat) : List Nat := ax (enc k (ax x t)) t
def ob1 (k : Nat → List Nat) (t x : List Nat) : List Nat := ax (dec k (ax x t)) t
theorem sb1_bytes {k : Nat → List Nat} (hk : ∀ n, Bytes 16 (k n)) {t x : List Nat} (ht : Bytes 16 t) : Bytes 16 (sb1 k t x) := ax_bytes (enc_bytes hk _) ht
theorem ob1_bytes {k : Nat → List Nat} (hk : ∀ n, Bytes 16 (k n)) {t x : List Nat} (ht : Bytes 16 t) (hx : Bytes 16 x) : Bytes 16 (ob1 k t x) := ax_bytes (dec_bytes hk (ax_bytes hx ht)) ht
theorem ob1_sb1 {k : Nat → List Nat} (hk : ∀ n, Bytes 16 (k n)) {t x : List Nat} (ht : Bytes 16 t) (hx : Bytes 16 x) : ob1 k t (sb1 k t x) = x := by
  unfold ob1 sb1
  rw [ax_ax (enc_bytes hk _), dec_enc hk (ax_bytes hx ht), ax_ax hx]
theorem sb1_ob1 {k : Nat → List Nat} (hk : ∀ n, Bytes 16 (k n)) {t x : List Nat} (ht : Bytes 16 t) (hx : Bytes 16 x) : sb1 k t (ob1 k t x) = x := by
  unfold ob1 sb1
  rw [ax_ax (dec_bytes hk (ax_bytes hx ht)), enc_dec hk (ax_bytes hx ht), ax_ax hx]
/-- The tweak of the q-th block of sectors from number n on. -/
def tq (k : Nat → List Nat) (n q : Nat) : List Nat := tweak k ((n + q / 32) % 2 ^ 64) (q % 32)
theorem tq_bytes {k : Nat → List Nat} (hk : ∀ n, Bytes 16 (k n)) (n q : Nat) : Bytes 16 (tq k n q) := tweak_bytes hk _ _
/-- Sectors sealed, and opened: the first m blocks. -/
def sealTo (k1 k2 : Nat → List Nat) (n : Nat) (b : List Nat) (m : Nat) : List Nat := bw (fun q => sb1 k1 (tq k2 n q)) b m
def openTo (k1 k2 : Nat → List Nat) (n : Nat) (b : List Nat) (m : Nat) : List Nat := bw (fun q => ob1 k1 (tq k2 n q)) b m
/-- Whole: as many blocks as there are. -/
def xseal (k1 k2 : Nat → List Nat) (n : Nat) (b : List Nat) : List Nat := sealTo k1 k2 n b (b.length / 16)
def xopen (k1 k2 : Nat → List Nat) (n : Nat) (b : List Nat) : List Nat := openTo k1 k2 n b (b.length / 16)
section
variable {k1 k2 : Nat → List Nat} (h1 : ∀ n, Bytes 16 (k1 n)) (h2 : ∀ n, Bytes 16 (k2 n)) (n : Nat)
include h1 h2
theorem sealTo_len (b : List Nat) (m : Nat) : (sealTo k1 k2 n b m).length = 16 * m := bw_len m fun q _ => (sb1_bytes h1 (tq_bytes h2 n q)).1
theorem sealTo_byte (b : List Nat) (m : Nat) : ∀ k, gb (sealTo k1 k2 n b m) k < 256 := bw_byte m fun q _ => sb1_bytes h1 (tq_bytes h2 n q)
theorem openTo_len {b : List Nat} (hb : ∀ k, gb b k < 256) (m : Nat) (hm : 16 * m ≤ b.length) : (openTo k1 k2 n b m).length = 16 * m := bw_len m fun q hq => (ob1_bytes h1 (tq_bytes h2 n q) (blk_bytes hb q (by omega))).1
theorem openTo_byte {b : List Nat} (hb : ∀ k, gb b k < 256) (m : Nat) (hm : 16 * m ≤ b.length) : ∀ k, gb (openTo k1 k2 n b m) k < 256 := bw_byte m fun q hq => ob1_bytes h1 (tq_bytes h2 n q) (blk_bytes hb q (by omega))
theorem xopen_xseal {b : List Nat} (hb : ∀ k, gb b k < 256) (hl : b.length % 16 = 0) : xopen k1 k2 n (xseal k1 k2 n b) = b := by
  unfold xopen xseal
  rw [sealTo_len h1 h2, Nat.mul_div_cancel_left _ (by omega : 0 < 16)]
  exact bw_back (b.length / 16) (by omega) (fun q hq => (sb1_bytes h1 (tq_bytes h2 n q)).1) (fun q hq => ob1_sb1 h1 (tq_bytes h2 n q) (blk_bytes hb q (by omega)))
theorem xseal_xopen {b : List Nat} (hb : ∀ k, gb b k < 256) (hl : b.length % 16 = 0) : xseal k1 k2 n (xopen k1 k2 n b) = b := by
  unfold xopen xseal
  rw [openTo_len h1 h2 n hb _ (by omega), Nat.mul_div_cancel_left _ (by omega : 0 < 16)]
  exact bw_back (b.length / 16) (by omega) (fun q hq => (ob1_bytes h1 (tq_bytes h2 n q) (blk_bytes hb q (by omega))).1) (fun q hq => sb1_ob1 h1 (tq_bytes h2 n q) (blk_bytes hb q (by omega)))
end
theorem tq_next (k : Nat → List Nat) (n q : Nat) (hq : q < 32) : tq k n (32 + q) = tq k ((n + 1) % 2 ^ 64) q := by
  unfold tq
  rw [show (32 + q) / 32 = 1 by omega, show q / 32 = 0 by omega, show (32 + q) % 32 = q % 32 by omega, show ∀ m, (m % 2 ^ 64 + 0) % 2 ^ 64 = m % 2 ^ 64 from fun m => by rw [Nat.add_zero, Nat.mod_mod]]
/-- Two sectors are sealed each alone. -/
theorem xseal_two (k1 k2 : Nat → List Nat) (n : Nat) (b : List Nat) (hl : b.length = 1024) : xseal k1 k2 n b = xseal k1 k2 n (b.take 512) ++ xseal k1 k2 ((n + 1) % 2 ^ 64) (b.drop 512) := by
  have e1 : (b.take 512).length / 16 = 32 := by rw [List.length_take]; omega
  have e2 : (b.drop 512).length / 16 = 32 := by rw [List.length_drop]; omega
  unfold xseal
  rw [e1, e2, show b.length / 16 = 32 + 32 by omega]
  unfold sealTo
  rw [bw_add 32 32]
  refine congr (congrArg _ ?_) ?_
  · refine bw_congr 32 fun q hq => ?_
    have e : blk b q = blk (b.take 512) q := by
      unfold blk
      rw [List.drop_take, List.take_take, Nat.min_eq_left (by omega)]
    rw [e]
  · refine bw_congr 32 fun q hq => ?_
    show sb1 k1 (tq k2 n (32 + q)) _ = sb1 k1 (tq k2 ((n + 1) % 2 ^ 64) q) _
    rw [tq_next k2 n q hq]
/-- The first two blocks of a sector. -/
theorem xseal_blk (k1 k2 : Nat → List Nat) (h1 : ∀ n, Bytes 16 (k1 n)) (h2 : ∀ n, Bytes 16 (k2 n)) (n : Nat) (hn : n < 2 ^ 64) (b : List Nat) (hl : b.length = 512) (i : Nat) (hi : i < 32) : blk (xseal k1 k2 n b) i = sb1 k1 (tweak k2 n i) (blk b i) := by
  unfold xseal sealTo
  rw [blk_bw _ i (by omega) (fun q _ => (sb1_bytes h1 (tq_bytes h2 n q)).1)]
  unfold tq
  rw [show i / 32 = 0 by omega, Nat.add_zero, Nat.mod_eq_of_lt hn, Nat.mod_eq_of_lt hi]
end XM
end Go.Proofs.YtmidbmihadhgdaaDoor
