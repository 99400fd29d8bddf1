/- AES on numbers: the round keys, byte by byte. Own work. -/
import Derived.Test.YtjemajenfkjelaaDoorAesMath
namespace Go.Proofs.YtjemajenfkjelaaDoor
open AM FM
/-- A round key out of all, laid one behind the other. -/
def rk (KS : List Nat) (n : Nat) : List Nat := row fun i => gb KS (16 * n + i)
theorem rk_bytes {KS : List Nat} (h : ∀ k, gb KS k < 256) (n : Nat) : Bytes 16 (rk KS n) := row_bytes _ fun _ _ => h _
namespace AM
/-- Byte i, behind those ahead of it. -/
def nxt (key l : List Nat) (i : Nat) : Nat :=
  if i < 32 then gb key i
  else if i / 4 % 8 = 0 then gb l (i - 32) ^^^ (box (gb l (4 * (i / 4 - 1) + (i + 1) % 4)) ^^^ (if i % 4 = 0 then power 2 ((i / 4 / 8 - 1 : Nat) : Int) else 0))
  else if i / 4 % 8 = 4 then gb l (i - 32) ^^^ box (gb l (i - 4))
  else gb l (i - 32) ^^^ gb l (i - 4)
/-- The first n bytes of all round keys. -/
def sl (key : List Nat) : Nat → List Nat
  | 0 => []
  | n + 1 => sl key n ++ [nxt key (sl key n) n]
def sched (key : List Nat) : List Nat := sl key 240
theorem sl_len (key : List Nat) : ∀ n, (sl key n).length = n
  | 0 => rfl
  | n + 1 => by show (sl key n ++ _).length = _; rw [List.length_append, sl_len key n]; rfl
theorem sl_old (key : List Nat) (n j : Nat) (h : j < n) : gb (sl key (n + 1)) j = gb (sl key n) j := by
  show gb (sl key n ++ _) j = _
  unfold gb
  rw [List.getD_eq_getElem?_getD, List.getD_eq_getElem?_getD, List.getElem?_append_left (by rw [sl_len]; exact h)]
theorem sl_new (key : List Nat) (n : Nat) : gb (sl key (n + 1)) n = nxt key (sl key n) n := by
  show gb (sl key n ++ _) n = _
  unfold gb
  rw [List.getD_eq_getElem?_getD, List.getElem?_append_right (by rw [sl_len]; exact Nat.le_refl _), sl_len, Nat.sub_self]
  rfl
theorem sl_same (key : List Nat) (m j : Nat) (h : j < m) : ∀ d, gb (sl key (m + d)) j = gb (sl key m) j
  | 0 => rfl
  | d + 1 => by rw [← sl_same key m j h d]; exact sl_old key (m + d) j (by omega)
theorem nxt_congr (key l m : List Nat) (i : Nat) (h : ∀ j, j < i → gb l j = gb m j) : nxt key l i = nxt key m i := by
  unfold nxt
  by_cases h1 : i < 32
  · rw [if_pos h1, if_pos h1]
  · rw [if_neg h1, if_neg h1, h (i - 32) (by omega), h (i - 4) (by omega), h (4 * (i / 4 - 1) + (i + 1) % 4) (by omega)]
theorem sched_get (key : List Nat) (i : Nat) (h : i < 240) : gb (sched key) i = nxt key (sched key) i := by
  have e : ∀ j, j ≤ i → gb (sched key) j = gb (sl key (i + 1)) j := fun j hj => by
    unfold sched
    rw [show (240 : Nat) = i + 1 + (239 - i) by omega]
    exact sl_same key (i + 1) j (by omega) _
  rw [e i (Nat.le_refl _), sl_new]
  refine nxt_congr _ _ _ _ fun j hj => ?_
  rw [e j (by omega)]
  exact (sl_old key i j hj).symm
theorem nxt_lt {key l : List Nat} (hk : ∀ k, gb key k < 256) (hl : ∀ k, gb l k < 256) (i : Nat) : nxt key l i < 256 := by
  unfold nxt
  split
  · exact hk i
  split
  · refine lt_of_xor (hl _) (lt_of_xor (box_byte _) ?_)
    split
    · exact power_lt _ _
    · omega
  split
  · exact lt_of_xor (hl _) (box_byte _)
  · exact lt_of_xor (hl _) (hl _)
theorem sl_byte {key : List Nat} (hk : ∀ k, gb key k < 256) : ∀ n k, gb (sl key n) k < 256
  | 0, k => Nat.zero_lt_succ _
  | n + 1, k => by
    rcases Nat.lt_trichotomy k n with h | h | h
    · rw [sl_old key n k h]; exact sl_byte hk n k
    · subst h; rw [sl_new]; exact nxt_lt hk (sl_byte hk k) k
    · unfold gb
      rw [List.getD_eq_getElem?_getD, List.getElem?_eq_none (by rw [sl_len]; omega)]
      show 0 < 256; omega
theorem sched_bytes {key : List Nat} (hk : ∀ k, gb key k < 256) : Bytes 240 (sched key) := ⟨sl_len key 240, sl_byte hk 240⟩
theorem known : (enc (rk (sched (List.range 32))) ((List.range 16).map (17 * ·))) = [0x8e, 0xa2, 0xb7, 0xca, 0x51, 0x67, 0x45, 0xbf, 0xea, 0xfc, 0x49, 0x90, 0x4b, 0x49, 0x60, 0x89] := by decide +kernel
end AM
end Go.Proofs.YtjemajenfkjelaaDoor
