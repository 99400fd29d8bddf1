/- The stream of a seed, on numbers. Own work. -/
import Derived.Test.YtdiljngokbfpcaaDoorShaD
namespace Go.Proofs.YtdiljngokbfpcaaDoor
open SM
namespace EM
/-- The word of the stream. -/
def use : List Nat := [100, 114, 97, 119]
/-- The stream's block number i. -/
def part (S : List Nat) (i : Nat) : List Nat := sha (S ++ use ++ be i 8)
/-- The stream's byte number k. -/
def byte (S : List Nat) (k : Nat) : Nat := gb (part S (k / 32)) (k % 32)
/-- n bytes of the stream, behind t. -/
def drawn (S : List Nat) (t n : Nat) : List Nat := (List.range n).map fun i => byte S (t + i)
theorem part_bytes (S : List Nat) (i : Nat) : Bytes 32 (part S i) := sha_bytes _
theorem drawn_len (S : List Nat) (t n : Nat) : (drawn S t n).length = n := by simp [drawn]
theorem drawn_byte (S : List Nat) (t n k : Nat) : gb (drawn S t n) k < 256 := by
  unfold drawn
  rw [gb_map]; split
  · exact (part_bytes S _).2 _
  · omega
theorem drawn_app (S : List Nat) (t m n : Nat) : drawn S t m ++ drawn S (t + m) n = drawn S t (m + n) := by
  unfold drawn
  rw [List.range_add, List.map_append, List.map_map]
  simp [Function.comp_def, Nat.add_assoc]
theorem use_byte (k : Nat) : gb use k < 256 := by
  unfold use gb
  match k with
  | 0 => decide
  | 1 => decide
  | 2 => decide
  | 3 => decide
  | k + 4 => simp
theorem drawn_succ (S : List Nat) (t n : Nat) : drawn S t (n + 1) = drawn S t n ++ [byte S (t + n)] := by
  unfold drawn; rw [List.range_succ, List.map_append]; rfl
/-- m blocks in a row, from number i on. -/
def parts (S : List Nat) (i m : Nat) : List (List Nat) := (List.range m).map fun k => part S (i + k)
theorem parts_succ (S : List Nat) (i m : Nat) : parts S i (m + 1) = parts S i m ++ [part S (i + m)] := by
  unfold parts; rw [List.range_succ, List.map_append]; rfl
theorem parts_len (S : List Nat) (i m : Nat) : (parts S i m).length = m := by simp [parts]
theorem part_drawn (S : List Nat) (i : Nat) : part S i = drawn S (32 * i) 32 := by
  have h := part_bytes S i
  apply List.ext_getElem
  · rw [h.1, drawn_len]
  · intro k h1 h2
    rw [drawn_len] at h2
    have e1 : (32 * i + k) / 32 = i := by omega
    have e2 : (32 * i + k) % 32 = k := by omega
    rw [show (drawn S (32 * i) 32)[k] = byte S (32 * i + k) by simp [drawn]]
    unfold byte
    rw [e1, e2]
    unfold gb
    rw [List.getD_eq_getElem?_getD, List.getElem?_eq_getElem h1]
    rfl
theorem parts_drawn (S : List Nat) (i : Nat) : ∀ m, (parts S i m).flatten = drawn S (32 * i) (32 * m)
  | 0 => rfl
  | m + 1 => by
    rw [parts_succ, List.flatten_append, parts_drawn S i m, part_drawn, show 32 * (i + m) = 32 * i + 32 * m by omega]
    simp only [List.flatten_cons, List.flatten_nil, List.append_nil]
    rw [drawn_app, show 32 * m + 32 = 32 * (m + 1) by omega]
theorem drawn_cut (S : List Nat) (t k n m : Nat) (h : k + n ≤ m) : ((drawn S t m).drop k).take n = drawn S (t + k) n := by
  have e : drawn S t m = drawn S t k ++ (drawn S (t + k) n ++ drawn S (t + k + n) (m - (k + n))) := by
    rw [drawn_app, drawn_app, show k + (n + (m - (k + n))) = m by omega]
  rw [e, List.drop_append_of_le_length (by rw [drawn_len]; exact Nat.le_refl _), List.drop_of_length_le (by rw [drawn_len]; exact Nat.le_refl _), List.nil_append, List.take_append_of_le_length (by rw [drawn_len]; exact Nat.le_refl _), List.take_of_length_le (by rw [drawn_len]; exact Nat.le_refl _)]
end EM
end Go.Proofs.YtdiljngokbfpcaaDoor
