/- Sixteen bytes doubled: on numbers. Own work. -/
import Derived.Test.YtmidbmihadhgdaaDoorMem
import Derived.Test.YtmidbmihadhgdaaDoorFieldMath
namespace Go.Proofs.YtmidbmihadhgdaaDoor
open FM
def car (l : List Nat) : Nat → Nat
  | 0 => 0
  | k + 1 => gb l k / 128
def twTo (l : List Nat) : Nat → List Nat
  | 0 => List.replicate 16 0
  | k + 1 => (twTo l k).set k ((gb l k * 2 % 256) ||| car l k)
def tw (l : List Nat) : List Nat := if car l 16 = 1 then (twTo l 16).set 0 (gb (twTo l 16) 0 ^^^ 135) else twTo l 16
theorem car_lt (l : List Nat) (k : Nat) (h : ∀ k, gb l k < 256) : car l k < 2 := by
  cases k with
  | zero => show 0 < 2; omega
  | succ k => have := h k; show gb l k / 128 < 2; omega
theorem or_lt {a b : Nat} (h : a < 256) (k : b < 256) : a ||| b < 256 := Nat.or_lt_two_pow (n := 8) h k
theorem twTo_len (l : List Nat) (k : Nat) : (twTo l k).length = 16 := by
  induction k with
  | zero => rfl
  | succ k ih => simp [twTo, ih]
theorem twTo_bytes (l : List Nat) (h : ∀ k, gb l k < 256) (k : Nat) (hk : k ≤ 16) : Bytes 16 (twTo l k) := by
  induction k with
  | zero => exact bytes_zero 16
  | succ k ih => exact bytes_set (ih (by omega)) k _ (by omega) (or_lt (by omega) (by have := car_lt l k h; omega))
theorem tw_bytes (l : List Nat) (h : ∀ k, gb l k < 256) : Bytes 16 (tw l) := by
  have b := twTo_bytes l h 16 (by omega)
  unfold tw; split
  · exact bytes_set b 0 _ (by omega) (lt_of_xor (b.2 0) (by omega))
  · exact b
end Go.Proofs.YtmidbmihadhgdaaDoor
