/- What is laid is read again: lists of bytes. Own work. -/
import Derived.Test.YtkagapgganoomaaRdrX
namespace Go.Proofs.Ytkagapgganoomaa
open Go.RowKit
theorem lookP_app (A R : List Nat) : lookP (A.length : Nat) (A ++ R).length = 0 := by
  unfold lookP; rw [List.length_append, if_neg (by omega), if_neg (by omega)]
theorem rpGot_app (A R : List Nat) {n : Int} (hn : n = (A.length : Nat)) : rpGot (A ++ R) 0 n = A := by
  subst hn
  unfold rpGot; rw [if_pos ⟨rfl, lookP_app A R⟩, Int.toNat_natCast, List.take_left]
theorem rpLeft_app (A R : List Nat) {n : Int} (hn : n = (A.length : Nat)) : rpLeft (A ++ R) 0 n = R := by
  subst hn
  unfold rpLeft; rw [if_pos ⟨rfl, lookP_app A R⟩, Int.toNat_natCast, List.drop_left]
theorem rpErr_app (A R : List Nat) {n : Int} (hn : n = (A.length : Nat)) : rpErr (A ++ R) 0 n = 0 := by
  subst hn
  unfold rpErr; rw [if_pos rfl, lookP_app A R]
theorem be_zero (n : Nat) : be n 0 = [] := rfl
theorem be_succ (n s : Nat) : be n (s + 1) = be (n / 256) s ++ [n % 256] := by
  unfold be
  rw [List.range_succ, List.map_append]
  congr 1
  · apply List.map_congr_left
    intro i hi
    rw [List.mem_range] at hi
    rw [Nat.div_div_eq_div_mul, show 256 * 256 ^ (s - 1 - i) = 256 ^ (s + 1 - 1 - i) by rw [← Nat.pow_succ']; congr 1; omega]
  · simp
theorem num_be (s : Nat) : ∀ n, n < 256 ^ s → s ≤ 8 → num (be n s) = n := by
  induction s with
  | zero => intro n h _; simp at h; subst h; rfl
  | succ s ih =>
    intro n h hs
    have hq : n / 256 < 256 ^ s := by rw [Nat.pow_succ] at h; omega
    rw [be_succ]
    unfold num
    rw [List.foldl_append]
    have e := ih (n / 256) hq (by omega)
    unfold num at e
    rw [e]
    show numStep (n / 256) (n % 256) = n
    have hb : 256 ^ s ≤ 256 ^ 7 := Nat.pow_le_pow_right (by omega) (by omega)
    have hc : (256 : Nat) ^ 7 = 72057594037927936 := by decide
    unfold numStep; omega
theorem lookT_app (s : List Nat) (R : List Nat) {m : Int} (hm : (s.length : Int) ≤ m) : lookT m (s.length :: (s ++ R)) = 0 := by
  unfold lookT
  have e : gb (s.length :: (s ++ R)) 0 = s.length := rfl
  rw [e, if_neg (by rw [List.length_cons, List.length_append]; omega), if_neg (by omega)]
theorem rtGot_app (s R : List Nat) {m : Int} (hm : (s.length : Int) ≤ m) : rtGot (s.length :: (s ++ R)) 0 m = s := by
  unfold rtGot
  rw [if_pos ⟨rfl, lookT_app s R hm⟩]
  show (s ++ R).take s.length = s
  rw [List.take_left]
theorem rtLeft_app (s R : List Nat) {m : Int} (hm : (s.length : Int) ≤ m) : rtLeft (s.length :: (s ++ R)) 0 m = R := by
  unfold rtLeft
  rw [if_pos ⟨rfl, lookT_app s R hm⟩]
  show ((s.length :: (s ++ R)).drop (1 + s.length)) = R
  rw [Nat.add_comm, List.drop_succ_cons, List.drop_left]
theorem rtErr_app (s R : List Nat) {m : Int} (hm : (s.length : Int) ≤ m) : rtErr (s.length :: (s ++ R)) 0 m = 0 := by
  unfold rtErr
  rw [if_pos rfl, lookT_app s R hm]
end Go.Proofs.Ytkagapgganoomaa
