/- The document's bytes that stand from a place on in others: contract. Own work. -/
import Derived.Test.YtipdcocliefppaaDevMath
import Derived.Test.YtipdcocliefppaaMakeL
import Derived.Test.YtipdcocliefppaaRowsT
namespace Go.Proofs.Ytipdcocliefppaa
open Go.ChangeShapes Go.WideShapes Go.ChangeAt Go.RowKit
set_option maxHeartbeats 1000000 in
theorem rlaid_any (s b : List Nat) (a : Nat) (w : World) (hl : s.length ≤ 16777216) (ha : a + b.length ≤ 33554432) :
    Calls Try.prog 49 #[.string (bstr s), .int .i64 (a : Int), .string (bstr b)] w fun e w' => e = .returned (.string (bstr (DM.laid s a b))) ∧ Below w.heap.size w w' := by
  by_cases hb : b.length = 0
  · obtain rfl : b = [] := List.length_eq_zero_iff.1 hb
    rw [DM.laid_nil]
    have h0 : (bstr []).size = 0 := bstr_size []
    go_enter Try.func49, Try.ntmps49
    go_wp2_with fail
    go_ret
    exact ⟨rfl, Below.refl _ _⟩
  · have hbn : b ≠ [] := fun e => hb (by rw [e]; rfl)
    have hS := bstr_size s
    have hZ := bstr_size b
    obtain ⟨X, hX⟩ : ∃ X, X = bstr s := ⟨_, rfl⟩
    obtain ⟨Y, hY⟩ : ∃ Y, Y = bstr b := ⟨_, rfl⟩
    rw [← hX] at hS
    rw [← hY] at hZ
    rw [← hX, ← hY]
    have hb0 : ¬ (b.length : Int) = 0 := by omega
    by_cases h1 : s.length < a
    · have g1 : (s.length : Int) < (a : Int) := by omega
      obtain ⟨n, hn⟩ : ∃ n, n = a - s.length := ⟨_, rfl⟩
      have g2 : wrap64 ((a : Int) - (s.length : Int)) = (n : Int) := by rw [wrap64]; omega
      have g2' : IntKind.i64.wrap ((a : Int) - (s.length : Int)) = (n : Int) := by rw [IntKind.wrap_i64]; omega
      obtain ⟨Z, hz⟩ : ∃ Z, Z = bstr (List.replicate n 0) := ⟨_, rfl⟩
      have hzs : Z.size = n := by rw [hz, bstr_size, List.length_replicate]
      have g4 : ¬ (a : Int) + (b.length : Int) < (s.length : Int) + (n : Int) := by omega
      have g5 : (a : Int) ≤ (s.length : Int) + (n : Int) := by omega
      have g6 : ¬ 9223372036854775807 < s.length + n := by omega
      have g7 : ¬ 9223372036854775807 < min a (s.length + n) + b.length := by omega
      have hnb : n ≤ 33554432 := by omega
      have fin : (X ++ Z).extract 0 a ++ Y ++ ⟨#[]⟩ = bstr (DM.laid s a b) := by
        rw [hX, hY, hz, bstr_join, bstr_head, bstr_join, show (⟨#[]⟩ : ByteArray) = bstr [] from rfl, bstr_join]
        unfold DM.laid
        rw [if_neg hbn, ← hn, List.drop_eq_nil_of_le (by omega)]
      clear hX hY hb hl ha hbn hn
      have FIN := Lib.hid fin
      have HZ := Lib.hid hz
      clear fin hz
      go_enter Try.func49, Try.ntmps49
      go_wp2_with (refine wpList_make_bytes rfl _ _ rfl w.heap.size n (by omega) rfl rfl (Nat.le_refl _) ?_; intro w1 o1 b1; have B1 := Lib.hid b1; have hc := o1.rd.str; rw [← HZ.out] at hc; clear o1 b1)
      go_ret
      exact ⟨by rw [← FIN.out]; rfl, B1.out⟩
    · have g1 : ¬ (s.length : Int) < (a : Int) := by omega
      have g5 : (a : Int) ≤ (s.length : Int) := by omega
      by_cases h2 : a + b.length < s.length
      · have g4 : (a : Int) + (b.length : Int) < (s.length : Int) := by omega
        have g4' : (a : Int) + (b.length : Int) ≤ (s.length : Int) := by omega
        have g7 : ¬ 9223372036854775807 < min a s.length + b.length := by omega
        have g8 : ¬ 9223372036854775807 < min a s.length + b.length + (s.length - (a + b.length)) := by omega
        have fin : X.extract 0 a ++ Y ++ X.extract (a + b.length) s.length = bstr (DM.laid s a b) := by
          rw [← hS, hX, hY, bstr_head, bstr_tail, bstr_join, bstr_join]
          unfold DM.laid
          rw [if_neg hbn, List.take_append_of_le_length (by omega)]
        clear hX hY hb hl ha hbn
        have FIN := Lib.hid fin
        clear fin
        go_enter Try.func49, Try.ntmps49
        go_wp2_with fail
        go_ret
        exact ⟨by rw [← FIN.out]; rfl, Below.refl _ _⟩
      · have g4 : ¬ (a : Int) + (b.length : Int) < (s.length : Int) := by omega
        have g7 : ¬ 9223372036854775807 < min a s.length + b.length := by omega
        have fin : X.extract 0 a ++ Y ++ ⟨#[]⟩ = bstr (DM.laid s a b) := by
          rw [hX, hY, bstr_head, bstr_join, show (⟨#[]⟩ : ByteArray) = bstr [] from rfl, bstr_join]
          unfold DM.laid
          rw [if_neg hbn, List.take_append_of_le_length (by omega), List.drop_eq_nil_of_le (by omega : s.length ≤ a + b.length)]
        clear hX hY hb hl ha hbn
        have FIN := Lib.hid fin
        clear fin
        go_enter Try.func49, Try.ntmps49
        go_wp2_with fail
        go_ret
        exact ⟨by rw [← FIN.out]; rfl, Below.refl _ _⟩
end Go.Proofs.Ytipdcocliefppaa
