/- Package alloc's Mark and Clear at a cluster that is there: contracts. Own work. -/
import Derived.Test.YtlckhlcccifbfaaDoorAlP
import Derived.StillTailTactics
namespace Go.Proofs.YtlckhlcccifbfaaDoor
open Go.ChangeShapes Go.WideShapes Go.ChangeAt Go.RowKit
/-- One word is stored. -/
theorem Al.stored {w : World} {b g T : Nat} {ws : List Nat} (h : Al w b g T ws) (j x : Nat) : Al (w.setCell ⟨g, j, none⟩ (.int .u64 (x : Int))) b g T (ws.set j x) := by
  refine ⟨?_, ?_, h.apart⟩
  · rw [List.length_set]; exact h.set.other _ _ h.apart
  · rw [← row64_set]; exact h.words.set j _
theorem off_bit (x i p : Nat) (hx : x < 18446744073709551616) (hi : i < 64) (hp : p = 2 ^ i) (j : Nat) : (x &&& (18446744073709551615 - p)).testBit j = (x.testBit j && decide (j ≠ i)) := by
  rw [Nat.testBit_and]
  have hp1 : p < 2 ^ 64 := by rw [hp]; exact Nat.pow_lt_pow_right (by omega) hi
  have e : 18446744073709551615 - p = 2 ^ 64 - (p + 1) := by omega
  rw [e, Nat.testBit_two_pow_sub_succ hp1, hp, Nat.testBit_two_pow]
  by_cases hj : j < 64
  · congr 1
    by_cases q : i = j
    · simp [hj, q]
    · have : ¬ j = i := fun h => q h.symm
      simp [hj, q, this]
  · have : x.testBit j = false := Nat.testBit_lt_two_pow (Nat.lt_of_lt_of_le hx (by have : 2 ^ 64 ≤ 2 ^ j := Nat.pow_le_pow_right (by omega) (by omega); simpa using this))
    simp [this]
set_option maxHeartbeats 1000000 in
theorem amark_ok (b g T n : Nat) (u : Nat → Bool) (w : World) (h : Sets w b g T u) (hn : n < T) (hu : u n = false) : Calls Tryd.prog 16 #[.pointer (some ⟨b, 0, none⟩), .int .u32 (n : Int)] w fun e w' => e = .returned (.int .i64 0) ∧ Sets w' b g T (AL.mark T u n) ∧ w.grownBy w' (some g) := by
  have hn32 : n < 4294967296 := by have := h.most; omega
  have HT := Lib.hid (athere_any b g T n u w h)
  have HH := Lib.hid (ahas_any b g T n u w hn32 h)
  obtain ⟨ws, hA, hR⟩ := h
  have hd : decide (n < T) = true := by simp; omega
  rw [hd] at HT
  rw [hu] at HH
  have hl := hR.at_ n hn
  have hwd := hR.word (n / 64)
  have hM := hR.mark n hn
  obtain ⟨x, hx⟩ : ∃ x, x = ws.getD (n / 64) 0 := ⟨_, rfl⟩
  obtain ⟨p, hp⟩ : ∃ p : Nat, p = 2 ^ (n % 64) := ⟨_, rfl⟩
  have hp1 := AL.bit_lt (n % 64) (Nat.mod_lt _ (by omega))
  rw [← hx] at hwd hM
  rw [← hp] at hp1 hM
  have hor := u64_or_nat x p hwd hp1
  have hq : ((n : Int) / 64).toNat = n / 64 := by omega
  have hq1 : (n : Int) / 64 < (ws.length : Int) := by omega
  have hq2 : (0 : Int) ≤ (n : Int) / 64 := by omega
  have hwr : IntKind.u32.wrap ((n : Int) / 64) = (n : Int) / 64 := by simp [IntKind.wrap, IntKind.signed, IntKind.bits]; omega
  have HP := Lib.hid hp
  have HX := Lib.hid hx
  have HA := Lib.hid hA
  have HM := Lib.hid hM
  obtain ⟨m, hm⟩ : ∃ m, m = x ||| p := ⟨_, rfl⟩
  rw [← hm] at hor HM
  clear hd hA hR hx hp hm hM
  go_enter Tryd.func16, Tryd.ntmps16
  go_wp2_with (first
    | (go_at_call 28; (with_reducible refine HT.out.mono ?_); rintro e1 w1 ⟨rfl, hw1⟩; subst w1)
    | (go_at_call 18; (with_reducible refine HH.out.mono ?_); rintro e1 w1 ⟨rfl, m1, hw1⟩; have b1 := Lib.hid (show Below w.heap.size w w1 by rw [hw1]; exact below_dN (Below.refl _ _) _); have A1 := Lib.hid (HA.out.below b1.out); have c1 := A1.out.slice; have c2 := A1.out.word (n / 64) hl; have f2 := A1.out.words.free (n / 64); rw [← HX.out] at c2; clear hw1))
  refine wp_region_still_tail 12 (by kernel_rfl) (by kernel_rfl) ?_
  simp only [List.take_succ_cons, List.take_zero, List.drop_succ_cons, List.drop_zero]
  iterate 9 still_step
  still_call (abit_p n p HP.out _)
  iterate 2 still_step
  refine wpStill_nil ?_
  change wpList _ _ _ _ _ w1.drew
  obtain ⟨w2, hw2⟩ : ∃ w2, w2 = w1.drew := ⟨_, rfl⟩
  have A2 := Lib.hid (show Al w2 b g T ws by rw [hw2]; exact A1.out.below (by exact (Below.refl _ _).drew))
  have B2 := Lib.hid (show Below w.heap.size w w2 by rw [hw2]; exact b1.out.drew)
  have f3 := A2.out.words.free (n / 64)
  have c3 := A2.out.word (n / 64) hl
  rw [← hw2]
  clear hw2 f2 c1 c2
  go_wp2_with fail
  go_ret
  refine ⟨rfl, ⟨_, A2.out.stored (n / 64) m, HM.out⟩, only_set (grown_of_below B2.out _) (.inl rfl) _⟩
set_option maxHeartbeats 1000000 in
theorem aclear_ok (b g T n : Nat) (u : Nat → Bool) (w : World) (h : Sets w b g T u) (hn : n < T) (hu : u n = true) : Calls Tryd.prog 17 #[.pointer (some ⟨b, 0, none⟩), .int .u32 (n : Int)] w fun e w' => e = .returned (.int .i64 0) ∧ Sets w' b g T (AL.clear u n) ∧ w.grownBy w' (some g) := by
  have hn32 : n < 4294967296 := by have := h.most; omega
  have HT := Lib.hid (athere_any b g T n u w h)
  have HH := Lib.hid (ahas_any b g T n u w hn32 h)
  obtain ⟨ws, hA, hR⟩ := h
  have hd : decide (n < T) = true := by simp; omega
  rw [hd] at HT
  rw [hu] at HH
  have hl := hR.at_ n hn
  have hwd := hR.word (n / 64)
  obtain ⟨x, hx⟩ : ∃ x, x = ws.getD (n / 64) 0 := ⟨_, rfl⟩
  obtain ⟨p, hp⟩ : ∃ p : Nat, p = 2 ^ (n % 64) := ⟨_, rfl⟩
  have hp1 := AL.bit_lt (n % 64) (Nat.mod_lt _ (by omega))
  have hM := hR.clear n (ws.getD (n / 64) 0 &&& (18446744073709551615 - 2 ^ (n % 64))) hn (Nat.lt_of_le_of_lt Nat.and_le_left hwd) (fun j => off_bit _ (n % 64) _ hwd (Nat.mod_lt _ (by omega)) rfl j)
  rw [← hx] at hwd hM
  rw [← hp] at hp1 hM
  have hor := u64_andNot_nat x p hwd hp1
  have hq : ((n : Int) / 64).toNat = n / 64 := by omega
  have hq1 : (n : Int) / 64 < (ws.length : Int) := by omega
  have hq2 : (0 : Int) ≤ (n : Int) / 64 := by omega
  have hwr : IntKind.u32.wrap ((n : Int) / 64) = (n : Int) / 64 := by simp [IntKind.wrap, IntKind.signed, IntKind.bits]; omega
  have HP := Lib.hid hp
  have HX := Lib.hid hx
  have HA := Lib.hid hA
  have HM := Lib.hid hM
  obtain ⟨m, hm⟩ : ∃ m, m = x &&& (18446744073709551615 - p) := ⟨_, rfl⟩
  rw [← hm] at hor HM
  clear hd hA hR hx hp hm hM
  go_enter Tryd.func17, Tryd.ntmps17
  go_wp2_with (first
    | (go_at_call 28; (with_reducible refine HT.out.mono ?_); rintro e1 w1 ⟨rfl, hw1⟩; subst w1)
    | (go_at_call 18; (with_reducible refine HH.out.mono ?_); rintro e1 w1 ⟨rfl, m1, hw1⟩; have b1 := Lib.hid (show Below w.heap.size w w1 by rw [hw1]; exact below_dN (Below.refl _ _) _); have A1 := Lib.hid (HA.out.below b1.out); have c1 := A1.out.slice; have c2 := A1.out.word (n / 64) hl; have f2 := A1.out.words.free (n / 64); rw [← HX.out] at c2; clear hw1))
  refine wp_region_still_tail 12 (by kernel_rfl) (by kernel_rfl) ?_
  simp only [List.take_succ_cons, List.take_zero, List.drop_succ_cons, List.drop_zero]
  iterate 9 still_step
  still_call (abit_p n p HP.out _)
  iterate 2 still_step
  refine wpStill_nil ?_
  change wpList _ _ _ _ _ w1.drew
  obtain ⟨w2, hw2⟩ : ∃ w2, w2 = w1.drew := ⟨_, rfl⟩
  have A2 := Lib.hid (show Al w2 b g T ws by rw [hw2]; exact A1.out.below (by exact (Below.refl _ _).drew))
  have B2 := Lib.hid (show Below w.heap.size w w2 by rw [hw2]; exact b1.out.drew)
  have f3 := A2.out.words.free (n / 64)
  have c3 := A2.out.word (n / 64) hl
  rw [← hw2]
  clear hw2 f2 c1 c2
  go_wp2_with fail
  go_ret
  refine ⟨rfl, ⟨_, A2.out.stored (n / 64) m, HM.out⟩, only_set (grown_of_below B2.out _) (.inl rfl) _⟩
theorem amark_any (b g T n : Nat) (u : Nat → Bool) (w : World) (h : Sets w b g T u) : Calls Tryd.prog 16 #[.pointer (some ⟨b, 0, none⟩), .int .u32 (n : Int)] w fun e w' => e = .returned (.int .i64 ((AL.merr T u n : Nat) : Int)) ∧ Sets w' b g T (AL.mark T u n) ∧ w.grownBy w' (some g) := by
  unfold AL.merr
  by_cases h1 : T ≤ n
  · rw [if_pos h1, AL.mark_same T u n (.inl h1)]
    exact (amark_out b g T n u w h h1).mono fun e w' ⟨he, hw⟩ => by subst hw; exact ⟨he, h, World.grownBy.refl w' _⟩
  · rw [if_neg h1]
    by_cases h2 : u n = true
    · rw [if_pos h2, AL.mark_same T u n (.inr h2)]
      refine (amark_is b g T n u w h (by omega) h2).mono fun e w' ⟨he, m, hw⟩ => ?_
      subst hw
      exact ⟨he, h.drewN m, grown_of_below (below_dN (Below.refl _ _) m) _⟩
    · rw [if_neg h2]
      exact amark_ok b g T n u w h (by omega) (by simpa using h2)
theorem aclear_any (b g T n : Nat) (u : Nat → Bool) (w : World) (h : Sets w b g T u) : Calls Tryd.prog 17 #[.pointer (some ⟨b, 0, none⟩), .int .u32 (n : Int)] w fun e w' => e = .returned (.int .i64 ((AL.cerr T u n : Nat) : Int)) ∧ Sets w' b g T (AL.clear u n) ∧ w.grownBy w' (some g) := by
  unfold AL.cerr
  by_cases h1 : T ≤ n
  · rw [if_pos h1, AL.clear_same u n (h.out n h1)]
    exact (aclear_out b g T n u w h h1).mono fun e w' ⟨he, hw⟩ => by subst hw; exact ⟨he, h, World.grownBy.refl w' _⟩
  · rw [if_neg h1]
    by_cases h2 : u n = true
    · rw [if_pos h2]
      exact aclear_ok b g T n u w h (by omega) h2
    · rw [if_neg h2, AL.clear_same u n (by simpa using h2)]
      refine (aclear_not b g T n u w h (by omega) (by simpa using h2)).mono fun e w' ⟨he, m, hw⟩ => ?_
      subst hw
      exact ⟨he, h.drewN m, grown_of_below (below_dN (Below.refl _ _) m) _⟩
end Go.Proofs.YtlckhlcccifbfaaDoor
