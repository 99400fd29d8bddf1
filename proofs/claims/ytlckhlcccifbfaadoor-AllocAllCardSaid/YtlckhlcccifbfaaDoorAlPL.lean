/- Package alloc's lowest, Used and Free: contracts. Own work. -/
import Derived.Test.YtlckhlcccifbfaaDoorAlPN
import Derived.LoopTactic
import Derived.Deep.DeepCutAuto
namespace Go.Proofs.YtlckhlcccifbfaaDoor
open Go.ChangeShapes Go.WideShapes Go.ChangeAt Go.RowKit
theorem aused_nil (w : World) : Calls Tryd.prog 19 #[.pointer none] w fun e w' => e = .returned (.int .i64 0) ∧ w' = w := by
  go_enter Tryd.func19, Tryd.ntmps19
  go_wp2_with fail
  go_ret
  exact ⟨rfl, rfl⟩
set_option maxHeartbeats 400000 in
theorem aused_any (b g T : Nat) (u : Nat → Bool) (w : World) (h : Sets w b g T u) : Calls Tryd.prog 19 #[.pointer (some ⟨b, 0, none⟩)] w fun e w' => e = .returned (.int .i64 (((AL.lst T u).length : Nat) : Int)) ∧ w' = w := by
  obtain ⟨ws, hA, hR⟩ := h
  have c1 := hA.slice
  rw [← hR.list]
  have hlen : ws.length ≤ 1024 := by have := hR.most; have := hR.len; omega
  have HA := Lib.hid hA
  have HR := Lib.hid hR
  clear hA hR
  go_enter Tryd.func19, Tryd.ntmps19
  go_wp2_with fail
  go_loopw [3, 13] (fun s i wr => ∃ k : Nat, k ≤ ws.length ∧ i = .int .i64 (k : Int) ∧ s = .int .i64 (((AL.upto ws k).length : Nat) : Int) ∧ w = wr) (fun _ i _ => ws.length - (intOf i).toNat)
  case atStart => exact ⟨0, Nat.zero_le _, rfl, rfl, rfl⟩
  case round =>
    obtain ⟨k, hk, hi, hs, hw⟩ := hrel
    subst hi; subst hs; subst hw
    by_cases hlt : k < ws.length
    · have c2 := HA.out.word k hlt
      have kl : (k : Int) < (ws.length : Int) := by omega
      have hx := HR.out.word k
      have hup := AL.upto_len ws k
      have hon := AL.ones_upto ws k
      have hup2 := AL.upto_len ws (k + 1)
      obtain ⟨x, hxe⟩ : ∃ x, x = ws.getD k 0 := ⟨_, rfl⟩
      rw [← hxe] at c2 hx hon
      obtain ⟨a, ha⟩ : ∃ a, a = (AL.upto ws k).length := ⟨_, rfl⟩
      rw [← ha] at hup hon
      obtain ⟨o, ho⟩ : ∃ o, o = AL.ones x := ⟨_, rfl⟩
      rw [← ho] at hon
      rw [hon] at hup2
      have HO := Lib.hid ho
      have HON := Lib.hid hon
      have HXE := Lib.hid ha
      clear hxe ha ho hon
      rw [← HXE.out]
      go_wp2_with (go_at_call 30; refine (ones_any x hx _).mono ?_; rintro e1 w1 ⟨rfl, hw1⟩; subst w1; rw [← HO.out])
      exact ⟨⟨k + 1, by omega, by go_num, by rw [HON.out]; go_num, trivial⟩, by simp [intOf]; omega⟩
    · obtain rfl : k = ws.length := by omega
      go_wp2_with fail
      go_ret
      exact ⟨rfl, rfl⟩
theorem afree_nil (w : World) : Calls Tryd.prog 20 #[.pointer none] w fun e w' => e = .returned (.int .i64 0) ∧ w' = w := by
  go_enter Tryd.func20, Tryd.ntmps20
  go_wp2_with (first
    | (go_at_call 21; refine (atotal_nil _).mono ?_; rintro e1 w1 ⟨rfl, hw1⟩; subst w1)
    | (go_at_call 19; refine (aused_nil _).mono ?_; rintro e1 w1 ⟨rfl, hw1⟩; subst w1))
  go_ret
  exact ⟨rfl, rfl⟩
theorem afree_any (b g T : Nat) (u : Nat → Bool) (w : World) (h : Sets w b g T u) : Calls Tryd.prog 20 #[.pointer (some ⟨b, 0, none⟩)] w fun e w' => e = .returned (.int .i64 (((T - (AL.lst T u).length : Nat) : Nat) : Int)) ∧ w' = w := by
  have H1 := Lib.hid (atotal_any b g T u w h)
  have H2 := Lib.hid (aused_any b g T u w h)
  have hl := AL.lst_len T u
  have hT := h.most
  obtain ⟨k, hk⟩ : ∃ k, k = (AL.lst T u).length := ⟨_, rfl⟩
  rw [← hk] at hl H2 ⊢
  obtain ⟨d, hd⟩ : ∃ d, T - k = d := ⟨_, rfl⟩
  rw [hd]
  have hd2 : (T : Int) - (k : Int) = (d : Int) := by omega
  clear hk h hd
  go_enter Tryd.func20, Tryd.ntmps20
  go_wp2_with (first
    | (go_at_call 21; refine H1.out.mono ?_; rintro e1 w1 ⟨rfl, hw1⟩; subst w1)
    | (go_at_call 19; refine H2.out.mono ?_; rintro e1 w1 ⟨rfl, hw1⟩; subst w1))
  go_ret
  exact ⟨rfl, rfl⟩
theorem not_word (x : Nat) (hx : x < 18446744073709551616) : bits .xor .u64 (if IntKind.u64.signed = true then -1 else IntKind.u64.max) (x : Int) = ((18446744073709551615 - x : Nat) : Int) := by
  have e : (if IntKind.u64.signed = true then (-1 : Int) else IntKind.u64.max) = ((18446744073709551615 : Nat) : Int) := by decide
  rw [e, u64_xor_nat _ x (by omega) hx]
  congr 1
  apply Nat.eq_of_testBit_eq
  intro i
  rw [Nat.testBit_xor]
  have e2 : (18446744073709551615 : Nat) = 2 ^ 64 - 1 := by decide
  rw [e2, Nat.testBit_two_pow_sub_one, show 2 ^ 64 - 1 - x = 2 ^ 64 - (x + 1) by omega, Nat.testBit_two_pow_sub_succ (by simpa using hx)]
  by_cases hi : i < 64
  · simp [hi]
  · have : x.testBit i = false := Nat.testBit_lt_two_pow (Nat.lt_of_lt_of_le hx (by have : 2 ^ 64 ≤ 2 ^ i := Nat.pow_le_pow_right (by omega) (by omega); simpa using this))
    simp [hi, this]
set_option maxHeartbeats 400000 in
theorem alowest_any (b g T : Nat) (u : Nat → Bool) (w : World) (h : Sets w b g T u) (hT : TabD w) : Calls Tryd.prog 27 #[.pointer (some ⟨b, 0, none⟩)] w fun e w' => ∃ n, AL.Low u n ∧ e = .returned (.int .u32 ((n : Nat) : Int)) ∧ w' = w := by
  obtain ⟨ws, hA, hR⟩ := h
  have c1 := hA.slice
  have hlen : ws.length ≤ 1024 := by have := hR.most; have := hR.len; omega
  have HA := Lib.hid hA
  have HR := Lib.hid hR
  have HT := Lib.hid hT
  clear hA hR hT
  go_enter Tryd.func27, Tryd.ntmps27
  go_wp2_with fail
  go_loopw [11] (fun i wr => ∃ k : Nat, k ≤ ws.length ∧ i = .int .i64 (k : Int) ∧ (∀ n, n < 64 * k → u n = true) ∧ w = wr) (fun i _ => ws.length - (intOf i).toNat)
  case atStart => exact ⟨0, Nat.zero_le _, rfl, fun n hn => absurd hn (by omega), rfl⟩
  case round =>
    obtain ⟨k, hk, hi, hf, hw⟩ := hrel
    subst hi; subst hw
    have HF := Lib.hid hf
    clear hf
    by_cases hlt : k < ws.length
    · have c2 := HA.out.word k hlt
      have kl : (k : Int) < (ws.length : Int) := by omega
      have hx := HR.out.word k
      obtain ⟨f, hfe⟩ : ∃ f, f = 18446744073709551615 - ws.getD k 0 := ⟨_, rfl⟩
      by_cases h0 : f = 0
      · have hN := AL.low_next HR.out k HF.out (by rw [← hfe]; exact h0)
        have HN := Lib.hid hN
        obtain ⟨x, hxe⟩ : ∃ x, x = ws.getD k 0 := ⟨_, rfl⟩
        rw [← hxe] at c2 hx hfe
        have hxr := not_word x hx
        rw [← hfe, h0] at hxr
        clear hN hxe
        go_wp2_with fail
        exact ⟨⟨k + 1, by omega, by go_num, HN.out, trivial⟩, by simp [intOf]; omega⟩
      · obtain ⟨hL, hl64⟩ := AL.low_here HR.out k HF.out (by rw [← hfe]; exact h0)
        rw [← hfe] at hL hl64
        have HL := Lib.hid hL
        obtain ⟨x, hxe⟩ : ∃ x, x = ws.getD k 0 := ⟨_, rfl⟩
        rw [← hxe] at c2 hx hfe
        have hxr := not_word x hx
        rw [← hfe] at hxr
        have hf64 : f < 18446744073709551616 := by omega
        have h0I : ¬ (f : Int) = 0 := by omega
        obtain ⟨c, hc⟩ : ∃ c, c = Lib.ctz 64 f := ⟨_, rfl⟩
        rw [← hc] at HL hl64
        have HC := Lib.hid hc
        clear hL hxe hfe hc
        go_wp2_with (go_at_call 31; refine (tz_any f h0 hf64 _ HT.out).mono ?_; rintro e1 w1 ⟨rfl, hw1⟩; subst w1; rw [← HC.out])
        go_ret
        refine ⟨_, HL.out, ?_, rfl⟩
        exact congrArg (fun z => Ending.returned (Value.int .u32 z)) (by omega)
    · obtain rfl : k = ws.length := by omega
      have hL := AL.low_end HR.out HF.out
      have HL := Lib.hid hL
      clear hL
      go_wp2_with fail
      go_ret
      refine ⟨_, HL.out, ?_, rfl⟩
      exact congrArg (fun z => Ending.returned (Value.int .u32 z)) (by omega)
theorem atake_nil (w : World) : Calls Tryd.prog 15 #[.pointer none] w fun e w' => e = .returned (.tuple #[.int .u32 0, .int .i64 1]) ∧ w' = w := by
  go_enter Tryd.func15, Tryd.ntmps15
  go_wp2_with fail
  go_ret2
  exact ⟨rfl, rfl⟩
/-- What a Take tells, and its error: the lowest free one n. -/
def tnum (T n : Nat) : Nat := if n < T then n else 0
def terr (T n : Nat) : Nat := if n < T then 0 else 21
theorem atake_any (b g T : Nat) (u : Nat → Bool) (w : World) (h : Sets w b g T u) (hT : TabD w) : Calls Tryd.prog 15 #[.pointer (some ⟨b, 0, none⟩)] w fun e w' => ∃ n, AL.Low u n ∧ e = .returned (.tuple #[.int .u32 ((tnum T n : Nat) : Int), .int .i64 ((terr T n : Nat) : Int)]) ∧ Sets w' b g T (AL.mark T u n) ∧ w.grownBy w' (some g) := by
  have HS := Lib.hid h
  have HL := Lib.hid (alowest_any b g T u w h hT)
  have hle : ∀ n, AL.Low u n → n ≤ T := fun n hn => by obtain ⟨ws, _, hR⟩ := h; exact hR.low hn
  have HE := Lib.hid hle
  have hout := h.out
  have HO := Lib.hid hout
  clear h hT hle hout
  go_enter Tryd.func15, Tryd.ntmps15
  go_upto_region 4 with (go_at_call 27; refine HL.out.mono ?_; rintro e1 w1 ⟨n, hn, rfl, hw1⟩; subst w1; have LN := Lib.hid hn; have le := HE.out n hn; have hu := hn.1; clear hn)
  have HM := Lib.hid (amark_any b g T n u w HS.out)
  by_cases hlt : n < T
  · have e1 : AL.merr T u n = 0 := by unfold AL.merr; rw [if_neg (by omega), if_neg (by rw [hu]; simp)]
    rw [e1] at HM
    clear e1
    go_wp2_with (go_at_call 16; refine HM.out.mono ?_; rintro e1 w1 ⟨rfl, s1, g1⟩; have S1 := Lib.hid s1; have G1 := Lib.hid g1; clear s1 g1)
    go_ret2
    refine ⟨n, LN.out, ?_, S1.out, G1.out⟩
    unfold tnum terr
    rw [if_pos hlt, if_pos hlt]
    rfl
  · have e1 : AL.merr T u n = 43 := by unfold AL.merr; rw [if_pos (by omega)]
    rw [e1] at HM
    clear e1
    go_wp2_with (go_at_call 16; refine HM.out.mono ?_; rintro e1 w1 ⟨rfl, s1, g1⟩; have S1 := Lib.hid s1; have G1 := Lib.hid g1; clear s1 g1)
    go_ret2
    refine ⟨n, LN.out, ?_, S1.out, G1.out⟩
    unfold tnum terr
    rw [if_neg hlt, if_neg hlt]
    rfl
end Go.Proofs.YtlckhlcccifbfaaDoor
