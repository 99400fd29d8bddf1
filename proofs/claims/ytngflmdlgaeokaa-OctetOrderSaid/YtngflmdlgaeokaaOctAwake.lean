/- The closed case of the law of package octet: its contract. Own work. -/
import Derived.Test.YtngflmdlgaeokaaNumCalls
namespace Go.Proofs.Ytngflmdlgaeokaa
open Go.RowKit
theorem u16_of {a : Int} (h : (Lit.int .u16 a).wf = true) : ∃ n : Nat, n < 65536 ∧ a = (n : Int) := by
  have k : 0 ≤ a ∧ a ≤ 65535 := by simpa [Lit.wf, IntKind.min, IntKind.max, IntKind.signed, IntKind.bits] using h
  exact ⟨a.toNat, by omega, by omega⟩
theorem u32_of {a : Int} (h : (Lit.int .u32 a).wf = true) : ∃ n : Nat, n < 4294967296 ∧ a = (n : Int) := by
  have k : 0 ≤ a ∧ a ≤ 4294967295 := by simpa [Lit.wf, IntKind.min, IntKind.max, IntKind.signed, IntKind.bits] using h
  exact ⟨a.toNat, by omega, by omega⟩
theorem u64_of {a : Int} (h : (Lit.int .u64 a).wf = true) : ∃ n : Nat, n < 18446744073709551616 ∧ a = (n : Int) := by
  have k : 0 ≤ a ∧ a ≤ 18446744073709551615 := by simpa [Lit.wf, IntKind.min, IntKind.max, IntKind.signed, IntKind.bits] using h
  exact ⟨a.toNat, by omega, by omega⟩
theorem be258 : bstr (be 258 2) = ⟨#[1, 2]⟩ := by decide +kernel
set_option maxHeartbeats 400000 in
theorem awake_any (w : World) : Calls Try.prog 14 #[] w fun e w' => e = .returned (.bool true) ∧ Below w.heap.size w w' := by
  have h0 : Own (w.alloc (.cells #[.int .u8 1, .int .u8 2, .int .u8 3] 5)) w.heap.size (.slice (some ⟨w.heap.size, 0, none⟩) 3 3) [1, 2, 3] :=
    own_new w [1, 2, 3] (fun k => by match k with | 0 => decide | 1 => decide | 2 => decide | k + 3 => exact Nat.zero_lt_succ _) (by decide) rfl (Nat.le_refl _)
  have b0 : Below w.heap.size w (w.alloc (.cells #[.int .u8 1, .int .u8 2, .int .u8 3] 5)) := (Below.refl _ _).alloc (Nat.le_refl _) _
  have H0 := Lib.hid h0.rd
  have B0 := Lib.hid b0
  have g1 : num (rpGot [1, 2, 3] 0 2) = 258 := by decide +kernel
  have g2 : rpLeft [1, 2, 3] 0 2 = [3] := by decide +kernel
  have g3 : rpErr [1, 2, 3] 0 2 = 0 := by decide +kernel
  have hu : ∀ W rb, Rdr W rb [1, 2, 3] 0 → Calls Try.prog 26 #[.pointer (some ⟨rb, 0, none⟩)] W fun ev w' => ev = .returned (.int .u16 258) ∧ Rdr w' rb [3] 0 ∧ W.grownBy w' (some rb) := fun W rb hW => by
    have h := u16_any W rb [1, 2, 3] 0 hW
    rw [g1, g2, g3] at h
    exact h
  have HU := Lib.hid hu
  clear h0 b0 hu g1 g2 g3
  go_enter Try.func14, Try.ntmps14
  go_wp2_with (first
    | (go_at_call 21; refine (read_any _ _ [1, 2, 3] H0.out).mono ?_; rintro ev w1 ⟨rb, rfl, h1, h2, h3⟩; have H1 := Lib.hid h1; have H2 := Lib.hid h2; have H3 := Lib.hid h3; clear h1 h2 h3)
    | (go_at_call 10; refine (put16_any 258 (by omega) w1).mono ?_; rintro ev w2 ⟨v, rfl, k1, k2⟩; have s2 := k1.rd.str; rw [be258] at s2; have K1 := Lib.hid (H1.out.below k2); have K2 := Lib.hid k2; clear k1 k2)
    | (go_at_call 26; refine (HU.out w2 rb K1.out).mono ?_; rintro ev w3 ⟨rfl, q1, q2⟩; have Q1 := Lib.hid q1; have Q2 := Lib.hid q2; clear q1 q2)
    | (go_at_call 24; refine (left_any w3 rb [3] 0 Q1.out).mono ?_; rintro ev w4 ⟨rfl, rfl⟩))
  go_ret
  refine ⟨rfl, ?_⟩
  have b1 : Below w.heap.size w w2 := (B0.out.trans (H2.out.mono B0.out.size)).trans (K2.out.mono (B0.out.trans (H2.out.mono B0.out.size)).size)
  exact b1.grown Q2.out b1.size (fun k hk => by cases hk; exact Nat.le_trans B0.out.size H3.out)
end Go.Proofs.Ytngflmdlgaeokaa
