/- The laws' closed case: contract. Own work. -/
import Derived.Test.YtipdcocliefppaaDevDev
import Derived.Test.YtipdcocliefppaaMakeL
import Derived.Test.YtipdcocliefppaaRdConst
import Derived.Test.YtipdcocliefppaaOwnAt
import Derived.BigQuiet
import Derived.BigRegion
import Derived.Deep.DeepCutAuto
namespace Go.Proofs.Ytipdcocliefppaa
open Go.ChangeShapes Go.WideShapes Go.ChangeAt Go.RowKit
open DM
namespace DM
def onesTo (n k : Nat) : List Nat := List.replicate k 1 ++ List.replicate (n - k) 0
theorem onesTo_len (n k : Nat) (h : k ≤ n) : (onesTo n k).length = n := by unfold onesTo; rw [List.length_append, List.length_replicate, List.length_replicate]; omega
theorem onesTo_set (n k : Nat) (h : k < n) : (onesTo n k).set k 1 = onesTo n (k + 1) := by
  unfold onesTo
  rw [List.set_append_right _ _ (by simp), List.length_replicate, Nat.sub_self, show n - k = (n - (k + 1)) + 1 by omega, List.replicate_succ, List.set_cons_zero, List.replicate_succ', List.append_assoc]
  rfl
theorem onesTo_zero (n : Nat) : onesTo n 0 = List.replicate n 0 := by unfold onesTo; simp
theorem onesTo_all (n : Nat) : onesTo n n = List.replicate n 1 := by unfold onesTo; simp
def aw1 : DS := (write (new 2000) 0 (List.replicate 600 1)).1
def aw2 : DS := start aw1 [2]
theorem aw_write : (write (new 2000) 0 (List.replicate 600 1)).2 = 0 := by decide +kernel
theorem aw_loose : aw1.loose.length = 2 := by decide +kernel
theorem aw_size : aw2.seen.length = 600 := by decide +kernel
theorem aw_read : read aw2 511 2 = ([0, 1], 0) := by decide +kernel
end DM
theorem tame_new (n : Int) : Tame (DM.new n) := ⟨Ok.new n, Nat.zero_le _, Nat.zero_le _, by show 0 ≤ _; omega⟩
theorem tame_write {S : DS} (h : Tame S) (a : Int) (b : List Nat) (hb : ∀ k, gb b k < 256) (hs : S.steps + 1 ≤ 1000000) (hl : S.loose.length + (b.length / 512 + 2) ≤ 1000000) (hf : S.told = false) : Tame (DM.write S a b).1 := by
  refine ⟨h.ok.write a b hb, Nat.le_trans (write_steps S a b) hs, Nat.le_trans (write_loose S a b) hl, ?_⟩
  unfold DM.write
  split
  · exact h.after
  · split
    · exact h.after
    · split
      · exact h.after
      · unfold DM.step
        rw [if_pos hf]
        exact h.after
theorem tame_start {S : DS} (h : Tame S) (k : List Nat) : Tame (DM.start S k) := ⟨h.ok.start k, h.steps, Nat.zero_le _, by show 0 ≤ _; omega⟩
theorem str01 {w : World} {B : Nat} {y : Value} (h : Own w B y [0, 1]) : ∃ ya yc, y = .slice ya 2 yc ∧ (convert 33 9 (.slice ya 2 yc)).run Try.prog w = .ok (.string ⟨#[0, 1]⟩) w := by
  obtain ⟨ya, yc, rfl, _⟩ := h.rd.shape
  exact ⟨ya, yc, rfl, h.rd.str⟩
set_option maxHeartbeats 2000000 in
set_option maxRecDepth 100000 in
theorem dawake_any (w : World) : Calls Try.prog 9 #[] w fun e w' => e = .returned (.bool true) ∧ Below w.heap.size w w' := by
  have HN := Lib.hid (show Calls Try.prog 10 #[.int .i64 2000] w _ from dev_new 2000 (by omega) w.heap.size w (Nat.le_refl _))
  go_enter Try.func9, Try.ntmps9
  go_wp2_with (first
    | (go_at_call 10; refine HN.out.mono ?_; rintro e w1 ⟨d, rfl, dv, b1⟩; have D1 := Lib.hid dv; have B1 := Lib.hid b1; clear dv b1)
    | (refine wpList_make_bytes rfl _ _ rfl w1.heap.size 600 (by omega) rfl rfl (Nat.le_refl _) ?_; intro w2 o2 b2; have O2 := Lib.hid o2; have D2 := Lib.hid (D1.out.own b2); have B2 := Lib.hid (B1.out.on b2); have HZ2 := Lib.hid (o2.from w1.heap.size rfl); clear o2 b2))
  obtain ⟨g, hg⟩ : ∃ g, g = w1.heap.size := ⟨_, rfl⟩
  obtain ⟨A, hA⟩ : ∃ A : Nat → Prop, A = fun k => (w.heap.size ≤ k ∧ k < w.heap.size) ∨ (w1.heap.size ≤ k ∧ k < w2.heap.size) := ⟨_, rfl⟩
  have HA := Lib.hid (show A g by rw [hA, hg]; exact .inr ⟨Nat.le_refl _, HZ2.out.2⟩)
  have HWG := Lib.hid (show w.heap.size ≤ g by rw [hg]; exact B1.out.size)
  have D3 := D2.out
  rw [← hA] at D3
  have D3 := Lib.hid D3
  have O3 := O2.out
  rw [← hg] at O3 ⊢
  have O3 := Lib.hid O3
  clear hA hg D2 D1 O2 HZ2
  go_loopw [3] (fun i wr => ∃ k : Nat, k ≤ 600 ∧ i = .int .i64 (k : Int) ∧ Own wr g (.slice (some ⟨g, 0, none⟩) 600 600) (DM.onesTo 600 k) ∧ Dev w.heap.size A wr d (DM.new 2000) ∧ Below w.heap.size w wr) (fun i _ => 600 - (intOf i).toNat)
  case atStart => exact ⟨0, by omega, rfl, by rw [DM.onesTo_zero]; exact O3.out, D3.out, B2.out⟩
  case round =>
    clear O3 D3 B2
    obtain ⟨k, hk, rfl, o, dv, bb⟩ := hrel
    have hl := DM.onesTo_len 600 k hk
    by_cases hk2 : k < 600
    · have cu := o.cell hl.symm k (by rw [hl]; exact hk2)
      have fu := o.free hl.symm k
      have OO := Lib.hid o
      have DD := Lib.hid dv
      have BB := Lib.hid bb
      have HL := Lib.hid hl
      clear o dv bb hl
      go_wp2_with fail
      have hg1 := grownBy_cell wr g k (.int .u8 1)
      have o2 : Own (wr.setCell ⟨g, k, none⟩ (.int .u8 1)) g (.slice (some ⟨g, 0, none⟩) 600 600) (DM.onesTo 600 (k + 1)) := by
        have hl2 := HL.out
        have h := OO.out
        have hst := DM.onesTo_set 600 k hk2
        obtain ⟨L, hL⟩ : ∃ L, L = DM.onesTo 600 k := ⟨_, rfl⟩
        rw [← hL] at h hl2 hst
        rw [← hst]
        obtain ⟨n, hn⟩ : ∃ n, n = 600 := ⟨_, rfl⟩
        rw [← hn] at h hl2 ⊢
        subst hl2
        exact h.set k 1 (by omega) (by omega)
      exact ⟨⟨k + 1, by omega, by go_num, o2, DD.out.turn hg1 (fun x hx => by rw [← Option.some.inj hx]; exact HA.out), BB.out.setCell (p := ⟨g, k, none⟩) HWG.out _⟩, by simp [intOf]; omega⟩
    · obtain rfl : k = 600 := by omega
      rw [DM.onesTo_all] at o
      have hb1 : ∀ j, gb (List.replicate 600 1) j < 256 := o.2.1
      have HW := Lib.hid (show Calls Try.prog 19 #[.pointer (some ⟨d, 0, none⟩), .int .i64 0, .slice (some ⟨g, 0, none⟩) 600 600] wr fun e w' => e = .returned (.int .i64 0) ∧ Dev w.heap.size A w' d DM.aw1 ∧ Kept w.heap.size A wr w' from by
        have h := dev_write w.heap.size A d (DM.new 2000) wr dv (tame_new 2000) 0 (by omega) (.slice (some ⟨g, 0, none⟩) 600 600) (List.replicate 600 1) o.rd (by rw [List.length_replicate]; omega) (fun _ x hx => .inr (by rw [← Option.some.inj hx]; exact HA.out))
        rw [DM.aw_write] at h
        exact h)
      have T1 := Lib.hid (show Tame DM.aw1 from tame_write (tame_new 2000) 0 _ hb1 (by decide) (by decide) rfl)
      have BB := Lib.hid bb
      have SZ := Lib.hid dv.size
      clear o dv bb hl hb1
      go_upto_region 10 with (first
        | (go_at_call 19; (with_reducible refine HW.out.mono ?_); rintro e w5 ⟨rfl, d5, k5⟩; have D5 := Lib.hid d5; have B5 := Lib.hid (k5.below BB.out SZ.out); have HLO := Lib.hid (show Calls Try.prog 26 #[.pointer (some ⟨d, 0, none⟩)] w5 fun e w' => e = .returned (.int .i64 2) ∧ w' = w5 from by have h := dev_loose w.heap.size A d DM.aw1 w5 d5 T1.out; rw [DM.aw_loose] at h; exact h); clear d5 k5 HW)
        | (go_at_call 26; (with_reducible refine HLO.out.mono ?_); rintro e wz ⟨rfl, hq⟩; rw [hq]; clear hq wz HLO; have b6 := (Below.refl w5.heap.size w5).alloc (Nat.le_refl _) (.cells #[.int .u8 2] 5); have D6 := Lib.hid (D5.out.own b6); have r6 : Rd (w5.alloc (.cells #[.int .u8 2] 5)) (.slice (some ⟨w5.heap.size, 0, none⟩) 1 1) [2] := rd_const w5 [2] (small_bytes (by decide)) (by decide) 1 rfl _ rfl (0, 0); have B6 := Lib.hid (B5.out.on b6); have HS := Lib.hid (dev_start w.heap.size _ d DM.aw1 _ D6.out T1.out _ [2] r6 (fun _ x hx => .inr (.inr (by have e : w5.heap.size = x := Option.some.inj hx; simp; omega)))); clear b6 r6)
        | (go_at_call 15; (with_reducible refine HS.out.mono ?_); rintro e w7 ⟨rfl, d7, k7⟩; have D7 := Lib.hid d7; have B7 := Lib.hid (k7.below B6.out D6.out.size); have T7 := Lib.hid (tame_start T1.out [2]); clear d7 k7 HS))
      have HR := Lib.hid (show Calls Try.prog 18 #[.pointer (some ⟨d, 0, none⟩), .int .i64 511, .int .i64 2] w7 fun e w' => ∃ y, e = .returned (.tuple #[y, .int .i64 0]) ∧ Own w' w7.heap.size y [0, 1] ∧ Below w7.heap.size w7 w' from by
        have h := dev_read w.heap.size _ d DM.aw2 w7 D7.out T7.out 511 2 (by omega) (by omega)
        rw [DM.aw_read] at h
        exact h)
      go_wp2_with (first
        | (go_at_call 18; (with_reducible refine HR.out.mono ?_); rintro e w8 ⟨y, rfl, o8, b8⟩; obtain ⟨ya, yc, rfl, hstr⟩ := str01 o8; have B8 := Lib.hid (B7.out.on b8); have HSZ := Lib.hid (show Calls Try.prog 22 #[.pointer (some ⟨d, 0, none⟩)] w8 fun e w' => e = .returned (.int .i64 600) ∧ w' = w8 from by have h := dev_size w.heap.size _ d DM.aw2 w8 (D7.out.below b8) T7.out; rw [DM.aw_size] at h; exact h); clear b8 o8 HR)
        | (go_at_call 22; (with_reducible refine HSZ.out.mono ?_); rintro e wz ⟨rfl, hq⟩; rw [hq]; clear hq wz HSZ))
      go_ret
      exact ⟨rfl, B8.out⟩
end Go.Proofs.Ytipdcocliefppaa
