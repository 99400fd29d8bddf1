/- DeviceDown: the step that was told to goes down, done or not; from then on nothing is done until the power is given again. No condition. -/
import Derived.Test.YtipdcocliefppaaRows
import Derived.Test.YtipdcocliefppaaDevDown
import Derived.Test.YtipdcocliefppaaMem
import Derived.WalkKit
import Derived.ProofKit
import Derived.OpenShut
import Derived.SizedLaws
import Derived.Carry
import Derived.Deep.DeepHandedRow
import Derived.Deep.DeepWitnessRowRef
namespace Go.Proofs.Ytipdcocliefppaa.deviceDown
open Go.ChangeShapes Go.WideShapes Go.ChangeAt Go.RowKit

theorem own : ownKnob Try.prog.godebug = none := by kernel_rfl
set_option linter.unusedVariables false in
set_option maxHeartbeats 8000000 in
set_option maxRecDepth 100000 in
theorem walk (w : World) (a0 : Int) (w0 : (Lit.int .u8 a0).wf = true) (v1 : Value) (l1 : List Nat) (h1 : Rd w v1 l1) (a2 : Bool) :
    Calls Try.prog 7 #[.int .u8 a0, v1, .bool a2] w fun e w' => e = .returned (.bool true) ∧ Below w.heap.size w w' := by
  obtain ⟨nb, hnb, rfl⟩ : ∃ nb : Nat, nb < 256 ∧ a0 = (nb : Int) := by
    have k : 0 ≤ a0 ∧ a0 ≤ 255 := by simpa [Lit.wf, IntKind.min, IntKind.max, IntKind.signed, IntKind.bits] using w0
    exact ⟨a0.toNat, by omega, by omega⟩
  obtain ⟨va, vc, rfl, hvc⟩ := h1.shape
  have hfit := h1.fits
  by_cases hlen : l1.length ≤ 10000
  · by_cases hpos : 0 < l1.length
    · have hli : ¬ (10000 : Int) < (l1.length : Int) := by omega
      have hlz : ¬ (l1.length : Int) = 0 := by omega
      obtain ⟨n, hn⟩ : ∃ n, n = nb % 20 := ⟨_, rfl⟩
      have hni : (nb : Int) % 20 = (n : Int) := by omega
      have hn20 : n < 20 := by omega
      clear hn
      cases a2
      · have TD := Lib.hid (DM.dn_tame n false l1 (by omega) hlen h1.byte)
        have R1 := Lib.hid h1
        have HLEN := Lib.hid hlen
        have HN := Lib.hid (show Calls Try.prog 10 #[.int .i64 20000] w _ from dev_new 20000 (by omega) w.heap.size w (Nat.le_refl _))
        have HNB := Lib.hid hn20
        have HPOS := Lib.hid hpos
        clear h1 hlen hn20
        go_enter Try.func7, Try.ntmps7
        go_upto_region 4 with (go_at_call 10; refine HN.out.mono ?_; rintro e w1 ⟨d, rfl, dv, b1⟩; have D1 := Lib.hid (dv.weak (C := fun _ => False) nofun); have B1 := Lib.hid b1; have HF := Lib.hid (dev_fail w.heap.size (fun _ => False) d (DM.new 20000) w1 (dv.weak (C := fun _ => False) nofun) (tame_new 20000) (n : Int) (by have := HNB.out; omega) false); rewrite [DM.dd_fail] at HF; clear dv b1 HN)
        go_wp2_with (go_at_call 27; (with_reducible refine HF.out.mono ?_); rintro e w2 ⟨rfl, d2, k2⟩; have D2 := Lib.hid d2; have B2 := Lib.hid (k2.below B1.out D1.out.size); clear d2 k2 HF D1 B1)
        go_loopw [9] (fun i wr => ∃ k : Nat, k ≤ n ∧ i = .int .i64 (k : Int) ∧ Dev w.heap.size (fun _ => False) wr d (DM.dd n false k) ∧ Below w.heap.size w wr) (fun i _ => n - (intOf i).toNat)
        case atStart => exact ⟨0, Nat.zero_le _, rfl, D2.out, B2.out⟩
        case round =>
          clear D2 B2
          obtain ⟨k, hk, rfl, dv, bb⟩ := hrel
          have hn20 := HNB.out
          by_cases hk2 : k < n
          · have hbt := dev_beat w.heap.size (fun _ => False) d (DM.dd n false k) wr dv (DM.dd_tame n false k (by omega) hk)
            rw [DM.dd_beat n false k hk2] at hbt
            have HB := Lib.hid hbt
            have BB := Lib.hid bb
            have SZ := Lib.hid dv.size
            clear hbt dv bb
            go_wp2_with (go_at_call 21; (with_reducible refine HB.out.mono ?_); rintro e w3 ⟨rfl, d3, k3⟩; have D3 := Lib.hid d3; have B3 := Lib.hid (k3.below BB.out SZ.out); clear d3 k3 HB)
            exact ⟨⟨k + 1, by omega, by go_num, D3.out, B3.out⟩, by simp [intOf]; omega⟩
          · obtain rfl : k = n := by omega
            have hwr := dev_write w.heap.size (fun _ => False) d (DM.dd k false k) wr dv (DM.dd_tame k false k (by omega) hk) 0 (by omega) (.slice va l1.length vc) l1 (R1.out.below bb) (by have := HLEN.out; omega) (fun h0 g hg => .inl (rd_old R1.out h0 g hg))
            rw [DM.dd_write k false l1 HLEN.out] at hwr
            have HW := Lib.hid hwr
            have BB := Lib.hid bb
            have SZ := Lib.hid dv.size
            clear hwr dv bb
            obtain ⟨D, hD⟩ : ∃ D, D = DM.dn k false l1 := ⟨_, rfl⟩
            have HDD := Lib.hid hD
            have hst : D.steps = k + 1 := by rw [hD]; rfl
            have hdn : D.down = true := by rw [hD]; rfl
            rw [← hD] at HW TD
            clear hD
            have HST := Lib.hid hst
            have HDN := Lib.hid hdn
            clear hst hdn
            go_upto_region 14 with (first
              | (go_at_call 19; (with_reducible refine HW.out.mono ?_); rintro e w4 ⟨rfl, d4, k4⟩; have D4 := Lib.hid d4; have B4 := Lib.hid (k4.below BB.out SZ.out); have hdo := dev_down w.heap.size (fun _ => False) d D w4 d4 TD.out; rewrite [HDN.out] at hdo; have HO := Lib.hid hdo; have hw2 := dev_write w.heap.size (fun _ => False) d D w4 d4 TD.out 0 (by omega) (.slice va l1.length vc) l1 (R1.out.below B4.out) (by have := HLEN.out; omega) (fun h0 g hg => .inl (rd_old R1.out h0 g hg)); rewrite [DM.down_write D HDN.out] at hw2; have HW2 := Lib.hid hw2; clear d4 k4 hdo hw2 HW)
              | (go_at_call 25; (with_reducible refine HO.out.mono ?_); rintro e wz ⟨rfl, hq⟩; rw [hq]; clear hq wz HO)
              | (go_at_call 19; (with_reducible refine HW2.out.mono ?_); rintro e w5 ⟨rfl, d5, k5⟩; have D5 := Lib.hid d5; have B5 := Lib.hid (k5.below B4.out D4.out.size); have hsy := dev_sync w.heap.size (fun _ => False) d D w5 d5 TD.out; rewrite [DM.down_sync D HDN.out] at hsy; have HS := Lib.hid hsy; clear d5 k5 hsy HW2)
              | (go_at_call 20; (with_reducible refine HS.out.mono ?_); rintro e w6 ⟨rfl, d6, k6⟩; have D6 := Lib.hid d6; have B6 := Lib.hid (k6.below B5.out D5.out.size); have hbe := dev_beat w.heap.size (fun _ => False) d D w6 d6 TD.out; rewrite [DM.down_beat D HDN.out] at hbe; have HB := Lib.hid hbe; clear d6 k6 hbe HS)
              | (go_at_call 21; (with_reducible refine HB.out.mono ?_); rintro e w7 ⟨rfl, d7, k7⟩; have D7 := Lib.hid d7; have B7 := Lib.hid (k7.below B6.out D6.out.size); have hfa := dev_fail w.heap.size (fun _ => False) d D w7 d7 TD.out 1 (by omega) false; rewrite [DM.down_fail D HDN.out] at hfa; have HF := Lib.hid hfa; clear d7 k7 hfa HB)
              | (go_at_call 27; (with_reducible refine HF.out.mono ?_); rintro e w8 ⟨rfl, d8, k8⟩; have D8 := Lib.hid d8; have B8 := Lib.hid (k8.below B7.out D7.out.size); have hss := dev_steps w.heap.size (fun _ => False) d D w8 d8 TD.out; rewrite [HST.out] at hss; have HSS := Lib.hid hss; have hre := dev_read w.heap.size (fun _ => False) d D w8 d8 TD.out 0 0 (by omega) (by omega); rewrite [DM.down_read D HDN.out] at hre; have HRE := Lib.hid hre; clear d8 k8 hss hre HF)
              | (go_at_call 24; (with_reducible refine HSS.out.mono ?_); rintro e wz ⟨rfl, hq⟩; rw [hq]; clear hq wz HSS))
            obtain ⟨lo, hlo⟩ : ∃ x, x = D.loose.length := ⟨_, rfl⟩
            have hlo2 : lo = 0 := by rw [hlo, HDD.out]; exact DM.dn_loose k false l1
            have hml := DM.many_le 0 l1.length
            have hlen2 := HLEN.out
            have hpos2 := HPOS.out
            have hgt : ¬ (0 : Int) < (lo : Int) := by omega
            obtain ⟨m, hm⟩ : ∃ m, m = lo / 8 + 1 := ⟨_, rfl⟩
            have HQ := Lib.hid (show (lo : Int) / 8 + 1 = (m : Int) by omega)
            have HM := Lib.hid hm
            have HLO := Lib.hid hlo
            have hlob : lo ≤ 1000 := by omega
            clear hm hlo hlo2 hml hpos2
            go_wp2_with (first
              | (go_at_call 18; (with_reducible refine HRE.out.mono ?_); rintro e w9 ⟨y, rfl, o9, b9⟩; obtain ⟨ya, yc, rfl, _⟩ := o9.rd.shape; have D9 := Lib.hid (D8.out.below b9); have B9 := Lib.hid (B8.out.on b9); have hll := dev_loose w.heap.size (fun _ => False) d D w9 (D8.out.below b9) TD.out; rewrite [← HLO.out] at hll; have HLL := Lib.hid hll; clear o9 b9 hll HRE)
              | (go_at_call 26; (with_reducible refine HLL.out.mono ?_); rintro e wz ⟨rfl, hqz⟩; rw [hqz]; clear hqz wz HLL)
              | (refine wpList_make_bytes rfl _ _ rfl w9.heap.size m (by have := HM.out; omega) (congrArg (Value.int .i64) HQ.out) (congrArg (Value.int .i64) HQ.out) (Nat.le_refl _) ?_; intro w10 o10 b10; have O10 := Lib.hid o10; have D10 := Lib.hid (D9.out.own b10); have B10 := Lib.hid (B9.out.on b10); have HZ := Lib.hid (o10.from w9.heap.size rfl); clear o10 b10))
            obtain ⟨g, hg⟩ : ∃ g, g = w9.heap.size := ⟨_, rfl⟩
            obtain ⟨A, hA⟩ : ∃ A : Nat → Prop, A = fun k => False ∨ (w9.heap.size ≤ k ∧ k < w10.heap.size) := ⟨_, rfl⟩
            have AG := Lib.hid (show A g by rw [hA, hg]; exact .inr ⟨Nat.le_refl _, HZ.out.2⟩)
            have WG := Lib.hid (show w.heap.size ≤ g by rw [hg]; exact B9.out.size)
            have d11 := D10.out
            have o11 := O10.out
            rw [← hA] at d11
            rw [← hg] at o11 ⊢
            have D11 := Lib.hid d11
            have O11 := Lib.hid o11
            clear hA hg d11 o11 D10 O10 HZ
            go_loopw [14] (fun i wr => ∃ j : Nat, j ≤ m ∧ i = .int .i64 (j : Int) ∧ Own wr g (.slice (some ⟨g, 0, none⟩) m m) (DM.fillC 255 m j) ∧ Dev w.heap.size A wr d D ∧ Below w.heap.size w wr) (fun i _ => m - (intOf i).toNat)
            case atStart => exact ⟨0, Nat.zero_le _, rfl, by rw [DM.fillC_zero]; exact O11.out, D11.out, B10.out⟩
            case round =>
              clear O11 D11 B10
              obtain ⟨j, hj, rfl, o, dv, bb⟩ := hrel
              have hl := DM.fillC_len 255 m j hj
              have hmb : m ≤ 1000000 := by have := HM.out; omega
              by_cases hj2 : j < m
              · have cu := o.cell hl.symm j (by rw [hl]; exact hj2)
                have fu := o.free hl.symm j
                have OO := Lib.hid o
                have DD := Lib.hid dv
                have BB2 := Lib.hid bb
                have HL2 := Lib.hid hl
                clear o dv bb hl
                go_wp2_with fail
                have hg1 := grownBy_cell wr g j (.int .u8 255)
                have o2 : Own (wr.setCell ⟨g, j, none⟩ (.int .u8 255)) g (.slice (some ⟨g, 0, none⟩) m m) (DM.fillC 255 m (j + 1)) := by
                  have hl2 := HL2.out
                  have h := OO.out
                  have hst := DM.fillC_set 255 m j hj2
                  obtain ⟨L, hL⟩ : ∃ L, L = DM.fillC 255 m j := ⟨_, rfl⟩
                  rw [← hL] at h hl2 hst
                  rw [← hst]
                  clear hL hst
                  subst hl2
                  exact h.set j 255 (by omega) (by omega)
                exact ⟨⟨j + 1, by omega, by go_num, o2, DD.out.turn hg1 (fun y hy => by rw [← Option.some.inj hy]; exact AG.out), BB2.out.setCell (p := ⟨g, j, none⟩) WG.out _⟩, by simp [intOf]; omega⟩
              · obtain rfl : j = m := by omega
                rw [DM.fillC_all] at o
                have HS := Lib.hid (dev_start w.heap.size A d D wr dv TD.out (.slice (some ⟨g, 0, none⟩) j j) (List.replicate j 255) o.rd (fun _ y hy => .inr (by rw [← Option.some.inj hy]; exact AG.out)))
                have BB2 := Lib.hid bb
                have SZ2 := Lib.hid dv.size
                have T3 := Lib.hid (tame_start TD.out (List.replicate j 255))
                have eseen : (DM.start D (List.replicate j 255)).seen = ([] : List Nat) := by
                  rw [HDD.out]
                  exact DM.dn_start k false l1 _ (fun i hi => DM.bit_ones j i (by have h1 := HM.out; have h2 := HLO.out; rw [HDD.out] at h2; omega))
                have HES := Lib.hid eseen
                clear o dv bb hl eseen
                go_upto_region 23 with (first
                  | (go_at_call 15; (with_reducible refine HS.out.mono ?_); rintro e w12 ⟨rfl, d12, k12⟩; have D12 := Lib.hid d12; have B12 := Lib.hid (k12.below BB2.out SZ2.out); have hby := dev_bytes w.heap.size A d _ w12 d12 T3.out; rewrite [HES.out] at hby; have HBY := Lib.hid hby; clear d12 k12 hby HS)
                  | (go_at_call 28; (with_reducible refine HBY.out.mono ?_); rintro e w13 ⟨y, rfl, o13, b13⟩; obtain ⟨za, zc, rfl, hstr⟩ := str00 o13; have D13 := Lib.hid (D12.out.below b13); have B13 := Lib.hid (B12.out.on b13); clear o13 b13 HBY))
                have hsb := (R1.out.below B13.out).str
                have hbe := dev_beat w.heap.size A d _ w13 D13.out T3.out
                have ebe : (DM.beat (DM.start D (List.replicate j 255))).2 = 0 := by unfold DM.beat; rw [if_neg (by show ¬ (false = true); decide), DM.step_plain _ _ rfl]
                rw [ebe] at hbe
                have HBE := Lib.hid hbe
                have SZ3 := Lib.hid D13.out.size
                clear hbe ebe
                go_wp2_with (first
                  | (go_at_call 21; (with_reducible refine HBE.out.mono ?_); rintro e w14 ⟨rfl, d14, k14⟩; have B14 := Lib.hid (k14.below B13.out SZ3.out); clear d14 k14 HBE)
                  | (go_at_call 9; (with_reducible refine (dawake_any w14).mono ?_); rintro e w15 ⟨rfl, b15⟩; have B15 := Lib.hid (B14.out.on b15); clear b15))
                go_ret
                exact ⟨rfl, B15.out⟩
      · have TD := Lib.hid (DM.dn_tame n true l1 (by omega) hlen h1.byte)
        have R1 := Lib.hid h1
        have HLEN := Lib.hid hlen
        have HN := Lib.hid (show Calls Try.prog 10 #[.int .i64 20000] w _ from dev_new 20000 (by omega) w.heap.size w (Nat.le_refl _))
        have HNB := Lib.hid hn20
        have HPOS := Lib.hid hpos
        clear h1 hlen hn20
        go_enter Try.func7, Try.ntmps7
        go_upto_region 4 with (go_at_call 10; refine HN.out.mono ?_; rintro e w1 ⟨d, rfl, dv, b1⟩; have D1 := Lib.hid (dv.weak (C := fun _ => False) nofun); have B1 := Lib.hid b1; have HF := Lib.hid (dev_fail w.heap.size (fun _ => False) d (DM.new 20000) w1 (dv.weak (C := fun _ => False) nofun) (tame_new 20000) (n : Int) (by have := HNB.out; omega) true); rewrite [DM.dd_fail] at HF; clear dv b1 HN)
        go_wp2_with (go_at_call 27; (with_reducible refine HF.out.mono ?_); rintro e w2 ⟨rfl, d2, k2⟩; have D2 := Lib.hid d2; have B2 := Lib.hid (k2.below B1.out D1.out.size); clear d2 k2 HF D1 B1)
        go_loopw [9] (fun i wr => ∃ k : Nat, k ≤ n ∧ i = .int .i64 (k : Int) ∧ Dev w.heap.size (fun _ => False) wr d (DM.dd n true k) ∧ Below w.heap.size w wr) (fun i _ => n - (intOf i).toNat)
        case atStart => exact ⟨0, Nat.zero_le _, rfl, D2.out, B2.out⟩
        case round =>
          clear D2 B2
          obtain ⟨k, hk, rfl, dv, bb⟩ := hrel
          have hn20 := HNB.out
          by_cases hk2 : k < n
          · have hbt := dev_beat w.heap.size (fun _ => False) d (DM.dd n true k) wr dv (DM.dd_tame n true k (by omega) hk)
            rw [DM.dd_beat n true k hk2] at hbt
            have HB := Lib.hid hbt
            have BB := Lib.hid bb
            have SZ := Lib.hid dv.size
            clear hbt dv bb
            go_wp2_with (go_at_call 21; (with_reducible refine HB.out.mono ?_); rintro e w3 ⟨rfl, d3, k3⟩; have D3 := Lib.hid d3; have B3 := Lib.hid (k3.below BB.out SZ.out); clear d3 k3 HB)
            exact ⟨⟨k + 1, by omega, by go_num, D3.out, B3.out⟩, by simp [intOf]; omega⟩
          · obtain rfl : k = n := by omega
            have hwr := dev_write w.heap.size (fun _ => False) d (DM.dd k true k) wr dv (DM.dd_tame k true k (by omega) hk) 0 (by omega) (.slice va l1.length vc) l1 (R1.out.below bb) (by have := HLEN.out; omega) (fun h0 g hg => .inl (rd_old R1.out h0 g hg))
            rw [DM.dd_write k true l1 HLEN.out] at hwr
            have HW := Lib.hid hwr
            have BB := Lib.hid bb
            have SZ := Lib.hid dv.size
            clear hwr dv bb
            obtain ⟨D, hD⟩ : ∃ D, D = DM.dn k true l1 := ⟨_, rfl⟩
            have HDD := Lib.hid hD
            have hst : D.steps = k + 1 := by rw [hD]; rfl
            have hdn : D.down = true := by rw [hD]; rfl
            rw [← hD] at HW TD
            clear hD
            have HST := Lib.hid hst
            have HDN := Lib.hid hdn
            clear hst hdn
            go_upto_region 14 with (first
              | (go_at_call 19; (with_reducible refine HW.out.mono ?_); rintro e w4 ⟨rfl, d4, k4⟩; have D4 := Lib.hid d4; have B4 := Lib.hid (k4.below BB.out SZ.out); have hdo := dev_down w.heap.size (fun _ => False) d D w4 d4 TD.out; rewrite [HDN.out] at hdo; have HO := Lib.hid hdo; have hw2 := dev_write w.heap.size (fun _ => False) d D w4 d4 TD.out 0 (by omega) (.slice va l1.length vc) l1 (R1.out.below B4.out) (by have := HLEN.out; omega) (fun h0 g hg => .inl (rd_old R1.out h0 g hg)); rewrite [DM.down_write D HDN.out] at hw2; have HW2 := Lib.hid hw2; clear d4 k4 hdo hw2 HW)
              | (go_at_call 25; (with_reducible refine HO.out.mono ?_); rintro e wz ⟨rfl, hq⟩; rw [hq]; clear hq wz HO)
              | (go_at_call 19; (with_reducible refine HW2.out.mono ?_); rintro e w5 ⟨rfl, d5, k5⟩; have D5 := Lib.hid d5; have B5 := Lib.hid (k5.below B4.out D4.out.size); have hsy := dev_sync w.heap.size (fun _ => False) d D w5 d5 TD.out; rewrite [DM.down_sync D HDN.out] at hsy; have HS := Lib.hid hsy; clear d5 k5 hsy HW2)
              | (go_at_call 20; (with_reducible refine HS.out.mono ?_); rintro e w6 ⟨rfl, d6, k6⟩; have D6 := Lib.hid d6; have B6 := Lib.hid (k6.below B5.out D5.out.size); have hbe := dev_beat w.heap.size (fun _ => False) d D w6 d6 TD.out; rewrite [DM.down_beat D HDN.out] at hbe; have HB := Lib.hid hbe; clear d6 k6 hbe HS)
              | (go_at_call 21; (with_reducible refine HB.out.mono ?_); rintro e w7 ⟨rfl, d7, k7⟩; have D7 := Lib.hid d7; have B7 := Lib.hid (k7.below B6.out D6.out.size); have hfa := dev_fail w.heap.size (fun _ => False) d D w7 d7 TD.out 1 (by omega) true; rewrite [DM.down_fail D HDN.out] at hfa; have HF := Lib.hid hfa; clear d7 k7 hfa HB)
              | (go_at_call 27; (with_reducible refine HF.out.mono ?_); rintro e w8 ⟨rfl, d8, k8⟩; have D8 := Lib.hid d8; have B8 := Lib.hid (k8.below B7.out D7.out.size); have hss := dev_steps w.heap.size (fun _ => False) d D w8 d8 TD.out; rewrite [HST.out] at hss; have HSS := Lib.hid hss; have hre := dev_read w.heap.size (fun _ => False) d D w8 d8 TD.out 0 0 (by omega) (by omega); rewrite [DM.down_read D HDN.out] at hre; have HRE := Lib.hid hre; clear d8 k8 hss hre HF)
              | (go_at_call 24; (with_reducible refine HSS.out.mono ?_); rintro e wz ⟨rfl, hq⟩; rw [hq]; clear hq wz HSS))
            obtain ⟨lo, hlo⟩ : ∃ x, x = D.loose.length := ⟨_, rfl⟩
            have hlo2 : lo = DM.many 0 l1.length := by rw [hlo, HDD.out]; exact DM.dn_loose k true l1
            have hml := DM.many_le 0 l1.length
            have hlen2 := HLEN.out
            have hpos2 := HPOS.out
            have hgt : (0 : Int) < (lo : Int) := by (have h : 0 < DM.many 0 l1.length := by (unfold DM.many; rw [if_neg (by omega)]; omega)); omega
            obtain ⟨m, hm⟩ : ∃ m, m = lo / 8 + 1 := ⟨_, rfl⟩
            have HQ := Lib.hid (show (lo : Int) / 8 + 1 = (m : Int) by omega)
            have HM := Lib.hid hm
            have HLO := Lib.hid hlo
            have hlob : lo ≤ 1000 := by omega
            clear hm hlo hlo2 hml hpos2
            go_wp2_with (first
              | (go_at_call 18; (with_reducible refine HRE.out.mono ?_); rintro e w9 ⟨y, rfl, o9, b9⟩; obtain ⟨ya, yc, rfl, _⟩ := o9.rd.shape; have D9 := Lib.hid (D8.out.below b9); have B9 := Lib.hid (B8.out.on b9); have hll := dev_loose w.heap.size (fun _ => False) d D w9 (D8.out.below b9) TD.out; rewrite [← HLO.out] at hll; have HLL := Lib.hid hll; clear o9 b9 hll HRE)
              | (go_at_call 26; (with_reducible refine HLL.out.mono ?_); rintro e wz ⟨rfl, hqz⟩; rw [hqz]; clear hqz wz HLL)
              | (refine wpList_make_bytes rfl _ _ rfl w9.heap.size m (by have := HM.out; omega) (congrArg (Value.int .i64) HQ.out) (congrArg (Value.int .i64) HQ.out) (Nat.le_refl _) ?_; intro w10 o10 b10; have O10 := Lib.hid o10; have D10 := Lib.hid (D9.out.own b10); have B10 := Lib.hid (B9.out.on b10); have HZ := Lib.hid (o10.from w9.heap.size rfl); clear o10 b10))
            obtain ⟨g, hg⟩ : ∃ g, g = w9.heap.size := ⟨_, rfl⟩
            obtain ⟨A, hA⟩ : ∃ A : Nat → Prop, A = fun k => False ∨ (w9.heap.size ≤ k ∧ k < w10.heap.size) := ⟨_, rfl⟩
            have AG := Lib.hid (show A g by rw [hA, hg]; exact .inr ⟨Nat.le_refl _, HZ.out.2⟩)
            have WG := Lib.hid (show w.heap.size ≤ g by rw [hg]; exact B9.out.size)
            have d11 := D10.out
            have o11 := O10.out
            rw [← hA] at d11
            rw [← hg] at o11 ⊢
            have D11 := Lib.hid d11
            have O11 := Lib.hid o11
            clear hA hg d11 o11 D10 O10 HZ
            go_loopw [14] (fun i wr => ∃ j : Nat, j ≤ m ∧ i = .int .i64 (j : Int) ∧ Own wr g (.slice (some ⟨g, 0, none⟩) m m) (DM.fillC 255 m j) ∧ Dev w.heap.size A wr d D ∧ Below w.heap.size w wr) (fun i _ => m - (intOf i).toNat)
            case atStart => exact ⟨0, Nat.zero_le _, rfl, by rw [DM.fillC_zero]; exact O11.out, D11.out, B10.out⟩
            case round =>
              clear O11 D11 B10
              obtain ⟨j, hj, rfl, o, dv, bb⟩ := hrel
              have hl := DM.fillC_len 255 m j hj
              have hmb : m ≤ 1000000 := by have := HM.out; omega
              by_cases hj2 : j < m
              · have cu := o.cell hl.symm j (by rw [hl]; exact hj2)
                have fu := o.free hl.symm j
                have OO := Lib.hid o
                have DD := Lib.hid dv
                have BB2 := Lib.hid bb
                have HL2 := Lib.hid hl
                clear o dv bb hl
                go_wp2_with fail
                have hg1 := grownBy_cell wr g j (.int .u8 255)
                have o2 : Own (wr.setCell ⟨g, j, none⟩ (.int .u8 255)) g (.slice (some ⟨g, 0, none⟩) m m) (DM.fillC 255 m (j + 1)) := by
                  have hl2 := HL2.out
                  have h := OO.out
                  have hst := DM.fillC_set 255 m j hj2
                  obtain ⟨L, hL⟩ : ∃ L, L = DM.fillC 255 m j := ⟨_, rfl⟩
                  rw [← hL] at h hl2 hst
                  rw [← hst]
                  clear hL hst
                  subst hl2
                  exact h.set j 255 (by omega) (by omega)
                exact ⟨⟨j + 1, by omega, by go_num, o2, DD.out.turn hg1 (fun y hy => by rw [← Option.some.inj hy]; exact AG.out), BB2.out.setCell (p := ⟨g, j, none⟩) WG.out _⟩, by simp [intOf]; omega⟩
              · obtain rfl : j = m := by omega
                rw [DM.fillC_all] at o
                have HS := Lib.hid (dev_start w.heap.size A d D wr dv TD.out (.slice (some ⟨g, 0, none⟩) j j) (List.replicate j 255) o.rd (fun _ y hy => .inr (by rw [← Option.some.inj hy]; exact AG.out)))
                have BB2 := Lib.hid bb
                have SZ2 := Lib.hid dv.size
                have T3 := Lib.hid (tame_start TD.out (List.replicate j 255))
                have eseen : (DM.start D (List.replicate j 255)).seen = l1 := by
                  rw [HDD.out]
                  exact DM.dn_start k true l1 _ (fun i hi => DM.bit_ones j i (by have h1 := HM.out; have h2 := HLO.out; rw [HDD.out] at h2; omega))
                have HES := Lib.hid eseen
                clear o dv bb hl eseen
                go_upto_region 23 with (first
                  | (go_at_call 15; (with_reducible refine HS.out.mono ?_); rintro e w12 ⟨rfl, d12, k12⟩; have D12 := Lib.hid d12; have B12 := Lib.hid (k12.below BB2.out SZ2.out); have hby := dev_bytes w.heap.size A d _ w12 d12 T3.out; rewrite [HES.out] at hby; have HBY := Lib.hid hby; clear d12 k12 hby HS)
                  | (go_at_call 28; (with_reducible refine HBY.out.mono ?_); rintro e w13 ⟨y, rfl, o13, b13⟩; obtain ⟨za, zc, rfl, _⟩ := o13.rd.shape; have hstr := o13.rd.str; have D13 := Lib.hid (D12.out.below b13); have B13 := Lib.hid (B12.out.on b13); clear o13 b13 HBY))
                have hsb := (R1.out.below B13.out).str
                have hbe := dev_beat w.heap.size A d _ w13 D13.out T3.out
                have ebe : (DM.beat (DM.start D (List.replicate j 255))).2 = 0 := by unfold DM.beat; rw [if_neg (by show ¬ (false = true); decide), DM.step_plain _ _ rfl]
                rw [ebe] at hbe
                have HBE := Lib.hid hbe
                have SZ3 := Lib.hid D13.out.size
                clear hbe ebe
                go_wp2_with (first
                  | (go_at_call 21; (with_reducible refine HBE.out.mono ?_); rintro e w14 ⟨rfl, d14, k14⟩; have B14 := Lib.hid (k14.below B13.out SZ3.out); clear d14 k14 HBE)
                  | (go_at_call 9; (with_reducible refine (dawake_any w14).mono ?_); rintro e w15 ⟨rfl, b15⟩; have B15 := Lib.hid (B14.out.on b15); clear b15))
                go_ret
                exact ⟨rfl, B15.out⟩
    · have hlz : (l1.length : Int) = 0 := by omega
      have hli : ¬ (10000 : Int) < (l1.length : Int) := by omega
      clear h1 hnb
      go_enter Try.func7, Try.ntmps7
      go_wp2_with (go_at_call 9; (with_reducible refine (dawake_any w).mono ?_); rintro e w2 ⟨rfl, b2⟩; have B2 := Lib.hid b2; clear b2)
      go_ret
      exact ⟨rfl, B2.out⟩
  · have hli : (10000 : Int) < (l1.length : Int) := by omega
    clear h1 hnb
    go_enter Try.func7, Try.ntmps7
    go_wp2_with (go_at_call 9; (with_reducible refine (dawake_any w).mono ?_); rintro e w2 ⟨rfl, b2⟩; have B2 := Lib.hid b2; clear b2)
    go_ret
    exact ⟨rfl, B2.out⟩
set_option linter.unusedVariables false in
set_option maxHeartbeats 400000 in
set_option maxRecDepth 100000 in
theorem lifted (os : Os) (started : os.Started) (H : Type) (enc : TypeId × Value → H) :
    ReturnsInHanded {} Try.checked os 7 .any (Rows.deviceDownSpec.pre6 enc Try.prog Try.f7 Rows.deviceDownRow.domain false) (Rows.deviceDownSpec.post enc Try.prog Try.f7 false true false false) := by
  refine returnsInHanded_of_change_sized (C := Try.checked) own started (by kernel_rfl) Try.func7
    (ChangeSpec.witness6 (enc := enc) (C := Try.checked) false ⟨#[], #[.int .u8 0, .slice none 0 0, .bool false], []⟩ 8 (by kernel_rfl) (by kernel_rfl) (by kernel_rfl) (by kernel_rfl)) ?_
  intro W base args ds gs before hval0 hW _ hsz0 _
  have hsz : (DataW.weightsEach Try.prog (Try.f7.params.toList ++ Rows.deviceDownSpec.plain.varTypes Try.prog) (ds ++ gs)).all (· ≤ reachBytes) = true := hsz0
  clear hsz0
  have hval : ∀ (j : Nat) t v, Try.f7.params[j]? = some t → args[j]? = some v → Value.okWide Try.prog W .any base t v := hval0
  have hW' := hW
  obtain ⟨p, q, hA0, hV, rfl, _, _⟩ := hW
  have hA : DataW.TrodAll enc Try.prog W 0 (fun _ => true) true Try.f7.params.toList args.toList ds p := hA0
  rw [Try.params7] at hA hval hsz
  obtain ⟨v0, vs0, d0, ds0, p0, q0, hargs, rfl, rfl, g0, r0⟩ := trodAll_cons hA
  obtain ⟨v1, vs1, d1, ds1, p1, q1, rfl, rfl, rfl, g1, r1⟩ := trodAll_cons r0
  obtain ⟨v2, vs2, d2, ds2, p2, q2, rfl, rfl, rfl, g2, r2⟩ := trodAll_cons r1
  obtain ⟨rfl, rfl, rfl⟩ := trodAll_nil r2
  obtain rfl : args = #[v0, v1, v2] := by cases args; simp_all
  obtain ⟨rfl, rfl⟩ := trodVars_none hV
  obtain ⟨a0, rfl, rfl, rfl, w0⟩ := open_int Try.underlying5 (hval 0 5 v0 rfl rfl) g0
  obtain ⟨l1, h1⟩ := open_bytes (hval 1 33 v1 rfl rfl) g1 (fun elems spare e => sized_slice hsz (j := 1) (t := 33) (e := 5) rfl (by rw [← e]; rfl) Try.underlying33)
  obtain ⟨a2, rfl, rfl, rfl⟩ := open_bool Try.underlying4 (hval 2 4 v2 rfl rfl) g2
  clear hA0 hval0
  have hlt := hW'.lt
  refine (walk W a0 w0 v1 l1 h1 a2).mono fun e W' ⟨he, hb⟩ => ?_
  subst he
  have hargs : DataW.TrodAll enc Try.prog W' 0 (fun b => decide (b < W.heap.size)) true _ _ _ _ := (trodAll_cons_mk (shut_int Try.underlying5 w0) (trodAll_cons_mk (Below.trod laidOut (by kernel_rfl) (of_decide_eq_true (by kernel_rfl)) g1 hb (fun x hx => hlt x (by simp [hx]))) (trodAll_cons_mk (shut_bool Try.underlying4 a2) trodAll_mk0)))
  simp only [List.append_nil] at hW' hargs
  exact ⟨_, rfl, post_law hW' (trodAll_cons_mk (shut_bool Try.underlying4 _) trodAll_mk0) hargs rfl hb⟩
theorem over : Rows.deviceDownRow.holds Try.pinned (OpenSpec.ofChange Rows.deviceDownSpec) :=
  OpenClaim.holds_of_wide 7 Try.f7 rfl rfl rfl rfl rfl rfl rfl ⟨rfl, rfl, rfl, rfl, rfl⟩ rfl rfl rfl rfl rfl (by kernel_rfl) Try.func7 (by kernel_rfl)
    (of_decide_eq_true (by kernel_rfl)) (by unfold Func.isWrapper; first | (rw [if_pos (by decide +kernel)]; kernel_rfl) | (rw [if_neg (by decide +kernel)]; exact ⟨rfl, rfl⟩))
    (fun os started H enc _ => lifted os started H enc)

/-- The given statement. -/
theorem proved : Rows.DeviceDownSaid := over
end Go.Proofs.Ytipdcocliefppaa.deviceDown
