/- AesKeys: any key's first two round keys are the key, and each further word is as it must be out of those ahead; and the law's closed case holds. No condition but that the program's table holds its constants when the call begins. -/
import Derived.Test.YtdoifgofmlagbaaDoorRows
import Derived.Test.YtdoifgofmlagbaaDoorAesLaws
import Derived.Test.YtdoifgofmlagbaaDoorAesKeysR
import Derived.Test.YtdoifgofmlagbaaDoorDoorAes
import Derived.Test.YtdoifgofmlagbaaDoorTie
import Derived.Test.YtdoifgofmlagbaaDoorCards
import Derived.SevenTiedAt
import Derived.Test.YtdoifgofmlagbaaDoorMem
import Derived.WalkKit
import Derived.ProofKit
import Derived.OpenShut
import Derived.SizedLaws
import Derived.Carry
import Derived.Deep.DeepHandedRow
import Derived.Deep.DeepWitnessRowRef
namespace Go.Proofs.YtdoifgofmlagbaaDoor.aesKeys
open Go.ChangeShapes Go.WideShapes Go.ChangeAt Go.RowKit
open AM FM
theorem zero240 (w : World) : (zeroValue 38).run Tryd.prog w = .ok (.agg (row8 (List.replicate 240 0)).toArray) w := by kernel_rfl
theorem key_first (key : List Nat) (i : Nat) (h : i < 32) : gb (sched key) i = gb key i := by
  rw [sched_get key i (by omega)]; unfold nxt; rw [if_pos h]
theorem key_else (key : List Nat) (i : Nat) (h : 32 ≤ i) (h2 : i < 240) (h0 : i / 4 % 8 ≠ 0) (h4 : i / 4 % 8 ≠ 4) : gb (sched key) (i - 32) ^^^ gb (sched key) (i - 4) = gb (sched key) i := by
  rw [sched_get key i h2]; unfold nxt; rw [if_neg (by omega), if_neg h0, if_neg h4]
theorem key_four (key : List Nat) (i : Nat) (h : 32 ≤ i) (h2 : i < 240) (h4 : i / 4 % 8 = 4) : gb (sched key) (i - 32) ^^^ box (gb (sched key) (i - 4)) = gb (sched key) i := by
  rw [sched_get key i h2]; unfold nxt; rw [if_neg (by omega), if_neg (by omega), if_pos h4]
theorem key_eight (key : List Nat) (i : Nat) (h : 32 ≤ i) (h2 : i < 240) (h0 : i / 4 % 8 = 0) (hi : i % 4 ≠ 0) : gb (sched key) (i - 32) ^^^ box (gb (sched key) (4 * (i / 4 - 1) + (i + 1) % 4)) = gb (sched key) i := by
  rw [sched_get key i h2]; unfold nxt; rw [if_neg (by omega), if_pos h0, if_neg hi, Nat.xor_zero]
theorem key_power (key : List Nat) (i : Nat) (h : 32 ≤ i) (h2 : i < 240) (h0 : i / 4 % 8 = 0) (hi : i % 4 = 0) : gb (sched key) (i - 32) ^^^ box (gb (sched key) (4 * (i / 4 - 1) + (i + 1) % 4)) ^^^ power 2 ((i / 4 / 8 - 1 : Nat) : Int) = gb (sched key) i := by
  rw [sched_get key i h2]; unfold nxt; rw [if_neg (by omega), if_pos h0, if_pos hi, Nat.xor_assoc]
theorem own : ownKnob Tryd.prog.godebug = none := by kernel_rfl
theorem cells27 : Tryd.prog.cellsOf 27 = 32 := by kernel_rfl
theorem cells5 : Tryd.prog.cellsOf 5 = 1 := by kernel_rfl
set_option linter.unusedVariables false in
set_option maxHeartbeats 8000000 in
set_option maxRecDepth 100000 in
theorem walk (w : World) (ht : TabX w) (l0 : List Nat) (h0 : Bytes 32 l0) :
    Calls Tryd.prog 9 #[.agg (row8 l0).toArray] w fun e w' => e = .returned (.bool true) ∧ Below w.heap.size w w' := by
  obtain ⟨S, hS⟩ : ∃ S, S = sched l0 := ⟨_, rfl⟩
  have bS : Bytes 240 S := by rw [hS]; exact sched_bytes h0.2
  have KF := Lib.hid (fun i h => (show gb S i = gb l0 i by rw [hS]; exact key_first l0 i h))
  have KE := Lib.hid (fun i h h2 h3 h4 => (show gb S (i - 32) ^^^ gb S (i - 4) = gb S i by rw [hS]; exact key_else l0 i h h2 h3 h4))
  have K4 := Lib.hid (fun i h h2 h3 => (show gb S (i - 32) ^^^ box (gb S (i - 4)) = gb S i by rw [hS]; exact key_four l0 i h h2 h3))
  have K8 := Lib.hid (fun i h h2 h3 h4 => (show gb S (i - 32) ^^^ box (gb S (4 * (i / 4 - 1) + (i + 1) % 4)) = gb S i by rw [hS]; exact key_eight l0 i h h2 h3 h4))
  have KP := Lib.hid (fun i h h2 h3 h4 => (show gb S (i - 32) ^^^ box (gb S (4 * (i / 4 - 1) + (i + 1) % 4)) ^^^ power 2 ((i / 4 / 8 - 1 : Nat) : Int) = gb S i by rw [hS]; exact key_power l0 i h h2 h3 h4))
  obtain ⟨C0, hC0⟩ : ∃ C0, C0 = row8 (List.replicate 240 0) := ⟨_, rfl⟩
  have hzk : ∀ w, (zeroValue 29).run Tryd.prog w = .ok (.agg C0.toArray) w := by rw [hC0]; exact zeroK
  have hza : ∀ w, (zeroValue 38).run Tryd.prog w = .ok (.agg C0.toArray) w := by rw [hC0]; exact zero240
  have hc0 : C0.length = 240 := by rw [hC0, row8_len, List.length_replicate]
  have HC := Lib.hid hC0
  have w1 := (Below.refl w.heap.size w).alloc (Nat.le_refl _) (.cells (row8 l0).toArray 27)
  have N1 := Lib.hid (Blk.new w 27 (row8 l0) _ rfl)
  have K32 := Lib.hid (show (row8 l0).length = 32 by rw [row8_len]; exact h0.1)
  have S240 := Lib.hid (show (row8 S).length = 240 by rw [row8_len]; exact bS.1)
  have HSC := Lib.hid (psched_any l0 h0 _ (ht.below w1))
  rw [← hS] at HSC
  have HK := Lib.hid h0
  have HX := Lib.hid ht
  have W1 := Lib.hid w1
  have HBS := Lib.hid bS
  clear hS bS hC0 w1 ht
  go_enter Tryd.func9, Tryd.ntmps9
  go_upto_region 4 with (first
    | (refine wpList_load_mid rfl 27 (.tmp 1) rfl w.heap.size 0 rfl (row8 l0) _ N1.out.range Tryd.underlying27 rfl (by rw [K32.out]; exact infoKey6) ?_)
    | (go_at_call 16; (with_reducible refine HSC.out.mono ?_); rintro e w4 ⟨rfl, b4⟩; have W4 := Lib.hid (W1.out.on b4); have N4 := Lib.hid (N1.out.below b4 N1.out.lt); clear b4)
    | (refine wpList_store_blk rfl 29 (.tmp 3) (.tmp 10) rfl w4.heap.size 0 (row8 S) rfl rfl 29 C0 (Blk.new w4 29 C0 _ rfl) (by rw [S240.out, hc0]; exact Nat.le_refl _) (by rw [S240.out]; exact info240) (row8_one _) ?_; intro w5 b5 g5; rw [splice_all _ _ (by rw [S240.out, hc0])] at b5; have X5 := Lib.hid b5; have G5 := Lib.hid (alloc_turn (Below.refl w4.heap.size w4) g5); have W5 := Lib.hid (W4.out.on G5.out); have N5 := Lib.hid (N4.out.below G5.out N4.out.lt); clear b5 g5))
  have kbl := X5.out.lt
  obtain ⟨kb, hkb⟩ : ∃ b, b = w4.heap.size := ⟨_, rfl⟩
  obtain ⟨ab, hab⟩ : ∃ b, b = w5.heap.size := ⟨_, rfl⟩
  have hwk : w.heap.size < kb := by rw [hkb]; exact N4.out.lt
  rw [← hkb] at X5 kbl ⊢
  rw [← hab] at kbl
  have A6 := Lib.hid (Blk.new w5 38 C0 ab hab)
  have X6 := Lib.hid (X5.out.alloc (.cells C0.toArray 38))
  have N6 := Lib.hid (N5.out.alloc (.cells C0.toArray 38))
  have W6 := Lib.hid (W5.out.alloc W5.out.size (.cells C0.toArray 38))
  rw [← hab]
  clear hkb hab HSC N1 W1 W4 N4 X5 G5 W5 N5 hzk
  go_loopw [5] (fun x wr => ∃ i : Nat, i ≤ 240 ∧ x = .int .i64 (i : Int) ∧ Blk wr w.heap.size 27 (row8 l0) ∧ Blk wr kb 29 (row8 S) ∧ Blk wr ab 38 (row8 (swd S i)) ∧ Below w.heap.size w wr) (fun x _ => 240 - (intOf x).toNat)
  case atStart => exact ⟨0, by omega, rfl, N6.out, X6.out, by rw [swd_zero, ← HC.out]; exact A6.out, W6.out⟩
  case round =>
    clear N6 X6 A6 W6
    obtain ⟨i, hi, rfl, n0, x0, a0, b0⟩ := hrel
    by_cases hlt : i < 240
    · have hltI : (i : Int) < 240 := by omega
      have c1 := x0.cell (i / 16 * 16 + i % 16) _ (row8_val _ _ (by rw [HBS.out.1]; omega))
      rw [show gb S (i / 16 * 16 + i % 16) = gb S i by congr 1; omega] at c1
      have c2 := a0.cell i _ (row8_val _ _ (by rw [swd_len]; omega))
      have f2 := a0.free i
      have p0 : (0 : Int) ≤ (i : Int) / 16 := by omega
      have p1 : (i : Int) / 16 < 15 := by omega
      have p2 : ((i : Int) / 16).toNat = i / 16 := by omega
      have q0 : (0 : Int) ≤ (i : Int) % 16 := by omega
      have q1 : (i : Int) % 16 < 16 := by omega
      have q2 : ((i : Int) % 16).toNat = i % 16 := by omega
      have hstep := swd_step S i hlt
      have HST := Lib.hid hstep
      have N0 := Lib.hid n0
      have X0 := Lib.hid x0
      have A0 := Lib.hid a0
      have B0 := Lib.hid b0
      clear n0 x0 a0 b0 hstep
      go_upto_region 7 with (fail)
      have nt := A0.out.set i (.int .u8 ((gb S i : Nat) : Int))
      rw [row8_set, HST.out] at nt
      have A1 := Lib.hid nt
      have N1 := Lib.hid (N0.out.other ⟨ab, i, none⟩ (.int .u8 ((gb S i : Nat) : Int)) (by simp <;> omega))
      have X1 := Lib.hid (X0.out.other ⟨ab, i, none⟩ (.int .u8 ((gb S i : Nat) : Int)) (by simp <;> omega))
      have B1 := Lib.hid (B0.out.setCell (p := ⟨ab, i, none⟩) (by simp <;> omega) (.int .u8 ((gb S i : Nat) : Int)))
      clear nt c1 c2 f2 p0 p1 p2 q0 q1 q2 N0 X0 A0 B0
      generalize wr.setCell ⟨ab, i, none⟩ (.int .u8 ((gb S i : Nat) : Int)) = w7 at *
      by_cases h32 : i < 32
      · have h32I : (i : Int) < 32 := by omega
        have d1 := A1.out.cell i _ (row8_val _ _ (by rw [swd_len]; omega))
        rw [swd_get _ _ _ hlt, if_pos (by omega)] at d1
        have d2 := N1.out.cell i _ (row8_val _ _ (by rw [HK.out.1]; omega))
        rw [← KF.out i h32] at d2
        go_wp2_with fail
        go_big_quiet (fail)
        have N8 := Lib.hid (show Blk (w7.drewN nq) w.heap.size 27 (row8 l0) from N1.out)
        have X8 := Lib.hid (show Blk (w7.drewN nq) kb 29 (row8 S) from X1.out)
        have A8 := Lib.hid (show Blk (w7.drewN nq) ab 38 (row8 (swd S (i + 1))) from A1.out)
        have B8 := Lib.hid (below_dN B1.out nq)
        clear N1 X1 A1 B1
        generalize w7.drewN nq = w8 at *
        go_wp2_with fail
        exact ⟨⟨i + 1, by omega, by go_num, N8.out, X8.out, A8.out, B8.out⟩, by simp [intOf]; omega⟩
      · have h32I : decide ((i : Int) < 32) = false := decide_eq_false (by omega)
        go_wp2_with fail
        go_big_quiet (fail)
        have N8 := Lib.hid (show Blk (w7.drewN nq) w.heap.size 27 (row8 l0) from N1.out)
        have X8 := Lib.hid (show Blk (w7.drewN nq) kb 29 (row8 S) from X1.out)
        have A8 := Lib.hid (show Blk (w7.drewN nq) ab 38 (row8 (swd S (i + 1))) from A1.out)
        have B8 := Lib.hid (below_dN B1.out nq)
        clear N1 X1 A1 B1
        generalize w7.drewN nq = w8 at *
        go_wp2_with fail
        exact ⟨⟨i + 1, by omega, by go_num, N8.out, X8.out, A8.out, B8.out⟩, by simp [intOf]; omega⟩
    · have hltI : ¬ (i : Int) < 240 := by omega
      rw [show i = 240 by omega, swd_all HBS.out.1] at a0
      generalize i = i0 at *
      have A1 := Lib.hid a0
      have B1 := Lib.hid b0
      clear n0 x0 a0 b0
      go_upto_region 10 with (fail)
      go_loopw [6] (fun x wr => ∃ i : Nat, 32 ≤ i ∧ i ≤ 240 ∧ x = .int .i64 (i : Int) ∧ Blk wr ab 38 (row8 S) ∧ Below w.heap.size w wr) (fun x _ => 240 - (intOf x).toNat)
      case atStart => exact ⟨32, by omega, by omega, rfl, A1.out, B1.out⟩
      case round =>
        clear A1 B1
        obtain ⟨i, hi1, hi2, rfl, a0, b0⟩ := hrel
        by_cases hlt : i < 240
        · have hltI : (i : Int) < 240 := by omega
          have c1 := a0.cell (i - 32) _ (row8_val _ _ (by rw [HBS.out.1]; omega))
          have c2 := a0.cell (i - 4) _ (row8_val _ _ (by rw [HBS.out.1]; omega))
          have hx1 := u8_xor_nat (gb S (i - 32)) (gb S (i - 4)) (HBS.out.2 _) (HBS.out.2 _)
          have p0 : (0 : Int) ≤ (i : Int) - 32 := by omega
          have p1 : (i : Int) - 32 < 240 := by omega
          have p2 : ((i : Int) - 32).toNat = i - 32 := by omega
          have q0 : (0 : Int) ≤ (i : Int) - 4 := by omega
          have q1 : (i : Int) - 4 < 240 := by omega
          have q2 : ((i : Int) - 4).toNat = i - 4 := by omega
          have A0 := Lib.hid a0
          have B0 := Lib.hid b0
          clear a0 b0
          go_upto_region 13 with (fail)
          go_big_quiet (fail)
          have A3 := Lib.hid (show Blk (wr.drewN nq) ab 38 (row8 S) from A0.out)
          have B3 := Lib.hid (below_dN B0.out nq)
          clear A0 B0 c1 c2 p0 p1 p2 q0 q1 q2
          generalize wr.drewN nq = w3 at *
          by_cases m4 : i / 4 % 8 = 4
          · have mb : ((i : Int) / 4 % 8 == 4) = true := by simp; omega
            have mc : ((i : Int) / 4 % 8 == 0) = false := by simp; omega
            go_upto_region 15 with (fail)
            refine wp_region_g (by kernel_rfl) 11 (by decide) (by kernel_rfl) (by kernel_rfl) (by kernel_rfl) (w3.heap.size) (Nat.le_refl _) [.val (.int .i64 (i : Int)), .val (.int .i64 ((i - 32 : Nat) : Int)), .val (.pointer (some ⟨ab, i - 32, none⟩)), .val (.int .u8 ((gb S (i - 32) : Nat) : Int)), .val (.int .i64 (i : Int)), .val (.int .i64 ((i - 4 : Nat) : Int)), .val (.pointer (some ⟨ab, i - 4, none⟩)), .val (.int .u8 ((gb S (i - 4) : Nat) : Int)), .val (.int .u8 ((box (gb S (i - 4)) : Nat) : Int)), .val (.int .u8 ((gb S (i - 32) ^^^ box (gb S (i - 4)) : Nat) : Int)), .val (.int .u8 ((gb S (i - 32) ^^^ box (gb S (i - 4)) : Nat) : Int))] (fun _ => 11) ?_ ?_
            · refine ⟨?_, ?_, ?_, ?_, ?_, ?_, ?_, ?_, ?_, ?_, ?_, trivial⟩
              · intro a w' hF hB hd
                have e6 : a.eval (.tmp 6) = .int .i64 (i : Int) := hF 6 (by decide +kernel)
                exact doesG_val rfl (ex_move rfl e6) rfl rfl
              · intro a w' hF hB hd
                have e53 : a.eval (.tmp 53) = .int .i64 (i : Int) := hd 0 (by decide +kernel) (.inr (by decide))
                exact doesG_val rfl (v := .int .i64 ((i - 32 : Nat) : Int)) (by unfold execOp; simp only [e53]; go_simp; rw [IntKind.wrap_i64]; omega) rfl rfl
              · intro a w' hF hB hd
                have e54 : a.eval (.tmp 54) = .int .i64 ((i - 32 : Nat) : Int) := hd 1 (by decide +kernel) (.inr (by decide))
                have e4 : a.eval (.tmp 4) = .pointer (some ⟨ab, 0, none⟩) := hF 4 (by decide +kernel)
                have q0 : ((i - 32 : Nat) : Int) < 240 := by omega
                exact doesG_val rfl (v := .pointer (some ⟨ab, i - 32, none⟩)) (by unfold execOp; simp only [e54, e4]; go_simp) rfl rfl
              · intro a w' hF hB hd
                have e55 : a.eval (.tmp 55) = .pointer (some ⟨ab, i - 32, none⟩) := hd 2 (by decide +kernel) (.inr (by decide))
                have c := (A3.out.below hB A3.out.lt).cell (i - 32) _ (row8_val _ _ (by rw [HBS.out.1]; omega))
                exact doesG_val rfl (v := .int .u8 ((gb S (i - 32) : Nat) : Int)) (by unfold execOp; simp only [e55]; go_simp) rfl rfl
              · intro a w' hF hB hd
                have e6 : a.eval (.tmp 6) = .int .i64 (i : Int) := hF 6 (by decide +kernel)
                exact doesG_val rfl (ex_move rfl e6) rfl rfl
              · intro a w' hF hB hd
                have e57 : a.eval (.tmp 57) = .int .i64 (i : Int) := hd 4 (by decide +kernel) (.inr (by decide))
                exact doesG_val rfl (v := .int .i64 ((i - 4 : Nat) : Int)) (by unfold execOp; simp only [e57]; go_simp; rw [IntKind.wrap_i64]; omega) rfl rfl
              · intro a w' hF hB hd
                have e58 : a.eval (.tmp 58) = .int .i64 ((i - 4 : Nat) : Int) := hd 5 (by decide +kernel) (.inr (by decide))
                have e4 : a.eval (.tmp 4) = .pointer (some ⟨ab, 0, none⟩) := hF 4 (by decide +kernel)
                have q0 : ((i - 4 : Nat) : Int) < 240 := by omega
                exact doesG_val rfl (v := .pointer (some ⟨ab, i - 4, none⟩)) (by unfold execOp; simp only [e58, e4]; go_simp) rfl rfl
              · intro a w' hF hB hd
                have e59 : a.eval (.tmp 59) = .pointer (some ⟨ab, i - 4, none⟩) := hd 6 (by decide +kernel) (.inr (by decide))
                have c := (A3.out.below hB A3.out.lt).cell (i - 4) _ (row8_val _ _ (by rw [HBS.out.1]; omega))
                exact doesG_val rfl (v := .int .u8 ((gb S (i - 4) : Nat) : Int)) (by unfold execOp; simp only [e59]; go_simp) rfl rfl
              · intro a w' hF hB hd
                have e60 : a.eval (.tmp 60) = .int .u8 ((gb S (i - 4) : Nat) : Int) := hd 7 (by decide +kernel) (.inr (by decide))
                exact doesG_call rfl (ex_call (vs := #[.int .u8 ((gb S (i - 4) : Nat) : Int)]) rfl (by simp only [List.map_toArray, List.map_cons, List.map_nil, e60]) (by go_simp)) rfl ((sbox_any (gb S (i - 4)) (HBS.out.2 _) w' (HX.out.below (B3.out.on hB))).mono fun e w2 hh => ⟨_, hh.1, rfl, hh.2⟩)
              · intro a w' hF hB hd
                have e56 : a.eval (.tmp 56) = .int .u8 ((gb S (i - 32) : Nat) : Int) := hd 3 (by decide +kernel) (.inr (by decide))
                have e61 : a.eval (.tmp 61) = .int .u8 ((box (gb S (i - 4)) : Nat) : Int) := hd 8 (by decide +kernel) (.inr (by decide))
                have hx := u8_xor_nat (gb S (i - 32)) (box (gb S (i - 4))) (HBS.out.2 _) (box_byte _)
                exact doesG_val rfl (v := .int .u8 ((gb S (i - 32) ^^^ box (gb S (i - 4)) : Nat) : Int)) (by unfold execOp; simp only [e56, e61]; go_simp) rfl rfl
              · intro a w' hF hB hd
                have e62 : a.eval (.tmp 62) = .int .u8 ((gb S (i - 32) ^^^ box (gb S (i - 4)) : Nat) : Int) := hd 9 (by decide +kernel) (.inr (by decide))
                exact doesG_val rfl (ex_assign rfl e62) rfl rfl
            · intro vs w2 hb hv hap
              have e8 : vs 10 = .int .u8 ((gb S (i - 32) ^^^ box (gb S (i - 4)) : Nat) : Int) := hv 10 (by decide) (by decide)
              rw [K4.out i hi1 hlt m4] at e8
              simp only [List.take_succ_cons, List.take_zero, List.drop_succ_cons, List.drop_zero, putOps, Act.put, List.setIfInBounds_toArray, List.set_cons_zero, List.set_cons_succ, e8]
              have A2 := Lib.hid (A3.out.below hb A3.out.lt)
              have B2 := Lib.hid (B3.out.on hb)
              have d2 := A2.out.cell i _ (row8_val _ _ (by rw [HBS.out.1]; omega))
              clear hv hap e8 hb A3 B3
              go_wp2_with fail
              exact ⟨⟨i + 1, by omega, by omega, by go_num, A2.out, B2.out⟩, by simp [intOf]; omega⟩
          · have mb : ((i : Int) / 4 % 8 == 4) = false := by simp; omega
            by_cases m0 : i / 4 % 8 = 0
            · have mc : ((i : Int) / 4 % 8 == 0) = true := by simp; omega
              obtain ⟨z, hz⟩ : ∃ z, z = 4 * (i / 4 - 1) + (i + 1) % 4 := ⟨_, rfl⟩
              have K8i := K8.out i hi1 hlt m0
              have KPi := KP.out i hi1 hlt m0
              rw [← hz] at K8i KPi
              have K8I := Lib.hid K8i
              have KPI := Lib.hid KPi
              have HZ := Lib.hid hz
              clear K8i KPi hz
              go_upto_region 17 with (fail)
              refine wp_region_g (by kernel_rfl) 16 (by decide) (by kernel_rfl) (by kernel_rfl) (by kernel_rfl) (w3.heap.size) (Nat.le_refl _) [.val (.int .i64 (i : Int)), .val (.int .i64 ((i - 32 : Nat) : Int)), .val (.pointer (some ⟨ab, i - 32, none⟩)), .val (.int .u8 ((gb S (i - 32) : Nat) : Int)), .val (.int .i64 ((i / 4 : Nat) : Int)), .val (.int .i64 ((i / 4 - 1 : Nat) : Int)), .val (.int .i64 ((4 * (i / 4 - 1) : Nat) : Int)), .val (.int .i64 (i : Int)), .val (.int .i64 ((i + 1 : Nat) : Int)), .val (.int .i64 (((i + 1) % 4 : Nat) : Int)), .val (.int .i64 ((z : Nat) : Int)), .val (.pointer (some ⟨ab, z, none⟩)), .val (.int .u8 ((gb S z : Nat) : Int)), .val (.int .u8 ((box (gb S z) : Nat) : Int)), .val (.int .u8 ((gb S (i - 32) ^^^ box (gb S z) : Nat) : Int)), .val (.int .u8 ((gb S (i - 32) ^^^ box (gb S z) : Nat) : Int))] (fun _ => 16) ?_ ?_
              · refine ⟨?_, ?_, ?_, ?_, ?_, ?_, ?_, ?_, ?_, ?_, ?_, ?_, ?_, ?_, ?_, ?_, trivial⟩
                · intro a w' hF hB hd
                  have e6 : a.eval (.tmp 6) = .int .i64 (i : Int) := hF 6 (by decide +kernel)
                  exact doesG_val rfl (ex_move rfl e6) rfl rfl
                · intro a w' hF hB hd
                  have e66 : a.eval (.tmp 66) = .int .i64 (i : Int) := hd 0 (by decide +kernel) (.inr (by decide))
                  exact doesG_val rfl (v := .int .i64 ((i - 32 : Nat) : Int)) (by unfold execOp; simp only [e66]; go_simp; rw [IntKind.wrap_i64]; omega) rfl rfl
                · intro a w' hF hB hd
                  have e67 : a.eval (.tmp 67) = .int .i64 ((i - 32 : Nat) : Int) := hd 1 (by decide +kernel) (.inr (by decide))
                  have e4 : a.eval (.tmp 4) = .pointer (some ⟨ab, 0, none⟩) := hF 4 (by decide +kernel)
                  have q0 : ((i - 32 : Nat) : Int) < 240 := by omega
                  exact doesG_val rfl (v := .pointer (some ⟨ab, i - 32, none⟩)) (by unfold execOp; simp only [e67, e4]; go_simp) rfl rfl
                · intro a w' hF hB hd
                  have e68 : a.eval (.tmp 68) = .pointer (some ⟨ab, i - 32, none⟩) := hd 2 (by decide +kernel) (.inr (by decide))
                  have c := (A3.out.below hB A3.out.lt).cell (i - 32) _ (row8_val _ _ (by rw [HBS.out.1]; omega))
                  exact doesG_val rfl (v := .int .u8 ((gb S (i - 32) : Nat) : Int)) (by unfold execOp; simp only [e68]; go_simp) rfl rfl
                · intro a w' hF hB hd
                  have e7 : a.eval (.tmp 7) = .int .i64 ((i / 4 : Nat) : Int) := hF 7 (by decide +kernel)
                  exact doesG_val rfl (ex_move rfl e7) rfl rfl
                · intro a w' hF hB hd
                  have e70 : a.eval (.tmp 70) = .int .i64 ((i / 4 : Nat) : Int) := hd 4 (by decide +kernel) (.inr (by decide))
                  exact doesG_val rfl (v := .int .i64 ((i / 4 - 1 : Nat) : Int)) (by unfold execOp; simp only [e70]; go_simp; rw [IntKind.wrap_i64]; omega) rfl rfl
                · intro a w' hF hB hd
                  have e71 : a.eval (.tmp 71) = .int .i64 ((i / 4 - 1 : Nat) : Int) := hd 5 (by decide +kernel) (.inr (by decide))
                  exact doesG_val rfl (v := .int .i64 ((4 * (i / 4 - 1) : Nat) : Int)) (by unfold execOp; simp only [e71]; go_simp; rw [IntKind.wrap_i64]; omega) rfl rfl
                · intro a w' hF hB hd
                  have e6 : a.eval (.tmp 6) = .int .i64 (i : Int) := hF 6 (by decide +kernel)
                  exact doesG_val rfl (ex_move rfl e6) rfl rfl
                · intro a w' hF hB hd
                  have e73 : a.eval (.tmp 73) = .int .i64 (i : Int) := hd 7 (by decide +kernel) (.inr (by decide))
                  exact doesG_val rfl (v := .int .i64 ((i + 1 : Nat) : Int)) (by unfold execOp; simp only [e73]; go_simp; rw [IntKind.wrap_i64]; omega) rfl rfl
                · intro a w' hF hB hd
                  have e74 : a.eval (.tmp 74) = .int .i64 ((i + 1 : Nat) : Int) := hd 8 (by decide +kernel) (.inr (by decide))
                  exact doesG_val rfl (v := .int .i64 (((i + 1) % 4 : Nat) : Int)) (by unfold execOp; simp only [e74]; go_simp; rw [Int.tmod_eq_emod_of_nonneg (by omega)]) rfl rfl
                · intro a w' hF hB hd
                  have e72 : a.eval (.tmp 72) = .int .i64 ((4 * (i / 4 - 1) : Nat) : Int) := hd 6 (by decide +kernel) (.inr (by decide))
                  have e75 : a.eval (.tmp 75) = .int .i64 (((i + 1) % 4 : Nat) : Int) := hd 9 (by decide +kernel) (.inr (by decide))
                  exact doesG_val rfl (v := .int .i64 ((z : Nat) : Int)) (by unfold execOp; simp only [e72, e75]; go_simp; rw [IntKind.wrap_i64]; have := HZ.out; omega) rfl rfl
                · intro a w' hF hB hd
                  have e76 : a.eval (.tmp 76) = .int .i64 ((z : Nat) : Int) := hd 10 (by decide +kernel) (.inr (by decide))
                  have e4 : a.eval (.tmp 4) = .pointer (some ⟨ab, 0, none⟩) := hF 4 (by decide +kernel)
                  have q0 : ((z : Nat) : Int) < 240 := by have := HZ.out; omega
                  exact doesG_val rfl (v := .pointer (some ⟨ab, z, none⟩)) (by unfold execOp; simp only [e76, e4]; go_simp) rfl rfl
                · intro a w' hF hB hd
                  have e77 : a.eval (.tmp 77) = .pointer (some ⟨ab, z, none⟩) := hd 11 (by decide +kernel) (.inr (by decide))
                  have c := (A3.out.below hB A3.out.lt).cell (z) _ (row8_val _ _ (by rw [HBS.out.1]; have := HZ.out; omega))
                  exact doesG_val rfl (v := .int .u8 ((gb S z : Nat) : Int)) (by unfold execOp; simp only [e77]; go_simp) rfl rfl
                · intro a w' hF hB hd
                  have e78 : a.eval (.tmp 78) = .int .u8 ((gb S z : Nat) : Int) := hd 12 (by decide +kernel) (.inr (by decide))
                  exact doesG_call rfl (ex_call (vs := #[.int .u8 ((gb S z : Nat) : Int)]) rfl (by simp only [List.map_toArray, List.map_cons, List.map_nil, e78]) (by go_simp)) rfl ((sbox_any (gb S z) (HBS.out.2 _) w' (HX.out.below (B3.out.on hB))).mono fun e w2 hh => ⟨_, hh.1, rfl, hh.2⟩)
                · intro a w' hF hB hd
                  have e69 : a.eval (.tmp 69) = .int .u8 ((gb S (i - 32) : Nat) : Int) := hd 3 (by decide +kernel) (.inr (by decide))
                  have e79 : a.eval (.tmp 79) = .int .u8 ((box (gb S z) : Nat) : Int) := hd 13 (by decide +kernel) (.inr (by decide))
                  have hx := u8_xor_nat (gb S (i - 32)) (box (gb S z)) (HBS.out.2 _) (box_byte _)
                  exact doesG_val rfl (v := .int .u8 ((gb S (i - 32) ^^^ box (gb S z) : Nat) : Int)) (by unfold execOp; simp only [e69, e79]; go_simp) rfl rfl
                · intro a w' hF hB hd
                  have e80 : a.eval (.tmp 80) = .int .u8 ((gb S (i - 32) ^^^ box (gb S z) : Nat) : Int) := hd 14 (by decide +kernel) (.inr (by decide))
                  exact doesG_val rfl (ex_assign rfl e80) rfl rfl
              · intro vs w2 hb hv hap
                have e8 : vs 15 = .int .u8 ((gb S (i - 32) ^^^ box (gb S z) : Nat) : Int) := hv 15 (by decide) (by decide)
                have A2 := Lib.hid (A3.out.below hb A3.out.lt)
                have B2 := Lib.hid (B3.out.on hb)
                have d2 := A2.out.cell i _ (row8_val _ _ (by rw [HBS.out.1]; omega))
                by_cases m2 : i % 4 = 0
                · have md : ((i : Int) % 4 == 0) = true := by simp; omega
                  obtain ⟨V, hV⟩ : ∃ V, V = gb S (i - 32) ^^^ box (gb S z) := ⟨_, rfl⟩
                  have hVb : V < 256 := by rw [hV]; exact lt_of_xor (HBS.out.2 _) (box_byte _)
                  have hxp := u8_xor_nat V (power 2 ((i / 4 / 8 - 1 : Nat) : Int)) hVb (power_lt _ _)
                  have hkp := KPI.out m2
                  rw [← hV] at hkp e8
                  rw [hkp] at hxp
                  have HPW := Lib.hid (show ∀ W, Calls Tryd.prog 25 #[.int .u8 2, .int .i64 ((i / 4 / 8 - 1 : Nat) : Int)] W fun e w' => e = .returned (.int .u8 ((power 2 ((i / 4 / 8 - 1 : Nat) : Int) : Nat) : Int)) ∧ W = w' from fun W => power_any 2 ((i / 4 / 8 - 1 : Nat) : Int) (by omega) W)
                  obtain ⟨p, hp⟩ : ∃ p, p = power 2 ((i / 4 / 8 - 1 : Nat) : Int) := ⟨_, rfl⟩
                  rw [← hp] at hxp HPW
                  have hqi : (i : Int) / 4 / 8 - 1 = ((i / 4 / 8 - 1 : Nat) : Int) := by omega
                  simp only [List.take_succ_cons, List.take_zero, List.drop_succ_cons, List.drop_zero, putOps, Act.put, List.setIfInBounds_toArray, List.set_cons_zero, List.set_cons_succ, e8]
                  clear hv hap e8 hb A3 B3 hV hkp hp
                  go_wp2_with (go_at_call 25; (with_reducible refine (HPW.out _).mono ?_); rintro e w9 ⟨rfl, rfl⟩)
                  exact ⟨⟨i + 1, by omega, by omega, by go_num, A2.out, B2.out⟩, by simp [intOf]; omega⟩
                · have md : ((i : Int) % 4 == 0) = false := by simp; omega
                  rw [K8I.out m2] at e8
                  simp only [List.take_succ_cons, List.take_zero, List.drop_succ_cons, List.drop_zero, putOps, Act.put, List.setIfInBounds_toArray, List.set_cons_zero, List.set_cons_succ, e8]
                  clear hv hap e8 hb A3 B3
                  go_wp2_with fail
                  exact ⟨⟨i + 1, by omega, by omega, by go_num, A2.out, B2.out⟩, by simp [intOf]; omega⟩
            · have mc : ((i : Int) / 4 % 8 == 0) = false := by simp; omega
              have hke := KE.out i hi1 hlt m0 m4
              have d2 := A3.out.cell i _ (row8_val _ _ (by rw [HBS.out.1]; omega))
              rw [hke] at hx1
              rw [hke]
              clear hke
              go_wp2_with fail
              exact ⟨⟨i + 1, by omega, by omega, by go_num, A3.out, B3.out⟩, by simp [intOf]; omega⟩
        · obtain rfl : i = 240 := by omega
          have A1 := Lib.hid a0
          have B1 := Lib.hid b0
          clear a0 b0
          go_wp2_with (go_at_call 15; (with_reducible refine (aawake_any _ (HX.out.below B1.out)).mono ?_); rintro e w8 ⟨rfl, b8⟩; have B8 := Lib.hid (B1.out.on b8); clear b8)
          go_ret
          exact ⟨rfl, B8.out⟩
set_option maxRecDepth 100000 in
theorem reads (os : Os) {H : Type} (enc : TypeId × Value → H) : ∃ places, DataW.whole enc Tryd.prog ((World.doorLaid Tryd.prog 400 os).forCall (fun _ _ => 0) ⟨#[], #[.agg (row8 (List.replicate 32 0)).toArray], []⟩).memory Tryd.f9.params.toList Rows.aesKeysSpec.vars false (#[.agg (row8 (List.replicate 32 0)).toArray] : Array Value).toList 8 = some ([lit8 (List.replicate 32 0)], [], places) :=
  ⟨[], by kernel_rfl⟩
set_option linter.unusedVariables false in
set_option maxHeartbeats 1000000 in
set_option maxRecDepth 100000 in
theorem lifted (os : Os) (started : os.Started) (H : Type) (enc : TypeId × Value → H) (F : Stop.Interp) :
    ReturnsInHanded {} Tryd.checked os 9 .any ((OpenSpec.ofChange Rows.aesKeysSpec).preRow enc Tryd.prog Tryd.f9 Rows.aesKeysRow.domain false laidX) (((OpenSpec.ofChange Rows.aesKeysSpec).at F).post enc Tryd.prog Tryd.f9 false true false false) := by
  obtain ⟨places, hx⟩ := reads os enc
  refine returnsInHanded_of_row (C := Tryd.checked) (s := OpenSpec.ofChange Rows.aesKeysSpec) own started (by kernel_rfl) Tryd.func9
    (witness_row_atRef (enc := enc) (C := Tryd.checked) false (World.doorLaid Tryd.prog 400 os) #[.agg (row8 (List.replicate 32 0)).toArray] rfl (by kernel_rfl) (by kernel_rfl) (by kernel_rfl)
      (OpenSpec.preRow_of_cond 8 hx (by kernel_rfl) (fun k hk => by cases hk) (by kernel_rfl) (doorX_met os _))) ?_
  intro W base args ds gs before hval0 hW _ hcond hsz0 hL _ _
  have hsz : (DataW.weightsEach Tryd.prog (Tryd.f9.params.toList ++ Rows.aesKeysSpec.plain.varTypes Tryd.prog) (ds ++ gs)).all (· ≤ reachBytes) = true := hsz0
  clear hsz0
  have hval : ∀ (j : Nat) t v, Tryd.f9.params[j]? = some t → args[j]? = some v → Value.okWide Tryd.prog W .any base t v := hval0
  have hW' := hW
  obtain ⟨p, q, hA0, hV, rfl, _, _⟩ := hW
  have hA : DataW.TrodAll enc Tryd.prog W 0 (fun _ => true) true Tryd.f9.params.toList args.toList ds p := hA0
  rw [Tryd.params9] at hA hval hsz
  obtain ⟨v0, vs0, d0, ds0, p0, q0, hargs, rfl, rfl, g0, r0⟩ := trodAll_cons hA
  obtain ⟨rfl, rfl, rfl⟩ := trodAll_nil r0
  obtain rfl : args = #[v0] := by cases args; simp_all
  obtain ⟨rfl, rfl⟩ := trodVars_none hV
  obtain ⟨l0, h0, rfl, rfl, rfl⟩ := open_row Tryd.underlying27 Tryd.underlying5 cells5 (hval 0 27 v0 rfl rfl) cells27 g0
  clear hA0 hval0
  have hlt := hW'.lt
  refine (walk W (tabX_of_laid hL) l0 h0).mono fun e W' ⟨he, hb⟩ => ?_
  subst he
  have hargs : DataW.TrodAll enc Tryd.prog W' 0 (fun b => decide (b < W.heap.size)) true _ _ _ _ := (trodAll_cons_mk (shut_row Tryd.underlying27 Tryd.underlying5 cells5 cells27 h0) trodAll_mk0)
  simp only [List.append_nil] at hW' hargs
  exact ⟨_, rfl, post_law hW' (trodAll_cons_mk (shut_bool Tryd.underlying4 _) trodAll_mk0) hargs rfl hb⟩

theorem over : Rows.aesKeysRow.holds Tryd.pinned (OpenSpec.ofChange Rows.aesKeysSpec) :=
  OpenClaim.holds_of_cond 9 Tryd.f9 rfl rfl rfl rfl rfl rfl rfl ⟨rfl, rfl, rfl, rfl, rfl⟩ rfl rfl rfl rfl rfl (by kernel_rfl) Tryd.func9 (by kernel_rfl)
    (of_decide_eq_true (by kernel_rfl)) (by unfold Func.isWrapper; first | (rw [if_pos (by decide +kernel)]; kernel_rfl) | (rw [if_neg (by decide +kernel)]; exact ⟨rfl, rfl⟩))
    (fun os started H enc _ F => by rw [OpenClaim.pre_eq_preRow]; exact lifted os started H enc F)

/-- The given statement. -/
theorem proved : Rows.AesKeysCardSaid :=
  Claim7.holds_tied_plain_at .later [] _ _ _ _
    over (fun _ h => by cases h) (by kernel_rfl) (fun _ h => by cases h) aesKeys_row_tie rfl ⟨rfl, rfl⟩ (by kernel_rfl) rfl
    (fun f fn hf hfn => by
      obtain rfl : f = 9 := Option.some.inj ((show Tryd.prog.funcNamed "reliquary/reliquarylaw06.AesKeys" = some 9 by kernel_rfl).symm.trans hf) |>.symm
      obtain rfl : fn = Tryd.f9 := (Option.some.inj (Tryd.func9.symm.trans hfn)).symm
      exact ⟨by kernel_rfl, fun j t ht => by
        rw [Tryd.params9] at ht
        have hm : t ∈ [27] := by simpa using Array.mem_of_getElem? ht
        have hall : ([27].all fun u => !Tryd.prog.wantsStandIn u) = true := by kernel_rfl
        exact (show Tryd.prog.wantsStandIn t = false by simpa using List.all_eq_true.1 hall t hm)⟩)
    (by kernel_rfl)
end Go.Proofs.YtdoifgofmlagbaaDoor.aesKeys
