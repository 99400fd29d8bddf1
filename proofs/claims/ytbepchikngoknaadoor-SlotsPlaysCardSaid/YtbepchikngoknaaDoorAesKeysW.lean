/- The document's round keys: the walk. Own work. -/
import Derived.Test.YtbepchikngoknaaDoorAesKeysR
namespace Go.Proofs.YtbepchikngoknaaDoor
open Go.ChangeShapes Go.WideShapes Go.ChangeAt Go.RowKit
open AM FM
set_option maxRecDepth 100000 in
set_option maxHeartbeats 4000000 in
theorem asched_any (K : List Nat) (hK : Bytes 32 K) (w : World) (ht : TabA w) :
    Calls Tryd.prog 77 #[.agg (row8 K).toArray] w fun e w' => e = .returned (.agg (row8 (sched K)).toArray) ∧ Below w.heap.size w w' := by
  obtain ⟨S, hS⟩ : ∃ S, S = sched K := ⟨_, rfl⟩
  rw [← hS]
  have bS : Bytes 240 S := by rw [hS]; exact sched_bytes hK.2
  have HW := Lib.hid (fun i (h : i < 8) => (show w4 S i = w4 K i by rw [hS]; exact w4_key K i h))
  have HN := Lib.hid (fun i k (h8 : 8 ≤ i) (h60 : i < 60) (hk : k < 4) => (show gb S (4 * (i - 8) + k) ^^^ gb (wt S i) k = gb S (4 * i + k) by rw [hS]; exact (wt_next K i k h8 h60 hk).symm))
  obtain ⟨C0, hC0⟩ : ∃ C0, C0 = row8 (List.replicate 240 0) := ⟨_, rfl⟩
  have hzw : ∀ w, (zeroValue 142).run Tryd.prog w = .ok (.agg C0.toArray) w := by rw [hC0]; exact zeroW
  have hzk : ∀ w, (zeroValue 123).run Tryd.prog w = .ok (.agg C0.toArray) w := by rw [hC0]; exact zeroK
  have hc0 : C0.length = 240 := by rw [hC0, row8_len, List.length_replicate]
  have HC := Lib.hid hC0
  have w1 := (Below.refl w.heap.size w).alloc (Nat.le_refl _) (.cells (row8 K).toArray 25)
  have w2 := w1.alloc w1.size (.cells C0.toArray 123)
  have w3 := w2.alloc w2.size (.cells C0.toArray 142)
  have N0 := Lib.hid (((Blk.new w 25 (row8 K) _ rfl).alloc (.cells C0.toArray 123)).alloc (.cells C0.toArray 142))
  have N1 := Lib.hid ((Blk.new (w.alloc (.cells (row8 K).toArray 25)) 123 C0 (w.heap.size + 1) (by simp)).alloc (.cells C0.toArray 142))
  have N2 := Lib.hid (Blk.new ((w.alloc (.cells (row8 K).toArray 25)).alloc (.cells C0.toArray 123)) 142 C0 (w.heap.size + 1 + 1) (by simp))
  have W3 := Lib.hid w3
  have HK := Lib.hid hK
  have HBS := Lib.hid bS
  have HT := Lib.hid ht
  clear hC0 w1 w2 w3 hK bS hS ht
  go_enter Tryd.func77, Tryd.ntmps77
  go_upto_region 3 with (fail)
  go_loopw [4] (fun x wr => ∃ i : Nat, i ≤ 60 ∧ x = .int .i64 (i : Int) ∧ Blk wr w.heap.size 25 (row8 K) ∧ Blk wr (w.heap.size + 1) 123 C0 ∧ Blk wr (w.heap.size + 1 + 1) 142 (row8 (swd S (4 * i))) ∧ Below w.heap.size w wr) (fun x _ => 60 - (intOf x).toNat)
  case atStart => exact ⟨0, by omega, rfl, N0.out, N1.out, by rw [Nat.mul_zero, swd_zero, ← HC.out]; exact N2.out, W3.out⟩
  case round =>
    clear N0 N1 N2 W3
    obtain ⟨i, hi, rfl, k0, r0, n0, b0⟩ := hrel
    have K0 := Lib.hid k0
    have R0 := Lib.hid r0
    have N0 := Lib.hid n0
    have B0 := Lib.hid b0
    clear k0 r0 n0 b0
    by_cases h60 : i < 60
    · have h60I : (i : Int) < 60 := by omega
      by_cases h8 : i < 8
      · have h8I : (i : Int) < 8 := by omega
        have c0 := K0.out.cell (4 * i) _ (row8_val _ _ (by rw [HK.out.1]; omega))
        have c1 := K0.out.cell (4 * i + 1) _ (row8_val _ _ (by rw [HK.out.1]; omega))
        have c2 := K0.out.cell (4 * i + 2) _ (row8_val _ _ (by rw [HK.out.1]; omega))
        have c3 := K0.out.cell (4 * i + 3) _ (row8_val _ _ (by rw [HK.out.1]; omega))
        have q0 : (0 : Int) ≤ 4 * (i : Int) := by omega
        have q1 : 4 * (i : Int) < 32 := by omega
        have q2 : (4 * (i : Int)).toNat = 4 * i := by omega
        have a0 : (0 : Int) ≤ 4 * (i : Int) + 1 := by omega
        have a1 : 4 * (i : Int) + 1 < 32 := by omega
        have a2 : (4 * (i : Int) + 1).toNat = 4 * i + 1 := by omega
        have e0 : (0 : Int) ≤ 4 * (i : Int) + 2 := by omega
        have e1 : 4 * (i : Int) + 2 < 32 := by omega
        have e2 : (4 * (i : Int) + 2).toNat = 4 * i + 2 := by omega
        have g0 : (0 : Int) ≤ 4 * (i : Int) + 3 := by omega
        have g1 : 4 * (i : Int) + 3 < 32 := by omega
        have g2 : (4 * (i : Int) + 3).toNat = 4 * i + 3 := by omega
        have d0 := N0.out.cell (i * 4) _ (row8_val _ _ (by rw [swd_len]; omega))
        have d1 := N0.out.cell (i * 4 + 1) _ (row8_val _ _ (by rw [swd_len]; omega))
        have d2 := N0.out.cell (i * 4 + 2) _ (row8_val _ _ (by rw [swd_len]; omega))
        have d3 := N0.out.cell (i * 4 + 3) _ (row8_val _ _ (by rw [swd_len]; omega))
        have f0 := N0.out.free (i * 4)
        have f1 := N0.out.free (i * 4 + 1)
        have f2 := N0.out.free (i * 4 + 2)
        have f3 := N0.out.free (i * 4 + 3)
        go_upto_region 6 with (fail)
        go_region
        have nt := ((((N0.out.set (i * 4) (.int .u8 ((gb K (4 * i) : Nat) : Int))).set (i * 4 + 1) (.int .u8 ((gb K (4 * i + 1) : Nat) : Int))).set (i * 4 + 2) (.int .u8 ((gb K (4 * i + 2) : Nat) : Int))).set (i * 4 + 3) (.int .u8 ((gb K (4 * i + 3) : Nat) : Int))).drew
        rw [swd_four S i h60 _ _ _ _ (HW.out i h8).symm] at nt
        have NT := Lib.hid nt
        have KT := Lib.hid ((((K0.out.other ⟨w.heap.size + 1 + 1, i * 4, none⟩ (.int .u8 ((gb K (4 * i) : Nat) : Int)) (by simp <;> omega)).other ⟨w.heap.size + 1 + 1, i * 4 + 1, none⟩ (.int .u8 ((gb K (4 * i + 1) : Nat) : Int)) (by simp <;> omega)).other ⟨w.heap.size + 1 + 1, i * 4 + 2, none⟩ (.int .u8 ((gb K (4 * i + 2) : Nat) : Int)) (by simp <;> omega)).other ⟨w.heap.size + 1 + 1, i * 4 + 3, none⟩ (.int .u8 ((gb K (4 * i + 3) : Nat) : Int)) (by simp <;> omega)).drew
        have RT := Lib.hid ((((R0.out.other ⟨w.heap.size + 1 + 1, i * 4, none⟩ (.int .u8 ((gb K (4 * i) : Nat) : Int)) (by simp <;> omega)).other ⟨w.heap.size + 1 + 1, i * 4 + 1, none⟩ (.int .u8 ((gb K (4 * i + 1) : Nat) : Int)) (by simp <;> omega)).other ⟨w.heap.size + 1 + 1, i * 4 + 2, none⟩ (.int .u8 ((gb K (4 * i + 2) : Nat) : Int)) (by simp <;> omega)).other ⟨w.heap.size + 1 + 1, i * 4 + 3, none⟩ (.int .u8 ((gb K (4 * i + 3) : Nat) : Int)) (by simp <;> omega)).drew
        have BT := Lib.hid ((((B0.out.setCell (p := ⟨w.heap.size + 1 + 1, i * 4, none⟩) (by simp <;> omega) (.int .u8 ((gb K (4 * i) : Nat) : Int))).setCell (p := ⟨w.heap.size + 1 + 1, i * 4 + 1, none⟩) (by simp <;> omega) (.int .u8 ((gb K (4 * i + 1) : Nat) : Int))).setCell (p := ⟨w.heap.size + 1 + 1, i * 4 + 2, none⟩) (by simp <;> omega) (.int .u8 ((gb K (4 * i + 2) : Nat) : Int))).setCell (p := ⟨w.heap.size + 1 + 1, i * 4 + 3, none⟩) (by simp <;> omega) (.int .u8 ((gb K (4 * i + 3) : Nat) : Int))).drew
        clear nt
        go_wp2_with fail
        exact ⟨⟨i + 1, by omega, by go_num, KT.out, RT.out, NT.out, BT.out⟩, by simp [intOf]; omega⟩
      · have h8I : ¬ (i : Int) < 8 := by omega
        have q0 : (0 : Int) ≤ (i : Int) - 1 := by omega
        have q1 : (i : Int) - 1 < 60 := by omega
        have q2 : ((i : Int) - 1).toNat = i - 1 := by omega
        have hpart := range_part N0.out (4 * (i - 1)) (row8 (w4 S (i - 1))) (fun j v hv => w4_part S (4 * i) (i - 1) (by omega) (by omega) j v hv)
        rw [Nat.mul_comm 4 (i - 1)] at hpart
        have HP := Lib.hid hpart
        have HP4 := Lib.hid (show (row8 (w4 S (i - 1))).length = 4 from rfl)
        clear hpart
        go_upto_if 44 with (first
          | (refine wpList_load_mid rfl 141 (.tmp 40) rfl (w.heap.size + 1 + 1) ((i - 1) * 4) rfl (row8 (w4 S (i - 1))) _ HP.out Tryd.underlying141 rfl (by rw [HP4.out]; exact info4) ?_)
          | (refine wpList_store_blk rfl 141 (.tmp 5) (.tmp 41) rfl wr.heap.size 0 (row8 (w4 S (i - 1))) rfl rfl 141 (row8 [0, 0, 0, 0]) (Blk.new wr 141 (row8 [0, 0, 0, 0]) _ rfl) (by rw [HP4.out]; exact Nat.le_refl _) (by rw [HP4.out]; exact info4) (row8_one _) ?_; intro w5 b5 g5; rw [splice_all _ _ (by rw [HP4.out]; rfl)] at b5; have T5 := Lib.hid b5; have B5 := Lib.hid ((B0.out.alloc B0.out.size (.cells (row8 [0, 0, 0, 0]).toArray 141)).grown g5 (by have := B0.out.size; simp; omega) (fun k hk => by have e : wr.heap.size = k := Option.some.inj hk; have := B0.out.size; omega)); have K5 := Lib.hid ((K0.out.alloc (.cells (row8 [0, 0, 0, 0]).toArray 141)).grown g5 (fun q => by have e : w.heap.size = wr.heap.size := Option.some.inj q; have := K0.out.lt; omega)); have R5 := Lib.hid ((R0.out.alloc (.cells (row8 [0, 0, 0, 0]).toArray 141)).grown g5 (fun q => by have e : w.heap.size + 1 = wr.heap.size := Option.some.inj q; have := R0.out.lt; omega)); have N5 := Lib.hid ((N0.out.alloc (.cells (row8 [0, 0, 0, 0]).toArray 141)).grown g5 (fun q => by have e : w.heap.size + 1 + 1 = wr.heap.size := Option.some.inj q; have := N0.out.lt; omega)); clear b5 g5))
        have HWR := Lib.hid (show w.heap.size + 1 + 1 < wr.heap.size from N0.out.lt)
        obtain ⟨tb, htb⟩ : ∃ b, b = wr.heap.size := ⟨_, rfl⟩
        have htl := HWR.out
        rw [← htb] at T5 htl ⊢
        clear q0 q1 q2 HP HP4 HWR htb K0 R0 N0 B0
        obtain ⟨Z, hZ⟩ : ∃ Z, Z = wt S i := ⟨_, rfl⟩
        have Z4 := Lib.hid (show (row8 Z).length = 4 by rw [hZ, row8_len]; exact (wt_bytes HBS.out.2 i).1)
        have HZ := Lib.hid hZ
        clear hZ
        go_cut [] (fun wx => Blk wx tb 141 (row8 Z) ∧ Blk wx w.heap.size 25 (row8 K) ∧ Blk wx (w.heap.size + 1) 123 C0 ∧ Blk wx (w.heap.size + 1 + 1) 142 (row8 (swd S (4 * i))) ∧ Below w.heap.size w wx)
        case first =>
          obtain ⟨y0, hy0⟩ : ∃ y, y = gb S (4 * (i - 1)) := ⟨_, rfl⟩
          obtain ⟨y1, hy1⟩ : ∃ y, y = gb S (4 * (i - 1) + 1) := ⟨_, rfl⟩
          obtain ⟨y2, hy2⟩ : ∃ y, y = gb S (4 * (i - 1) + 2) := ⟨_, rfl⟩
          obtain ⟨y3, hy3⟩ : ∃ y, y = gb S (4 * (i - 1) + 3) := ⟨_, rfl⟩
          have l0 : y0 < 256 := by rw [hy0]; exact HBS.out.2 _
          have l1 : y1 < 256 := by rw [hy1]; exact HBS.out.2 _
          have l2 : y2 < 256 := by rw [hy2]; exact HBS.out.2 _
          have l3 : y3 < 256 := by rw [hy3]; exact HBS.out.2 _
          have hw4 : w4 S (i - 1) = [y0, y1, y2, y3] := by rw [hy0, hy1, hy2, hy3]; rfl
          obtain ⟨Y, hY⟩ : ∃ Y, Y = [y0, y1, y2, y3] := ⟨_, rfl⟩
          rw [hw4, ← hY] at T5
          have HY := Lib.hid hY
          have Y4 := Lib.hid (show (row8 Y).length = 4 by rw [hY]; rfl)
          have hw4 := hw4.trans hY.symm
          clear hY
          by_cases m0 : i % 8 = 0
          · have mb : ((i : Int) % 8 == 0) = true := by simp; omega
            have HWT := Lib.hid (show Z = [box y1 ^^^ power 2 ((i / 8 - 1 : Nat) : Int), box y2, box y3, box y0] by rw [HZ.out]; unfold wt; rw [if_pos m0, ← hy0, ← hy1, ← hy2, ← hy3])
            clear hy0 hy1 hy2 hy3 hw4
            go_upto_region 9 with (fail)
            refine wp_region_g (by kernel_rfl) 22 (by decide) (by kernel_rfl) (by kernel_rfl) (by kernel_rfl) (w5.heap.size) (Nat.le_refl _) [.val (.pointer (some ⟨tb, 1, none⟩)), .val (.int .u8 (y1 : Int)), .val (.pointer (some ⟨2, y1, none⟩)), .val (.int .u8 ((box y1 : Nat) : Int)), .val (.int .i64 (i : Int)), .val (.int .i64 ((i / 8 : Nat) : Int)), .val (.int .i64 ((i / 8 - 1 : Nat) : Int)), .val (.int .u8 ((power 2 ((i / 8 - 1 : Nat) : Int) : Nat) : Int)), .val (.int .u8 ((box y1 ^^^ power 2 ((i / 8 - 1 : Nat) : Int) : Nat) : Int)), .val (.pointer (some ⟨tb, 2, none⟩)), .val (.int .u8 (y2 : Int)), .val (.pointer (some ⟨2, y2, none⟩)), .val (.int .u8 ((box y2 : Nat) : Int)), .val (.pointer (some ⟨tb, 3, none⟩)), .val (.int .u8 (y3 : Int)), .val (.pointer (some ⟨2, y3, none⟩)), .val (.int .u8 ((box y3 : Nat) : Int)), .val (.pointer (some ⟨tb, 0, none⟩)), .val (.int .u8 (y0 : Int)), .val (.pointer (some ⟨2, y0, none⟩)), .val (.int .u8 ((box y0 : Nat) : Int)), .val (.agg (row8 Z).toArray)] (fun _ => 23) ?_ ?_
            · refine ⟨?_, ?_, ?_, ?_, ?_, ?_, ?_, ?_, ?_, ?_, ?_, ?_, ?_, ?_, ?_, ?_, ?_, ?_, ?_, ?_, ?_, ?_, trivial⟩
              · intro a w' hF hB hd
                have e5 : a.eval (.tmp 5) = .pointer (some ⟨tb, 0, none⟩) := hF 5 (by decide +kernel)
                exact doesG_val rfl (v := .pointer (some ⟨tb, 1, none⟩)) (by unfold execOp; simp only [e5]; go_simp) rfl rfl
              · intro a w' hF hB hd
                have e45 : a.eval (.tmp 45) = .pointer (some ⟨tb, 1, none⟩) := hd 0 (by decide +kernel) (.inr (by decide))
                have c := (T5.out.below hB T5.out.lt).cell 1 (.int .u8 (y1 : Int)) (by rw [HY.out]; rfl)
                exact doesG_val rfl (v := .int .u8 (y1 : Int)) (by unfold execOp; simp only [e45]; go_simp) rfl rfl
              · intro a w' hF hB hd
                have e46 : a.eval (.tmp 46) = .int .u8 (y1 : Int) := hd 1 (by decide +kernel) (.inr (by decide))
                have l : (y1 : Int) < 256 := by omega
                exact doesG_val rfl (v := .pointer (some ⟨2, y1, none⟩)) (by unfold execOp; simp only [e46]; go_simp) rfl rfl
              · intro a w' hF hB hd
                have e47 : a.eval (.tmp 47) = .pointer (some ⟨2, y1, none⟩) := hd 2 (by decide +kernel) (.inr (by decide))
                have c := HT.out.below (B5.out.on hB) y1 l1
                exact doesG_val rfl (v := .int .u8 ((box y1 : Nat) : Int)) (by unfold execOp; simp only [e47]; go_simp) rfl rfl
              · intro a w' hF hB hd
                have e4 : a.eval (.tmp 4) = .int .i64 (i : Int) := hF 4 (by decide +kernel)
                exact doesG_val rfl (ex_move rfl e4) rfl rfl
              · intro a w' hF hB hd
                have e49 : a.eval (.tmp 49) = .int .i64 (i : Int) := hd 4 (by decide +kernel) (.inr (by decide))
                exact doesG_val rfl (v := .int .i64 ((i / 8 : Nat) : Int)) (by unfold execOp; simp only [e49]; go_simp; rw [IntKind.wrap_i64]; omega) rfl rfl
              · intro a w' hF hB hd
                have e50 : a.eval (.tmp 50) = .int .i64 ((i / 8 : Nat) : Int) := hd 5 (by decide +kernel) (.inr (by decide))
                exact doesG_val rfl (v := .int .i64 ((i / 8 - 1 : Nat) : Int)) (by unfold execOp; simp only [e50]; go_simp; rw [IntKind.wrap_i64]; omega) rfl rfl
              · intro a w' hF hB hd
                have e51 : a.eval (.tmp 51) = .int .i64 ((i / 8 - 1 : Nat) : Int) := hd 6 (by decide +kernel) (.inr (by decide))
                exact doesG_call rfl (ex_call (vs := #[.int .u8 2, .int .i64 ((i / 8 - 1 : Nat) : Int)]) rfl (by simp only [List.map_toArray, List.map_cons, List.map_nil, e51]; rfl) (by go_simp)) rfl ((rpower_any 2 ((i / 8 - 1 : Nat) : Int) (by omega) w').mono fun e w2 hh => by obtain ⟨h1, rfl⟩ := hh; exact ⟨_, h1, rfl, Below.refl _ _⟩)
              · intro a w' hF hB hd
                have e48 : a.eval (.tmp 48) = .int .u8 ((box y1 : Nat) : Int) := hd 3 (by decide +kernel) (.inr (by decide))
                have e52 : a.eval (.tmp 52) = .int .u8 ((power 2 ((i / 8 - 1 : Nat) : Int) : Nat) : Int) := hd 7 (by decide +kernel) (.inr (by decide))
                have hx := u8_xor_nat (box y1) (power 2 ((i / 8 - 1 : Nat) : Int)) (box_byte _) (power_lt _ _)
                exact doesG_val rfl (v := .int .u8 ((box y1 ^^^ power 2 ((i / 8 - 1 : Nat) : Int) : Nat) : Int)) (by unfold execOp; simp only [e48, e52]; go_simp) rfl rfl
              · intro a w' hF hB hd
                have e5 : a.eval (.tmp 5) = .pointer (some ⟨tb, 0, none⟩) := hF 5 (by decide +kernel)
                exact doesG_val rfl (v := .pointer (some ⟨tb, 2, none⟩)) (by unfold execOp; simp only [e5]; go_simp) rfl rfl
              · intro a w' hF hB hd
                have e54 : a.eval (.tmp 54) = .pointer (some ⟨tb, 2, none⟩) := hd 9 (by decide +kernel) (.inr (by decide))
                have c := (T5.out.below hB T5.out.lt).cell 2 (.int .u8 (y2 : Int)) (by rw [HY.out]; rfl)
                exact doesG_val rfl (v := .int .u8 (y2 : Int)) (by unfold execOp; simp only [e54]; go_simp) rfl rfl
              · intro a w' hF hB hd
                have e55 : a.eval (.tmp 55) = .int .u8 (y2 : Int) := hd 10 (by decide +kernel) (.inr (by decide))
                have l : (y2 : Int) < 256 := by omega
                exact doesG_val rfl (v := .pointer (some ⟨2, y2, none⟩)) (by unfold execOp; simp only [e55]; go_simp) rfl rfl
              · intro a w' hF hB hd
                have e56 : a.eval (.tmp 56) = .pointer (some ⟨2, y2, none⟩) := hd 11 (by decide +kernel) (.inr (by decide))
                have c := HT.out.below (B5.out.on hB) y2 l2
                exact doesG_val rfl (v := .int .u8 ((box y2 : Nat) : Int)) (by unfold execOp; simp only [e56]; go_simp) rfl rfl
              · intro a w' hF hB hd
                have e5 : a.eval (.tmp 5) = .pointer (some ⟨tb, 0, none⟩) := hF 5 (by decide +kernel)
                exact doesG_val rfl (v := .pointer (some ⟨tb, 3, none⟩)) (by unfold execOp; simp only [e5]; go_simp) rfl rfl
              · intro a w' hF hB hd
                have e58 : a.eval (.tmp 58) = .pointer (some ⟨tb, 3, none⟩) := hd 13 (by decide +kernel) (.inr (by decide))
                have c := (T5.out.below hB T5.out.lt).cell 3 (.int .u8 (y3 : Int)) (by rw [HY.out]; rfl)
                exact doesG_val rfl (v := .int .u8 (y3 : Int)) (by unfold execOp; simp only [e58]; go_simp) rfl rfl
              · intro a w' hF hB hd
                have e59 : a.eval (.tmp 59) = .int .u8 (y3 : Int) := hd 14 (by decide +kernel) (.inr (by decide))
                have l : (y3 : Int) < 256 := by omega
                exact doesG_val rfl (v := .pointer (some ⟨2, y3, none⟩)) (by unfold execOp; simp only [e59]; go_simp) rfl rfl
              · intro a w' hF hB hd
                have e60 : a.eval (.tmp 60) = .pointer (some ⟨2, y3, none⟩) := hd 15 (by decide +kernel) (.inr (by decide))
                have c := HT.out.below (B5.out.on hB) y3 l3
                exact doesG_val rfl (v := .int .u8 ((box y3 : Nat) : Int)) (by unfold execOp; simp only [e60]; go_simp) rfl rfl
              · intro a w' hF hB hd
                have e5 : a.eval (.tmp 5) = .pointer (some ⟨tb, 0, none⟩) := hF 5 (by decide +kernel)
                exact doesG_val rfl (v := .pointer (some ⟨tb, 0, none⟩)) (by unfold execOp; simp only [e5]; go_simp) rfl rfl
              · intro a w' hF hB hd
                have e62 : a.eval (.tmp 62) = .pointer (some ⟨tb, 0, none⟩) := hd 17 (by decide +kernel) (.inr (by decide))
                have c := (T5.out.below hB T5.out.lt).cell 0 (.int .u8 (y0 : Int)) (by rw [HY.out]; rfl)
                exact doesG_val rfl (v := .int .u8 (y0 : Int)) (by unfold execOp; simp only [e62]; go_simp) rfl rfl
              · intro a w' hF hB hd
                have e63 : a.eval (.tmp 63) = .int .u8 (y0 : Int) := hd 18 (by decide +kernel) (.inr (by decide))
                have l : (y0 : Int) < 256 := by omega
                exact doesG_val rfl (v := .pointer (some ⟨2, y0, none⟩)) (by unfold execOp; simp only [e63]; go_simp) rfl rfl
              · intro a w' hF hB hd
                have e64 : a.eval (.tmp 64) = .pointer (some ⟨2, y0, none⟩) := hd 19 (by decide +kernel) (.inr (by decide))
                have c := HT.out.below (B5.out.on hB) y0 l0
                exact doesG_val rfl (v := .int .u8 ((box y0 : Nat) : Int)) (by unfold execOp; simp only [e64]; go_simp) rfl rfl
              · intro a w' hF hB hd
                have e53 : a.eval (.tmp 53) = .int .u8 ((box y1 ^^^ power 2 ((i / 8 - 1 : Nat) : Int) : Nat) : Int) := hd 8 (by decide +kernel) (.inr (by decide))
                have e57 : a.eval (.tmp 57) = .int .u8 ((box y2 : Nat) : Int) := hd 12 (by decide +kernel) (.inr (by decide))
                have e61 : a.eval (.tmp 61) = .int .u8 ((box y3 : Nat) : Int) := hd 16 (by decide +kernel) (.inr (by decide))
                have e65 : a.eval (.tmp 65) = .int .u8 ((box y0 : Nat) : Int) := hd 20 (by decide +kernel) (.inr (by decide))
                have f53 : a.tmps[53]?.getD undef = .int .u8 ((box y1 ^^^ power 2 ((i / 8 - 1 : Nat) : Int) : Nat) : Int) := by rw [← Array.getD_eq_getD_getElem?]; exact e53
                have f57 : a.tmps[57]?.getD undef = .int .u8 ((box y2 : Nat) : Int) := by rw [← Array.getD_eq_getD_getElem?]; exact e57
                have f61 : a.tmps[61]?.getD undef = .int .u8 ((box y3 : Nat) : Int) := by rw [← Array.getD_eq_getD_getElem?]; exact e61
                have f65 : a.tmps[65]?.getD undef = .int .u8 ((box y0 : Nat) : Int) := by rw [← Array.getD_eq_getD_getElem?]; exact e65
                exact doesG_val rfl (v := .agg (row8 Z).toArray) (by rw [HWT.out]; unfold execOp; go_simp; rfl) rfl rfl
            · intro vs w6 hB hv hap
              have e66 : vs 21 = .agg (row8 Z).toArray := hv 21 (by decide) (by decide)
              simp only [List.take_succ_cons, List.take_zero, List.drop_succ_cons, List.drop_zero, putOps, Act.put, List.setIfInBounds_toArray, List.set_cons_zero, List.set_cons_succ, e66]
              have T6 := Lib.hid (T5.out.below hB T5.out.lt)
              have K6 := Lib.hid (K5.out.below hB K5.out.lt)
              have R6 := Lib.hid (R5.out.below hB R5.out.lt)
              have N6 := Lib.hid (N5.out.below hB N5.out.lt)
              have B6 := Lib.hid (B5.out.on hB)
              clear hv hap e66 hB
              go_wp2_with (refine wpList_store_blk rfl 141 (.tmp 5) (.tmp 66) rfl tb 0 (row8 Z) rfl rfl 141 (row8 Y) T6.out (by rw [Z4.out, Y4.out]; exact Nat.le_refl _) (by rw [Z4.out]; exact info4) (row8_one _) ?_; intro w7 b7 g7; rw [splice_all _ _ (by rw [Z4.out, Y4.out])] at b7; have T7 := Lib.hid b7; have K7 := Lib.hid (K6.out.grown g7 (fun q => by have e : w.heap.size = tb := Option.some.inj q; omega)); have R7 := Lib.hid (R6.out.grown g7 (fun q => by have e : w.heap.size + 1 = tb := Option.some.inj q; omega)); have N7 := Lib.hid (N6.out.grown g7 (fun q => by have e : w.heap.size + 1 + 1 = tb := Option.some.inj q; omega)); have B7 := Lib.hid (B6.out.grown g7 B6.out.size (fun k hk => by have e : tb = k := Option.some.inj hk; omega)); clear b7 g7)
              go_meet
              exact ⟨T7.out, K7.out, R7.out, N7.out, B7.out⟩
          · have mb : ((i : Int) % 8 == 0) = false := by simp; omega
            by_cases m4 : i % 8 = 4
            · have mc : ((i : Int) % 8 == 4) = true := by simp; omega
              have HWT := Lib.hid (show Z = [box y0, box y1, box y2, box y3] by rw [HZ.out]; unfold wt; rw [if_neg m0, if_pos m4, ← hy0, ← hy1, ← hy2, ← hy3])
              clear hy0 hy1 hy2 hy3 hw4
              go_upto_region 11 with (fail)
              refine wp_region_g (by kernel_rfl) 17 (by decide) (by kernel_rfl) (by kernel_rfl) (by kernel_rfl) (w5.heap.size) (Nat.le_refl _) [.val (.pointer (some ⟨tb, 0, none⟩)), .val (.int .u8 (y0 : Int)), .val (.pointer (some ⟨2, y0, none⟩)), .val (.int .u8 ((box y0 : Nat) : Int)), .val (.pointer (some ⟨tb, 1, none⟩)), .val (.int .u8 (y1 : Int)), .val (.pointer (some ⟨2, y1, none⟩)), .val (.int .u8 ((box y1 : Nat) : Int)), .val (.pointer (some ⟨tb, 2, none⟩)), .val (.int .u8 (y2 : Int)), .val (.pointer (some ⟨2, y2, none⟩)), .val (.int .u8 ((box y2 : Nat) : Int)), .val (.pointer (some ⟨tb, 3, none⟩)), .val (.int .u8 (y3 : Int)), .val (.pointer (some ⟨2, y3, none⟩)), .val (.int .u8 ((box y3 : Nat) : Int)), .val (.agg (row8 Z).toArray)] (fun _ => 18) ?_ ?_
              · refine ⟨?_, ?_, ?_, ?_, ?_, ?_, ?_, ?_, ?_, ?_, ?_, ?_, ?_, ?_, ?_, ?_, ?_, trivial⟩
                · intro a w' hF hB hd
                  have e5 : a.eval (.tmp 5) = .pointer (some ⟨tb, 0, none⟩) := hF 5 (by decide +kernel)
                  exact doesG_val rfl (v := .pointer (some ⟨tb, 0, none⟩)) (by unfold execOp; simp only [e5]; go_simp) rfl rfl
                · intro a w' hF hB hd
                  have e70 : a.eval (.tmp 70) = .pointer (some ⟨tb, 0, none⟩) := hd 0 (by decide +kernel) (.inr (by decide))
                  have c := (T5.out.below hB T5.out.lt).cell 0 (.int .u8 (y0 : Int)) (by rw [HY.out]; rfl)
                  exact doesG_val rfl (v := .int .u8 (y0 : Int)) (by unfold execOp; simp only [e70]; go_simp) rfl rfl
                · intro a w' hF hB hd
                  have e71 : a.eval (.tmp 71) = .int .u8 (y0 : Int) := hd 1 (by decide +kernel) (.inr (by decide))
                  have l : (y0 : Int) < 256 := by omega
                  exact doesG_val rfl (v := .pointer (some ⟨2, y0, none⟩)) (by unfold execOp; simp only [e71]; go_simp) rfl rfl
                · intro a w' hF hB hd
                  have e72 : a.eval (.tmp 72) = .pointer (some ⟨2, y0, none⟩) := hd 2 (by decide +kernel) (.inr (by decide))
                  have c := HT.out.below (B5.out.on hB) y0 l0
                  exact doesG_val rfl (v := .int .u8 ((box y0 : Nat) : Int)) (by unfold execOp; simp only [e72]; go_simp) rfl rfl
                · intro a w' hF hB hd
                  have e5 : a.eval (.tmp 5) = .pointer (some ⟨tb, 0, none⟩) := hF 5 (by decide +kernel)
                  exact doesG_val rfl (v := .pointer (some ⟨tb, 1, none⟩)) (by unfold execOp; simp only [e5]; go_simp) rfl rfl
                · intro a w' hF hB hd
                  have e74 : a.eval (.tmp 74) = .pointer (some ⟨tb, 1, none⟩) := hd 4 (by decide +kernel) (.inr (by decide))
                  have c := (T5.out.below hB T5.out.lt).cell 1 (.int .u8 (y1 : Int)) (by rw [HY.out]; rfl)
                  exact doesG_val rfl (v := .int .u8 (y1 : Int)) (by unfold execOp; simp only [e74]; go_simp) rfl rfl
                · intro a w' hF hB hd
                  have e75 : a.eval (.tmp 75) = .int .u8 (y1 : Int) := hd 5 (by decide +kernel) (.inr (by decide))
                  have l : (y1 : Int) < 256 := by omega
                  exact doesG_val rfl (v := .pointer (some ⟨2, y1, none⟩)) (by unfold execOp; simp only [e75]; go_simp) rfl rfl
                · intro a w' hF hB hd
                  have e76 : a.eval (.tmp 76) = .pointer (some ⟨2, y1, none⟩) := hd 6 (by decide +kernel) (.inr (by decide))
                  have c := HT.out.below (B5.out.on hB) y1 l1
                  exact doesG_val rfl (v := .int .u8 ((box y1 : Nat) : Int)) (by unfold execOp; simp only [e76]; go_simp) rfl rfl
                · intro a w' hF hB hd
                  have e5 : a.eval (.tmp 5) = .pointer (some ⟨tb, 0, none⟩) := hF 5 (by decide +kernel)
                  exact doesG_val rfl (v := .pointer (some ⟨tb, 2, none⟩)) (by unfold execOp; simp only [e5]; go_simp) rfl rfl
                · intro a w' hF hB hd
                  have e78 : a.eval (.tmp 78) = .pointer (some ⟨tb, 2, none⟩) := hd 8 (by decide +kernel) (.inr (by decide))
                  have c := (T5.out.below hB T5.out.lt).cell 2 (.int .u8 (y2 : Int)) (by rw [HY.out]; rfl)
                  exact doesG_val rfl (v := .int .u8 (y2 : Int)) (by unfold execOp; simp only [e78]; go_simp) rfl rfl
                · intro a w' hF hB hd
                  have e79 : a.eval (.tmp 79) = .int .u8 (y2 : Int) := hd 9 (by decide +kernel) (.inr (by decide))
                  have l : (y2 : Int) < 256 := by omega
                  exact doesG_val rfl (v := .pointer (some ⟨2, y2, none⟩)) (by unfold execOp; simp only [e79]; go_simp) rfl rfl
                · intro a w' hF hB hd
                  have e80 : a.eval (.tmp 80) = .pointer (some ⟨2, y2, none⟩) := hd 10 (by decide +kernel) (.inr (by decide))
                  have c := HT.out.below (B5.out.on hB) y2 l2
                  exact doesG_val rfl (v := .int .u8 ((box y2 : Nat) : Int)) (by unfold execOp; simp only [e80]; go_simp) rfl rfl
                · intro a w' hF hB hd
                  have e5 : a.eval (.tmp 5) = .pointer (some ⟨tb, 0, none⟩) := hF 5 (by decide +kernel)
                  exact doesG_val rfl (v := .pointer (some ⟨tb, 3, none⟩)) (by unfold execOp; simp only [e5]; go_simp) rfl rfl
                · intro a w' hF hB hd
                  have e82 : a.eval (.tmp 82) = .pointer (some ⟨tb, 3, none⟩) := hd 12 (by decide +kernel) (.inr (by decide))
                  have c := (T5.out.below hB T5.out.lt).cell 3 (.int .u8 (y3 : Int)) (by rw [HY.out]; rfl)
                  exact doesG_val rfl (v := .int .u8 (y3 : Int)) (by unfold execOp; simp only [e82]; go_simp) rfl rfl
                · intro a w' hF hB hd
                  have e83 : a.eval (.tmp 83) = .int .u8 (y3 : Int) := hd 13 (by decide +kernel) (.inr (by decide))
                  have l : (y3 : Int) < 256 := by omega
                  exact doesG_val rfl (v := .pointer (some ⟨2, y3, none⟩)) (by unfold execOp; simp only [e83]; go_simp) rfl rfl
                · intro a w' hF hB hd
                  have e84 : a.eval (.tmp 84) = .pointer (some ⟨2, y3, none⟩) := hd 14 (by decide +kernel) (.inr (by decide))
                  have c := HT.out.below (B5.out.on hB) y3 l3
                  exact doesG_val rfl (v := .int .u8 ((box y3 : Nat) : Int)) (by unfold execOp; simp only [e84]; go_simp) rfl rfl
                · intro a w' hF hB hd
                  have e73 : a.eval (.tmp 73) = .int .u8 ((box y0 : Nat) : Int) := hd 3 (by decide +kernel) (.inr (by decide))
                  have e77 : a.eval (.tmp 77) = .int .u8 ((box y1 : Nat) : Int) := hd 7 (by decide +kernel) (.inr (by decide))
                  have e81 : a.eval (.tmp 81) = .int .u8 ((box y2 : Nat) : Int) := hd 11 (by decide +kernel) (.inr (by decide))
                  have e85 : a.eval (.tmp 85) = .int .u8 ((box y3 : Nat) : Int) := hd 15 (by decide +kernel) (.inr (by decide))
                  have f73 : a.tmps[73]?.getD undef = .int .u8 ((box y0 : Nat) : Int) := by rw [← Array.getD_eq_getD_getElem?]; exact e73
                  have f77 : a.tmps[77]?.getD undef = .int .u8 ((box y1 : Nat) : Int) := by rw [← Array.getD_eq_getD_getElem?]; exact e77
                  have f81 : a.tmps[81]?.getD undef = .int .u8 ((box y2 : Nat) : Int) := by rw [← Array.getD_eq_getD_getElem?]; exact e81
                  have f85 : a.tmps[85]?.getD undef = .int .u8 ((box y3 : Nat) : Int) := by rw [← Array.getD_eq_getD_getElem?]; exact e85
                  exact doesG_val rfl (v := .agg (row8 Z).toArray) (by rw [HWT.out]; unfold execOp; go_simp; rfl) rfl rfl
              · intro vs w6 hB hv hap
                have e86 : vs 16 = .agg (row8 Z).toArray := hv 16 (by decide) (by decide)
                simp only [List.take_succ_cons, List.take_zero, List.drop_succ_cons, List.drop_zero, putOps, Act.put, List.setIfInBounds_toArray, List.set_cons_zero, List.set_cons_succ, e86]
                have T6 := Lib.hid (T5.out.below hB T5.out.lt)
                have K6 := Lib.hid (K5.out.below hB K5.out.lt)
                have R6 := Lib.hid (R5.out.below hB R5.out.lt)
                have N6 := Lib.hid (N5.out.below hB N5.out.lt)
                have B6 := Lib.hid (B5.out.on hB)
                clear hv hap e86 hB
                go_wp2_with (refine wpList_store_blk rfl 141 (.tmp 5) (.tmp 86) rfl tb 0 (row8 Z) rfl rfl 141 (row8 Y) T6.out (by rw [Z4.out, Y4.out]; exact Nat.le_refl _) (by rw [Z4.out]; exact info4) (row8_one _) ?_; intro w7 b7 g7; rw [splice_all _ _ (by rw [Z4.out, Y4.out])] at b7; have T7 := Lib.hid b7; have K7 := Lib.hid (K6.out.grown g7 (fun q => by have e : w.heap.size = tb := Option.some.inj q; omega)); have R7 := Lib.hid (R6.out.grown g7 (fun q => by have e : w.heap.size + 1 = tb := Option.some.inj q; omega)); have N7 := Lib.hid (N6.out.grown g7 (fun q => by have e : w.heap.size + 1 + 1 = tb := Option.some.inj q; omega)); have B7 := Lib.hid (B6.out.grown g7 B6.out.size (fun k hk => by have e : tb = k := Option.some.inj hk; omega)); clear b7 g7)
                go_meet
                exact ⟨T7.out, K7.out, R7.out, N7.out, B7.out⟩
            · have mc : ((i : Int) % 8 == 4) = false := by simp; omega
              have HWT := Lib.hid (show Z = Y by rw [HZ.out]; unfold wt; rw [if_neg m0, if_neg m4]; exact hw4)
              clear hy0 hy1 hy2 hy3 hw4
              go_wp2_with fail
              go_meet
              exact ⟨by rw [HWT.out]; exact T5.out, K5.out, R5.out, N5.out, B5.out⟩
        case rest =>
          clear T5 K5 R5 N5 B5
          obtain ⟨t5, k5, r5, n5, b5⟩ := hcut
          have T6 := Lib.hid t5
          have K6 := Lib.hid k5
          have R6 := Lib.hid r5
          have N6 := Lib.hid n5
          have B6 := Lib.hid b5
          have HBZ := Lib.hid (show Bytes 4 Z by rw [HZ.out]; exact wt_bytes HBS.out.2 i)
          clear t5 k5 r5 n5 b5
          go_upto_region 13 with (fail)
          go_loopw [6] (fun x wq => ∃ k : Nat, k ≤ 4 ∧ x = .int .i64 (k : Int) ∧ Blk wq tb 141 (row8 Z) ∧ Blk wq w.heap.size 25 (row8 K) ∧ Blk wq (w.heap.size + 1) 123 C0 ∧ Blk wq (w.heap.size + 1 + 1) 142 (row8 (swd S (4 * i + k))) ∧ Below w.heap.size w wq) (fun x _ => 4 - (intOf x).toNat)
          case atStart => exact ⟨0, by omega, rfl, T6.out, K6.out, R6.out, N6.out, B6.out⟩
          case round =>
            clear T6 K6 R6 N6 B6
            obtain ⟨k, hk, rfl, t7, k7, r7, n7, b7⟩ := hrel
            by_cases hk4 : k < 4
            · have hk4I : (k : Int) < 4 := by omega
              obtain ⟨m, hm⟩ : ∃ m, i = m + 8 := ⟨i - 8, by omega⟩
              have c1 := n7.cell (m * 4 + k) _ (row8_val _ _ (by rw [swd_len]; omega))
              rw [swd_get _ _ _ (by omega), if_pos (by omega)] at c1
              have c2 := t7.cell k _ (row8_val _ k (by rw [HBZ.out.1]; exact hk4))
              have c3 := n7.cell (i * 4 + k) _ (row8_val _ _ (by rw [swd_len]; omega))
              have f3 := n7.free (i * 4 + k)
              have hn := HN.out i k (by omega) h60 hk4
              rw [← HZ.out, show 4 * (i - 8) + k = m * 4 + k by omega] at hn
              have hstep := swd_step S (4 * i + k) (by omega)
              rw [← hn, show 4 * i + k = i * 4 + k by omega] at hstep
              have hxr := u8_xor_nat (gb S (m * 4 + k)) (gb Z k) (HBS.out.2 _) (HBZ.out.2 _)
              rw [show 4 * i + k = i * 4 + k by omega] at n7 c3
              have HST := Lib.hid hstep
              have q0 : (0 : Int) ≤ (i : Int) - 8 := by omega
              have q1 : (i : Int) - 8 < 60 := by omega
              have q2 : ((i : Int) - 8).toNat = m := by omega
              have T7 := Lib.hid t7
              have K7 := Lib.hid k7
              have R7 := Lib.hid r7
              have N7 := Lib.hid n7
              have B7 := Lib.hid b7
              have HM := Lib.hid hm
              clear t7 k7 r7 n7 b7 hn hstep hm
              go_upto_region 15 with (fail)
              go_region
              have nt := (N7.out.set (i * 4 + k) (.int .u8 ((gb S (m * 4 + k) ^^^ gb Z k : Nat) : Int))).drew
              rw [row8_set, HST.out, show i * 4 + k + 1 = 4 * i + (k + 1) by omega] at nt
              have NT := Lib.hid nt
              have TT := Lib.hid (T7.out.other ⟨w.heap.size + 1 + 1, i * 4 + k, none⟩ (.int .u8 ((gb S (m * 4 + k) ^^^ gb Z k : Nat) : Int)) (by simp <;> omega)).drew
              have KT := Lib.hid (K7.out.other ⟨w.heap.size + 1 + 1, i * 4 + k, none⟩ (.int .u8 ((gb S (m * 4 + k) ^^^ gb Z k : Nat) : Int)) (by simp <;> omega)).drew
              have RT := Lib.hid (R7.out.other ⟨w.heap.size + 1 + 1, i * 4 + k, none⟩ (.int .u8 ((gb S (m * 4 + k) ^^^ gb Z k : Nat) : Int)) (by simp <;> omega)).drew
              have BT := Lib.hid (B7.out.setCell (p := ⟨w.heap.size + 1 + 1, i * 4 + k, none⟩) (by simp <;> omega) (.int .u8 ((gb S (m * 4 + k) ^^^ gb Z k : Nat) : Int))).drew
              clear nt
              go_wp2_with fail
              exact ⟨⟨k + 1, by omega, by go_num, TT.out, KT.out, RT.out, NT.out, BT.out⟩, by simp [intOf]; omega⟩
            · obtain rfl : k = 4 := by omega
              have K7 := Lib.hid k7
              have R7 := Lib.hid r7
              have N7 := Lib.hid n7
              have B7 := Lib.hid b7
              clear t7 k7 r7 n7 b7
              go_wp2_with fail
              exact ⟨⟨i + 1, by omega, by go_num, K7.out, R7.out, N7.out, B7.out⟩, by simp [intOf]; omega⟩
    · obtain rfl : i = 60 := by omega
      have n1 := N0.out
      rw [show 4 * 60 = 240 from rfl, swd_all HBS.out.1] at n1
      obtain ⟨ob, hob⟩ : ∃ b, b = wr.heap.size := ⟨_, rfl⟩
      have hol : w.heap.size + 1 + 1 < ob := by rw [hob]; exact n1.lt
      have t1 := Blk.new wr 123 C0 ob hob
      have T1 := Lib.hid t1
      have R1 := Lib.hid (R0.out.alloc (.cells C0.toArray 123))
      have N1 := Lib.hid (n1.alloc (.cells C0.toArray 123))
      have B1 := Lib.hid (B0.out.alloc B0.out.size (.cells C0.toArray 123))
      have HOB := Lib.hid hob
      clear n1 t1 hob K0 R0 N0 B0
      go_upto_region 18 with (fail)
      rw [← HOB.out]
      go_loopw [8] (fun x wq => ∃ a : Nat, a ≤ 60 ∧ x = .int .i64 (a : Int) ∧ Blk wq (w.heap.size + 1) 123 C0 ∧ Blk wq (w.heap.size + 1 + 1) 142 (row8 S) ∧ Blk wq ob 123 (row8 (swd S (4 * a))) ∧ Below w.heap.size w wq) (fun x _ => 60 - (intOf x).toNat)
      case atStart => exact ⟨0, by omega, rfl, R1.out, N1.out, by rw [Nat.mul_zero, swd_zero, ← HC.out]; exact T1.out, B1.out⟩
      case round =>
        clear R1 N1 T1 B1
        obtain ⟨a, ha, rfl, r2, n2, t2, b2⟩ := hrel
        have R2 := Lib.hid r2
        have N2 := Lib.hid n2
        have T2 := Lib.hid t2
        have B2 := Lib.hid b2
        clear r2 n2 t2 b2
        by_cases ha60 : a < 60
        · have ha60I : (a : Int) < 60 := by omega
          go_upto_region 21 with (fail)
          go_loopw [9] (fun x wp => ∃ k : Nat, k ≤ 4 ∧ x = .int .i64 (k : Int) ∧ Blk wp (w.heap.size + 1) 123 C0 ∧ Blk wp (w.heap.size + 1 + 1) 142 (row8 S) ∧ Blk wp ob 123 (row8 (swd S (4 * a + k))) ∧ Below w.heap.size w wp) (fun x _ => 4 - (intOf x).toNat)
          case atStart => exact ⟨0, by omega, rfl, R2.out, N2.out, T2.out, B2.out⟩
          case round =>
            clear R2 N2 T2 B2
            obtain ⟨k, hk, rfl, r3, n3, t3, b3⟩ := hrel
            by_cases hk4 : k < 4
            · have hk4I : (k : Int) < 4 := by omega
              have c1 := n3.cell (a * 4 + k) _ (row8_val _ _ (by rw [HBS.out.1]; omega))
              have he : a / 4 * 16 + (4 * (a % 4) + k) = 4 * a + k := by omega
              rw [← he] at t3
              have c3 := t3.cell (a / 4 * 16 + (4 * (a % 4) + k)) _ (row8_val _ _ (by rw [swd_len]; omega))
              have f3 := t3.free (a / 4 * 16 + (4 * (a % 4) + k))
              have hstep := swd_step S (4 * a + k) (by omega)
              rw [← he, show gb S (a / 4 * 16 + (4 * (a % 4) + k)) = gb S (a * 4 + k) by rw [he, Nat.mul_comm 4 a], show a / 4 * 16 + (4 * (a % 4) + k) + 1 = 4 * a + (k + 1) by omega] at hstep
              have HST := Lib.hid hstep
              have p0 : (0 : Int) ≤ (a : Int) / 4 := by omega
              have p1 : (a : Int) / 4 < 15 := by omega
              have p2 : ((a : Int) / 4).toNat = a / 4 := by omega
              have q0 : (0 : Int) ≤ 4 * ((a : Int) % 4) + (k : Int) := by omega
              have q1 : 4 * ((a : Int) % 4) + (k : Int) < 16 := by omega
              have q2 : (4 * ((a : Int) % 4) + (k : Int)).toNat = 4 * (a % 4) + k := by omega
              have R3 := Lib.hid r3
              have N3 := Lib.hid n3
              have T3 := Lib.hid t3
              have B3 := Lib.hid b3
              clear r3 n3 t3 b3 hstep he
              go_upto_region 23 with (fail)
              go_region
              have nt := (T3.out.set (a / 4 * 16 + (4 * (a % 4) + k)) (.int .u8 ((gb S (a * 4 + k) : Nat) : Int))).drew
              rw [row8_set, HST.out] at nt
              have NT := Lib.hid nt
              have RT := Lib.hid (R3.out.other ⟨ob, a / 4 * 16 + (4 * (a % 4) + k), none⟩ (.int .u8 ((gb S (a * 4 + k) : Nat) : Int)) (by simp <;> omega)).drew
              have WT := Lib.hid (N3.out.other ⟨ob, a / 4 * 16 + (4 * (a % 4) + k), none⟩ (.int .u8 ((gb S (a * 4 + k) : Nat) : Int)) (by simp <;> omega)).drew
              have BT := Lib.hid (B3.out.setCell (p := ⟨ob, a / 4 * 16 + (4 * (a % 4) + k), none⟩) (by simp <;> omega) (.int .u8 ((gb S (a * 4 + k) : Nat) : Int))).drew
              clear nt
              go_wp2_with fail
              exact ⟨⟨k + 1, by omega, by go_num, RT.out, WT.out, NT.out, BT.out⟩, by simp [intOf]; omega⟩
            · obtain rfl : k = 4 := by omega
              have R3 := Lib.hid r3
              have N3 := Lib.hid n3
              have T3 := Lib.hid t3
              have B3 := Lib.hid b3
              clear r3 n3 t3 b3
              go_wp2_with fail
              exact ⟨⟨a + 1, by omega, by go_num, R3.out, N3.out, T3.out, B3.out⟩, by simp [intOf]; omega⟩
        · obtain rfl : a = 60 := by omega
          have t3 := T2.out
          rw [show 4 * 60 = 240 from rfl, swd_all HBS.out.1] at t3
          have T3 := Lib.hid t3
          have S240 := Lib.hid (show (row8 S).length = 240 by rw [row8_len]; exact HBS.out.1)
          clear t3
          go_wp2_with (first
            | (refine wpList_load_mid rfl 123 (.tmp 7) rfl ob 0 rfl (row8 S) _ T3.out.range Tryd.underlying123 rfl (by rw [S240.out]; exact info240) ?_)
            | (refine wpList_store_mid rfl 123 (.tmp 2) (.tmp 127) rfl (w.heap.size + 1) 0 (row8 S).toArray rfl rfl (R2.out.there _ (by rw [List.size_toArray, S240.out, hc0])) (by rw [List.size_toArray, S240.out]; exact info240) (row8_one _) ?_))
          have fin := R2.out.whole (row8 S) (by rw [S240.out, hc0])
          exact bodyPost_ret (v := .agg (row8 S).toArray) (results_mid rfl _ _ (w.heap.size + 1) (row8 S) _ rfl fin.range Tryd.underlying123 rfl (by rw [S240.out]; exact info240)) rfl ⟨rfl, below_setCells (w.heap.size + 1) (by omega) _ 0 _ B2.out⟩
end Go.Proofs.YtbepchikngoknaaDoor
