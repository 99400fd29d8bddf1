/- The document's answer for sums with a key: a key's block, and the whole: contracts. Own work. -/
import Derived.Test.YtllhljhbnopafaaDoorHmacXn
import Derived.Test.YtllhljhbnopafaaDoorLay
namespace Go.Proofs.YtllhljhbnopafaaDoor
open Go.ChangeShapes Go.WideShapes Go.ChangeAt Go.RowKit
open SM
set_option maxRecDepth 100000 in
set_option maxHeartbeats 2000000 in
theorem hrblock_any (l : List Nat) (hn : l.length + 72 ≤ 140737488351232) (x : Nat) (hx : x < 256) (v : Value) (w : World) (hv : Rd w v l) (ht : Tab w) :
    Calls Tryd.prog 19 #[v, .int .u8 (x : Int)] w fun e w' => ∃ y, e = .returned y ∧ Own w' w.heap.size y (kx l x) ∧ Below w.heap.size w w' := by
  obtain ⟨ao, cap, rfl, hcap⟩ := hv.shape
  have HV := Lib.hid hv
  obtain ⟨i0, hi, hz0, hz1, hz2⟩ := info_parts infoB
  have hb2 : i0.bytes * 64 ≤ 281474976710656 := by rw [hz2]; omega
  have hb3 : 64 ≤ maxLen := by unfold maxLen; omega
  have HI := Lib.hid hi
  have HZ0 := Lib.hid hz0
  have HZ1 := Lib.hid hz1
  have HB2 := Lib.hid hb2
  have HB3 := Lib.hid hb3
  have HT := Lib.hid ht
  have W0 := Lib.hid (Below.refl w.heap.size w)
  have hvb := hv.byte
  clear hi hz0 hz1 hz2 hb2 hb3 ht hv
  by_cases hlt : 64 < l.length
  · have hlI : (64 : Int) < (l.length : Int) := by omega
    obtain ⟨S, hS⟩ : ∃ S, S = sha l := ⟨_, rfl⟩
    have bS : Bytes 32 S := by rw [hS]; exact sha_bytes l
    have HXK := Lib.hid (show xn S x 64 = kx l x by rw [← xn_kof, hS]; unfold kof; rw [if_pos hlt])
    have KB := Lib.hid bS.2
    have KL := Lib.hid bS.1
    have S32 := Lib.hid (show (row8 S).length = 32 by rw [row8_len]; exact bS.1)
    obtain ⟨D0, hD0⟩ : ∃ C0, C0 = row8 (List.replicate 32 0) := ⟨_, rfl⟩
    have hzs : ∀ w, (zeroValue 26).run Tryd.prog w = .ok (.agg D0.toArray) w := by rw [hD0]; exact zeroSum
    have hd0 : D0.length = 32 := by rw [hD0, row8_len, List.length_replicate]
    have HOF := Lib.hid (rof_any l hn (.slice ao l.length cap) w HV.out HT.out)
    rw [← hS] at HOF
    clear hS bS hD0
    go_enter Tryd.func19, Tryd.ntmps19
    go_upto_region 4 with (first
      | (go_at_call 18; (with_reducible refine HOF.out.mono ?_); rintro e w3 ⟨rfl, b3⟩; have B3 := Lib.hid b3; clear b3)
      | (refine wpList_store_blk rfl 26 (.tmp 5) (.tmp 12) rfl w3.heap.size 0 (row8 S) rfl rfl 26 D0 (Blk.new w3 26 D0 _ rfl) (by rw [S32.out, hd0]; exact Nat.le_refl _) (by rw [S32.out]; exact infoS) (row8_one _) ?_; intro w4 b4 g4; rw [splice_all _ _ (by rw [S32.out, hd0])] at b4; have N4 := Lib.hid b4; have B4 := Lib.hid (own_turn B3.out g4); clear b4 g4))
    obtain ⟨sb, hsb⟩ : ∃ b, b = w3.heap.size := ⟨_, rfl⟩
    rw [← hsb] at N4 ⊢
    have r4 := blk_rd N4.out KB.out (n := 32) (cap := 32) (by rw [KL.out]; omega) (by omega) (by rw [KL.out]; omega)
    rw [List.take_of_length_le (by rw [KL.out]; omega)] at r4
    have R4 := Lib.hid r4
    clear r4 hsb hzs hd0 HOF
    have HX0 := Lib.hid (show row8 (xn S x 0) = List.replicate 64 (.int .u8 0) by rw [xn_zero]; unfold row8; rw [List.map_replicate]; rfl)
    go_wp2_with (refine wpList_make_full _ rfl (.const (.int .i64 64)) (.const (.int .i64 64)) 22 rfl w4.heap.size 5 i0 (.int .u8 0) 1 Tryd.underlying22 HI.out HZ0.out HZ1.out .i64 .i64 _ _ 64 rfl rfl rfl rfl HB2.out HB3.out (Nat.le_refl _) ?_; intro w6 hown hg; have HO := Lib.hid hown; have HG := Lib.hid hg; clear hown hg)
    have hb6 : Below w4.heap.size w4 w6 := below_of_grown HG.out
    have ho6 : Own w6 w.heap.size (.slice (some ⟨w4.heap.size, 0, none⟩) 64 64) (xn S x 0) := by
      refine Own.lower (base := w4.heap.size) ⟨?_, xn_byte KB.out hx 0, by rw [xn_len]; omega⟩ B4.out.size
      rw [xn_len, HX0.out, ← toList_madeCells_one]
      have h := HO.out
      rw [Nat.mul_one] at h
      exact h
    have O6 := Lib.hid ho6
    have B6 := Lib.hid (B4.out.on hb6)
    have R6 := Lib.hid (R4.out.below hb6)
    obtain ⟨yb, hyb⟩ : ∃ b, b = w4.heap.size := ⟨_, rfl⟩
    rw [← hyb] at O6 ⊢
    have HYE := Lib.hid hyb
    have HYB := Lib.hid (show w.heap.size ≤ yb by have := B4.out.size; omega)
    have HRO := Lib.hid (fun (k : Nat) (hk : k < S.length) (V : World) (hV : Below yb w6 V) => (R4.out.below hb6).at_ k hk)
    clear HO HG ho6 HX0 hyb
    go_loopw [7] (fun i wr => ∃ k : Nat, k ≤ 64 ∧ i = .int .i64 (k : Int) ∧ Own wr w.heap.size (.slice (some ⟨yb, 0, none⟩) 64 64) (xn S x k) ∧ Below yb w4 wr ∧ Below w.heap.size w wr) (fun i _ => 64 - (intOf i).toNat)
    case atStart => exact ⟨0, Nat.zero_le _, rfl, O6.out, by rw [HYE.out]; exact hb6, B6.out⟩
    case round =>
      clear O6 B6 R6
      obtain ⟨k, hk, rfl, ho, by_, bb⟩ := hrel
      by_cases hlt : k < 64
      · have hc := ho.cell (by rw [xn_len]) k (by rw [xn_len]; exact hlt)
        have hf := ho.free (by rw [xn_len]) k
        have O := Lib.hid ho
        have BY := Lib.hid by_
        have BW := Lib.hid bb
        have HS1 := Lib.hid (show Own (wr.setCell ⟨yb, k, none⟩ (.int .u8 (x : Int))) w.heap.size (.slice (some ⟨yb, 0, none⟩) 64 64) ((xn S x k).set k x) from by
          have h : Own wr w.heap.size (.slice (some ⟨yb, 0, none⟩) (xn S x k).length 64) (xn S x k) := by rw [xn_len]; exact O.out
          have h2 := h.set k x hx (by rw [xn_len]; exact hlt)
          rw [xn_len] at h2; exact h2)
        have BW1 := Lib.hid (BW.out.setCell (p := ⟨yb, k, none⟩) HYB.out (.int .u8 (x : Int)))
        have BY1 := Lib.hid (BY.out.setCell (p := ⟨yb, k, none⟩) (Nat.le_refl _) (.int .u8 (x : Int)))
        clear ho by_ bb
        by_cases hq : k < S.length
        · have hqI : (k : Int) < 32 := by have := KL.out; omega
          have hr1 := R4.out.later HYE.out BY1.out
          obtain ⟨ad, had, hcc⟩ := hr1.at_ k hq
          obtain rfl : ad = ⟨sb, 0, none⟩ := (Option.some.inj had).symm
          rw [Addr.add_mid, Nat.zero_add] at hcc
          have hxr := u8_xor_nat (gb S k) x (KB.out k) hx
          have hf1 := HS1.out.free (by rw [List.length_set, xn_len]) k
          have hc1 := HS1.out.cell (by rw [List.length_set, xn_len]) k (by rw [List.length_set, xn_len]; exact hlt)
          have HS2 := Lib.hid (show Own ((wr.setCell ⟨yb, k, none⟩ (.int .u8 (x : Int))).setCell ⟨yb, k, none⟩ (.int .u8 ((gb S k ^^^ x : Nat) : Int))) w.heap.size (.slice (some ⟨yb, 0, none⟩) 64 64) (xn S x (k + 1)) from by
            have h : Own (wr.setCell ⟨yb, k, none⟩ (.int .u8 (x : Int))) w.heap.size (.slice (some ⟨yb, 0, none⟩) ((xn S x k).set k x).length 64) ((xn S x k).set k x) := by rw [List.length_set, xn_len]; exact HS1.out
            have h2 := h.set k (gb S k ^^^ x) (Nat.xor_lt_two_pow (n := 8) (KB.out k) hx) (by rw [List.length_set, xn_len]; exact hlt)
            rw [List.length_set, xn_len, List.set_set, xn_step _ _ _ hlt] at h2; exact h2)
          have BW2 := Lib.hid (BW1.out.setCell (p := ⟨yb, k, none⟩) HYB.out (.int .u8 ((gb S k ^^^ x : Nat) : Int)))
          have BY2 := Lib.hid (BY1.out.setCell (p := ⟨yb, k, none⟩) (Nat.le_refl _) (.int .u8 ((gb S k ^^^ x : Nat) : Int)))
          clear hr1 HRO
          go_wp2_with fail
          exact ⟨⟨k + 1, by omega, by go_num, HS2.out, BY2.out, BW2.out⟩, by simp [intOf]; omega⟩
        · have hqI : ¬ (k : Int) < 32 := by have := KL.out; omega
          have hx0 : x = gb S k ^^^ x := by rw [gb_past _ _ (by omega), Nat.zero_xor]
          have hs2 : (xn S x k).set k x = xn S x (k + 1) := by rw [← xn_step _ _ _ hlt, ← hx0]
          rw [hs2] at HS1
          clear hx0 HRO
          go_wp2_with fail
          exact ⟨⟨k + 1, by omega, by go_num, HS1.out, BY1.out, BW1.out⟩, by simp [intOf]; omega⟩
      · obtain rfl : k = 64 := by omega
        rw [HXK.out] at ho
        clear HRO
        go_wp2_with fail
        go_ret
        exact ⟨_, rfl, ho, bb⟩
  · have hlI : ¬ (64 : Int) < (l.length : Int) := by omega
    have HXK := Lib.hid (show xn l x 64 = kx l x by rw [← xn_kof]; unfold kof; rw [if_neg hlt])
    have KB := Lib.hid hvb
    go_enter Tryd.func19, Tryd.ntmps19
    go_upto_region 4 with (fail)
    have HX0 := Lib.hid (show row8 (xn l x 0) = List.replicate 64 (.int .u8 0) by rw [xn_zero]; unfold row8; rw [List.map_replicate]; rfl)
    go_wp2_with (refine wpList_make_full _ rfl (.const (.int .i64 64)) (.const (.int .i64 64)) 22 rfl w.heap.size 5 i0 (.int .u8 0) 1 Tryd.underlying22 HI.out HZ0.out HZ1.out .i64 .i64 _ _ 64 rfl rfl rfl rfl HB2.out HB3.out (Nat.le_refl _) ?_; intro w6 hown hg; have HO := Lib.hid hown; have HG := Lib.hid hg; clear hown hg)
    have hb6 : Below w.heap.size w w6 := below_of_grown HG.out
    have ho6 : Own w6 w.heap.size (.slice (some ⟨w.heap.size, 0, none⟩) 64 64) (xn l x 0) := by
      refine Own.lower (base := w.heap.size) ⟨?_, xn_byte KB.out hx 0, by rw [xn_len]; omega⟩ W0.out.size
      rw [xn_len, HX0.out, ← toList_madeCells_one]
      have h := HO.out
      rw [Nat.mul_one] at h
      exact h
    have O6 := Lib.hid ho6
    have B6 := Lib.hid (W0.out.on hb6)
    have R6 := Lib.hid (HV.out.below hb6)
    have HYB := Lib.hid (show w.heap.size ≤ w.heap.size by have := W0.out.size; omega)
    have HRO := Lib.hid (fun (k : Nat) (hk : k < l.length) (V : World) (hV : Below w.heap.size w6 V) => (HV.out.below hb6).at_ k hk)
    clear HO HG ho6 HX0
    go_loopw [7] (fun i wr => ∃ k : Nat, k ≤ 64 ∧ i = .int .i64 (k : Int) ∧ Own wr w.heap.size (.slice (some ⟨w.heap.size, 0, none⟩) 64 64) (xn l x k) ∧ Below w.heap.size w wr ∧ Below w.heap.size w wr) (fun i _ => 64 - (intOf i).toNat)
    case atStart => exact ⟨0, Nat.zero_le _, rfl, O6.out, hb6, B6.out⟩
    case round =>
      clear O6 B6 R6
      obtain ⟨k, hk, rfl, ho, by_, bb⟩ := hrel
      by_cases hlt : k < 64
      · have hc := ho.cell (by rw [xn_len]) k (by rw [xn_len]; exact hlt)
        have hf := ho.free (by rw [xn_len]) k
        have O := Lib.hid ho
        have BY := Lib.hid by_
        have BW := Lib.hid bb
        have HS1 := Lib.hid (show Own (wr.setCell ⟨w.heap.size, k, none⟩ (.int .u8 (x : Int))) w.heap.size (.slice (some ⟨w.heap.size, 0, none⟩) 64 64) ((xn l x k).set k x) from by
          have h : Own wr w.heap.size (.slice (some ⟨w.heap.size, 0, none⟩) (xn l x k).length 64) (xn l x k) := by rw [xn_len]; exact O.out
          have h2 := h.set k x hx (by rw [xn_len]; exact hlt)
          rw [xn_len] at h2; exact h2)
        have BW1 := Lib.hid (BW.out.setCell (p := ⟨w.heap.size, k, none⟩) HYB.out (.int .u8 (x : Int)))
        have BY1 := Lib.hid (BY.out.setCell (p := ⟨w.heap.size, k, none⟩) (Nat.le_refl _) (.int .u8 (x : Int)))
        clear ho by_ bb
        by_cases hq : k < l.length
        · have hqI : (k : Int) < (l.length : Int) := by have := hn; omega
          have hr1 := HV.out.below BY1.out
          obtain ⟨ad, had, hcc⟩ := hr1.at_ k hq
          subst had
          have hxr := u8_xor_nat (gb l k) x (KB.out k) hx
          have hf1 := HS1.out.free (by rw [List.length_set, xn_len]) k
          have hc1 := HS1.out.cell (by rw [List.length_set, xn_len]) k (by rw [List.length_set, xn_len]; exact hlt)
          have HS2 := Lib.hid (show Own ((wr.setCell ⟨w.heap.size, k, none⟩ (.int .u8 (x : Int))).setCell ⟨w.heap.size, k, none⟩ (.int .u8 ((gb l k ^^^ x : Nat) : Int))) w.heap.size (.slice (some ⟨w.heap.size, 0, none⟩) 64 64) (xn l x (k + 1)) from by
            have h : Own (wr.setCell ⟨w.heap.size, k, none⟩ (.int .u8 (x : Int))) w.heap.size (.slice (some ⟨w.heap.size, 0, none⟩) ((xn l x k).set k x).length 64) ((xn l x k).set k x) := by rw [List.length_set, xn_len]; exact HS1.out
            have h2 := h.set k (gb l k ^^^ x) (Nat.xor_lt_two_pow (n := 8) (KB.out k) hx) (by rw [List.length_set, xn_len]; exact hlt)
            rw [List.length_set, xn_len, List.set_set, xn_step _ _ _ hlt] at h2; exact h2)
          have BW2 := Lib.hid (BW1.out.setCell (p := ⟨w.heap.size, k, none⟩) HYB.out (.int .u8 ((gb l k ^^^ x : Nat) : Int)))
          have BY2 := Lib.hid (BY1.out.setCell (p := ⟨w.heap.size, k, none⟩) (Nat.le_refl _) (.int .u8 ((gb l k ^^^ x : Nat) : Int)))
          clear hr1 HRO
          go_wp2_with fail
          exact ⟨⟨k + 1, by omega, by go_num, HS2.out, BY2.out, BW2.out⟩, by simp [intOf]; omega⟩
        · have hqI : ¬ (k : Int) < (l.length : Int) := by have := hn; omega
          have hx0 : x = gb l k ^^^ x := by rw [gb_past _ _ (by omega), Nat.zero_xor]
          have hs2 : (xn l x k).set k x = xn l x (k + 1) := by rw [← xn_step _ _ _ hlt, ← hx0]
          rw [hs2] at HS1
          clear hx0 HRO
          go_wp2_with fail
          exact ⟨⟨k + 1, by omega, by go_num, HS1.out, BY1.out, BW1.out⟩, by simp [intOf]; omega⟩
      · obtain rfl : k = 64 := by omega
        rw [HXK.out] at ho
        clear HRO
        go_wp2_with fail
        go_ret
        exact ⟨_, rfl, ho, bb⟩
end Go.Proofs.YtllhljhbnopafaaDoor
