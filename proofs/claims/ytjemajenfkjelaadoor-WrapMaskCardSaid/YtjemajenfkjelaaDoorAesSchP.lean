/- What the word ahead gives to a word of the program's round keys: contract. Own work. -/
import Derived.Test.YtjemajenfkjelaaDoorAesEncP
import Derived.Test.YtjemajenfkjelaaDoorAesKeysR
namespace Go.Proofs.YtjemajenfkjelaaDoor
open Go.ChangeShapes Go.WideShapes Go.ChangeAt Go.RowKit
open AM FM
/-- What a word is exclusive-ored with, by the word ahead. -/
def chg (Y : List Nat) (i : Nat) : List Nat :=
  if i % 8 = 0 then [box (gb Y 1) ^^^ power 2 ((i / 8 - 1 : Nat) : Int), box (gb Y 2), box (gb Y 3), box (gb Y 0)]
  else if i % 8 = 4 then [box (gb Y 0), box (gb Y 1), box (gb Y 2), box (gb Y 3)]
  else Y
theorem wt_chg (S : List Nat) (i : Nat) : wt S i = chg (w4 S (i - 1)) i := by
  unfold wt chg
  rfl
theorem chg_bytes {Y : List Nat} (h : Bytes 4 Y) (i : Nat) : Bytes 4 (chg Y i) := by
  unfold chg
  split
  · exact bytes4 (lt_of_xor (box_byte _) (power_lt _ _)) (box_byte _) (box_byte _) (box_byte _)
  split
  · exact bytes4 (box_byte _) (box_byte _) (box_byte _) (box_byte _)
  · exact h
theorem infoW : (Tryd.prog.info? 82).map (·.size) = some 4 := by kernel_rfl
theorem zeroWd (w : World) : (zeroValue 82).run Tryd.prog w = .ok (.agg (row8 [0, 0, 0, 0]).toArray) w := by kernel_rfl
theorem four_list (Y : List Nat) (h : Y.length = 4) : Y = [gb Y 0, gb Y 1, gb Y 2, gb Y 3] := by
  match Y, h with
  | [_, _, _, _], _ => rfl
set_option maxRecDepth 100000 in
set_option maxHeartbeats 4000000 in
theorem changed_any (Y : List Nat) (hy : Bytes 4 Y) (i : Nat) (h8 : 8 ≤ i) (h60 : i < 60) (w : World) (hx : TabX w) :
    Calls Tryd.prog 47 #[.agg (row8 Y).toArray, .int .i64 (i : Int)] w fun e w' => e = .returned (.agg (row8 (chg Y i)).toArray) ∧ Below w.heap.size w w' := by
  obtain ⟨C0, hC0⟩ : ∃ C0, C0 = row8 [0, 0, 0, 0] := ⟨_, rfl⟩
  have hz : ∀ w, (zeroValue 82).run Tryd.prog w = .ok (.agg C0.toArray) w := by rw [hC0]; exact zeroWd
  have hc0 : C0.length = 4 := by rw [hC0]; rfl
  obtain ⟨wr, hwr⟩ : ∃ W, W = (w.alloc (.cells (row8 Y).toArray 82)).alloc (.cells C0.toArray 82) := ⟨_, rfl⟩
  have w1 := (Below.refl w.heap.size w).alloc (Nat.le_refl _) (.cells (row8 Y).toArray 82)
  have w2 := w1.alloc w1.size (.cells C0.toArray 82)
  have N5 := Lib.hid ((Blk.new w 82 (row8 Y) _ rfl).alloc (.cells C0.toArray 82))
  have R5 := Lib.hid (Blk.new (w.alloc (.cells (row8 Y).toArray 82)) 82 C0 (w.heap.size + 1) (by simp))
  rw [← hwr] at w2 N5 R5
  have B5 := Lib.hid w2
  have HXr := Lib.hid (hx.below w2)
  obtain ⟨Z, hZ⟩ : ∃ Z, Z = chg Y i := ⟨_, rfl⟩
  have bZ : Bytes 4 Z := by rw [hZ]; exact chg_bytes hy i
  rw [← hZ]
  have Z4 := Lib.hid (show (row8 Z).length = 4 by rw [row8_len]; exact bZ.1)
  have Y4 := Lib.hid (show (row8 Y).length = 4 by rw [row8_len]; exact hy.1)
  obtain ⟨y0, hy0⟩ : ∃ y, y = gb Y 0 := ⟨_, rfl⟩
  obtain ⟨y1, hy1⟩ : ∃ y, y = gb Y 1 := ⟨_, rfl⟩
  obtain ⟨y2, hy2⟩ : ∃ y, y = gb Y 2 := ⟨_, rfl⟩
  obtain ⟨y3, hy3⟩ : ∃ y, y = gb Y 3 := ⟨_, rfl⟩
  have l0 : y0 < 256 := by rw [hy0]; exact hy.2 _
  have l1 : y1 < 256 := by rw [hy1]; exact hy.2 _
  have l2 : y2 < 256 := by rw [hy2]; exact hy.2 _
  have l3 : y3 < 256 := by rw [hy3]; exact hy.2 _
  have HY := Lib.hid (show Y = [y0, y1, y2, y3] by rw [hy0, hy1, hy2, hy3]; exact four_list Y hy.1)
  unfold chg at hZ
  rw [← hy0, ← hy1, ← hy2, ← hy3] at hZ
  have HWR := Lib.hid hwr
  clear hC0 w1 w2 hx bZ hy0 hy1 hy2 hy3 hy hwr
  by_cases m0 : i % 8 = 0
  · have mb : ((i : Int) % 8 == 0) = true := by simp; omega
    rw [if_pos m0] at hZ
    obtain ⟨p, hp⟩ : ∃ p, p = power 2 ((i / 8 - 1 : Nat) : Int) := ⟨_, rfl⟩
    rw [← hp] at hZ
    have lp : p < 256 := by rw [hp]; exact power_lt _ _
    have HPW := Lib.hid (show ∀ W, Calls Tryd.prog 57 #[.int .u8 2, .int .i64 ((i : Int) / 8 - 1)] W fun e w' => e = .returned (.int .u8 (p : Int)) ∧ W = w' from fun W => by
      rw [hp, show ((i : Int) / 8 - 1) = ((i / 8 - 1 : Nat) : Int) by omega]; exact power_any 2 _ (by omega) W)
    have HZ := Lib.hid hZ
    clear hZ hp
    go_enter Tryd.func47, Tryd.ntmps47
    go_upto_region 4 with (go_at_call 57; (with_reducible refine (HPW.out _).mono ?_); rintro e w9 ⟨rfl, rfl⟩)
    rw [← HWR.out]
    clear hz
    refine wp_region_g (by kernel_rfl) 15 (by decide) (by kernel_rfl) (by kernel_rfl) (by kernel_rfl) (wr.heap.size) (Nat.le_refl _) [.val (.pointer (some ⟨w.heap.size, 1, none⟩)), .val (.int .u8 (y1 : Int)), .val (.int .u8 ((box y1 : Nat) : Int)), .val (.int .u8 (p : Int)), .val (.int .u8 ((box y1 ^^^ p : Nat) : Int)), .val (.pointer (some ⟨w.heap.size, 2, none⟩)), .val (.int .u8 (y2 : Int)), .val (.int .u8 ((box y2 : Nat) : Int)), .val (.pointer (some ⟨w.heap.size, 3, none⟩)), .val (.int .u8 (y3 : Int)), .val (.int .u8 ((box y3 : Nat) : Int)), .val (.pointer (some ⟨w.heap.size, 0, none⟩)), .val (.int .u8 (y0 : Int)), .val (.int .u8 ((box y0 : Nat) : Int)), .val (.agg (row8 Z).toArray)] (fun _ => 16) ?_ ?_
    · refine ⟨?_, ?_, ?_, ?_, ?_, ?_, ?_, ?_, ?_, ?_, ?_, ?_, ?_, ?_, ?_, trivial⟩
      · intro a w' hF hB hd
        have e2 : a.eval (.tmp 2) = .pointer (some ⟨w.heap.size, 0, none⟩) := hF 2 (by decide +kernel)
        exact doesG_val rfl (v := .pointer (some ⟨w.heap.size, 1, none⟩)) (by unfold execOp; simp only [e2]; go_simp) rfl rfl
      · intro a w' hF hB hd
        have e14 : a.eval (.tmp 14) = .pointer (some ⟨w.heap.size, 1, none⟩) := hd 0 (by decide +kernel) (.inr (by decide))
        have c := (N5.out.below hB N5.out.lt).cell 1 (.int .u8 (y1 : Int)) (by rw [HY.out]; rfl)
        exact doesG_val rfl (v := .int .u8 (y1 : Int)) (by unfold execOp; simp only [e14]; go_simp) rfl rfl
      · intro a w' hF hB hd
        have e15 : a.eval (.tmp 15) = .int .u8 (y1 : Int) := hd 1 (by decide +kernel) (.inr (by decide))
        exact doesG_call rfl (ex_call (vs := #[.int .u8 (y1 : Int)]) rfl (by simp only [List.map_toArray, List.map_cons, List.map_nil, e15]) (by go_simp)) rfl ((sbox_any y1 l1 w' (HXr.out.below hB)).mono fun e w2 hh => ⟨_, hh.1, rfl, hh.2⟩)
      · intro a w' hF hB hd
        have e5 : a.eval (.tmp 5) = .int .u8 (p : Int) := hF 5 (by decide +kernel)
        exact doesG_val rfl (ex_move rfl e5) rfl rfl
      · intro a w' hF hB hd
        have e16 : a.eval (.tmp 16) = .int .u8 ((box y1 : Nat) : Int) := hd 2 (by decide +kernel) (.inr (by decide))
        have e17 : a.eval (.tmp 17) = .int .u8 (p : Int) := hd 3 (by decide +kernel) (.inr (by decide))
        have hx := u8_xor_nat (box y1) p (box_byte _) lp
        exact doesG_val rfl (v := .int .u8 ((box y1 ^^^ p : Nat) : Int)) (by unfold execOp; simp only [e16, e17]; go_simp) rfl rfl
      · intro a w' hF hB hd
        have e2 : a.eval (.tmp 2) = .pointer (some ⟨w.heap.size, 0, none⟩) := hF 2 (by decide +kernel)
        exact doesG_val rfl (v := .pointer (some ⟨w.heap.size, 2, none⟩)) (by unfold execOp; simp only [e2]; go_simp) rfl rfl
      · intro a w' hF hB hd
        have e19 : a.eval (.tmp 19) = .pointer (some ⟨w.heap.size, 2, none⟩) := hd 5 (by decide +kernel) (.inr (by decide))
        have c := (N5.out.below hB N5.out.lt).cell 2 (.int .u8 (y2 : Int)) (by rw [HY.out]; rfl)
        exact doesG_val rfl (v := .int .u8 (y2 : Int)) (by unfold execOp; simp only [e19]; go_simp) rfl rfl
      · intro a w' hF hB hd
        have e20 : a.eval (.tmp 20) = .int .u8 (y2 : Int) := hd 6 (by decide +kernel) (.inr (by decide))
        exact doesG_call rfl (ex_call (vs := #[.int .u8 (y2 : Int)]) rfl (by simp only [List.map_toArray, List.map_cons, List.map_nil, e20]) (by go_simp)) rfl ((sbox_any y2 l2 w' (HXr.out.below hB)).mono fun e w2 hh => ⟨_, hh.1, rfl, hh.2⟩)
      · intro a w' hF hB hd
        have e2 : a.eval (.tmp 2) = .pointer (some ⟨w.heap.size, 0, none⟩) := hF 2 (by decide +kernel)
        exact doesG_val rfl (v := .pointer (some ⟨w.heap.size, 3, none⟩)) (by unfold execOp; simp only [e2]; go_simp) rfl rfl
      · intro a w' hF hB hd
        have e22 : a.eval (.tmp 22) = .pointer (some ⟨w.heap.size, 3, none⟩) := hd 8 (by decide +kernel) (.inr (by decide))
        have c := (N5.out.below hB N5.out.lt).cell 3 (.int .u8 (y3 : Int)) (by rw [HY.out]; rfl)
        exact doesG_val rfl (v := .int .u8 (y3 : Int)) (by unfold execOp; simp only [e22]; go_simp) rfl rfl
      · intro a w' hF hB hd
        have e23 : a.eval (.tmp 23) = .int .u8 (y3 : Int) := hd 9 (by decide +kernel) (.inr (by decide))
        exact doesG_call rfl (ex_call (vs := #[.int .u8 (y3 : Int)]) rfl (by simp only [List.map_toArray, List.map_cons, List.map_nil, e23]) (by go_simp)) rfl ((sbox_any y3 l3 w' (HXr.out.below hB)).mono fun e w2 hh => ⟨_, hh.1, rfl, hh.2⟩)
      · intro a w' hF hB hd
        have e2 : a.eval (.tmp 2) = .pointer (some ⟨w.heap.size, 0, none⟩) := hF 2 (by decide +kernel)
        exact doesG_val rfl (v := .pointer (some ⟨w.heap.size, 0, none⟩)) (by unfold execOp; simp only [e2]; go_simp) rfl rfl
      · intro a w' hF hB hd
        have e25 : a.eval (.tmp 25) = .pointer (some ⟨w.heap.size, 0, none⟩) := hd 11 (by decide +kernel) (.inr (by decide))
        have c := (N5.out.below hB N5.out.lt).cell 0 (.int .u8 (y0 : Int)) (by rw [HY.out]; rfl)
        exact doesG_val rfl (v := .int .u8 (y0 : Int)) (by unfold execOp; simp only [e25]; go_simp) rfl rfl
      · intro a w' hF hB hd
        have e26 : a.eval (.tmp 26) = .int .u8 (y0 : Int) := hd 12 (by decide +kernel) (.inr (by decide))
        exact doesG_call rfl (ex_call (vs := #[.int .u8 (y0 : Int)]) rfl (by simp only [List.map_toArray, List.map_cons, List.map_nil, e26]) (by go_simp)) rfl ((sbox_any y0 l0 w' (HXr.out.below hB)).mono fun e w2 hh => ⟨_, hh.1, rfl, hh.2⟩)
      · intro a w' hF hB hd
        have e18 : a.eval (.tmp 18) = .int .u8 ((box y1 ^^^ p : Nat) : Int) := hd 4 (by decide +kernel) (.inr (by decide))
        have e21 : a.eval (.tmp 21) = .int .u8 ((box y2 : Nat) : Int) := hd 7 (by decide +kernel) (.inr (by decide))
        have e24 : a.eval (.tmp 24) = .int .u8 ((box y3 : Nat) : Int) := hd 10 (by decide +kernel) (.inr (by decide))
        have e27 : a.eval (.tmp 27) = .int .u8 ((box y0 : Nat) : Int) := hd 13 (by decide +kernel) (.inr (by decide))
        have f18 : a.tmps[18]?.getD undef = .int .u8 ((box y1 ^^^ p : Nat) : Int) := by rw [← Array.getD_eq_getD_getElem?]; exact e18
        have f21 : a.tmps[21]?.getD undef = .int .u8 ((box y2 : Nat) : Int) := by rw [← Array.getD_eq_getD_getElem?]; exact e21
        have f24 : a.tmps[24]?.getD undef = .int .u8 ((box y3 : Nat) : Int) := by rw [← Array.getD_eq_getD_getElem?]; exact e24
        have f27 : a.tmps[27]?.getD undef = .int .u8 ((box y0 : Nat) : Int) := by rw [← Array.getD_eq_getD_getElem?]; exact e27
        exact doesG_val rfl (v := .agg (row8 Z).toArray) (by rw [HZ.out]; unfold execOp; go_simp; rfl) rfl rfl
    · intro vs w6 hB hv hap
      have er : vs 14 = .agg (row8 Z).toArray := hv 14 (by decide) (by decide)
      simp only [List.take_succ_cons, List.take_zero, List.drop_succ_cons, List.drop_zero, putOps, Act.put, List.setIfInBounds_toArray, List.set_cons_zero, List.set_cons_succ, er]
      have R6 := Lib.hid (R5.out.below hB R5.out.lt)
      have B6 := Lib.hid (B5.out.on hB)
      clear hv hap er hB N5 R5 B5
      generalize vs 0 = v0 at *
      generalize vs 1 = v1 at *
      generalize vs 2 = v2 at *
      generalize vs 3 = v3 at *
      generalize vs 4 = v4 at *
      generalize vs 5 = v5 at *
      generalize vs 6 = v6 at *
      generalize vs 7 = v7 at *
      generalize vs 8 = v8 at *
      generalize vs 9 = v9 at *
      generalize vs 10 = v10 at *
      generalize vs 11 = v11 at *
      generalize vs 12 = v12 at *
      generalize vs 13 = v13 at *
      go_wp2_with (refine wpList_store_mid rfl 82 (.tmp 4) (.tmp 28) rfl (w.heap.size + 1) 0 (row8 Z).toArray rfl rfl (R6.out.there _ (by rw [List.size_toArray, Z4.out, hc0])) (by rw [List.size_toArray, Z4.out]; exact infoW) (row8_one _) ?_)
      have fin := R6.out.whole (row8 Z) (by rw [Z4.out, hc0])
      exact bodyPost_ret (v := .agg (row8 Z).toArray) (results_mid rfl _ _ (w.heap.size + 1) (row8 Z) _ rfl fin.range Tryd.underlying82 rfl (by rw [Z4.out]; exact infoW)) rfl ⟨rfl, below_setCells (w.heap.size + 1) (by omega) _ 0 _ B6.out⟩
  · have mb : ((i : Int) % 8 == 0) = false := by simp; omega
    rw [if_neg m0] at hZ
    by_cases m4 : i % 8 = 4
    · have mc : ((i : Int) % 8 == 4) = true := by simp; omega
      rw [if_pos m4] at hZ
      have HZ := Lib.hid hZ
      clear hZ
      go_enter Tryd.func47, Tryd.ntmps47
      go_upto_region 6 with (fail)
      rw [← HWR.out]
      clear hz
      refine wp_region_g (by kernel_rfl) 13 (by decide) (by kernel_rfl) (by kernel_rfl) (by kernel_rfl) (wr.heap.size) (Nat.le_refl _) [.val (.pointer (some ⟨w.heap.size, 0, none⟩)), .val (.int .u8 (y0 : Int)), .val (.int .u8 ((box y0 : Nat) : Int)), .val (.pointer (some ⟨w.heap.size, 1, none⟩)), .val (.int .u8 (y1 : Int)), .val (.int .u8 ((box y1 : Nat) : Int)), .val (.pointer (some ⟨w.heap.size, 2, none⟩)), .val (.int .u8 (y2 : Int)), .val (.int .u8 ((box y2 : Nat) : Int)), .val (.pointer (some ⟨w.heap.size, 3, none⟩)), .val (.int .u8 (y3 : Int)), .val (.int .u8 ((box y3 : Nat) : Int)), .val (.agg (row8 Z).toArray)] (fun _ => 14) ?_ ?_
      · refine ⟨?_, ?_, ?_, ?_, ?_, ?_, ?_, ?_, ?_, ?_, ?_, ?_, ?_, trivial⟩
        · intro a w' hF hB hd
          have e2 : a.eval (.tmp 2) = .pointer (some ⟨w.heap.size, 0, none⟩) := hF 2 (by decide +kernel)
          exact doesG_val rfl (v := .pointer (some ⟨w.heap.size, 0, none⟩)) (by unfold execOp; simp only [e2]; go_simp) rfl rfl
        · intro a w' hF hB hd
          have e31 : a.eval (.tmp 31) = .pointer (some ⟨w.heap.size, 0, none⟩) := hd 0 (by decide +kernel) (.inr (by decide))
          have c := (N5.out.below hB N5.out.lt).cell 0 (.int .u8 (y0 : Int)) (by rw [HY.out]; rfl)
          exact doesG_val rfl (v := .int .u8 (y0 : Int)) (by unfold execOp; simp only [e31]; go_simp) rfl rfl
        · intro a w' hF hB hd
          have e32 : a.eval (.tmp 32) = .int .u8 (y0 : Int) := hd 1 (by decide +kernel) (.inr (by decide))
          exact doesG_call rfl (ex_call (vs := #[.int .u8 (y0 : Int)]) rfl (by simp only [List.map_toArray, List.map_cons, List.map_nil, e32]) (by go_simp)) rfl ((sbox_any y0 l0 w' (HXr.out.below hB)).mono fun e w2 hh => ⟨_, hh.1, rfl, hh.2⟩)
        · intro a w' hF hB hd
          have e2 : a.eval (.tmp 2) = .pointer (some ⟨w.heap.size, 0, none⟩) := hF 2 (by decide +kernel)
          exact doesG_val rfl (v := .pointer (some ⟨w.heap.size, 1, none⟩)) (by unfold execOp; simp only [e2]; go_simp) rfl rfl
        · intro a w' hF hB hd
          have e34 : a.eval (.tmp 34) = .pointer (some ⟨w.heap.size, 1, none⟩) := hd 3 (by decide +kernel) (.inr (by decide))
          have c := (N5.out.below hB N5.out.lt).cell 1 (.int .u8 (y1 : Int)) (by rw [HY.out]; rfl)
          exact doesG_val rfl (v := .int .u8 (y1 : Int)) (by unfold execOp; simp only [e34]; go_simp) rfl rfl
        · intro a w' hF hB hd
          have e35 : a.eval (.tmp 35) = .int .u8 (y1 : Int) := hd 4 (by decide +kernel) (.inr (by decide))
          exact doesG_call rfl (ex_call (vs := #[.int .u8 (y1 : Int)]) rfl (by simp only [List.map_toArray, List.map_cons, List.map_nil, e35]) (by go_simp)) rfl ((sbox_any y1 l1 w' (HXr.out.below hB)).mono fun e w2 hh => ⟨_, hh.1, rfl, hh.2⟩)
        · intro a w' hF hB hd
          have e2 : a.eval (.tmp 2) = .pointer (some ⟨w.heap.size, 0, none⟩) := hF 2 (by decide +kernel)
          exact doesG_val rfl (v := .pointer (some ⟨w.heap.size, 2, none⟩)) (by unfold execOp; simp only [e2]; go_simp) rfl rfl
        · intro a w' hF hB hd
          have e37 : a.eval (.tmp 37) = .pointer (some ⟨w.heap.size, 2, none⟩) := hd 6 (by decide +kernel) (.inr (by decide))
          have c := (N5.out.below hB N5.out.lt).cell 2 (.int .u8 (y2 : Int)) (by rw [HY.out]; rfl)
          exact doesG_val rfl (v := .int .u8 (y2 : Int)) (by unfold execOp; simp only [e37]; go_simp) rfl rfl
        · intro a w' hF hB hd
          have e38 : a.eval (.tmp 38) = .int .u8 (y2 : Int) := hd 7 (by decide +kernel) (.inr (by decide))
          exact doesG_call rfl (ex_call (vs := #[.int .u8 (y2 : Int)]) rfl (by simp only [List.map_toArray, List.map_cons, List.map_nil, e38]) (by go_simp)) rfl ((sbox_any y2 l2 w' (HXr.out.below hB)).mono fun e w2 hh => ⟨_, hh.1, rfl, hh.2⟩)
        · intro a w' hF hB hd
          have e2 : a.eval (.tmp 2) = .pointer (some ⟨w.heap.size, 0, none⟩) := hF 2 (by decide +kernel)
          exact doesG_val rfl (v := .pointer (some ⟨w.heap.size, 3, none⟩)) (by unfold execOp; simp only [e2]; go_simp) rfl rfl
        · intro a w' hF hB hd
          have e40 : a.eval (.tmp 40) = .pointer (some ⟨w.heap.size, 3, none⟩) := hd 9 (by decide +kernel) (.inr (by decide))
          have c := (N5.out.below hB N5.out.lt).cell 3 (.int .u8 (y3 : Int)) (by rw [HY.out]; rfl)
          exact doesG_val rfl (v := .int .u8 (y3 : Int)) (by unfold execOp; simp only [e40]; go_simp) rfl rfl
        · intro a w' hF hB hd
          have e41 : a.eval (.tmp 41) = .int .u8 (y3 : Int) := hd 10 (by decide +kernel) (.inr (by decide))
          exact doesG_call rfl (ex_call (vs := #[.int .u8 (y3 : Int)]) rfl (by simp only [List.map_toArray, List.map_cons, List.map_nil, e41]) (by go_simp)) rfl ((sbox_any y3 l3 w' (HXr.out.below hB)).mono fun e w2 hh => ⟨_, hh.1, rfl, hh.2⟩)
        · intro a w' hF hB hd
          have e33 : a.eval (.tmp 33) = .int .u8 ((box y0 : Nat) : Int) := hd 2 (by decide +kernel) (.inr (by decide))
          have e36 : a.eval (.tmp 36) = .int .u8 ((box y1 : Nat) : Int) := hd 5 (by decide +kernel) (.inr (by decide))
          have e39 : a.eval (.tmp 39) = .int .u8 ((box y2 : Nat) : Int) := hd 8 (by decide +kernel) (.inr (by decide))
          have e42 : a.eval (.tmp 42) = .int .u8 ((box y3 : Nat) : Int) := hd 11 (by decide +kernel) (.inr (by decide))
          have f33 : a.tmps[33]?.getD undef = .int .u8 ((box y0 : Nat) : Int) := by rw [← Array.getD_eq_getD_getElem?]; exact e33
          have f36 : a.tmps[36]?.getD undef = .int .u8 ((box y1 : Nat) : Int) := by rw [← Array.getD_eq_getD_getElem?]; exact e36
          have f39 : a.tmps[39]?.getD undef = .int .u8 ((box y2 : Nat) : Int) := by rw [← Array.getD_eq_getD_getElem?]; exact e39
          have f42 : a.tmps[42]?.getD undef = .int .u8 ((box y3 : Nat) : Int) := by rw [← Array.getD_eq_getD_getElem?]; exact e42
          exact doesG_val rfl (v := .agg (row8 Z).toArray) (by rw [HZ.out]; unfold execOp; go_simp; rfl) rfl rfl
      · intro vs w6 hB hv hap
        have er : vs 12 = .agg (row8 Z).toArray := hv 12 (by decide) (by decide)
        simp only [List.take_succ_cons, List.take_zero, List.drop_succ_cons, List.drop_zero, putOps, Act.put, List.setIfInBounds_toArray, List.set_cons_zero, List.set_cons_succ, er]
        have R6 := Lib.hid (R5.out.below hB R5.out.lt)
        have B6 := Lib.hid (B5.out.on hB)
        clear hv hap er hB N5 R5 B5
        generalize vs 0 = v0 at *
        generalize vs 1 = v1 at *
        generalize vs 2 = v2 at *
        generalize vs 3 = v3 at *
        generalize vs 4 = v4 at *
        generalize vs 5 = v5 at *
        generalize vs 6 = v6 at *
        generalize vs 7 = v7 at *
        generalize vs 8 = v8 at *
        generalize vs 9 = v9 at *
        generalize vs 10 = v10 at *
        generalize vs 11 = v11 at *
        go_wp2_with (refine wpList_store_mid rfl 82 (.tmp 4) (.tmp 43) rfl (w.heap.size + 1) 0 (row8 Z).toArray rfl rfl (R6.out.there _ (by rw [List.size_toArray, Z4.out, hc0])) (by rw [List.size_toArray, Z4.out]; exact infoW) (row8_one _) ?_)
        have fin := R6.out.whole (row8 Z) (by rw [Z4.out, hc0])
        exact bodyPost_ret (v := .agg (row8 Z).toArray) (results_mid rfl _ _ (w.heap.size + 1) (row8 Z) _ rfl fin.range Tryd.underlying82 rfl (by rw [Z4.out]; exact infoW)) rfl ⟨rfl, below_setCells (w.heap.size + 1) (by omega) _ 0 _ B6.out⟩
    · have mc : ((i : Int) % 8 == 4) = false := by simp; omega
      rw [if_neg m4] at hZ
      subst hZ
      have N5' := N5.out
      have R5' := R5.out
      rw [HWR.out] at N5' R5'
      have B5' := B5.out
      rw [HWR.out] at B5'
      have N6 := Lib.hid N5'
      have R6 := Lib.hid R5'
      have B6 := Lib.hid B5'
      clear N5' R5' B5'
      go_enter Tryd.func47, Tryd.ntmps47
      go_wp2_with (first
        | (refine wpList_load_mid rfl 82 (.tmp 2) rfl w.heap.size 0 rfl (row8 Z) _ N6.out.range Tryd.underlying82 rfl (by rw [Y4.out]; exact infoW) ?_)
        | (refine wpList_store_mid rfl 82 (.tmp 4) (.tmp 44) rfl (w.heap.size + 1) 0 (row8 Z).toArray rfl rfl (R6.out.there _ (by rw [List.size_toArray, Z4.out, hc0])) (by rw [List.size_toArray, Z4.out]; exact infoW) (row8_one _) ?_))
      have fin := R6.out.whole (row8 Z) (by rw [Z4.out, hc0])
      exact bodyPost_ret (v := .agg (row8 Z).toArray) (results_mid rfl _ _ (w.heap.size + 1) (row8 Z) _ rfl fin.range Tryd.underlying82 rfl (by rw [Z4.out]; exact infoW)) rfl ⟨rfl, below_setCells (w.heap.size + 1) (by omega) _ 0 _ B6.out⟩
end Go.Proofs.YtjemajenfkjelaaDoor
