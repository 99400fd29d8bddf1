/- The document's wrap: the mask, the check, keys sealed and opened: contracts. Own work. -/
import Derived.Test.YtbepchikngoknaaDoorWrapLaws
import Derived.Test.YtbepchikngoknaaDoorKdfR
import Derived.Test.YtbepchikngoknaaDoorAesKeysW
import Derived.Test.YtbepchikngoknaaDoorHmacR
import Derived.BigRegion
namespace Go.Proofs.YtbepchikngoknaaDoor
open Go.ChangeShapes Go.WideShapes Go.ChangeAt Go.RowKit
open SM AM WM
set_option maxRecDepth 100000 in
set_option maxHeartbeats 2000000 in
theorem rwcheck_any (K Q : List Nat) (hK : Bytes 32 K) (hQ : Bytes 32 Q) (w : World) (hp : Tab w) :
    Calls Tryd.prog 58 #[.agg (row8 K).toArray, .agg (row8 Q).toArray] w fun e w' => e = .returned (.agg (row8 (wcheck K Q)).toArray) ∧ Below w.heap.size w w' := by
  obtain ⟨L, hL⟩ : ∃ L, L = klabel K checkW := ⟨_, rfl⟩
  have bL : Bytes 32 L := by rw [hL]; exact klabel_bytes _ _
  obtain ⟨V, hV⟩ : ∃ V, V = wcheck K Q := ⟨_, rfl⟩
  have bV : Bytes 32 V := by rw [hV]; exact wcheck_bytes K Q
  have hVV : mac L Q = V := by rw [hV, hL]; rfl
  obtain ⟨s, hs⟩ : ∃ s : ByteArray, s = ⟨#[99, 104, 101, 99, 107]⟩ := ⟨_, rfl⟩
  have hsb : sb s = checkW := by rw [hs]; rfl
  have hss : s.size ≤ 140737488351232 := by rw [hs]; decide
  obtain ⟨D0, hD0⟩ : ∃ D0, D0 = row8 (List.replicate 32 0) := ⟨_, rfl⟩
  have hz : ∀ w, (zeroValue 25).run Tryd.prog w = .ok (.agg D0.toArray) w := by rw [hD0]; exact zeroKeyW
  have hz2 : ∀ w, (zeroValue 26).run Tryd.prog w = .ok (.agg D0.toArray) w := by rw [hD0]; exact zeroSumW
  have hd0 : D0.length = 32 := by rw [hD0, row8_len, List.length_replicate]
  have w1 := (Below.refl w.heap.size w).alloc (Nat.le_refl _) (.cells (row8 K).toArray 25)
  have w2 := w1.alloc w1.size (.cells (row8 Q).toArray 25)
  have w3 := w2.alloc w2.size (.cells D0.toArray 26)
  have N3 := Lib.hid (((Blk.new w 25 (row8 K) _ rfl).alloc (.cells (row8 Q).toArray 25)).alloc (.cells D0.toArray 26))
  have Q3 := Lib.hid ((Blk.new (w.alloc (.cells (row8 K).toArray 25)) 25 (row8 Q) (w.heap.size + 1) (by simp)).alloc (.cells D0.toArray 26))
  have R3 := Lib.hid (Blk.new ((w.alloc (.cells (row8 K).toArray 25)).alloc (.cells (row8 Q).toArray 25)) 26 D0 (w.heap.size + 1 + 1) (by simp))
  have W3 := Lib.hid w3
  have F3 := Lib.hid (rlabel_any K hK s hss _ (hp.below w3))
  rw [hsb, ← hL, hs] at F3
  have K32 := Lib.hid (show (row8 K).length = 32 by rw [row8_len]; exact hK.1)
  have L32 := Lib.hid (show (row8 L).length = 32 by rw [row8_len]; exact bL.1)
  have V32 := Lib.hid (show (row8 V).length = 32 by rw [row8_len]; exact bV.1)
  have HT := Lib.hid hp
  have HBL := Lib.hid bL
  have HQ := Lib.hid hQ
  have HV := Lib.hid hVV
  rw [← hV]
  clear hL bL hV bV hVV hs hsb hss hD0 w1 w2 w3 hK hQ hp
  go_enter Tryd.func58, Tryd.ntmps58
  go_upto_region 2 with (first
    | (refine wpList_load_mid rfl 25 (.tmp 2) rfl w.heap.size 0 rfl (row8 K) _ N3.out.range Tryd.underlying25 rfl (by rw [K32.out]; exact infoKeyL) ?_)
    | (go_at_call 75; (with_reducible refine F3.out.mono ?_); rintro e w4 ⟨rfl, b4⟩; have W4 := Lib.hid (W3.out.on b4); have Q4 := Lib.hid (Q3.out.below b4 Q3.out.lt); have R4 := Lib.hid (R3.out.below b4 R3.out.lt); clear b4)
    | (refine wpList_store_blk rfl 25 (.tmp 5) (.tmp 7) rfl w4.heap.size 0 (row8 L) rfl rfl 25 D0 (Blk.new w4 25 D0 _ rfl) (by rw [L32.out, hd0]; exact Nat.le_refl _) (by rw [L32.out]; exact infoKeyL) (row8_one _) ?_; intro w5 b5 g5; rw [splice_all _ _ (by rw [L32.out, hd0])] at b5; have hbw : Below w4.heap.size w4 w5 := alloc_turn (Below.refl _ _) g5; have U5 := Lib.hid b5; have W5 := Lib.hid (W4.out.on hbw); have Q5 := Lib.hid (Q4.out.below hbw Q4.out.lt); have R5 := Lib.hid (R4.out.below hbw R4.out.lt); clear b5 g5 hbw))
  obtain ⟨ub, hub⟩ : ∃ b, b = w4.heap.size := ⟨_, rfl⟩
  rw [← hub] at U5 ⊢
  have HT5 := Lib.hid (HT.out.below W5.out)
  have HMC := Lib.hid (fun W (hW : Below w5.heap.size w5 W) => rmac_any L Q (by rw [HBL.out.1]; omega) (by rw [HQ.out.1]; omega) (.slice (some ⟨ub, 0, none⟩) 32 32) (.slice (some ⟨w.heap.size + 1, 0, none⟩) 32 32) W
    (by
      have k := blk_rd (U5.out.below hW U5.out.lt) HBL.out.2 (n := 32) (cap := 32) (by rw [HBL.out.1]; omega) (by omega) (by rw [HBL.out.1]; omega)
      rw [List.take_of_length_le (by rw [HBL.out.1]; omega)] at k
      exact k)
    (by
      have k := blk_rd (Q5.out.below hW Q5.out.lt) HQ.out.2 (n := 32) (cap := 32) (by rw [HQ.out.1]; omega) (by omega) (by rw [HQ.out.1]; omega)
      rw [List.take_of_length_le (by rw [HQ.out.1]; omega)] at k
      exact k)
    (HT5.out.below hW))
  rw [HV.out] at HMC
  clear hub N3 Q3 R3 W3 Q4 R4 W4 F3
  refine wp_region_g (by kernel_rfl) 3 (by decide) (by kernel_rfl) (by kernel_rfl) (by kernel_rfl) (w5.heap.size) (Nat.le_refl _) [.val (.slice (some ⟨ub, 0, none⟩) 32 32), .val (.slice (some ⟨w.heap.size + 1, 0, none⟩) 32 32), .val (.agg (row8 V).toArray)] (fun _ => 4) ?_ ?_
  · refine ⟨?_, ?_, ?_, trivial⟩
    · intro a w' hF hB hd
      have e5 : a.eval (.tmp 5) = .pointer (some ⟨ub, 0, none⟩) := hF 5 (by decide +kernel)
      exact doesG_val rfl (v := .slice (some ⟨ub, 0, none⟩) 32 32) (by unfold execOp; simp only [e5]; go_simp) rfl rfl
    · intro a w' hF hB hd
      have e3 : a.eval (.tmp 3) = .pointer (some ⟨w.heap.size + 1, 0, none⟩) := hF 3 (by decide +kernel)
      exact doesG_val rfl (v := .slice (some ⟨w.heap.size + 1, 0, none⟩) 32 32) (by unfold execOp; simp only [e3]; go_simp) rfl rfl
    · intro a w' hF hB hd
      have e8 : a.eval (.tmp 8) = .slice (some ⟨ub, 0, none⟩) 32 32 := hd 0 (by decide +kernel) (.inr (by decide))
      have e9 : a.eval (.tmp 9) = .slice (some ⟨w.heap.size + 1, 0, none⟩) 32 32 := hd 1 (by decide +kernel) (.inr (by decide))
      exact doesG_call rfl (ex_call (vs := #[.slice (some ⟨ub, 0, none⟩) 32 32, .slice (some ⟨w.heap.size + 1, 0, none⟩) 32 32]) rfl (by simp only [List.map_toArray, List.map_cons, List.map_nil, e8, e9]) (by go_simp)) rfl ((HMC.out w' hB).mono fun e w2 hh => ⟨_, hh.1, rfl, hh.2⟩)
  · intro vs w6 hb hv hap
    have e10 : vs 2 = .agg (row8 V).toArray := hv 2 (by decide) (by decide)
    simp only [List.take_succ_cons, List.take_zero, List.drop_succ_cons, List.drop_zero, putOps, Act.put, List.setIfInBounds_toArray, List.set_cons_zero, List.set_cons_succ, e10]
    have R6 := Lib.hid (R5.out.below hb R5.out.lt)
    have B6 := Lib.hid (W5.out.on hb)
    clear hv hap e10 hb
    generalize vs 0 = v0 at *
    generalize vs 1 = v1 at *
    go_wp2_with (refine wpList_store_mid rfl 26 (.tmp 4) (.tmp 10) rfl (w.heap.size + 1 + 1) 0 (row8 V).toArray rfl rfl (R6.out.there _ (by rw [List.size_toArray, V32.out, hd0])) (by rw [List.size_toArray, V32.out]; exact infoS) (row8_one _) ?_)
    have fin := R6.out.whole (row8 V) (by rw [V32.out, hd0])
    exact bodyPost_ret (v := .agg (row8 V).toArray) (results_mid rfl _ _ (w.heap.size + 1 + 1) (row8 V) _ rfl fin.range Tryd.underlying26 rfl (by rw [V32.out]; exact infoS)) rfl ⟨rfl, below_setCells (w.heap.size + 1 + 1) (by omega) _ 0 _ B6.out⟩
set_option maxRecDepth 100000 in
set_option maxHeartbeats 4000000 in
theorem rwmasked_any (K M : List Nat) (hK : Bytes 32 K) (hM : Bytes 32 M) (w : World) (ht : TabA w) (hp : Tab w) :
    Calls Tryd.prog 59 #[.agg (row8 K).toArray, .agg (row8 M).toArray] w fun e w' => e = .returned (.agg (row8 (wseal K M)).toArray) ∧ Below w.heap.size w w' := by
  obtain ⟨L, hL⟩ : ∃ L, L = klabel K wrapW := ⟨_, rfl⟩
  have bL : Bytes 32 L := by rw [hL]; exact klabel_bytes _ _
  obtain ⟨Z, hZ⟩ : ∃ Z, Z = wseal K M := ⟨_, rfl⟩
  have bZ : Bytes 32 Z := by rw [hZ]; exact wseal_bytes K hM
  obtain ⟨S, hS⟩ : ∃ S, S = sched L := ⟨_, rfl⟩
  have bS : Bytes 240 S := by rw [hS]; exact sched_bytes bL.2
  obtain ⟨Z0, hZ0⟩ : ∃ Z0, Z0 = List.replicate 16 0 := ⟨_, rfl⟩
  have bZ0 : Bytes 16 Z0 := by rw [hZ0]; exact bytes_zero 16
  obtain ⟨L1, hL1⟩ : ∃ L1, L1 = lastOne := ⟨_, rfl⟩
  have bL1 : Bytes 16 L1 := by rw [hL1]; exact lastOne_bytes
  obtain ⟨A, hA⟩ : ∃ A, A = enc (rk S) Z0 := ⟨_, rfl⟩
  have bA : Bytes 16 A := by rw [hA]; exact enc_bytes (fun n => rk_bytes bS.2 n) _
  obtain ⟨B, hB0⟩ : ∃ B, B = enc (rk S) L1 := ⟨_, rfl⟩
  have bB : Bytes 16 B := by rw [hB0]; exact enc_bytes (fun n => rk_bytes bS.2 n) _
  have hXZ : xm M A B 16 = Z := by rw [hZ, hA, hB0, hS, hL, hZ0, hL1]; exact xm_all K M
  have HB0 := Lib.hid (show Tryd.prog.built 23 [] = some (row8 Z0).toArray by rw [hZ0]; kernel_rfl)
  have HB1 := Lib.hid (show Tryd.prog.built 23 [(15, .int .u8 1)] = some (row8 L1).toArray by rw [hL1]; kernel_rfl)
  obtain ⟨s, hs⟩ : ∃ s : ByteArray, s = ⟨#[119, 114, 97, 112]⟩ := ⟨_, rfl⟩
  have hsb : sb s = wrapW := by rw [hs]; rfl
  have hss : s.size ≤ 140737488351232 := by rw [hs]; decide
  obtain ⟨D0, hD0⟩ : ∃ D0, D0 = row8 (List.replicate 32 0) := ⟨_, rfl⟩
  have hz : ∀ w, (zeroValue 25).run Tryd.prog w = .ok (.agg D0.toArray) w := by rw [hD0]; exact zeroKeyW
  have hd0 : D0.length = 32 := by rw [hD0, row8_len, List.length_replicate]
  obtain ⟨D16, hD16⟩ : ∃ D, D = row8 (List.replicate 16 0) := ⟨_, rfl⟩
  have hz16 : ∀ w, (zeroValue 23).run Tryd.prog w = .ok (.agg D16.toArray) w := by rw [hD16]; exact zero16
  have hd16 : D16.length = 16 := by rw [hD16, row8_len, List.length_replicate]
  obtain ⟨DK, hDK⟩ : ∃ D, D = row8 (List.replicate 240 0) := ⟨_, rfl⟩
  have hzK : ∀ w, (zeroValue 123).run Tryd.prog w = .ok (.agg DK.toArray) w := by rw [hDK]; exact zeroK
  have hdK : DK.length = 240 := by rw [hDK, row8_len, List.length_replicate]
  have w1 := (Below.refl w.heap.size w).alloc (Nat.le_refl _) (.cells (row8 K).toArray 25)
  have w2 := w1.alloc w1.size (.cells (row8 M).toArray 25)
  have w3 := w2.alloc w2.size (.cells D0.toArray 25)
  have N3 := Lib.hid (((Blk.new w 25 (row8 K) _ rfl).alloc (.cells (row8 M).toArray 25)).alloc (.cells D0.toArray 25))
  have M3 := Lib.hid ((Blk.new (w.alloc (.cells (row8 K).toArray 25)) 25 (row8 M) (w.heap.size + 1) (by simp)).alloc (.cells D0.toArray 25))
  have R3 := Lib.hid (Blk.new ((w.alloc (.cells (row8 K).toArray 25)).alloc (.cells (row8 M).toArray 25)) 25 D0 (w.heap.size + 1 + 1) (by simp))
  have W3 := Lib.hid w3
  have F3 := Lib.hid (rlabel_any K hK s hss _ (hp.below w3))
  rw [hsb, ← hL, hs] at F3
  have K32 := Lib.hid (show (row8 K).length = 32 by rw [row8_len]; exact hK.1)
  have Z32 := Lib.hid (show (row8 Z).length = 32 by rw [row8_len]; exact bZ.1)
  have S240 := Lib.hid (show (row8 S).length = 240 by rw [row8_len]; exact bS.1)
  have A16 := Lib.hid (show (row8 A).length = 16 by rw [row8_len]; exact bA.1)
  have B16 := Lib.hid (show (row8 B).length = 16 by rw [row8_len]; exact bB.1)
  have HSC := Lib.hid (fun W (hW : Below w.heap.size w W) => asched_any L bL W (ht.below hW))
  rw [← hS] at HSC
  have HEA0 := Lib.hid (fun W (hW : Below w.heap.size w W) => aenc_any S bS Z0 bZ0 W (ht.below hW))
  rw [← hA] at HEA0
  have HEB0 := Lib.hid (fun W (hW : Below w.heap.size w W) => aenc_any S bS L1 bL1 W (ht.below hW))
  rw [← hB0] at HEB0
  have HM := Lib.hid hM
  have HA := Lib.hid bA
  have HBB := Lib.hid bB
  have HXZ := Lib.hid hXZ
  rw [← hZ]
  clear hL bL hZ bZ hS bS hZ0 bZ0 hL1 bL1 hA bA hB0 bB hXZ hs hsb hss hD0 hD16 hDK w1 w2 w3 hK hM ht hp
  go_enter Tryd.func59, Tryd.ntmps59
  go_upto_region 2 with (first
    | (refine wpList_load_mid rfl 25 (.tmp 2) rfl w.heap.size 0 rfl (row8 K) _ N3.out.range Tryd.underlying25 rfl (by rw [K32.out]; exact infoKeyL) ?_)
    | (go_at_call 75; (with_reducible refine F3.out.mono ?_); rintro e w4 ⟨rfl, b4⟩; have W4 := Lib.hid (W3.out.on b4); have M4 := Lib.hid (M3.out.below b4 M3.out.lt); have R4 := Lib.hid (R3.out.below b4 R3.out.lt); have F4 := Lib.hid (HSC.out w4 W4.out); clear b4)
    | (go_at_call 77; (with_reducible refine F4.out.mono ?_); rintro e w5 ⟨rfl, b5⟩; have W5 := Lib.hid (W4.out.on b5); have M5 := Lib.hid (M4.out.below b5 M4.out.lt); have R5 := Lib.hid (R4.out.below b5 R4.out.lt); clear b5)
    | (refine wpList_store_blk rfl 123 (.tmp 5) (.tmp 11) rfl w5.heap.size 0 (row8 S) rfl rfl 123 DK (Blk.new w5 123 DK _ rfl) (by rw [S240.out, hdK]; exact Nat.le_refl _) (by rw [S240.out]; exact info240) (row8_one _) ?_; intro w6 b6 g6; rw [splice_all _ _ (by rw [S240.out, hdK])] at b6; have hbw : Below w5.heap.size w5 w6 := alloc_turn (Below.refl _ _) g6; have S5 := Lib.hid b6; have W6 := Lib.hid (W5.out.on hbw); have M6 := Lib.hid (M5.out.below hbw M5.out.lt); have R6 := Lib.hid (R5.out.below hbw R5.out.lt); clear b6 g6 hbw))
  obtain ⟨sb, hsb⟩ : ∃ b, b = w5.heap.size := ⟨_, rfl⟩
  rw [← hsb] at S5 ⊢
  have HEA := Lib.hid (fun W (hW : Below w6.heap.size w6 W) => HEA0.out W (W6.out.on hW))
  have HEB := Lib.hid (fun W (hW : Below w6.heap.size w6 W) => HEB0.out W (W6.out.on hW))
  clear hsb N3 M3 R3 W3 M4 R4 W4 M5 R5 W5 F3 F4 HEA0 HEB0 HSC
  refine wp_region_g (by kernel_rfl) 8 (by decide) (by kernel_rfl) (by kernel_rfl) (by kernel_rfl) (w6.heap.size) (Nat.le_refl _) [.val (.agg (row8 S).toArray), .val (.agg (row8 Z0).toArray), .val (.agg (row8 A).toArray), .val (.agg (row8 S).toArray), .val (.agg (row8 L1).toArray), .val (.agg (row8 B).toArray), .blk 23 D16, .blk 23 D16] (fun _ => 10) ?_ ?_
  · refine ⟨?_, ?_, ?_, ?_, ?_, ?_, ?_, ?_, trivial⟩
    · intro a w' hF hB hd
      have e5 : a.eval (.tmp 5) = .pointer (some ⟨sb, 0, none⟩) := hF 5 (by decide +kernel)
      exact doesG_wp rfl rfl fun K' hK' => wp_load_mid 123 (.tmp 5) rfl sb 0 e5 (row8 S) _ (S5.out.below hB S5.out.lt).range Tryd.underlying123 rfl (by rw [S240.out]; exact info240) (hK' _ _ rfl (Below.refl _ _))
    · intro a w' hF hB hd
      exact doesG_val rfl (ex_build rfl (Eq.trans (b := Tryd.prog.built 23 []) (by kernel_rfl) HB0.out)) rfl rfl
    · intro a w' hF hB hd
      have e12 : a.eval (.tmp 12) = .agg (row8 S).toArray := hd 0 (by decide +kernel) (.inr (by decide))
      have e13 : a.eval (.tmp 13) = .agg (row8 Z0).toArray := hd 1 (by decide +kernel) (.inr (by decide))
      exact doesG_call rfl (ex_call (vs := #[.agg (row8 S).toArray, .agg (row8 Z0).toArray]) rfl (by simp only [List.map_toArray, List.map_cons, List.map_nil, e12, e13]) (by go_simp)) rfl ((HEA.out w' hB).mono fun e w2 hh => ⟨_, hh.1, rfl, hh.2⟩)
    · intro a w' hF hB hd
      have e5 : a.eval (.tmp 5) = .pointer (some ⟨sb, 0, none⟩) := hF 5 (by decide +kernel)
      exact doesG_wp rfl rfl fun K' hK' => wp_load_mid 123 (.tmp 5) rfl sb 0 e5 (row8 S) _ (S5.out.below hB S5.out.lt).range Tryd.underlying123 rfl (by rw [S240.out]; exact info240) (hK' _ _ rfl (Below.refl _ _))
    · intro a w' hF hB hd
      exact doesG_val rfl (ex_build rfl (Eq.trans (b := Tryd.prog.built 23 [(15, .int .u8 1)]) (by kernel_rfl) HB1.out)) rfl rfl
    · intro a w' hF hB hd
      have e15 : a.eval (.tmp 15) = .agg (row8 S).toArray := hd 3 (by decide +kernel) (.inr (by decide))
      have e16 : a.eval (.tmp 16) = .agg (row8 L1).toArray := hd 4 (by decide +kernel) (.inr (by decide))
      exact doesG_call rfl (ex_call (vs := #[.agg (row8 S).toArray, .agg (row8 L1).toArray]) rfl (by simp only [List.map_toArray, List.map_cons, List.map_nil, e15, e16]) (by go_simp)) rfl ((HEB.out w' hB).mono fun e w2 hh => ⟨_, hh.1, rfl, hh.2⟩)
    · intro a w' hF hB hd
      exact doesG_alloc rfl 23 D16 rfl hz16 hB.size rfl
    · intro a w' hF hB hd
      exact doesG_alloc rfl 23 D16 rfl hz16 hB.size rfl
  · intro vs w7 hb hv hap
    have e14 : vs 2 = .agg (row8 A).toArray := hv 2 (by decide) (by decide)
    have e17 : vs 5 = .agg (row8 B).toArray := hv 5 (by decide) (by decide)
    obtain ⟨ab, e6, hba, hab⟩ : ∃ c, vs 6 = .pointer (some ⟨c, 0, none⟩) ∧ w6.heap.size ≤ c ∧ Blk w7 c 23 D16 := hv 6 (by decide) (by decide)
    obtain ⟨bb, e7, hbb, hbk⟩ : ∃ c, vs 7 = .pointer (some ⟨c, 0, none⟩) ∧ w6.heap.size ≤ c ∧ Blk w7 c 23 D16 := hv 7 (by decide) (by decide)
    have hne : ab ≠ bb := fun e => hap 6 7 (by decide) (by decide) (by decide) (by decide) (by decide) rfl rfl ab (by rw [e6]; rfl) (by rw [e7, e]; rfl)
    simp only [List.take_succ_cons, List.take_zero, List.drop_succ_cons, List.drop_zero, putOps, Act.put, List.setIfInBounds_toArray, List.set_cons_zero, List.set_cons_succ, e14, e17, e6, e7]
    have R7 := Lib.hid (R6.out.below hb R6.out.lt)
    have M7 := Lib.hid (M6.out.below hb M6.out.lt)
    have W7 := Lib.hid (W6.out.on hb)
    have PA := Lib.hid hab
    have PB := Lib.hid hbk
    have ha1 : w.heap.size + 1 + 1 < ab := by have := R6.out.lt; omega
    have hb1 : w.heap.size + 1 + 1 < bb := by have := R6.out.lt; omega
    clear hv hap e14 e17 e6 e7 hb hab hbk hba hbb
    generalize vs 0 = v0 at *
    generalize vs 1 = v1 at *
    generalize vs 3 = v3 at *
    generalize vs 4 = v4 at *
    go_wp2_with (first
      | (refine wpList_store_blk rfl 23 (.tmp 6) (.tmp 14) rfl ab 0 (row8 A) rfl rfl 23 D16 PA.out (by rw [A16.out, hd16]; exact Nat.le_refl _) (by rw [A16.out]; exact info16) (row8_one _) ?_; intro w8 b8 g8; rw [splice_all _ _ (by rw [A16.out, hd16])] at b8; have A8 := Lib.hid b8; have B8 := Lib.hid (PB.out.grown g8 (fun q => hne (Option.some.inj q).symm)); have R8 := Lib.hid (R7.out.grown g8 (fun q => by have e : w.heap.size + 1 + 1 = ab := Option.some.inj q; omega)); have M8 := Lib.hid (M7.out.grown g8 (fun q => by have e : w.heap.size + 1 = ab := Option.some.inj q; omega)); have W8 := Lib.hid (W7.out.grown g8 W7.out.size (fun k hk => by have e : ab = k := Option.some.inj hk; omega)); clear b8 g8)
      | (refine wpList_store_blk rfl 23 (.tmp 7) (.tmp 17) rfl bb 0 (row8 B) rfl rfl 23 D16 B8.out (by rw [B16.out, hd16]; exact Nat.le_refl _) (by rw [B16.out]; exact info16) (row8_one _) ?_; intro w9 b9 g9; rw [splice_all _ _ (by rw [B16.out, hd16])] at b9; have B9 := Lib.hid b9; have A9 := Lib.hid (A8.out.grown g9 (fun q => hne (Option.some.inj q))); have R9 := Lib.hid (R8.out.grown g9 (fun q => by have e : w.heap.size + 1 + 1 = bb := Option.some.inj q; omega)); have M9 := Lib.hid (M8.out.grown g9 (fun q => by have e : w.heap.size + 1 = bb := Option.some.inj q; omega)); have W9 := Lib.hid (W8.out.grown g9 W8.out.size (fun k hk => by have e : bb = k := Option.some.inj hk; omega)); clear b9 g9))
    go_loopw [8] (fun i wr => ∃ k : Nat, k ≤ 16 ∧ i = .int .i64 (k : Int) ∧ Blk wr (w.heap.size + 1) 25 (row8 (xm M A B k)) ∧ Blk wr ab 23 (row8 A) ∧ Blk wr bb 23 (row8 B) ∧ Blk wr (w.heap.size + 1 + 1) 25 D0 ∧ Below w.heap.size w wr) (fun i _ => 16 - (intOf i).toNat)
    case atStart => exact ⟨0, Nat.zero_le _, rfl, by rw [xm_zero HM.out.1]; exact M9.out, A9.out, B9.out, R9.out, W9.out⟩
    case round =>
      clear M9 A9 B9 R9 W9 A8 B8 R8 M8 W8 PA PB R7 M7 W7 R6 M6 W6 S5
      obtain ⟨k, hk, rfl, m0, a0, b0, r0, g0⟩ := hrel
      by_cases hlt : k < 16
      · have cm := m0.cell k _ (row8_val _ k (by rw [xm_len]; omega))
        rw [xm_get _ _ _ _ _ (by omega), if_pos hlt, if_neg (by omega)] at cm
        have cn := m0.cell (16 + k) _ (row8_val _ (16 + k) (by rw [xm_len]; omega))
        rw [xm_get _ _ _ _ _ (by omega), if_neg (by omega), if_neg (by omega)] at cn
        have ca := a0.cell k _ (row8_val A k (by rw [HA.out.1]; exact hlt))
        have cb := b0.cell k _ (row8_val B k (by rw [HBB.out.1]; exact hlt))
        have f0 := m0.free k
        have f1 := m0.free (16 + k)
        have hx0 := u8_xor_nat (gb M k) (gb A k) (HM.out.2 _) (HA.out.2 k)
        have hx1 := u8_xor_nat (gb M (16 + k)) (gb B k) (HM.out.2 _) (HBB.out.2 k)
        have q0 : (0 : Int) ≤ 16 + (k : Int) := by omega
        have q1 : 16 + (k : Int) < 32 := by omega
        have q2 : (16 + (k : Int)).toNat = 16 + k := by omega
        have q3 : (k : Int) < 32 := by omega
        have q4 : ¬ k = 16 + k := by omega
        have M0 := Lib.hid m0
        have A0 := Lib.hid a0
        have B0 := Lib.hid b0
        have R0 := Lib.hid r0
        have G0 := Lib.hid g0
        clear m0 a0 b0 r0 g0
        go_upto_region 6 with (fail)
        go_region
        have nm := (M0.out.set k (.int .u8 ((gb M k ^^^ gb A k : Nat) : Int))).drew
        have na := (A0.out.other ⟨w.heap.size + 1, k, none⟩ (.int .u8 ((gb M k ^^^ gb A k : Nat) : Int)) (by show ab ≠ w.heap.size + 1; omega)).drew
        have nb := (B0.out.other ⟨w.heap.size + 1, k, none⟩ (.int .u8 ((gb M k ^^^ gb A k : Nat) : Int)) (by show bb ≠ w.heap.size + 1; omega)).drew
        have nr := (R0.out.other ⟨w.heap.size + 1, k, none⟩ (.int .u8 ((gb M k ^^^ gb A k : Nat) : Int)) (by show w.heap.size + 1 + 1 ≠ w.heap.size + 1; omega)).drew
        have ng := (G0.out.setCell (p := ⟨w.heap.size + 1, k, none⟩) (by show w.heap.size ≤ w.heap.size + 1; omega) (.int .u8 ((gb M k ^^^ gb A k : Nat) : Int))).drew
        rw [row8_set] at nm
        have hst := xm_step M A B k hlt
        obtain ⟨X, hX⟩ : ∃ X, X = (xm M A B k).set k (gb M k ^^^ gb A k) := ⟨_, rfl⟩
        have hX1 : gb X (16 + k) = gb M (16 + k) := by
          rw [hX, gb_set _ _ _ _ (by rw [xm_len]; omega), if_neg (by omega), xm_get _ _ _ _ _ (by omega), if_neg (by omega), if_neg (by omega)]
        have hX2 : X.length = 32 := by rw [hX, List.length_set, xm_len]
        rw [← hX] at nm hst
        generalize (wr.setCell ⟨w.heap.size + 1, k, none⟩ (.int .u8 ((gb M k ^^^ gb A k : Nat) : Int))).drew = w1 at nm na nb nr ng ⊢
        clear cm cn ca cb f0 f1 hX
        have cn := nm.cell (16 + k) _ (row8_val X (16 + k) (by omega))
        rw [hX1] at cn
        have cb := nb.cell k _ (row8_val B k (by rw [HBB.out.1]; exact hlt))
        have f1 := nm.free (16 + k)
        have NM := Lib.hid nm
        have NA := Lib.hid na
        have NB := Lib.hid nb
        have NR := Lib.hid nr
        have NG := Lib.hid ng
        have HST := Lib.hid hst
        clear nm na nb nr ng hst hX1 hX2
        go_upto_region 7 with (fail)
        go_region
        have nm := (NM.out.set (16 + k) (.int .u8 ((gb M (16 + k) ^^^ gb B k : Nat) : Int))).drew
        rw [row8_set, HST.out] at nm
        have na := (NA.out.other ⟨w.heap.size + 1, 16 + k, none⟩ (.int .u8 ((gb M (16 + k) ^^^ gb B k : Nat) : Int)) (by show ab ≠ w.heap.size + 1; omega)).drew
        have nb := (NB.out.other ⟨w.heap.size + 1, 16 + k, none⟩ (.int .u8 ((gb M (16 + k) ^^^ gb B k : Nat) : Int)) (by show bb ≠ w.heap.size + 1; omega)).drew
        have nr := (NR.out.other ⟨w.heap.size + 1, 16 + k, none⟩ (.int .u8 ((gb M (16 + k) ^^^ gb B k : Nat) : Int)) (by show w.heap.size + 1 + 1 ≠ w.heap.size + 1; omega)).drew
        have ng := (NG.out.setCell (p := ⟨w.heap.size + 1, 16 + k, none⟩) (by show w.heap.size ≤ w.heap.size + 1; omega) (.int .u8 ((gb M (16 + k) ^^^ gb B k : Nat) : Int))).drew
        generalize (w1.setCell ⟨w.heap.size + 1, 16 + k, none⟩ (.int .u8 ((gb M (16 + k) ^^^ gb B k : Nat) : Int))).drew = w2 at nm na nb nr ng ⊢
        have RM := Lib.hid nm
        have RA := Lib.hid na
        have RB := Lib.hid nb
        have RR := Lib.hid nr
        have RG := Lib.hid ng
        clear nm na nb nr ng
        go_wp2_with fail
        exact ⟨⟨k + 1, by omega, by go_num, RM.out, RA.out, RB.out, RR.out, RG.out⟩, by simp [intOf]; omega⟩
      · obtain rfl : k = 16 := by omega
        rw [HXZ.out] at m0
        have M0 := Lib.hid m0
        have R0 := Lib.hid r0
        have G0 := Lib.hid g0
        clear m0 a0 b0 r0 g0
        go_wp2_with (first
          | (refine wpList_load_mid rfl 25 (.tmp 3) rfl (w.heap.size + 1) 0 rfl (row8 Z) _ M0.out.range Tryd.underlying25 rfl (by rw [Z32.out]; exact infoKeyL) ?_)
          | (refine wpList_store_mid rfl 25 (.tmp 4) (.tmp 42) rfl (w.heap.size + 1 + 1) 0 (row8 Z).toArray rfl rfl (R0.out.there _ (by rw [List.size_toArray, Z32.out, hd0])) (by rw [List.size_toArray, Z32.out]; exact infoKeyL) (row8_one _) ?_))
        have fin := R0.out.whole (row8 Z) (by rw [Z32.out, hd0])
        exact bodyPost_ret (v := .agg (row8 Z).toArray) (results_mid rfl _ _ (w.heap.size + 1 + 1) (row8 Z) _ rfl fin.range Tryd.underlying25 rfl (by rw [Z32.out]; exact infoKeyL)) rfl ⟨rfl, below_setCells (w.heap.size + 1 + 1) (by omega) _ 0 _ G0.out⟩
set_option maxRecDepth 100000 in
set_option maxHeartbeats 2000000 in
theorem rwseal_any (K M : List Nat) (hK : Bytes 32 K) (hM : Bytes 32 M) (w : World) (ht : TabA w) (hp : Tab w) :
    Calls Tryd.prog 80 #[.agg (row8 K).toArray, .agg (row8 M).toArray] w fun e w' => e = .returned (.tuple #[.agg (row8 (wseal K M)).toArray, .agg (row8 (wcheck K (wseal K M))).toArray]) ∧ Below w.heap.size w w' := by
  obtain ⟨Z, hZ⟩ : ∃ Z, Z = wseal K M := ⟨_, rfl⟩
  have bZ : Bytes 32 Z := by rw [hZ]; exact wseal_bytes K hM
  rw [← hZ]
  obtain ⟨V, hV⟩ : ∃ V, V = wcheck K Z := ⟨_, rfl⟩
  have bV : Bytes 32 V := by rw [hV]; exact wcheck_bytes K Z
  rw [← hV]
  obtain ⟨D0, hD0⟩ : ∃ D0, D0 = row8 (List.replicate 32 0) := ⟨_, rfl⟩
  have hz : ∀ w, (zeroValue 25).run Tryd.prog w = .ok (.agg D0.toArray) w := by rw [hD0]; exact zeroKeyW
  have hz2 : ∀ w, (zeroValue 26).run Tryd.prog w = .ok (.agg D0.toArray) w := by rw [hD0]; exact zeroSumW
  have hd0 : D0.length = 32 := by rw [hD0, row8_len, List.length_replicate]
  have w1 := (Below.refl w.heap.size w).alloc (Nat.le_refl _) (.cells (row8 K).toArray 25)
  have w2 := w1.alloc w1.size (.cells (row8 M).toArray 25)
  have w3 := w2.alloc w2.size (.cells D0.toArray 25)
  have w4 := w3.alloc w3.size (.cells D0.toArray 26)
  have N3 := Lib.hid ((((Blk.new w 25 (row8 K) _ rfl).alloc (.cells (row8 M).toArray 25)).alloc (.cells D0.toArray 25)).alloc (.cells D0.toArray 26))
  have M3 := Lib.hid (((Blk.new (w.alloc (.cells (row8 K).toArray 25)) 25 (row8 M) (w.heap.size + 1) (by simp)).alloc (.cells D0.toArray 25)).alloc (.cells D0.toArray 26))
  have R3 := Lib.hid ((Blk.new ((w.alloc (.cells (row8 K).toArray 25)).alloc (.cells (row8 M).toArray 25)) 25 D0 (w.heap.size + 1 + 1) (by simp)).alloc (.cells D0.toArray 26))
  have S3 := Lib.hid (Blk.new (((w.alloc (.cells (row8 K).toArray 25)).alloc (.cells (row8 M).toArray 25)).alloc (.cells D0.toArray 25)) 26 D0 (w.heap.size + 1 + 1 + 1) (by simp))
  have W3 := Lib.hid w4
  have F3 := Lib.hid (rwmasked_any K M hK hM _ (ht.below w4) (hp.below w4))
  rw [← hZ] at F3
  have K32 := Lib.hid (show (row8 K).length = 32 by rw [row8_len]; exact hK.1)
  have M32 := Lib.hid (show (row8 M).length = 32 by rw [row8_len]; exact hM.1)
  have Z32 := Lib.hid (show (row8 Z).length = 32 by rw [row8_len]; exact bZ.1)
  have V32 := Lib.hid (show (row8 V).length = 32 by rw [row8_len]; exact bV.1)
  have HC0 := Lib.hid (fun W (hW : Below w.heap.size w W) => rwcheck_any K Z hK bZ W (hp.below hW))
  rw [← hV] at HC0
  clear hZ bZ hV bV hD0 w1 w2 w3 w4 hK hM ht hp
  go_enter Tryd.func80, Tryd.ntmps80
  go_upto_region 2 with (first
    | (refine wpList_load_mid rfl 25 (.tmp 2) rfl w.heap.size 0 rfl (row8 K) _ N3.out.range Tryd.underlying25 rfl (by rw [K32.out]; exact infoKeyL) ?_)
    | (refine wpList_load_mid rfl 25 (.tmp 3) rfl (w.heap.size + 1) 0 rfl (row8 M) _ M3.out.range Tryd.underlying25 rfl (by rw [M32.out]; exact infoKeyL) ?_)
    | (go_at_call 59; (with_reducible refine F3.out.mono ?_); rintro e w4 ⟨rfl, b4⟩; have W4 := Lib.hid (W3.out.on b4); have N4 := Lib.hid (N3.out.below b4 N3.out.lt); have R4 := Lib.hid (R3.out.below b4 R3.out.lt); have S4 := Lib.hid (S3.out.below b4 S3.out.lt); clear b4)
    | (refine wpList_store_blk rfl 25 (.tmp 6) (.tmp 9) rfl w4.heap.size 0 (row8 Z) rfl rfl 25 D0 (Blk.new w4 25 D0 _ rfl) (by rw [Z32.out, hd0]; exact Nat.le_refl _) (by rw [Z32.out]; exact infoKeyL) (row8_one _) ?_; intro w5 b5 g5; rw [splice_all _ _ (by rw [Z32.out, hd0])] at b5; have hbw : Below w4.heap.size w4 w5 := alloc_turn (Below.refl _ _) g5; have Z5 := Lib.hid b5; have W5 := Lib.hid (W4.out.on hbw); have N5 := Lib.hid (N4.out.below hbw N4.out.lt); have R5 := Lib.hid (R4.out.below hbw R4.out.lt); have S5 := Lib.hid (S4.out.below hbw S4.out.lt); clear b5 g5 hbw))
  obtain ⟨zb, hzb⟩ : ∃ b, b = w4.heap.size := ⟨_, rfl⟩
  rw [← hzb] at Z5 ⊢
  have HC := Lib.hid (fun W (hW : Below w5.heap.size w5 W) => HC0.out W (W5.out.on hW))
  clear hzb N3 M3 R3 S3 W3 N4 R4 S4 W4 F3 HC0
  refine wp_region_g (by kernel_rfl) 4 (by decide) (by kernel_rfl) (by kernel_rfl) (by kernel_rfl) (w5.heap.size) (Nat.le_refl _) [.val (.agg (row8 Z).toArray), .val (.agg (row8 K).toArray), .val (.agg (row8 Z).toArray), .val (.agg (row8 V).toArray)] (fun _ => 6) ?_ ?_
  · refine ⟨?_, ?_, ?_, ?_, trivial⟩
    · intro a w' hF hB hd
      have e6 : a.eval (.tmp 6) = .pointer (some ⟨zb, 0, none⟩) := hF 6 (by decide +kernel)
      exact doesG_wp rfl rfl fun K' hK' => wp_load_mid 25 (.tmp 6) rfl zb 0 e6 (row8 Z) _ (Z5.out.below hB Z5.out.lt).range Tryd.underlying25 rfl (by rw [Z32.out]; exact infoKeyL) (hK' _ _ rfl (Below.refl _ _))
    · intro a w' hF hB hd
      have e2 : a.eval (.tmp 2) = .pointer (some ⟨w.heap.size, 0, none⟩) := hF 2 (by decide +kernel)
      exact doesG_wp rfl rfl fun K' hK' => wp_load_mid 25 (.tmp 2) rfl w.heap.size 0 e2 (row8 K) _ (N5.out.below hB N5.out.lt).range Tryd.underlying25 rfl (by rw [K32.out]; exact infoKeyL) (hK' _ _ rfl (Below.refl _ _))
    · intro a w' hF hB hd
      have e6 : a.eval (.tmp 6) = .pointer (some ⟨zb, 0, none⟩) := hF 6 (by decide +kernel)
      exact doesG_wp rfl rfl fun K' hK' => wp_load_mid 25 (.tmp 6) rfl zb 0 e6 (row8 Z) _ (Z5.out.below hB Z5.out.lt).range Tryd.underlying25 rfl (by rw [Z32.out]; exact infoKeyL) (hK' _ _ rfl (Below.refl _ _))
    · intro a w' hF hB hd
      have e11 : a.eval (.tmp 11) = .agg (row8 K).toArray := hd 1 (by decide +kernel) (.inr (by decide))
      have e12 : a.eval (.tmp 12) = .agg (row8 Z).toArray := hd 2 (by decide +kernel) (.inr (by decide))
      exact doesG_call rfl (ex_call (vs := #[.agg (row8 K).toArray, .agg (row8 Z).toArray]) rfl (by simp only [List.map_toArray, List.map_cons, List.map_nil, e11, e12]) (by go_simp)) rfl ((HC.out w' hB).mono fun e w2 hh => ⟨_, hh.1, rfl, hh.2⟩)
  · intro vs w6 hb hv hap
    have e10 : vs 0 = .agg (row8 Z).toArray := hv 0 (by decide) (by decide)
    have e13 : vs 3 = .agg (row8 V).toArray := hv 3 (by decide) (by decide)
    simp only [List.take_succ_cons, List.take_zero, List.drop_succ_cons, List.drop_zero, putOps, Act.put, List.setIfInBounds_toArray, List.set_cons_zero, List.set_cons_succ, e10, e13]
    have R6 := Lib.hid (R5.out.below hb R5.out.lt)
    have S6 := Lib.hid (S5.out.below hb S5.out.lt)
    have B6 := Lib.hid (W5.out.on hb)
    clear hv hap e10 e13 hb
    generalize vs 1 = v1 at *
    generalize vs 2 = v2 at *
    go_wp2_with (first
      | (refine wpList_store_blk rfl 25 (.tmp 4) (.tmp 10) rfl (w.heap.size + 1 + 1) 0 (row8 Z) rfl rfl 25 D0 R6.out (by rw [Z32.out, hd0]; exact Nat.le_refl _) (by rw [Z32.out]; exact infoKeyL) (row8_one _) ?_; intro w7 b7 g7; rw [splice_all _ _ (by rw [Z32.out, hd0])] at b7; have R7 := Lib.hid b7; have S7 := Lib.hid (S6.out.grown g7 (fun q => by have e : w.heap.size + 1 + 1 + 1 = w.heap.size + 1 + 1 := Option.some.inj q; omega)); have B7 := Lib.hid (B6.out.grown g7 B6.out.size (fun k hk => by have e : w.heap.size + 1 + 1 = k := Option.some.inj hk; omega)); clear b7 g7)
      | (refine wpList_store_blk rfl 26 (.tmp 5) (.tmp 13) rfl (w.heap.size + 1 + 1 + 1) 0 (row8 V) rfl rfl 26 D0 S7.out (by rw [V32.out, hd0]; exact Nat.le_refl _) (by rw [V32.out]; exact infoS) (row8_one _) ?_; intro w8 b8 g8; rw [splice_all _ _ (by rw [V32.out, hd0])] at b8; have S8 := Lib.hid b8; have R8 := Lib.hid (R7.out.grown g8 (fun q => by have e : w.heap.size + 1 + 1 = w.heap.size + 1 + 1 + 1 := Option.some.inj q; omega)); have B8 := Lib.hid (B7.out.grown g8 B7.out.size (fun k hk => by have e : w.heap.size + 1 + 1 + 1 = k := Option.some.inj hk; omega)); clear b8 g8))
    exact bodyPost_ret (v := .tuple #[.agg (row8 Z).toArray, .agg (row8 V).toArray]) (results_cc rfl _ _ (w.heap.size + 1 + 1) (w.heap.size + 1 + 1 + 1) (row8 Z) (row8 V) _ _ rfl rfl R8.out.range S8.out.range Tryd.underlying25 Tryd.underlying26 rfl rfl (by rw [Z32.out]; exact infoKeyL) (by rw [V32.out]; exact infoS)) rfl ⟨rfl, B8.out⟩
set_option maxRecDepth 100000 in
set_option maxHeartbeats 4000000 in
theorem rwopen_any (K Q C : List Nat) (hK : Bytes 32 K) (hQ : Bytes 32 Q) (hC : Bytes 32 C) (w : World) (ht : TabA w) (hp : Tab w) :
    Calls Tryd.prog 37 #[.agg (row8 K).toArray, .agg (row8 Q).toArray, .agg (row8 C).toArray] w fun e w' => e = .returned (.tuple #[.agg (row8 (wopen K Q C)).toArray, .int .i64 (werr K Q C)]) ∧ Below w.heap.size w w' := by
  obtain ⟨Z, hZ⟩ : ∃ Z, Z = wseal K Q := ⟨_, rfl⟩
  have bZ : Bytes 32 Z := by rw [hZ]; exact wseal_bytes K hQ
  obtain ⟨V, hV⟩ : ∃ V, V = wcheck K Q := ⟨_, rfl⟩
  have bV : Bytes 32 V := by rw [hV]; exact wcheck_bytes K Q
  unfold wopen werr
  rw [← hZ, ← hV]
  obtain ⟨O, hO⟩ : ∃ O, O = (if V = C then Z else List.replicate 32 0) := ⟨_, rfl⟩
  obtain ⟨r, hr⟩ : ∃ r : Int, r = (if V = C then 0 else 30) := ⟨_, rfl⟩
  rw [← hO, ← hr]
  have HO := Lib.hid hO
  have HR := Lib.hid hr
  obtain ⟨D0, hD0⟩ : ∃ D0, D0 = row8 (List.replicate 32 0) := ⟨_, rfl⟩
  have hz : ∀ w, (zeroValue 25).run Tryd.prog w = .ok (.agg D0.toArray) w := by rw [hD0]; exact zeroKeyW
  have hz2 : ∀ w, (zeroValue 26).run Tryd.prog w = .ok (.agg D0.toArray) w := by rw [hD0]; exact zeroSumW
  have hd0 : D0.length = 32 := by rw [hD0, row8_len, List.length_replicate]
  have hbd : Tryd.prog.built 25 [] = some D0.toArray := by rw [hD0]; kernel_rfl
  have HBD := Lib.hid hbd
  have HDD := Lib.hid hD0
  have w1 := (Below.refl w.heap.size w).alloc (Nat.le_refl _) (.cells (row8 K).toArray 25)
  have w2 := w1.alloc w1.size (.cells (row8 Q).toArray 25)
  have w3 := w2.alloc w2.size (.cells (row8 C).toArray 26)
  have w4 := w3.alloc w3.size (.cells D0.toArray 25)
  have N3 := Lib.hid ((((Blk.new w 25 (row8 K) _ rfl).alloc (.cells (row8 Q).toArray 25)).alloc (.cells (row8 C).toArray 26)).alloc (.cells D0.toArray 25))
  have Q3 := Lib.hid (((Blk.new (w.alloc (.cells (row8 K).toArray 25)) 25 (row8 Q) (w.heap.size + 1) (by simp)).alloc (.cells (row8 C).toArray 26)).alloc (.cells D0.toArray 25))
  have C3 := Lib.hid ((Blk.new ((w.alloc (.cells (row8 K).toArray 25)).alloc (.cells (row8 Q).toArray 25)) 26 (row8 C) (w.heap.size + 1 + 1) (by simp)).alloc (.cells D0.toArray 25))
  have R3 := Lib.hid (Blk.new (((w.alloc (.cells (row8 K).toArray 25)).alloc (.cells (row8 Q).toArray 25)).alloc (.cells (row8 C).toArray 26)) 25 D0 (w.heap.size + 1 + 1 + 1) (by simp))
  have W3 := Lib.hid w4
  have HCK := Lib.hid (fun W (hW : Below w.heap.size w W) => rwcheck_any K Q hK hQ W (hp.below hW))
  rw [← hV] at HCK
  have K32 := Lib.hid (show (row8 K).length = 32 by rw [row8_len]; exact hK.1)
  have Q32 := Lib.hid (show (row8 Q).length = 32 by rw [row8_len]; exact hQ.1)
  have Z32 := Lib.hid (show (row8 Z).length = 32 by rw [row8_len]; exact bZ.1)
  have C32 := Lib.hid (show (row8 C).length = 32 by rw [row8_len]; exact hC.1)
  have V32 := Lib.hid (show (row8 V).length = 32 by rw [row8_len]; exact bV.1)
  have HMK := Lib.hid (fun W (hW : Below w.heap.size w W) => rwmasked_any K Q hK hQ W (ht.below hW) (hp.below hW))
  rw [← hZ] at HMK
  have HV := Lib.hid bV
  have hnq := fun w => run_neq_sum bV hC w
  have HC := Lib.hid hC
  clear hZ bZ hV bV hD0 w1 w2 w3 w4 hK hQ hC ht hp hbd hO hr
  go_enter Tryd.func37, Tryd.ntmps37
  go_upto_region 1 with (fail)
  obtain ⟨W4, hW4⟩ : ∃ W, W = ((((w.alloc (.cells (row8 K).toArray 25)).alloc (.cells (row8 Q).toArray 25)).alloc (.cells (row8 C).toArray 26)).alloc (.cells D0.toArray 25)) := ⟨_, rfl⟩
  rw [← hW4] at N3 Q3 C3 R3 W3 ⊢
  clear hW4
  by_cases hVC : V = C
  · have hO := HO.out
    have hr := HR.out
    rw [if_pos hVC] at hO hr
    subst hO
    subst hr
    simp only [hVC, decide_true, Bool.not_true] at hnq
    rw [hVC] at HCK
    clear hVC HO HR
    refine wp_region_g (by kernel_rfl) 5 (by decide) (by kernel_rfl) (by kernel_rfl) (by kernel_rfl) (W4.heap.size) (Nat.le_refl _) [.val (.agg (row8 K).toArray), .val (.agg (row8 Q).toArray), .val (.agg (row8 C).toArray), .val (.agg (row8 C).toArray), .val (.bool false)] (fun _ => 5) ?_ ?_
    · refine ⟨?_, ?_, ?_, ?_, ?_, trivial⟩
      · intro a w' hF hB hd
        have e3 : a.eval (.tmp 3) = .pointer (some ⟨w.heap.size, 0, none⟩) := hF 3 (by decide +kernel)
        exact doesG_wp rfl rfl fun K' hK' => wp_load_mid 25 (.tmp 3) rfl w.heap.size 0 e3 (row8 K) _ (N3.out.below hB N3.out.lt).range Tryd.underlying25 rfl (by rw [K32.out]; exact infoKeyL) (hK' _ _ rfl (Below.refl _ _))
      · intro a w' hF hB hd
        have e4 : a.eval (.tmp 4) = .pointer (some ⟨w.heap.size + 1, 0, none⟩) := hF 4 (by decide +kernel)
        exact doesG_wp rfl rfl fun K' hK' => wp_load_mid 25 (.tmp 4) rfl (w.heap.size + 1) 0 e4 (row8 Q) _ (Q3.out.below hB Q3.out.lt).range Tryd.underlying25 rfl (by rw [Q32.out]; exact infoKeyL) (hK' _ _ rfl (Below.refl _ _))
      · intro a w' hF hB hd
        have e8 : a.eval (.tmp 8) = .agg (row8 K).toArray := hd 0 (by decide +kernel) (.inr (by decide))
        have e9 : a.eval (.tmp 9) = .agg (row8 Q).toArray := hd 1 (by decide +kernel) (.inr (by decide))
        exact doesG_call rfl (ex_call (vs := #[.agg (row8 K).toArray, .agg (row8 Q).toArray]) rfl (by simp only [List.map_toArray, List.map_cons, List.map_nil, e8, e9]) (by go_simp)) rfl ((HCK.out w' (W3.out.on hB)).mono fun e w2 hh => ⟨_, hh.1, rfl, hh.2⟩)
      · intro a w' hF hB hd
        have e5 : a.eval (.tmp 5) = .pointer (some ⟨w.heap.size + 1 + 1, 0, none⟩) := hF 5 (by decide +kernel)
        exact doesG_wp rfl rfl fun K' hK' => wp_load_mid 26 (.tmp 5) rfl (w.heap.size + 1 + 1) 0 e5 (row8 C) _ (C3.out.below hB C3.out.lt).range Tryd.underlying26 rfl (by rw [C32.out]; exact infoS) (hK' _ _ rfl (Below.refl _ _))
      · intro a w' hF hB hd
        have e10 : a.eval (.tmp 10) = .agg (row8 C).toArray := hd 2 (by decide +kernel) (.inr (by decide))
        have e11 : a.eval (.tmp 11) = .agg (row8 C).toArray := hd 3 (by decide +kernel) (.inr (by decide))
        exact doesG_val rfl (ex_binOp rfl e10 e11 (run_eqGuard_agg (P := Tryd.prog) (w := w') .neq 26 _ _ _ _ eqTypeSW) (hnq w')) rfl rfl
    · intro vs w7 hb hv hap
      have e12 : vs 4 = .bool false := hv 4 (by decide) (by decide)
      simp only [List.take_succ_cons, List.take_zero, List.drop_succ_cons, List.drop_zero, putOps, Act.put, List.setIfInBounds_toArray, List.set_cons_zero, List.set_cons_succ, e12]
      have R7 := Lib.hid (R3.out.below hb R3.out.lt)
      have N7 := Lib.hid (N3.out.below hb N3.out.lt)
      have Q7 := Lib.hid (Q3.out.below hb Q3.out.lt)
      have B7 := Lib.hid (W3.out.on hb)
      clear hv hap e12 hb
      generalize vs 0 = v0 at *
      generalize vs 1 = v1 at *
      generalize vs 2 = v2 at *
      generalize vs 3 = v3 at *
      have HMM := Lib.hid (HMK.out w7 B7.out)
      go_wp2_with (first
        | (refine wpList_load_mid rfl 25 (.tmp 3) rfl w.heap.size 0 rfl (row8 K) _ N7.out.range Tryd.underlying25 rfl (by rw [K32.out]; exact infoKeyL) ?_)
        | (refine wpList_load_mid rfl 25 (.tmp 4) rfl (w.heap.size + 1) 0 rfl (row8 Q) _ Q7.out.range Tryd.underlying25 rfl (by rw [Q32.out]; exact infoKeyL) ?_)
        | (go_at_call 59; (with_reducible refine HMM.out.mono ?_); rintro e w8 ⟨rfl, b8⟩; have R8 := Lib.hid (R7.out.below b8 R7.out.lt); have B8 := Lib.hid (B7.out.on b8); clear b8)
        | (refine wpList_store_mid rfl 25 (.tmp 6) (.tmp 16) rfl (w.heap.size + 1 + 1 + 1) 0 (row8 O).toArray rfl rfl (R8.out.there _ (by rw [List.size_toArray, Z32.out, hd0])) (by rw [List.size_toArray, Z32.out]; exact infoKeyL) (row8_one _) ?_))
      have fin := R8.out.whole (row8 O) (by rw [Z32.out, hd0])
      exact bodyPost_ret (results_cs rfl _ _ (w.heap.size + 1 + 1 + 1) (row8 O) _ rfl fin.range Tryd.underlying25 rfl (by rw [Z32.out]; exact infoKeyL)) rfl ⟨rfl, below_setCells (w.heap.size + 1 + 1 + 1) (by omega) _ 0 _ B8.out⟩
  · have hO := HO.out
    have hr := HR.out
    rw [if_neg hVC] at hO hr
    subst hr
    clear HR
    simp only [decide_eq_false hVC, Bool.not_false] at hnq
    have HOD := Lib.hid (show row8 O = D0 by rw [hO]; exact HDD.out.symm)
    clear hVC HO hO
    refine wp_region_g (by kernel_rfl) 5 (by decide) (by kernel_rfl) (by kernel_rfl) (by kernel_rfl) (W4.heap.size) (Nat.le_refl _) [.val (.agg (row8 K).toArray), .val (.agg (row8 Q).toArray), .val (.agg (row8 V).toArray), .val (.agg (row8 C).toArray), .val (.bool true)] (fun _ => 5) ?_ ?_
    · refine ⟨?_, ?_, ?_, ?_, ?_, trivial⟩
      · intro a w' hF hB hd
        have e3 : a.eval (.tmp 3) = .pointer (some ⟨w.heap.size, 0, none⟩) := hF 3 (by decide +kernel)
        exact doesG_wp rfl rfl fun K' hK' => wp_load_mid 25 (.tmp 3) rfl w.heap.size 0 e3 (row8 K) _ (N3.out.below hB N3.out.lt).range Tryd.underlying25 rfl (by rw [K32.out]; exact infoKeyL) (hK' _ _ rfl (Below.refl _ _))
      · intro a w' hF hB hd
        have e4 : a.eval (.tmp 4) = .pointer (some ⟨w.heap.size + 1, 0, none⟩) := hF 4 (by decide +kernel)
        exact doesG_wp rfl rfl fun K' hK' => wp_load_mid 25 (.tmp 4) rfl (w.heap.size + 1) 0 e4 (row8 Q) _ (Q3.out.below hB Q3.out.lt).range Tryd.underlying25 rfl (by rw [Q32.out]; exact infoKeyL) (hK' _ _ rfl (Below.refl _ _))
      · intro a w' hF hB hd
        have e8 : a.eval (.tmp 8) = .agg (row8 K).toArray := hd 0 (by decide +kernel) (.inr (by decide))
        have e9 : a.eval (.tmp 9) = .agg (row8 Q).toArray := hd 1 (by decide +kernel) (.inr (by decide))
        exact doesG_call rfl (ex_call (vs := #[.agg (row8 K).toArray, .agg (row8 Q).toArray]) rfl (by simp only [List.map_toArray, List.map_cons, List.map_nil, e8, e9]) (by go_simp)) rfl ((HCK.out w' (W3.out.on hB)).mono fun e w2 hh => ⟨_, hh.1, rfl, hh.2⟩)
      · intro a w' hF hB hd
        have e5 : a.eval (.tmp 5) = .pointer (some ⟨w.heap.size + 1 + 1, 0, none⟩) := hF 5 (by decide +kernel)
        exact doesG_wp rfl rfl fun K' hK' => wp_load_mid 26 (.tmp 5) rfl (w.heap.size + 1 + 1) 0 e5 (row8 C) _ (C3.out.below hB C3.out.lt).range Tryd.underlying26 rfl (by rw [C32.out]; exact infoS) (hK' _ _ rfl (Below.refl _ _))
      · intro a w' hF hB hd
        have e10 : a.eval (.tmp 10) = .agg (row8 V).toArray := hd 2 (by decide +kernel) (.inr (by decide))
        have e11 : a.eval (.tmp 11) = .agg (row8 C).toArray := hd 3 (by decide +kernel) (.inr (by decide))
        exact doesG_val rfl (ex_binOp rfl e10 e11 (run_eqGuard_agg (P := Tryd.prog) (w := w') .neq 26 _ _ _ _ eqTypeSW) (hnq w')) rfl rfl
    · intro vs w7 hb hv hap
      have e12 : vs 4 = .bool true := hv 4 (by decide) (by decide)
      simp only [List.take_succ_cons, List.take_zero, List.drop_succ_cons, List.drop_zero, putOps, Act.put, List.setIfInBounds_toArray, List.set_cons_zero, List.set_cons_succ, e12]
      have R7 := Lib.hid (R3.out.below hb R3.out.lt)
      have N7 := Lib.hid (N3.out.below hb N3.out.lt)
      have Q7 := Lib.hid (Q3.out.below hb Q3.out.lt)
      have B7 := Lib.hid (W3.out.on hb)
      clear hv hap e12 hb
      generalize vs 0 = v0 at *
      generalize vs 1 = v1 at *
      generalize vs 2 = v2 at *
      generalize vs 3 = v3 at *
      go_wp2_with (first
        | (refine wpList_buildTo rfl 25 _ rfl (some 13) rfl D0.toArray (Eq.trans (b := Tryd.prog.built 25 []) (by kernel_rfl) HBD.out) ?_)
        | (refine wpList_store_mid rfl 25 (.tmp 6) (.tmp 13) rfl (w.heap.size + 1 + 1 + 1) 0 D0.toArray rfl rfl (R7.out.there _ (by rw [List.size_toArray, hd0])) (by rw [List.size_toArray, hd0]; exact infoKeyL) (by rw [HDD.out]; exact row8_one _) ?_))
      have fin := R7.out.whole D0 rfl
      rw [HOD.out]
      exact bodyPost_ret (results_cs rfl _ _ (w.heap.size + 1 + 1 + 1) D0 _ rfl fin.range Tryd.underlying25 rfl (by rw [hd0]; exact infoKeyL)) rfl ⟨rfl, below_setCells (w.heap.size + 1 + 1 + 1) (by omega) _ 0 _ B7.out⟩
end Go.Proofs.YtbepchikngoknaaDoor
