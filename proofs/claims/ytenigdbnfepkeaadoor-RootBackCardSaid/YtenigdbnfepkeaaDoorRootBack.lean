/- RootBack: a root that is laid is read as it was with its key; with another one it is seen to be none, but where both make the very same sum; and the law's closed case holds. No condition. -/
import Derived.Test.YtenigdbnfepkeaaDoorRows
import Derived.Test.YtenigdbnfepkeaaDoorRtAwake
import Derived.Test.YtenigdbnfepkeaaDoorShaD
import Derived.Test.YtenigdbnfepkeaaDoorFillX
import Derived.Test.YtenigdbnfepkeaaDoorShaC
import Derived.Test.YtenigdbnfepkeaaDoorTie
import Derived.Test.YtenigdbnfepkeaaDoorCards
import Derived.SevenTiedAt
import Derived.Test.YtenigdbnfepkeaaDoorRootArg
import Derived.Test.YtenigdbnfepkeaaDoorMem
import Derived.WalkKit
import Derived.ProofKit
import Derived.OpenShut
import Derived.SizedLaws
import Derived.Carry
import Derived.Deep.DeepHandedRow
import Derived.Deep.DeepWitnessRowRef
namespace Go.Proofs.YtenigdbnfepkeaaDoor.rootBack
open Go.ChangeShapes Go.WideShapes Go.ChangeAt Go.RowKit
open RT
theorem own : ownKnob Tryd.prog.godebug = none := by kernel_rfl
theorem cells28 : Tryd.prog.cellsOf 28 = 32 := by kernel_rfl
theorem cells5 : Tryd.prog.cellsOf 5 = 1 := by kernel_rfl
set_option linter.unusedVariables false in
set_option maxRecDepth 100000 in
set_option maxHeartbeats 4000000 in
theorem walk (w : World) (ht : TabP w) (r0 : RT.Rt) (v0 : Value) (h0 : RT.Ok r0) (p0 : RdT 33 w v0 r0.pages.length (RT.pcs r0.pages)) (k0 : r0.pages.length ≤ 3909374676536) (l1 : List Nat) (h1 : Bytes 32 l1) (l2 : List Nat) (h2 : Bytes 32 l2) :
    Calls Tryd.prog 7 #[.agg (RT.rtc r0 v0).toArray, .agg (row8 l1).toArray, .agg (row8 l2).toArray] w fun e w' => e = .returned (.bool true) ∧ Below w.heap.size w w' := by
  obtain ⟨pa, pq, rfl, _⟩ := p0.shape
  have HT := Lib.hid ht
  obtain ⟨Z0, hZ0⟩ : ∃ L, L = RT.rtc RT.zero (.slice none 0 0) := ⟨_, rfl⟩
  have hz : ∀ w, (zeroValue 27).run Tryd.prog w = .ok (.agg Z0.toArray) w := by rw [hZ0]; exact zeroRt
  have Z68 := Lib.hid (show Z0.length = 68 by rw [hZ0]; exact RT.rtc_len RT.zero_ok _)
  have HP := fun W hv (hW : TabP W) => pput_any r0 h0 (.slice pa r0.pages.length pq) W hv (by omega) l1 h1 hW
  have HGT := fun x k hk W v hv (hW : TabP W) => pget_any x k hk v W hv hW
  obtain ⟨XR, hXR⟩ : ∃ X, X = rtc r0 := ⟨_, rfl⟩
  have XL := Lib.hid (fun u => show (XR u).length = 68 by rw [hXR]; exact rtc_len h0 u)
  have X1c := Lib.hid (fun ao n c => show ((XR (.slice ao n c)).toArray.all (·.oneCell')) = true by rw [hXR]; exact rt_one _ ao n c)
  have HS3 := fun W u v hu hv => sameYes (psame_any r0 r0 h0 h0 u v W hu hv (by omega))
  obtain ⟨KC, hKC⟩ : ∃ X, X = row8 l1 := ⟨_, rfl⟩
  obtain ⟨JC, hJC⟩ : ∃ X, X = row8 l2 := ⟨_, rfl⟩
  have K32 := Lib.hid (show KC.length = 32 by rw [hKC, row8_len, h1.1])
  have J32 := Lib.hid (show JC.length = 32 by rw [hJC, row8_len, h2.1])
  obtain ⟨n, hn⟩ : ∃ n, n = r0.pages.length := ⟨_, rfl⟩
  obtain ⟨CS, hCS⟩ : ∃ n, n = pcs r0.pages := ⟨_, rfl⟩
  rw [← hXR, ← hKC, ← hn, ← hCS] at HP
  rw [← hXR, ← hn, ← hCS] at HS3
  rw [← hXR, ← hKC, ← hJC, ← hn]
  rw [← hn, ← hCS] at p0
  obtain ⟨w1, hw1⟩ : ∃ x, x = ((w.alloc (.cells (XR (.slice pa n pq)).toArray 27)).alloc (.cells KC.toArray 28)).alloc (.cells JC.toArray 28) := ⟨_, rfl⟩
  have W1 := Lib.hid (show Below w.heap.size w w1 by rw [hw1]; exact (((Below.refl w.heap.size w).alloc (Nat.le_refl _) _).alloc (by simp) _).alloc (by simp; omega) _)
  have X1 := Lib.hid (show Blk w1 w.heap.size 27 (XR (.slice pa n pq)) by rw [hw1]; exact ((Blk.new w 27 _ _ rfl).alloc _).alloc _)
  have K1 := Lib.hid (show Blk w1 (w.heap.size + 1) 28 KC by rw [hw1]; exact (Blk.new _ 28 KC _ (by simp)).alloc _)
  have J1 := Lib.hid (show Blk w1 (w.heap.size + 2) 28 JC by rw [hw1]; exact Blk.new _ 28 JC _ (by simp))
  have V1 := Lib.hid (p0.below W1.out)
  have VV := Lib.hid p0
  have HP' := Lib.hid HP
  have HGT' := Lib.hid HGT
  have HS3' := Lib.hid HS3
  clear HP HGT HS3
  have HP := HP'
  have HGT := HGT'
  have HS3 := HS3'
  clear HP' HGT' HS3'
  have H0 := Lib.hid h0
  have HK := Lib.hid h1
  have HJ := Lib.hid h2
  have HKC := Lib.hid hKC
  have HJC := Lib.hid hJC
  have HXR := Lib.hid hXR
  have HN := Lib.hid hn
  have HCS := Lib.hid hCS
  clear hZ0 hXR hKC hJC hn hCS p0 ht h0 h1 h2 k0
  go_enter Tryd.func7, Tryd.ntmps7
  go_upto_region 1 with fail
  rw [← hw1]
  clear hw1
  cases hm : may r0 with
  | false =>
    have q1 := put_no hm l1
    have hp1 := HP.out w1 V1.out (HT.out.below W1.out)
    rw [q1.1, q1.2] at hp1
    have HP1 := Lib.hid hp1
    clear hp1
    clear q1 hm
    go_wp2_with ((fail_if_success (with_reducible show bodyPost _ _ _ _ _ _)); first
      | ((with_reducible show wpList _ _ _ (Oper.mk _ (.load _ (.tmp 3)) _ _ _ _ :: _) _ _); refine wpList_load_mid rfl 27 (.tmp 3) rfl w.heap.size 0 rfl (XR (.slice pa n pq)) _ X1.out.range Tryd.underlying27 rfl (by rw [XL.out]; exact infoRtC) ?_)
      | ((with_reducible show wpList _ _ _ (Oper.mk _ (.load _ (.tmp 4)) _ _ _ _ :: _) _ _); refine wpList_load_mid rfl 28 (.tmp 4) rfl (w.heap.size + 1) 0 rfl KC _ K1.out.range Tryd.underlying28 rfl (by rw [K32.out]; exact infoKeyA) ?_)
      | (go_at_call 11; (with_reducible refine HP1.out.mono ?_); rintro e w2 ⟨ua, rfl, o9, b9⟩; have W2 := Lib.hid (W1.out.on b9); obtain ⟨aa, ac, hsh, _⟩ := o9.rd.shape; have hsh : ua = .slice aa 0 ac := hsh; subst hsh; clear o9; clear b9)
      | (go_at_call 14; (with_reducible refine (rtawake_any _ (HT.out.below W2.out)).mono ?_); rintro e w3 ⟨rfl, b9⟩; have W3 := Lib.hid (W2.out.on b9); clear b9))
    go_ret
    exact ⟨rfl, W3.out⟩
  | true =>
    have q1 := put_yes hm l1
    have hp1 := HP.out w1 V1.out (HT.out.below W1.out)
    rw [q1.1, q1.2] at hp1
    have HP1 := Lib.hid hp1
    clear hp1
    have L1 := Lib.hid (lay_bytes H0.out hm l1)
    have HG1 := fun W v hv hW => HGT.out (lay r0 l1) l1 HK.out W v hv hW
    rw [(got_lay H0.out hm l1).1, (got_lay H0.out hm l1).2, ← HKC.out, ← HXR.out, ← HN.out, ← HCS.out] at HG1
    have HG2 := fun W v hv hW => HGT.out (lay r0 l1) l2 HJ.out W v hv hW
    rw [← HJC.out] at HG2
    have GOK := Lib.hid (got_ok L1.out.2 l2)
    have BO := Lib.hid (body_len H0.out (may_iff.1 hm).2.2.2.1)
    have LT := Lib.hid (lay_take H0.out hm l1)
    have LD := Lib.hid (lay_drop H0.out hm l1)
    have GO := Lib.hid (show SM.mac l2 (body r0) ≠ SM.mac l1 (body r0) → gerr (lay r0 l1) l2 = 40 from fun q => (got_other H0.out hm q).2)
    have GS := Lib.hid (show SM.mac l2 (body r0) = SM.mac l1 (body r0) → gerr (lay r0 l1) l2 ≠ 40 from fun q => by
      have hs : sealed (lay r0 l1) l2 = true := by rw [lay_sealed H0.out hm, decide_eq_true q]
      unfold gerr
      rw [if_pos L1.out.1, hs, if_pos rfl]
      split <;> decide)
    obtain ⟨B, hB⟩ : ∃ x, x = lay r0 l1 := ⟨_, rfl⟩
    obtain ⟨BD, hBD⟩ : ∃ x, x = body r0 := ⟨_, rfl⟩
    obtain ⟨M1, hM1⟩ : ∃ x, x = SM.mac l1 (body r0) := ⟨_, rfl⟩
    obtain ⟨M2, hM2⟩ : ∃ x, x = SM.mac l2 (body r0) := ⟨_, rfl⟩
    obtain ⟨g, hg⟩ : ∃ x, x = gerr (lay r0 l1) l2 := ⟨_, rfl⟩
    obtain ⟨GR, hGR⟩ : ∃ x, x = got (lay r0 l1) l2 := ⟨_, rfl⟩
    rw [← hM1] at LD GO GS
    rw [← hM2, ← hg] at GO GS
    rw [← hg, ← hGR] at HG2
    rw [← hGR] at GOK
    rw [← hB] at HP1 HG1 HG2 L1 LT LD
    rw [← hBD] at LT BO hM1 hM2
    have MB1 := Lib.hid (show Bytes 32 M1 by rw [hM1]; exact mac_bytes _ _)
    have MB2 := Lib.hid (show Bytes 32 M2 by rw [hM2]; exact mac_bytes _ _)
    have HM1 := Lib.hid hM1
    have HM2 := Lib.hid hM2
    have HG1' := Lib.hid HG1
    have HG2' := Lib.hid HG2
    clear HG1 HG2
    have HG1 := HG1'
    have HG2 := HG2'
    clear HG1' HG2'
    have GL := Lib.hid (fun u => rtc_len GOK.out u)
    clear hM1 hM2 hg hGR hB hBD q1 hm HGT
    go_upto_region 6 with (first
      | ((with_reducible show wpList _ _ _ (Oper.mk _ (.load _ (.tmp 3)) _ _ _ _ :: _) _ _); refine wpList_load_mid rfl 27 (.tmp 3) rfl w.heap.size 0 rfl (XR (.slice pa n pq)) _ X1.out.range Tryd.underlying27 rfl (by rw [XL.out]; exact infoRtC) ?_)
      | ((with_reducible show wpList _ _ _ (Oper.mk _ (.load _ (.tmp 4)) _ _ _ _ :: _) _ _); refine wpList_load_mid rfl 28 (.tmp 4) rfl (w.heap.size + 1) 0 rfl KC _ K1.out.range Tryd.underlying28 rfl (by rw [K32.out]; exact infoKeyA) ?_)
      | (go_at_call 11; (with_reducible refine HP1.out.mono ?_); rintro e w2 ⟨ub, rfl, o9, b9⟩; have W2 := Lib.hid (W1.out.on b9); have X2 := Lib.hid (X1.out.below b9 X1.out.lt); have K2 := Lib.hid (K1.out.below b9 K1.out.lt); have J2 := Lib.hid (J1.out.below b9 J1.out.lt); have V2 := Lib.hid (V1.out.below b9); obtain ⟨ba, bc, rfl, hbc⟩ := o9.rd.shape; obtain ⟨bb, rfl⟩ := own_at o9 (by rw [L1.out.1]; decide); have B2 := Lib.hid o9.rd; rw [L1.out.1] at B2 hbc ⊢; clear o9; clear b9))
    clear W1 X1 K1 J1 V1 HP1
    go_upto_region 7 with (first
      | ((with_reducible show wpList _ _ _ (Oper.mk _ (.load _ (.tmp 4)) _ _ _ _ :: _) _ _); refine wpList_load_mid rfl 28 (.tmp 4) rfl (w.heap.size + 1) 0 rfl KC _ K2.out.range Tryd.underlying28 rfl (by rw [K32.out]; exact infoKeyA) ?_)
      | (go_at_call 15; (with_reducible refine (HG1.out _ _ B2.out (HT.out.below W2.out)).mono ?_); rintro e w3 ⟨cu, rfl, cu2, b9⟩; have W3 := Lib.hid (W2.out.on b9); have X3 := Lib.hid (X2.out.below b9 X2.out.lt); have K3 := Lib.hid (K2.out.below b9 K2.out.lt); have J3 := Lib.hid (J2.out.below b9 J2.out.lt); have V3 := Lib.hid (V2.out.below b9); have B3 := Lib.hid (B2.out.below b9); obtain ⟨ca, cq, rfl, _⟩ := (owned_rd cu2).shape; have P3 := Lib.hid (owned_rd cu2); have PL3 := Lib.hid (fun g hg => (World.ownsRow.lt cu2 g hg).2); clear cu2; clear b9)
      | ((with_reducible show wpList _ _ _ (Oper.mk _ (.store _ (.tmp 9) (.tmp 40)) _ _ _ _ :: _) _ _); refine wpList_store_blk rfl 27 (.tmp 9) (.tmp 40) rfl w3.heap.size 0 (XR (.slice ca n cq)) rfl rfl 27 Z0 (Blk.new w3 27 Z0 _ rfl) (by have := XL.out (.slice ca n cq); have := Z68.out; omega) (by rw [XL.out (.slice ca n cq)]; exact infoRtC) (X1c.out _ _ _) ?_; intro w4 b' g'; rw [splice_all _ _ (by have := XL.out (.slice ca n cq); have := Z68.out; omega)] at b'; have bb := alloc_turn (Below.refl _ _) g'; have W4 := Lib.hid (W3.out.on bb); have X4 := Lib.hid (X3.out.below bb X3.out.lt); have K4 := Lib.hid (K3.out.below bb K3.out.lt); have J4 := Lib.hid (J3.out.below bb J3.out.lt); have V4 := Lib.hid (V3.out.below bb); have B4 := Lib.hid (B3.out.below bb); have P4 := Lib.hid (P3.out.below bb); have C4 := Lib.hid b'; clear b' g' bb))
    obtain ⟨cb, hcb⟩ : ∃ x, x = w3.heap.size := ⟨_, rfl⟩
    have CL := Lib.hid (show ∀ g, (Value.slice ca n cq).ownBlock = some g → g < cb from fun g hg => by rw [hcb]; exact PL3.out g hg)
    rw [← hcb] at C4 ⊢
    clear PL3 hcb W2 X2 K2 J2 V2 B2 W3 X3 K3 J3 V3 B3 P3
    go_upto_region 8 with (first
      | ((with_reducible show wpList _ _ _ (Oper.mk _ (.load _ (.tmp 5)) _ _ _ _ :: _) _ _); refine wpList_load_mid rfl 28 (.tmp 5) rfl (w.heap.size + 2) 0 rfl JC _ J4.out.range Tryd.underlying28 rfl (by rw [J32.out]; exact infoKeyA) ?_)
      | (go_at_call 15; (with_reducible refine (HG2.out _ _ B4.out (HT.out.below W4.out)).mono ?_); rintro e w5 ⟨du, rfl, du2, b9⟩; have W5 := Lib.hid (W4.out.on b9); have X5 := Lib.hid (X4.out.below b9 X4.out.lt); have K5 := Lib.hid (K4.out.below b9 K4.out.lt); have J5 := Lib.hid (J4.out.below b9 J4.out.lt); have V5 := Lib.hid (V4.out.below b9); have B5 := Lib.hid (B4.out.below b9); have P5 := Lib.hid (P4.out.below b9); have C5 := Lib.hid (C4.out.below b9 C4.out.lt); obtain ⟨da, dq, rfl, _⟩ := (owned_rd du2).shape; clear du2; clear b9)
      | ((with_reducible show wpList _ _ _ (Oper.mk _ (.store _ (.tmp 11) (.tmp 46)) _ _ _ _ :: _) _ _); refine wpList_store_blk rfl 27 (.tmp 11) (.tmp 46) rfl w5.heap.size 0 (rtc GR (.slice da GR.pages.length dq)) rfl rfl 27 Z0 (Blk.new w5 27 Z0 _ rfl) (by have := GL.out (.slice da GR.pages.length dq); have := Z68.out; omega) (by rw [GL.out (.slice da GR.pages.length dq)]; exact infoRtC) (rt_one _ _ _ _) ?_; intro w6 b' g'; rw [splice_all _ _ (by have := GL.out (.slice da GR.pages.length dq); have := Z68.out; omega)] at b'; have bb := alloc_turn (Below.refl _ _) g'; have W6 := Lib.hid (W5.out.on bb); have X6 := Lib.hid (X5.out.below bb X5.out.lt); have K6 := Lib.hid (K5.out.below bb K5.out.lt); have J6 := Lib.hid (J5.out.below bb J5.out.lt); have V6 := Lib.hid (V5.out.below bb); have B6 := Lib.hid (B5.out.below bb); have P6 := Lib.hid (P5.out.below bb); have C6 := Lib.hid (C5.out.below bb C5.out.lt); have D6 := Lib.hid b'; clear b' g' bb))
    clear W4 X4 K4 J4 V4 B4 P4 C4 W5 X5 K5 J5 V5 B5 P5 C5 HG1 HG2
    obtain ⟨db, hdb⟩ : ∃ x, x = w5.heap.size := ⟨_, rfl⟩
    rw [← hdb] at D6 ⊢
    clear hdb
    have RK6 := Lib.hid (show Rd w6 (.slice (some ⟨w.heap.size + 1, 0, none⟩) 32 32) l1 from rd_part K6.out HK.out (by rw [HKC.out, List.drop_zero, List.take_of_length_le (by rw [row8_len, HK.out.1]; exact Nat.le_refl _)]) (by decide))
    have RJ6 := Lib.hid (show Rd w6 (.slice (some ⟨w.heap.size + 2, 0, none⟩) 32 32) l2 from rd_part J6.out HJ.out (by rw [HJC.out, List.drop_zero, List.take_of_length_le (by rw [row8_len, HJ.out.1]; exact Nat.le_refl _)]) (by decide))
    have R480 := Lib.hid (show Rd w6 (.slice (some ⟨bb, 0, none⟩) 480 bc) BD by
      have h := B6.out.take 480 (by rw [L1.out.1]; decide)
      rw [LT.out] at h; exact h)
    have HOV := Lib.hid (fun (h : 0 < BD.length) g hg => R480.out.old h g hg)
    have HT6 := Lib.hid (HT.out.below W6.out)
    have hb5 : 480 ≤ bc := by omega
    have hb9 : ¬ (bc : Int) < 480 := by omega
    obtain ⟨D0, hD0⟩ : ∃ D, D = row8 (List.replicate 32 0) := ⟨_, rfl⟩
    have hzD : ∀ w, (zeroValue 24).run Tryd.prog w = .ok (.agg D0.toArray) w := by rw [hD0]; exact zeroSum
    have D32 := Lib.hid (show D0.length = 32 by rw [hD0, row8_len, List.length_replicate])
    have F1 := Lib.hid (show (row8 M1).length = 32 by rw [row8_len, MB1.out.1])
    have F2 := Lib.hid (show (row8 M2).length = 32 by rw [row8_len, MB2.out.1])
    clear hD0
    refine wp_region_g (by kernel_rfl) 12 (by decide) (by kernel_rfl) (by kernel_rfl) (by kernel_rfl) (w6.heap.size) (Nat.le_refl _) [.val (.slice (some ⟨w.heap.size + 1, 0, none⟩) 32 32), .val (.slice (some ⟨bb, 0, none⟩) 512 bc), .val (.slice (some ⟨bb, 0, none⟩) 480 bc), .rds ([BD]), .val (.agg (row8 M1).toArray), .val (.slice (some ⟨w.heap.size + 2, 0, none⟩) 32 32), .val (.slice (some ⟨bb, 0, none⟩) 512 bc), .val (.slice (some ⟨bb, 0, none⟩) 480 bc), .rds ([BD]), .val (.agg (row8 M2).toArray), .blk 24 D0, .blk 24 D0] (fun _ => 14) ?_ ?_
    · refine ⟨?_, ?_, ?_, ?_, ?_, ?_, ?_, ?_, ?_, ?_, ?_, ?_, trivial⟩
      · intro a w' hF hB hd
        have e4 : a.eval (.tmp 4) = .pointer (some ⟨w.heap.size + 1, 0, none⟩) := hF 4 (by decide +kernel)
        exact doesG_val rfl (v := .slice (some ⟨w.heap.size + 1, 0, none⟩) 32 32) (by unfold execOp; simp only [e4]; go_simp) rfl rfl
      · intro a w' hF hB hd
        have e7 : a.eval (.tmp 7) = .slice (some ⟨bb, 0, none⟩) 512 bc := hF 7 (by decide +kernel)
        exact doesG_val rfl (ex_move rfl e7) rfl rfl
      · intro a w' hF hB hd
        have e49 : a.eval (.tmp 49) = .slice (some ⟨bb, 0, none⟩) 512 bc := hd 1 (by decide +kernel) (.inr (by decide))
        exact doesG_val rfl (v := .slice (some ⟨bb, 0, none⟩) 480 bc) (by unfold execOp; simp only [e49]; go_simp) rfl rfl
      · intro a w' hF hB hd
        have e50 : a.eval (.tmp 50) = .slice (some ⟨bb, 0, none⟩) 480 bc := hd 2 (by decide +kernel) (.inr (by decide))
        exact doesG_one rfl 50 rfl e50 _ (R480.out.below hB) (fun h g hg => HOV.out h g hg) (fun _ _ h => h)
      · intro a w' hF hB hd
        have e48 : a.eval (.tmp 48) = .slice (some ⟨w.heap.size + 1, 0, none⟩) 32 32 := hd 0 (by decide +kernel) (.inr (by decide))
        have e51 : Olds w6.heap.size (a.eval (.tmp 51)) ([BD]) w' := hd 3 (by decide +kernel) (.inr (by decide))
        exact doesG_call rfl (ex_call (vs := #[.slice (some ⟨w.heap.size + 1, 0, none⟩) 32 32, a.eval (.tmp 51)]) rfl (by simp only [List.map_toArray, List.map_cons, List.map_nil, e48]) (by go_simp)) rfl ((hof_any l1 [BD] (by rw [List.flatten_cons, List.flatten_nil, List.append_nil, BO.out]; decide) _ _ w' (RK6.out.below hB) e51.rds (HT6.out.below hB)).mono fun e w2 hh => ⟨_, by rw [hh.1, List.flatten_cons, List.flatten_nil, List.append_nil, ← HM1.out], rfl, hh.2⟩)
      · intro a w' hF hB hd
        have e5 : a.eval (.tmp 5) = .pointer (some ⟨w.heap.size + 2, 0, none⟩) := hF 5 (by decide +kernel)
        exact doesG_val rfl (v := .slice (some ⟨w.heap.size + 2, 0, none⟩) 32 32) (by unfold execOp; simp only [e5]; go_simp) rfl rfl
      · intro a w' hF hB hd
        have e7 : a.eval (.tmp 7) = .slice (some ⟨bb, 0, none⟩) 512 bc := hF 7 (by decide +kernel)
        exact doesG_val rfl (ex_move rfl e7) rfl rfl
      · intro a w' hF hB hd
        have e54 : a.eval (.tmp 54) = .slice (some ⟨bb, 0, none⟩) 512 bc := hd 6 (by decide +kernel) (.inr (by decide))
        exact doesG_val rfl (v := .slice (some ⟨bb, 0, none⟩) 480 bc) (by unfold execOp; simp only [e54]; go_simp) rfl rfl
      · intro a w' hF hB hd
        have e55 : a.eval (.tmp 55) = .slice (some ⟨bb, 0, none⟩) 480 bc := hd 7 (by decide +kernel) (.inr (by decide))
        exact doesG_one rfl 55 rfl e55 _ (R480.out.below hB) (fun h g hg => HOV.out h g hg) (fun _ _ h => h)
      · intro a w' hF hB hd
        have e53 : a.eval (.tmp 53) = .slice (some ⟨w.heap.size + 2, 0, none⟩) 32 32 := hd 5 (by decide +kernel) (.inr (by decide))
        have e56 : Olds w6.heap.size (a.eval (.tmp 56)) ([BD]) w' := hd 8 (by decide +kernel) (.inr (by decide))
        exact doesG_call rfl (ex_call (vs := #[.slice (some ⟨w.heap.size + 2, 0, none⟩) 32 32, a.eval (.tmp 56)]) rfl (by simp only [List.map_toArray, List.map_cons, List.map_nil, e53]) (by go_simp)) rfl ((hof_any l2 [BD] (by rw [List.flatten_cons, List.flatten_nil, List.append_nil, BO.out]; decide) _ _ w' (RJ6.out.below hB) e56.rds (HT6.out.below hB)).mono fun e w2 hh => ⟨_, by rw [hh.1, List.flatten_cons, List.flatten_nil, List.append_nil, ← HM2.out], rfl, hh.2⟩)
      · intro a w' hF hB hd
        exact doesG_alloc rfl 24 D0 rfl hzD hB.size rfl
      · intro a w' hF hB hd
        exact doesG_alloc rfl 24 D0 rfl hzD hB.size rfl
    · intro vs w7 hb hv hap
      have e52 : vs 4 = .agg (row8 M1).toArray := hv 4 (by decide) (by decide)
      have e57 : vs 9 = .agg (row8 M2).toArray := hv 9 (by decide) (by decide)
      obtain ⟨sb, e13, hs1, hs2⟩ : ∃ c, vs 10 = .pointer (some ⟨c, 0, none⟩) ∧ w6.heap.size ≤ c ∧ Blk w7 c 24 D0 := hv 10 (by decide) (by decide)
      obtain ⟨tb, e14, ht1, ht2⟩ : ∃ c, vs 11 = .pointer (some ⟨c, 0, none⟩) ∧ w6.heap.size ≤ c ∧ Blk w7 c 24 D0 := hv 11 (by decide) (by decide)
      have hne : tb ≠ sb := fun q => hap 10 11 (by decide) (by decide) (by decide) (by decide) (by decide) rfl rfl sb (by rw [e13]; rfl) (by rw [e14, q]; rfl)
      simp only [List.take_succ_cons, List.take_zero, List.drop_succ_cons, List.drop_zero, putOps, Act.put, List.setIfInBounds_toArray, List.set_cons_zero, List.set_cons_succ, e52, e57, e13, e14]
      have W7 := Lib.hid (W6.out.on hb)
      have X7 := Lib.hid (X6.out.below hb X6.out.lt)
      have K7 := Lib.hid (K6.out.below hb K6.out.lt)
      have J7 := Lib.hid (J6.out.below hb J6.out.lt)
      have V7 := Lib.hid (V6.out.below hb)
      have B7 := Lib.hid (B6.out.below hb)
      have P7 := Lib.hid (P6.out.below hb)
      have C7 := Lib.hid (C6.out.below hb C6.out.lt)
      have D7 := Lib.hid (D6.out.below hb D6.out.lt)
      have S7 := Lib.hid hs2
      have T7 := Lib.hid ht2
      have SL := Lib.hid (show w6.heap.size ≤ sb ∧ w6.heap.size ≤ tb ∧ tb ≠ sb from ⟨hs1, ht1, hne⟩)
      have Z6 := Lib.hid W6.out.size
      have R7 := Lib.hid (R480.out)
      have OB := Lib.hid (fun g hg => B6.out.old (by rw [L1.out.1]; decide) g hg)
      have XLT := Lib.hid (show w.heap.size < w6.heap.size ∧ cb < w6.heap.size ∧ True from ⟨X6.out.lt, C6.out.lt, trivial⟩)
      clear hv hap hb e52 e57 e13 e14 hs1 hs2 ht1 ht2 hne W6 X6 K6 J6 V6 B6 P6 C6 D6 HT6 RK6 RJ6 R480 HOV
      generalize vs 0 = y0
      generalize vs 1 = y1
      generalize vs 2 = y2
      generalize vs 3 = y3
      generalize vs 5 = y5
      generalize vs 6 = y6
      generalize vs 7 = y7
      generalize vs 8 = y8
      go_upto_region 9 with (first
        | ((with_reducible show wpList _ _ _ (Oper.mk _ (.store _ (.tmp 13) (.tmp 52)) _ _ _ _ :: _) _ _); refine wpList_store_blk rfl 24 (.tmp 13) (.tmp 52) rfl sb 0 (row8 M1) rfl rfl 24 D0 S7.out (by have := F1.out; have := D32.out; omega) (by rw [F1.out]; exact infoS) (row8_one _) ?_; intro w8 b' g'; rw [splice_all _ _ (by have := F1.out; have := D32.out; omega)] at b'; have S8 := Lib.hid b'; have T8 := Lib.hid (T7.out.grown g' (fun e => by have := SL.out.2.2; have := Option.some.inj e; omega)); have W8 := Lib.hid (W7.out.grown g' W7.out.size (fun q e => by have := SL.out.1; have := Z6.out; have := Option.some.inj e; omega)); have X8 := Lib.hid (X7.out.grown g' (fun e => by have := SL.out.1; have := XLT.out.1; have := Option.some.inj e; omega)); have C8 := Lib.hid (C7.out.grown g' (fun e => by have := SL.out.1; have := XLT.out.2.1; have := Option.some.inj e; omega)); have V8 := Lib.hid (VV.out.below W8.out); have P8 := Lib.hid (P7.out.grown g' (.inr (fun e => by have := CL.out _ e; have := XLT.out.2.1; have := SL.out.1; omega))); have B8 := Lib.hid (B7.out.grown g' (.inr (OB.out sb SL.out.1))); clear b' g')
        | ((with_reducible show wpList _ _ _ (Oper.mk _ (.store _ (.tmp 14) (.tmp 57)) _ _ _ _ :: _) _ _); refine wpList_store_blk rfl 24 (.tmp 14) (.tmp 57) rfl tb 0 (row8 M2) rfl rfl 24 D0 T8.out (by have := F2.out; have := D32.out; omega) (by rw [F2.out]; exact infoS) (row8_one _) ?_; intro w9 b' g'; rw [splice_all _ _ (by have := F2.out; have := D32.out; omega)] at b'; have T9 := Lib.hid b'; have S9 := Lib.hid (S8.out.grown g' (fun e => by have := SL.out.2.2; have := Option.some.inj e; omega)); have W9 := Lib.hid (W8.out.grown g' W8.out.size (fun q e => by have := SL.out.2.1; have := Z6.out; have := Option.some.inj e; omega)); have X9 := Lib.hid (X8.out.grown g' (fun e => by have := SL.out.2.1; have := XLT.out.1; have := Option.some.inj e; omega)); have C9 := Lib.hid (C8.out.grown g' (fun e => by have := SL.out.2.1; have := XLT.out.2.1; have := Option.some.inj e; omega)); have V9 := Lib.hid (VV.out.below W9.out); have P9 := Lib.hid (P8.out.grown g' (.inr (fun e => by have := CL.out _ e; have := XLT.out.2.1; have := SL.out.2.1; omega))); have B9 := Lib.hid (B8.out.grown g' (.inr (OB.out tb SL.out.2.1))); clear b' g'))
      clear W7 X7 K7 J7 V7 B7 P7 C7 D7 S7 T7 W8 X8 C8 V8 P8 B8 S8 T8
      have RS9 := Lib.hid (blk_rd_at S9.out MB1.out.2 0 32 32 (by rw [MB1.out.1]; decide) (Nat.le_refl _) (by rw [MB1.out.1]; decide))
      rw [show (M1.drop 0).take 32 = M1 by rw [List.drop_zero, List.take_of_length_le (by rw [MB1.out.1]; exact Nat.le_refl _)]] at RS9
      have RD9 := Lib.hid (show Rd w9 (.slice (some ⟨bb, 480, none⟩) 32 (bc - 480)) M1 by
        have h := B9.out.drop 480 (by rw [L1.out.1]; decide)
        rw [if_neg (by omega), L1.out.1, LD.out] at h
        have e : (⟨bb, 0, none⟩ : Addr).add 480 = ⟨bb, 480, none⟩ := by rw [Addr.add_lit, Nat.zero_add]
        simp only [Option.map, e] at h
        exact h)
      obtain ⟨S, hS⟩ : ∃ S : ByteArray, S = bstr M1 := ⟨_, rfl⟩
      have HS := Lib.hid hS
      have HE := Lib.hid (fun W => (show (binOp .eql 9 (.string S) (.string S)).run Tryd.prog W = .ok (.bool true) W by rw [run_eql_str, decide_eq_true rfl]))
      have HT9 := Lib.hid (HT.out.below W9.out)
      have hb6 : ¬ bc < 480 := by omega
      have hb7 : ¬ bc = 480 := by omega
      clear hS
      obtain ⟨XA, hXA⟩ : ∃ x, x = XR (.slice ca n cq) := ⟨_, rfl⟩
      obtain ⟨XB, hXB⟩ : ∃ x, x = XR (.slice pa n pq) := ⟨_, rfl⟩
      have XAL := Lib.hid (show XA.length = 68 by rw [hXA]; exact XL.out _)
      have XBL := Lib.hid (show XB.length = 68 by rw [hXB]; exact XL.out _)
      have HSM := Lib.hid (fun W (hW : Below w9.heap.size w9 W) => HS3.out W _ _ (P9.out.below hW) (V9.out.below hW))
      rw [← hXA, ← hXB] at HSM
      rw [← hXA] at C9
      rw [← hXB] at X9
      rw [← hXB]
      clear hXA hXB
      by_cases heq : M2 = M1
      · have hg := GS.out heq
        have g1 : (g == 40) = false := by rw [beq_eq_false_iff_ne]; exact hg
        have heq := heq.symm
        subst heq
        have hem := fun W => run_eql_sum MB1.out MB1.out W
        simp only [decide_true] at hem
        have HEM := Lib.hid hem
        clear hem
        refine wp_region_g (by kernel_rfl) 28 (by decide) (by kernel_rfl) (by kernel_rfl) (by kernel_rfl) (w9.heap.size) (Nat.le_refl _) [.val (.int .i64 0), .val (.bool true), .val (.bool true), .val (.agg XA.toArray), .val (.agg XB.toArray), .val (.bool true), .val (.bool true), .val (.bool true), .val (.slice (some ⟨sb, 0, none⟩) 32 32), .val (.string S), .val (.slice (some ⟨bb, 0, none⟩) 512 bc), .val (.slice (some ⟨bb, 480, none⟩) 32 (bc - 480)), .val (.string S), .val (.bool true), .val (.bool true), .val (.bool true), .val (.int .i64 g), .val (.bool false), .val (.bool false), .val (.agg (row8 M1).toArray), .val (.agg (row8 M1).toArray), .val (.bool true), .val (.bool true), .val (.bool true), .val (.bool true), .val (.bool true), .val (.bool true), .val (.bool true)] (fun _ => 28) ?_ ?_
        · refine ⟨?_, ?_, ?_, ?_, ?_, ?_, ?_, ?_, ?_, ?_, ?_, ?_, ?_, ?_, ?_, ?_, ?_, ?_, ?_, ?_, ?_, ?_, ?_, ?_, ?_, ?_, ?_, ?_, trivial⟩
          · intro a w' hF hB hd
            have e10 : a.eval (.tmp 10) = .int .i64 0 := hF 10 (by decide +kernel)
            exact doesG_val rfl (ex_move rfl e10) rfl rfl
          · intro a w' hF hB hd
            have e58 : a.eval (.tmp 58) = .int .i64 0 := hd 0 (by decide +kernel) (.inr (by decide))
            exact doesG_val rfl (ex_binOp rfl e58 rfl (by go_simp) (by go_simp)) rfl rfl
          · intro a w' hF hB hd
            have e59 : a.eval (.tmp 59) = .bool true := hd 1 (by decide +kernel) (.inr (by decide))
            exact doesG_val rfl (ex_move rfl e59) rfl rfl
          · intro a w' hF hB hd
            have e60 : a.eval (.tmp 60) = .bool true := hd 2 (by decide +kernel) (.inr (by decide))
            have e9 : a.eval (.tmp 9) = .pointer (some ⟨cb, 0, none⟩) := hF 9 (by decide +kernel)
            exact doesG_val (wanted_of rfl (yielded_of rfl e60)) (v := .agg XA.toArray) (ex_load_part 27 (.tmp 9) rfl cb 0 e9 XA _ (C9.out.below hB C9.out.lt).range Tryd.underlying27 rfl (by rw [XAL.out]; exact infoRtC)) rfl rfl
          · intro a w' hF hB hd
            have e60 : a.eval (.tmp 60) = .bool true := hd 2 (by decide +kernel) (.inr (by decide))
            have e3 : a.eval (.tmp 3) = .pointer (some ⟨w.heap.size, 0, none⟩) := hF 3 (by decide +kernel)
            exact doesG_val (wanted_of rfl (yielded_of rfl e60)) (v := .agg XB.toArray) (ex_load_part 27 (.tmp 3) rfl w.heap.size 0 e3 XB _ (X9.out.below hB X9.out.lt).range Tryd.underlying27 rfl (by rw [XBL.out]; exact infoRtC)) rfl rfl
          · intro a w' hF hB hd
            have e60 : a.eval (.tmp 60) = .bool true := hd 2 (by decide +kernel) (.inr (by decide))
            have e61 : a.eval (.tmp 61) = .agg XA.toArray := hd 3 (by decide +kernel) (.inr (by decide))
            have e62 : a.eval (.tmp 62) = .agg XB.toArray := hd 4 (by decide +kernel) (.inr (by decide))
            exact doesG_call (wanted_of rfl (yielded_of rfl e60)) (ex_call (vs := #[.agg XA.toArray, .agg XB.toArray]) rfl (by simp only [List.map_toArray, List.map_cons, List.map_nil, e61, e62]) (by go_simp)) rfl ((HSM.out w' hB).mono fun e w2 hh => ⟨_, hh.1, rfl, hh.2⟩)
          · intro a w' hF hB hd
            have e60 : a.eval (.tmp 60) = .bool true := hd 2 (by decide +kernel) (.inr (by decide))
            have e63 : a.eval (.tmp 63) = .bool true := hd 5 (by decide +kernel) (.inr (by decide))
            exact doesG_val rfl (ex_pick rfl e60 (by simp [e63])) rfl rfl
          · intro a w' hF hB hd
            have e64 : a.eval (.tmp 64) = .bool true := hd 6 (by decide +kernel) (.inr (by decide))
            exact doesG_val rfl (ex_move rfl e64) rfl rfl
          · intro a w' hF hB hd
            have e65 : a.eval (.tmp 65) = .bool true := hd 7 (by decide +kernel) (.inr (by decide))
            have e13 : a.eval (.tmp 13) = .pointer (some ⟨sb, 0, none⟩) := hF 13 (by decide +kernel)
            exact doesG_val (wanted_of rfl (yielded_of rfl e65)) (v := .slice (some ⟨sb, 0, none⟩) 32 32) (by unfold execOp; simp only [e13]; go_simp) rfl rfl
          · intro a w' hF hB hd
            have e65 : a.eval (.tmp 65) = .bool true := hd 7 (by decide +kernel) (.inr (by decide))
            have e66 : a.eval (.tmp 66) = .slice (some ⟨sb, 0, none⟩) 32 32 := hd 8 (by decide +kernel) (.inr (by decide))
            exact doesG_val (wanted_of rfl (yielded_of rfl e65)) (ex_convert rfl e66 (by rw [HS.out]; exact (RS9.out.below hB).str)) rfl rfl
          · intro a w' hF hB hd
            have e65 : a.eval (.tmp 65) = .bool true := hd 7 (by decide +kernel) (.inr (by decide))
            have e7 : a.eval (.tmp 7) = .slice (some ⟨bb, 0, none⟩) 512 bc := hF 7 (by decide +kernel)
            exact doesG_val (wanted_of rfl (yielded_of rfl e65)) (ex_move rfl e7) rfl rfl
          · intro a w' hF hB hd
            have e65 : a.eval (.tmp 65) = .bool true := hd 7 (by decide +kernel) (.inr (by decide))
            have e68 : a.eval (.tmp 68) = .slice (some ⟨bb, 0, none⟩) 512 bc := hd 10 (by decide +kernel) (.inr (by decide))
            exact doesG_val (wanted_of rfl (yielded_of rfl e65)) (v := .slice (some ⟨bb, 480, none⟩) 32 (bc - 480)) (by unfold execOp; simp only [e68]; go_simp) rfl rfl
          · intro a w' hF hB hd
            have e65 : a.eval (.tmp 65) = .bool true := hd 7 (by decide +kernel) (.inr (by decide))
            have e69 : a.eval (.tmp 69) = .slice (some ⟨bb, 480, none⟩) 32 (bc - 480) := hd 11 (by decide +kernel) (.inr (by decide))
            exact doesG_val (wanted_of rfl (yielded_of rfl e65)) (ex_convert rfl e69 (by rw [HS.out]; exact (RD9.out.below hB).str)) rfl rfl
          · intro a w' hF hB hd
            have e65 : a.eval (.tmp 65) = .bool true := hd 7 (by decide +kernel) (.inr (by decide))
            have e67 : a.eval (.tmp 67) = .string S := hd 9 (by decide +kernel) (.inr (by decide))
            have e70 : a.eval (.tmp 70) = .string S := hd 12 (by decide +kernel) (.inr (by decide))
            exact doesG_val (wanted_of rfl (yielded_of rfl e65)) (ex_binOp rfl e67 e70 (by go_simp) (HE.out w')) rfl rfl
          · intro a w' hF hB hd
            have e65 : a.eval (.tmp 65) = .bool true := hd 7 (by decide +kernel) (.inr (by decide))
            have e71 : a.eval (.tmp 71) = .bool true := hd 13 (by decide +kernel) (.inr (by decide))
            exact doesG_val rfl (ex_pick rfl e65 (by simp [e71])) rfl rfl
          · intro a w' hF hB hd
            have e72 : a.eval (.tmp 72) = .bool true := hd 14 (by decide +kernel) (.inr (by decide))
            exact doesG_val rfl (ex_move rfl e72) rfl rfl
          · intro a w' hF hB hd
            have e73 : a.eval (.tmp 73) = .bool true := hd 15 (by decide +kernel) (.inr (by decide))
            have e12 : a.eval (.tmp 12) = .int .i64 g := hF 12 (by decide +kernel)
            exact doesG_val (wanted_of rfl (yielded_of rfl e73)) (ex_move rfl e12) rfl rfl
          · intro a w' hF hB hd
            have e73 : a.eval (.tmp 73) = .bool true := hd 15 (by decide +kernel) (.inr (by decide))
            have e74 : a.eval (.tmp 74) = .int .i64 g := hd 16 (by decide +kernel) (.inr (by decide))
            exact doesG_val (wanted_of rfl (yielded_of rfl e73)) (ex_binOp rfl e74 rfl (by go_simp) (by go_simp)) rfl rfl
          · intro a w' hF hB hd
            have e73 : a.eval (.tmp 73) = .bool true := hd 15 (by decide +kernel) (.inr (by decide))
            have e75 : a.eval (.tmp 75) = .bool false := hd 17 (by decide +kernel) (.inr (by decide))
            exact doesG_val (wanted_of rfl (yielded_of rfl e73)) (ex_move rfl e75) rfl rfl
          · intro a w' hF hB hd
            have e76 : a.eval (.tmp 76) = .bool false := hd 18 (by decide +kernel) (.inr (by decide))
            have e13 : a.eval (.tmp 13) = .pointer (some ⟨sb, 0, none⟩) := hF 13 (by decide +kernel)
            exact doesG_val (wanted_of rfl (yielded_of rfl e76)) (v := .agg (row8 M1).toArray) (ex_load_part 24 (.tmp 13) rfl sb 0 e13 (row8 M1) _ (S9.out.below hB S9.out.lt).range Tryd.underlying24 rfl (by rw [F1.out]; exact infoS)) rfl rfl
          · intro a w' hF hB hd
            have e76 : a.eval (.tmp 76) = .bool false := hd 18 (by decide +kernel) (.inr (by decide))
            have e14 : a.eval (.tmp 14) = .pointer (some ⟨tb, 0, none⟩) := hF 14 (by decide +kernel)
            exact doesG_val (wanted_of rfl (yielded_of rfl e76)) (v := .agg (row8 M1).toArray) (ex_load_part 24 (.tmp 14) rfl tb 0 e14 (row8 M1) _ (T9.out.below hB T9.out.lt).range Tryd.underlying24 rfl (by rw [F1.out]; exact infoS)) rfl rfl
          · intro a w' hF hB hd
            have e76 : a.eval (.tmp 76) = .bool false := hd 18 (by decide +kernel) (.inr (by decide))
            have e77 : a.eval (.tmp 77) = .agg (row8 M1).toArray := hd 19 (by decide +kernel) (.inr (by decide))
            have e78 : a.eval (.tmp 78) = .agg (row8 M1).toArray := hd 20 (by decide +kernel) (.inr (by decide))
            exact doesG_val (wanted_of rfl (yielded_of rfl e76)) (ex_binOp rfl e77 e78 (run_eqGuard_agg (P := Tryd.prog) (w := w') .eql 24 _ _ _ _ eqTypeS) (HEM.out w')) rfl rfl
          · intro a w' hF hB hd
            have e73 : a.eval (.tmp 73) = .bool true := hd 15 (by decide +kernel) (.inr (by decide))
            have e76 : a.eval (.tmp 76) = .bool false := hd 18 (by decide +kernel) (.inr (by decide))
            have e79 : a.eval (.tmp 79) = .bool true := hd 21 (by decide +kernel) (.inr (by decide))
            exact doesG_val (wanted_of rfl (yielded_of rfl e73)) (ex_pick rfl e76 (by simp [e79])) rfl rfl
          · intro a w' hF hB hd
            have e73 : a.eval (.tmp 73) = .bool true := hd 15 (by decide +kernel) (.inr (by decide))
            have e80 : a.eval (.tmp 80) = .bool true := hd 22 (by decide +kernel) (.inr (by decide))
            exact doesG_val rfl (ex_pick rfl e73 (by simp [e80])) rfl rfl
          · intro a w' hF hB hd
            have e81 : a.eval (.tmp 81) = .bool true := hd 23 (by decide +kernel) (.inr (by decide))
            exact doesG_val rfl (ex_move rfl e81) rfl rfl
          · intro a w' hF hB hd
            have e82 : a.eval (.tmp 82) = .bool true := hd 24 (by decide +kernel) (.inr (by decide))
            exact doesG_call (wanted_of rfl (yielded_of rfl e82)) (ex_call (vs := #[]) rfl (by simp) (by go_simp)) rfl ((rtawake_any w' (HT9.out.below hB)).mono fun e w2 hh => ⟨_, hh.1, rfl, hh.2⟩)
          · intro a w' hF hB hd
            have e82 : a.eval (.tmp 82) = .bool true := hd 24 (by decide +kernel) (.inr (by decide))
            have e83 : a.eval (.tmp 83) = .bool true := hd 25 (by decide +kernel) (.inr (by decide))
            exact doesG_val rfl (ex_pick rfl e82 (by simp [e83])) rfl rfl
          · intro a w' hF hB hd
            have e84 : a.eval (.tmp 84) = .bool true := hd 26 (by decide +kernel) (.inr (by decide))
            exact doesG_val rfl (ex_assign rfl e84) rfl rfl
        · intro vs w10 hb hv hap
          have e2 : vs 27 = .bool true := hv 27 (by decide) (by decide)
          simp only [List.take_succ_cons, List.take_zero, List.drop_succ_cons, List.drop_zero, putOps, Act.put, List.setIfInBounds_toArray, List.set_cons_zero, List.set_cons_succ, e2]
          have HB := Lib.hid (W9.out.on hb)
          clear hv hap e2 hb
          go_wp2_with fail
          go_ret
          exact ⟨rfl, HB.out⟩
      · have hg := GO.out heq
        subst hg
        clear heq
        refine wp_region_g (by kernel_rfl) 28 (by decide) (by kernel_rfl) (by kernel_rfl) (by kernel_rfl) (w9.heap.size) (Nat.le_refl _) [.val (.int .i64 0), .val (.bool true), .val (.bool true), .val (.agg XA.toArray), .val (.agg XB.toArray), .val (.bool true), .val (.bool true), .val (.bool true), .val (.slice (some ⟨sb, 0, none⟩) 32 32), .val (.string S), .val (.slice (some ⟨bb, 0, none⟩) 512 bc), .val (.slice (some ⟨bb, 480, none⟩) 32 (bc - 480)), .val (.string S), .val (.bool true), .val (.bool true), .val (.bool true), .val (.int .i64 40), .val (.bool true), .val (.bool true), .val undef, .val undef, .val undef, .val (.bool true), .val (.bool true), .val (.bool true), .val (.bool true), .val (.bool true), .val (.bool true)] (fun _ => 28) ?_ ?_
        · refine ⟨?_, ?_, ?_, ?_, ?_, ?_, ?_, ?_, ?_, ?_, ?_, ?_, ?_, ?_, ?_, ?_, ?_, ?_, ?_, ?_, ?_, ?_, ?_, ?_, ?_, ?_, ?_, ?_, trivial⟩
          · intro a w' hF hB hd
            have e10 : a.eval (.tmp 10) = .int .i64 0 := hF 10 (by decide +kernel)
            exact doesG_val rfl (ex_move rfl e10) rfl rfl
          · intro a w' hF hB hd
            have e58 : a.eval (.tmp 58) = .int .i64 0 := hd 0 (by decide +kernel) (.inr (by decide))
            exact doesG_val rfl (ex_binOp rfl e58 rfl (by go_simp) (by go_simp)) rfl rfl
          · intro a w' hF hB hd
            have e59 : a.eval (.tmp 59) = .bool true := hd 1 (by decide +kernel) (.inr (by decide))
            exact doesG_val rfl (ex_move rfl e59) rfl rfl
          · intro a w' hF hB hd
            have e60 : a.eval (.tmp 60) = .bool true := hd 2 (by decide +kernel) (.inr (by decide))
            have e9 : a.eval (.tmp 9) = .pointer (some ⟨cb, 0, none⟩) := hF 9 (by decide +kernel)
            exact doesG_val (wanted_of rfl (yielded_of rfl e60)) (v := .agg XA.toArray) (ex_load_part 27 (.tmp 9) rfl cb 0 e9 XA _ (C9.out.below hB C9.out.lt).range Tryd.underlying27 rfl (by rw [XAL.out]; exact infoRtC)) rfl rfl
          · intro a w' hF hB hd
            have e60 : a.eval (.tmp 60) = .bool true := hd 2 (by decide +kernel) (.inr (by decide))
            have e3 : a.eval (.tmp 3) = .pointer (some ⟨w.heap.size, 0, none⟩) := hF 3 (by decide +kernel)
            exact doesG_val (wanted_of rfl (yielded_of rfl e60)) (v := .agg XB.toArray) (ex_load_part 27 (.tmp 3) rfl w.heap.size 0 e3 XB _ (X9.out.below hB X9.out.lt).range Tryd.underlying27 rfl (by rw [XBL.out]; exact infoRtC)) rfl rfl
          · intro a w' hF hB hd
            have e60 : a.eval (.tmp 60) = .bool true := hd 2 (by decide +kernel) (.inr (by decide))
            have e61 : a.eval (.tmp 61) = .agg XA.toArray := hd 3 (by decide +kernel) (.inr (by decide))
            have e62 : a.eval (.tmp 62) = .agg XB.toArray := hd 4 (by decide +kernel) (.inr (by decide))
            exact doesG_call (wanted_of rfl (yielded_of rfl e60)) (ex_call (vs := #[.agg XA.toArray, .agg XB.toArray]) rfl (by simp only [List.map_toArray, List.map_cons, List.map_nil, e61, e62]) (by go_simp)) rfl ((HSM.out w' hB).mono fun e w2 hh => ⟨_, hh.1, rfl, hh.2⟩)
          · intro a w' hF hB hd
            have e60 : a.eval (.tmp 60) = .bool true := hd 2 (by decide +kernel) (.inr (by decide))
            have e63 : a.eval (.tmp 63) = .bool true := hd 5 (by decide +kernel) (.inr (by decide))
            exact doesG_val rfl (ex_pick rfl e60 (by simp [e63])) rfl rfl
          · intro a w' hF hB hd
            have e64 : a.eval (.tmp 64) = .bool true := hd 6 (by decide +kernel) (.inr (by decide))
            exact doesG_val rfl (ex_move rfl e64) rfl rfl
          · intro a w' hF hB hd
            have e65 : a.eval (.tmp 65) = .bool true := hd 7 (by decide +kernel) (.inr (by decide))
            have e13 : a.eval (.tmp 13) = .pointer (some ⟨sb, 0, none⟩) := hF 13 (by decide +kernel)
            exact doesG_val (wanted_of rfl (yielded_of rfl e65)) (v := .slice (some ⟨sb, 0, none⟩) 32 32) (by unfold execOp; simp only [e13]; go_simp) rfl rfl
          · intro a w' hF hB hd
            have e65 : a.eval (.tmp 65) = .bool true := hd 7 (by decide +kernel) (.inr (by decide))
            have e66 : a.eval (.tmp 66) = .slice (some ⟨sb, 0, none⟩) 32 32 := hd 8 (by decide +kernel) (.inr (by decide))
            exact doesG_val (wanted_of rfl (yielded_of rfl e65)) (ex_convert rfl e66 (by rw [HS.out]; exact (RS9.out.below hB).str)) rfl rfl
          · intro a w' hF hB hd
            have e65 : a.eval (.tmp 65) = .bool true := hd 7 (by decide +kernel) (.inr (by decide))
            have e7 : a.eval (.tmp 7) = .slice (some ⟨bb, 0, none⟩) 512 bc := hF 7 (by decide +kernel)
            exact doesG_val (wanted_of rfl (yielded_of rfl e65)) (ex_move rfl e7) rfl rfl
          · intro a w' hF hB hd
            have e65 : a.eval (.tmp 65) = .bool true := hd 7 (by decide +kernel) (.inr (by decide))
            have e68 : a.eval (.tmp 68) = .slice (some ⟨bb, 0, none⟩) 512 bc := hd 10 (by decide +kernel) (.inr (by decide))
            exact doesG_val (wanted_of rfl (yielded_of rfl e65)) (v := .slice (some ⟨bb, 480, none⟩) 32 (bc - 480)) (by unfold execOp; simp only [e68]; go_simp) rfl rfl
          · intro a w' hF hB hd
            have e65 : a.eval (.tmp 65) = .bool true := hd 7 (by decide +kernel) (.inr (by decide))
            have e69 : a.eval (.tmp 69) = .slice (some ⟨bb, 480, none⟩) 32 (bc - 480) := hd 11 (by decide +kernel) (.inr (by decide))
            exact doesG_val (wanted_of rfl (yielded_of rfl e65)) (ex_convert rfl e69 (by rw [HS.out]; exact (RD9.out.below hB).str)) rfl rfl
          · intro a w' hF hB hd
            have e65 : a.eval (.tmp 65) = .bool true := hd 7 (by decide +kernel) (.inr (by decide))
            have e67 : a.eval (.tmp 67) = .string S := hd 9 (by decide +kernel) (.inr (by decide))
            have e70 : a.eval (.tmp 70) = .string S := hd 12 (by decide +kernel) (.inr (by decide))
            exact doesG_val (wanted_of rfl (yielded_of rfl e65)) (ex_binOp rfl e67 e70 (by go_simp) (HE.out w')) rfl rfl
          · intro a w' hF hB hd
            have e65 : a.eval (.tmp 65) = .bool true := hd 7 (by decide +kernel) (.inr (by decide))
            have e71 : a.eval (.tmp 71) = .bool true := hd 13 (by decide +kernel) (.inr (by decide))
            exact doesG_val rfl (ex_pick rfl e65 (by simp [e71])) rfl rfl
          · intro a w' hF hB hd
            have e72 : a.eval (.tmp 72) = .bool true := hd 14 (by decide +kernel) (.inr (by decide))
            exact doesG_val rfl (ex_move rfl e72) rfl rfl
          · intro a w' hF hB hd
            have e73 : a.eval (.tmp 73) = .bool true := hd 15 (by decide +kernel) (.inr (by decide))
            have e12 : a.eval (.tmp 12) = .int .i64 40 := hF 12 (by decide +kernel)
            exact doesG_val (wanted_of rfl (yielded_of rfl e73)) (ex_move rfl e12) rfl rfl
          · intro a w' hF hB hd
            have e73 : a.eval (.tmp 73) = .bool true := hd 15 (by decide +kernel) (.inr (by decide))
            have e74 : a.eval (.tmp 74) = .int .i64 40 := hd 16 (by decide +kernel) (.inr (by decide))
            exact doesG_val (wanted_of rfl (yielded_of rfl e73)) (ex_binOp rfl e74 rfl (by go_simp) (by go_simp)) rfl rfl
          · intro a w' hF hB hd
            have e73 : a.eval (.tmp 73) = .bool true := hd 15 (by decide +kernel) (.inr (by decide))
            have e75 : a.eval (.tmp 75) = .bool true := hd 17 (by decide +kernel) (.inr (by decide))
            exact doesG_val (wanted_of rfl (yielded_of rfl e73)) (ex_move rfl e75) rfl rfl
          · intro a w' hF hB hd
            have e76 : a.eval (.tmp 76) = .bool true := hd 18 (by decide +kernel) (.inr (by decide))
            exact doesG_skip (unwanted_of rfl (yielded_of rfl e76) (by decide)) rfl
          · intro a w' hF hB hd
            have e76 : a.eval (.tmp 76) = .bool true := hd 18 (by decide +kernel) (.inr (by decide))
            exact doesG_skip (unwanted_of rfl (yielded_of rfl e76) (by decide)) rfl
          · intro a w' hF hB hd
            have e76 : a.eval (.tmp 76) = .bool true := hd 18 (by decide +kernel) (.inr (by decide))
            exact doesG_skip (unwanted_of rfl (yielded_of rfl e76) (by decide)) rfl
          · intro a w' hF hB hd
            have e73 : a.eval (.tmp 73) = .bool true := hd 15 (by decide +kernel) (.inr (by decide))
            have e76 : a.eval (.tmp 76) = .bool true := hd 18 (by decide +kernel) (.inr (by decide))
            exact doesG_val (wanted_of rfl (yielded_of rfl e73)) (ex_pick rfl e76 (rfl)) rfl rfl
          · intro a w' hF hB hd
            have e73 : a.eval (.tmp 73) = .bool true := hd 15 (by decide +kernel) (.inr (by decide))
            have e80 : a.eval (.tmp 80) = .bool true := hd 22 (by decide +kernel) (.inr (by decide))
            exact doesG_val rfl (ex_pick rfl e73 (by simp [e80])) rfl rfl
          · intro a w' hF hB hd
            have e81 : a.eval (.tmp 81) = .bool true := hd 23 (by decide +kernel) (.inr (by decide))
            exact doesG_val rfl (ex_move rfl e81) rfl rfl
          · intro a w' hF hB hd
            have e82 : a.eval (.tmp 82) = .bool true := hd 24 (by decide +kernel) (.inr (by decide))
            exact doesG_call (wanted_of rfl (yielded_of rfl e82)) (ex_call (vs := #[]) rfl (by simp) (by go_simp)) rfl ((rtawake_any w' (HT9.out.below hB)).mono fun e w2 hh => ⟨_, hh.1, rfl, hh.2⟩)
          · intro a w' hF hB hd
            have e82 : a.eval (.tmp 82) = .bool true := hd 24 (by decide +kernel) (.inr (by decide))
            have e83 : a.eval (.tmp 83) = .bool true := hd 25 (by decide +kernel) (.inr (by decide))
            exact doesG_val rfl (ex_pick rfl e82 (by simp [e83])) rfl rfl
          · intro a w' hF hB hd
            have e84 : a.eval (.tmp 84) = .bool true := hd 26 (by decide +kernel) (.inr (by decide))
            exact doesG_val rfl (ex_assign rfl e84) rfl rfl
        · intro vs w10 hb hv hap
          have e2 : vs 27 = .bool true := hv 27 (by decide) (by decide)
          simp only [List.take_succ_cons, List.take_zero, List.drop_succ_cons, List.drop_zero, putOps, Act.put, List.setIfInBounds_toArray, List.set_cons_zero, List.set_cons_succ, e2]
          have HB := Lib.hid (W9.out.on hb)
          clear hv hap e2 hb
          go_wp2_with fail
          go_ret
          exact ⟨rfl, HB.out⟩
set_option maxRecDepth 100000 in
theorem reads (os : Os) {H : Type} (enc : TypeId × Value → H) : ∃ places, DataW.whole enc Tryd.prog ((World.doorLaid Tryd.prog 400 os).forCall (fun _ _ => 0) ⟨#[], #[.agg (RT.rtc RT.zero (.slice none 0 0)).toArray, .agg (row8 (List.replicate 32 0)).toArray, .agg (row8 (List.replicate 32 0)).toArray], []⟩).memory Tryd.f7.params.toList Rows.rootBackSpec.vars false (#[.agg (RT.rtc RT.zero (.slice none 0 0)).toArray, .agg (row8 (List.replicate 32 0)).toArray, .agg (row8 (List.replicate 32 0)).toArray] : Array Value).toList 8 = some ([litRt, lit8 (List.replicate 32 0), lit8 (List.replicate 32 0)], [], places) :=
  ⟨[], by kernel_rfl⟩
set_option maxRecDepth 100000 in
theorem wok (os : Os) : Input.okWideB Tryd.prog ((World.doorLaid Tryd.prog 400 os).forCall (fun _ _ => 0) ⟨#[], #[.agg (RT.rtc RT.zero (.slice none 0 0)).toArray, .agg (row8 (List.replicate 32 0)).toArray, .agg (row8 (List.replicate 32 0)).toArray], []⟩) 7 ⟨#[], #[.agg (RT.rtc RT.zero (.slice none 0 0)).toArray, .agg (row8 (List.replicate 32 0)).toArray, .agg (row8 (List.replicate 32 0)).toArray], []⟩ = true := by kernel_rfl
set_option linter.unusedVariables false in
set_option maxHeartbeats 1000000 in
set_option maxRecDepth 100000 in
theorem lifted (os : Os) (started : os.Started) (H : Type) (enc : TypeId × Value → H) (F : Stop.Interp) :
    ReturnsInHanded {} Tryd.checked os 7 .any ((OpenSpec.ofChange Rows.rootBackSpec).preRow enc Tryd.prog Tryd.f7 Rows.rootBackRow.domain false laidP) (((OpenSpec.ofChange Rows.rootBackSpec).at F).post enc Tryd.prog Tryd.f7 false true false false) := by
  obtain ⟨places, hx⟩ := reads os enc
  refine returnsInHanded_of_row (C := Tryd.checked) (s := OpenSpec.ofChange Rows.rootBackSpec) own started (by kernel_rfl) Tryd.func7
    (witness_row_atRef (enc := enc) (C := Tryd.checked) false (World.doorLaid Tryd.prog 400 os) #[.agg (RT.rtc RT.zero (.slice none 0 0)).toArray, .agg (row8 (List.replicate 32 0)).toArray, .agg (row8 (List.replicate 32 0)).toArray] rfl (by kernel_rfl) (by kernel_rfl) (wok os)
      (OpenSpec.preRow_of_cond 8 hx (by kernel_rfl) (fun k hk => by cases hk) (by kernel_rfl) (doorP_met os _))) ?_
  intro W base args ds gs before hval0 hW _ hcond hsz0 hL _ _
  have hsz : (DataW.weightsEach Tryd.prog (Tryd.f7.params.toList ++ Rows.rootBackSpec.plain.varTypes Tryd.prog) (ds ++ gs)).all (· ≤ reachBytes) = true := hsz0
  clear hsz0
  have hval : ∀ (j : Nat) t v, Tryd.f7.params[j]? = some t → args[j]? = some v → Value.okWide Tryd.prog W .any base t v := hval0
  have hW' := hW
  obtain ⟨p, q, hA0, hV, rfl, _, _⟩ := hW
  have hA : DataW.TrodAll enc Tryd.prog W 0 (fun _ => true) true Tryd.f7.params.toList args.toList ds p := hA0
  rw [Tryd.params7] at hA hval hsz
  obtain ⟨v0, vs0, d0, ds0, p0, q0, hargs, rfl, rfl, g0, r0⟩ := trodAll_cons hA
  obtain ⟨v1, vs1, d1, ds1, p1, q1, rfl, rfl, rfl, g1, r1⟩ := trodAll_cons r0
  obtain ⟨v2, vs2, d2, ds2, p2, q2, rfl, rfl, rfl, g2, r2⟩ := trodAll_cons r1
  obtain ⟨rfl, rfl, rfl⟩ := trodAll_nil r2
  obtain rfl : args = #[v0, v1, v2] := by cases args; simp_all
  obtain ⟨rfl, rfl⟩ := trodVars_none hV
  obtain ⟨rr0, uu0, rfl, hh0, pp0, kk0⟩ := open_root (hval 0 27 v0 rfl rfl) g0 (fun n hn => by simpa using List.all_eq_true.1 hsz n (DataW.weights_mem_each (j := 0) (t := 27) rfl rfl n hn))
  obtain ⟨l1, h1, rfl, rfl, rfl⟩ := open_row Tryd.underlying28 Tryd.underlying5 cells5 (hval 1 28 v1 rfl rfl) cells28 g1
  obtain ⟨l2, h2, rfl, rfl, rfl⟩ := open_row Tryd.underlying28 Tryd.underlying5 cells5 (hval 2 28 v2 rfl rfl) cells28 g2
  clear hA0 hval0
  have hlt := hW'.lt
  refine (walk W (tabP_of_laid hL) rr0 uu0 hh0 pp0 kk0 l1 h1 l2 h2).mono fun e W' ⟨he, hb⟩ => ?_
  subst he
  have hargs : DataW.TrodAll enc Tryd.prog W' 0 (fun b => decide (b < W.heap.size)) true _ _ _ _ := (trodAll_cons_mk (Below.trod laidOut (by kernel_rfl) (of_decide_eq_true (by kernel_rfl)) g0 hb (fun x hx => hlt x (by simp [hx]))) (trodAll_cons_mk (shut_row Tryd.underlying28 Tryd.underlying5 cells5 cells28 h1) (trodAll_cons_mk (shut_row Tryd.underlying28 Tryd.underlying5 cells5 cells28 h2) trodAll_mk0)))
  simp only [List.append_nil] at hW' hargs
  exact ⟨_, rfl, post_law hW' (trodAll_cons_mk (shut_bool Tryd.underlying4 _) trodAll_mk0) hargs rfl hb⟩
theorem over : Rows.rootBackRow.holds Tryd.pinned (OpenSpec.ofChange Rows.rootBackSpec) :=
  OpenClaim.holds_of_cond 7 Tryd.f7 rfl rfl rfl rfl rfl rfl rfl ⟨rfl, rfl, rfl, rfl, rfl⟩ rfl rfl rfl rfl rfl (by kernel_rfl) Tryd.func7 (by kernel_rfl)
    (of_decide_eq_true (by kernel_rfl)) (by unfold Func.isWrapper; first | (rw [if_pos (by decide +kernel)]; kernel_rfl) | (rw [if_neg (by decide +kernel)]; exact ⟨rfl, rfl⟩))
    (fun os started H enc _ F => by rw [OpenClaim.pre_eq_preRow]; exact lifted os started H enc F)

/-- The given statement. -/
theorem proved : Rows.RootBackCardSaid :=
  Claim7.holds_tied_plain_at .later [] _ _ _ _
    over (fun _ h => by cases h) (by kernel_rfl) (fun _ h => by cases h) rootBack_row_tie rfl ⟨rfl, rfl⟩ (by kernel_rfl) rfl
    (fun f fn hf hfn => by
      obtain rfl : f = 7 := Option.some.inj ((show Tryd.prog.funcNamed "reliquary/reliquarylaw14.RootBack" = some 7 by kernel_rfl).symm.trans hf) |>.symm
      obtain rfl : fn = Tryd.f7 := (Option.some.inj (Tryd.func7.symm.trans hfn)).symm
      exact ⟨by kernel_rfl, fun j t ht => by
        rw [Tryd.params7] at ht
        have hm : t ∈ [27, 28, 28] := by simpa using Array.mem_of_getElem? ht
        have hall : ([27, 28, 28].all fun u => !Tryd.prog.wantsStandIn u) = true := by kernel_rfl
        exact (show Tryd.prog.wantsStandIn t = false by simpa using List.all_eq_true.1 hall t hm)⟩)
    (by kernel_rfl)
end Go.Proofs.YtenigdbnfepkeaaDoor.rootBack
