/- Texts of one subject in one file: RtGetR, RtNewR. Own work. -/
import Derived.Test.YtenigdbnfepkeaaDoorRtDocB
import Derived.Test.YtenigdbnfepkeaaDoorFactX
import Derived.Test.YtenigdbnfepkeaaDoorFillX
import Derived.Deep.RegionWith
/- A root that is read out of bytes by the document's answer: contract. Written by gen_rtget.py. Own work. -/
namespace Go.Proofs.YtenigdbnfepkeaaDoor
open Go.ChangeShapes Go.WideShapes Go.ChangeAt Go.RowKit
open RT
set_option maxRecDepth 100000 in
set_option maxHeartbeats 8000000 in
theorem rrget_any (b key : List Nat) (hkey : Bytes 32 key) (v : Value) (w : World) (hv : Rd w v b) (ht : Tab w) : Calls Tryd.prog 16 #[v, .agg (row8 key).toArray] w fun e w' => ∃ pv, e = .returned (.tuple #[.agg (rtc (got b key) pv).toArray, .int .i64 (gerr b key)]) ∧ w'.ownsRow w.heap.size 45 33 pv (got b key).pages.length (pcs (got b key).pages) ∧ Below w.heap.size w w' := by
  obtain ⟨va, vc, rfl, hvc⟩ := hv.shape
  obtain ⟨bl, hbl⟩ : ∃ n, n = b.length := ⟨_, rfl⟩
  obtain ⟨G, hG⟩ : ∃ G : Ending → World → Prop, G = fun e w' => ∃ pv, e = .returned (.tuple #[.agg (rtc (got b key) pv).toArray, .int .i64 (gerr b key)]) ∧ w'.ownsRow w.heap.size 45 33 pv (got b key).pages.length (pcs (got b key).pages) ∧ Below w.heap.size w w' := ⟨_, rfl⟩
  obtain ⟨Z0, hZ0⟩ : ∃ L, L = rtc zero (.slice none 0 0) := ⟨_, rfl⟩
  have HNO := Lib.hid (fun (c : Int) (h : got b key = zero ∧ gerr b key = c) W (hW : Below w.heap.size w W) => (show G (.returned (.tuple #[.agg Z0.toArray, .int .i64 c])) W by
    rw [hG, hZ0]
    show ∃ pv, _
    rw [h.1, h.2]
    exact ⟨_, rfl, World.ownsRow_nil _ _ _ _, hW⟩))
  have HYES := Lib.hid (fun (h : got b key = reads b ∧ gerr b key = 0) pv W (ho : World.ownsRow W w.heap.size 45 33 pv (reads b).pages.length (pcs (reads b).pages)) (hW : Below w.heap.size w W) => (show G (.returned (.tuple #[.agg (rtc (reads b) pv).toArray, .int .i64 0])) W by
    rw [hG]
    show ∃ pv, _
    rw [h.1, h.2]
    exact ⟨pv, rfl, ho, hW⟩))
  have hz : ∀ w, (zeroValue 27).run Tryd.prog w = .ok (.agg Z0.toArray) w := by rw [hZ0]; exact zeroRt
  have hbz : Tryd.prog.built 27 [] = some Z0.toArray := by rw [hZ0]; exact builtRt
  have hzr := zeroRd
  have Z68 := Lib.hid (show Z0.length = 68 by rw [hZ0]; exact rtc_len zero_ok _)
  have Z1 := Lib.hid (show Z0.toArray.all (·.oneCell') = true by rw [hZ0]; exact rtc_one _ _ _)
  obtain ⟨D0, hD0⟩ : ∃ D, D = row8 (List.replicate 32 0) := ⟨_, rfl⟩
  have hzD : ∀ w, (zeroValue 24).run Tryd.prog w = .ok (.agg D0.toArray) w := by rw [hD0]; exact zeroSumS
  have D32 := Lib.hid (show D0.length = 32 by rw [hD0, row8_len, List.length_replicate])
  obtain ⟨KC, hKC⟩ : ∃ L, L = row8 key := ⟨_, rfl⟩
  have K32 := Lib.hid (show KC.length = 32 by rw [hKC, row8_len, hkey.1])
  have HKC := Lib.hid hKC
  have HKY := Lib.hid hkey
  have HV := Lib.hid hv
  have HT := Lib.hid ht
  have HBL := Lib.hid hbl
  have HZ0 := Lib.hid hZ0
  rw [← hG, ← hKC]
  rw [← hbl] at HV hvc ⊢
  obtain ⟨w1, hw1⟩ : ∃ x, x = (w.alloc (.cells KC.toArray 28)).alloc (.cells Z0.toArray 27) := ⟨_, rfl⟩
  have W1 := Lib.hid (show Below w.heap.size w w1 by rw [hw1]; exact ((Below.refl w.heap.size w).alloc (Nat.le_refl _) _).alloc (by simp) _)
  have K1 := Lib.hid (show Blk w1 w.heap.size 28 KC by rw [hw1]; exact (Blk.new w 28 KC _ rfl).alloc _)
  have X1 := Lib.hid (show Blk w1 (w.heap.size + 1) 27 Z0 by rw [hw1]; exact Blk.new _ 27 Z0 _ (by simp))
  have HRET := Lib.hid (fun (fn : Func) (hf : fn.results = #[.cell 4 27, .tmp 5]) (tmps : Array Value) (L : List Value) (hl : L.length = 68) W (hW : Blk W (w.heap.size + 1) 27 L) (h4 : tmps.getD 4 undef = .pointer (some ⟨w.heap.size + 1, 0, none⟩)) => (results_mid2 (P := Tryd.prog) hf tmps W (w.heap.size + 1) L _ h4 hW.range Tryd.underlying27 rfl (by rw [hl]; exact infoRtC)))
  clear hv ht hbl hG hZ0 hD0 hKC hkey
  by_cases hlen : bl = 512
  · subst hlen
    have hlz : ((512 : Nat) : Int) = 512 := rfl
    have H512 := Lib.hid (show b.length = 512 from HBL.out.symm)
    obtain ⟨ad, rfl, _⟩ := HV.out.at_ 0 (by rw [← HBL.out]; decide)
    obtain ⟨MAC, hMAC⟩ : ∃ m, m = SM.mac key (b.take 480) := ⟨_, rfl⟩
    have HMB := Lib.hid (show Bytes 32 MAC by rw [hMAC]; exact sha_bytes _)
    have M32 := Lib.hid (show (row8 MAC).length = 32 by rw [row8_len, HMB.out.1])
    have B480 := Lib.hid (show (b.take 480).length = 480 by rw [List.length_take, H512.out]; rfl)
    have V480 := Lib.hid (show Rd w (.slice (some ad) 480 vc) (b.take 480) from HV.out.take 480 (by rw [H512.out]; decide))
    have V32 := Lib.hid (show Rd w (.slice (some (ad.add 480)) 32 (vc - 480)) (b.drop 480) by
      have h := HV.out.drop 480 (by rw [H512.out]; decide)
      rw [if_neg (by omega), H512.out] at h; exact h)
    have HMA := Lib.hid (show ∀ W, Below w1.heap.size w1 W → Calls Tryd.prog 24 #[.slice (some ⟨w.heap.size, 0, none⟩) 32 32, .slice (some ad) 480 vc] W fun e w' => e = .returned (.agg (row8 MAC).toArray) ∧ Below W.heap.size W w' from fun W hW => by
      rw [hMAC]
      exact rmac_any key (b.take 480) (by rw [HKY.out.1]; decide) (by rw [B480.out]; decide) _ _ W (rd_part (K1.out.below hW K1.out.lt) HKY.out (by rw [HKC.out, List.drop_zero, List.take_of_length_le (by rw [row8_len, HKY.out.1]; exact Nat.le_refl _)]) (by decide)) (V480.out.below (W1.out.on hW)) (HT.out.below (W1.out.on hW)))
    obtain ⟨ns, hns⟩ : ∃ x, x = !sealed b key := ⟨_, rfl⟩
    have HNS := Lib.hid hns
    obtain ⟨S1, hS1⟩ : ∃ s, s = bstr MAC := ⟨_, rfl⟩
    obtain ⟨S2, hS2⟩ : ∃ s, s = bstr (b.drop 480) := ⟨_, rfl⟩
    have HS1 := Lib.hid hS1.symm
    have HS2 := Lib.hid hS2.symm
    have HNQ := Lib.hid (fun W => (show (binOp .neq 9 (.string S1) (.string S2)).run Tryd.prog W = .ok (.bool ns) W by
      rw [run_neq_str, hS1, hS2, hns]
      have q : decide (bstr MAC = bstr (b.drop 480)) = sealed b key := by
        unfold sealed
        rw [decide_eq_decide, ← hMAC]
        exact bstr_iff HMB.out.2 (fun k => by rw [gb_drop]; exact HV.out.byte _)
      rw [q]))
    clear hns hMAC hS1 hS2
    have q480 : (480 : Int) ≤ (vc : Int) := by omega
    have q512 : (512 : Int) ≤ (vc : Int) := by omega
    have n480 : vc ≠ 480 := by omega
    have n4 : vc ≠ 4 := by omega
    go_enter Tryd.func16, Tryd.ntmps16
    go_upto_region 3 with fail
    rw [← hw1]
    clear hw1
    refine wp_region_g (by kernel_rfl) 5 (by decide) (by kernel_rfl) (by kernel_rfl) (by kernel_rfl) w1.heap.size (Nat.le_refl _) [.val (.slice (some ⟨w.heap.size, 0, none⟩) 32 32), .val (.slice (some ad) 512 vc), .val (.slice (some ad) 480 vc), .val (.agg (row8 MAC).toArray), .blk 24 D0] (fun _ => 6) ?_ ?_
    · refine ⟨?_, ?_, ?_, ?_, ?_, trivial⟩
      · intro a w' hF hB hd
        have e3 : a.eval (.tmp 3) = .pointer (some ⟨w.heap.size, 0, none⟩) := hF 3 (by decide +kernel)
        exact doesG_val rfl (v := .slice (some ⟨w.heap.size, 0, none⟩) 32 32) (by unfold execOp; simp only [e3]; go_simp) rfl rfl
      · intro a w' hF hB hd
        have e0 : a.eval (.tmp 0) = .slice (some ad) 512 vc := hF 0 (by decide +kernel)
        exact doesG_val rfl (ex_move rfl e0) rfl rfl
      · intro a w' hF hB hd
        have e22 : a.eval (.tmp 22) = .slice (some ad) 512 vc := hd 1 (by decide +kernel) (.inr (by decide))
        have f22 : a.tmps[22]?.getD undef = .slice (some ad) 512 vc := by rw [← Array.getD_eq_getD_getElem?]; exact e22
        exact doesG_val rfl (v := .slice (some ad) 480 vc) (by unfold execOp; simp only [e22]; go_simp) rfl rfl
      · intro a w' hF hB hd
        have e21 : a.eval (.tmp 21) = .slice (some ⟨w.heap.size, 0, none⟩) 32 32 := hd 0 (by decide +kernel) (.inr (by decide))
        have e23 : a.eval (.tmp 23) = .slice (some ad) 480 vc := hd 2 (by decide +kernel) (.inr (by decide))
        exact doesG_call rfl (ex_call (vs := #[.slice (some ⟨w.heap.size, 0, none⟩) 32 32, .slice (some ad) 480 vc]) rfl (by simp only [List.map_toArray, List.map_cons, List.map_nil, e21, e23]) (by go_simp)) rfl ((HMA.out w' hB).mono fun e w2 hh => ⟨_, hh.1, rfl, hh.2⟩)
      · intro a w' hF hB hd
        exact doesG_alloc rfl 24 D0 rfl hzD hB.size rfl
    · intro vs w2 hB hvs _
      have e24 : vs 3 = .agg (row8 MAC).toArray := hvs 3 (by decide) (by decide)
      obtain ⟨mb, e6, hmb, hM⟩ : ∃ c, vs 4 = .pointer (some ⟨c, 0, none⟩) ∧ w1.heap.size ≤ c ∧ Blk w2 c 24 D0 := hvs 4 (by decide) (by decide)
      have W2 := Lib.hid (W1.out.on hB)
      have K2 := Lib.hid (K1.out.below hB K1.out.lt)
      have X2 := Lib.hid (X1.out.below hB X1.out.lt)
      have M2 := Lib.hid hM
      have MBL := Lib.hid (show w.heap.size + 1 < mb by have := X1.out.lt; omega)
      clear hvs hB hM HMA
      simp only [List.take_succ_cons, List.take_zero, List.drop_succ_cons, List.drop_zero, putOps, Act.put, List.setIfInBounds_toArray, List.set_cons_zero, List.set_cons_succ, e24, e6]
      generalize vs 0 = x0 at *
      generalize vs 1 = x1 at *
      generalize vs 2 = x2 at *
      clear e24 e6
      go_upto_region 4 with (refine wpList_store_blk rfl 24 (.tmp 6) (.tmp 24) rfl mb 0 (row8 MAC) rfl rfl 24 D0 M2.out (by rw [M32.out, D32.out]; exact Nat.le_refl _) (by rw [M32.out]; exact infoS) (row8_one _) ?_; intro w3 b3 g3; rw [splice_all _ _ (by rw [M32.out, D32.out])] at b3; have M3 := Lib.hid b3; have W3 := Lib.hid (W2.out.grown g3 W2.out.size (fun g hg => by have := MBL.out; have := Option.some.inj hg; omega)); have K3 := Lib.hid (K2.out.grown g3 (fun e => by have := MBL.out; have := Option.some.inj e; omega)); have X3 := Lib.hid (X2.out.grown g3 (fun e => by have := MBL.out; have := Option.some.inj e; omega)); clear b3 g3)
      have RM3 := Lib.hid (show Rd w3 (.slice (some ⟨mb, 0, none⟩) 32 32) MAC from rd_part M3.out HMB.out (by rw [List.drop_zero, List.take_of_length_le (by rw [M32.out]; exact Nat.le_refl _)]) (by decide))
      clear W1 K1 X1 W2 K2 X2 M2
      refine wp_region_g (by kernel_rfl) 6 (by decide) (by kernel_rfl) (by kernel_rfl) (by kernel_rfl) w3.heap.size (Nat.le_refl _) [.val (.slice (some ⟨mb, 0, none⟩) 32 32), .val (.string S1), .val (.slice (some ad) 512 vc), .val (.slice (some (ad.add 480)) 32 (vc - 480)), .val (.string S2), .val (.bool ns)] (fun _ => 6) ?_ ?_
      · refine ⟨?_, ?_, ?_, ?_, ?_, ?_, trivial⟩
        · intro a w' hF hB hd
          have e6 : a.eval (.tmp 6) = .pointer (some ⟨mb, 0, none⟩) := hF 6 (by decide +kernel)
          exact doesG_val rfl (v := .slice (some ⟨mb, 0, none⟩) 32 32) (by unfold execOp; simp only [e6]; go_simp) rfl rfl
        · intro a w' hF hB hd
          have e25 : a.eval (.tmp 25) = .slice (some ⟨mb, 0, none⟩) 32 32 := hd 0 (by decide +kernel) (.inr (by decide))
          exact doesG_val rfl (ex_convert (x := .tmp 25) rfl e25 (by rw [← HS1.out]; exact (RM3.out.below hB).str)) rfl rfl
        · intro a w' hF hB hd
          have e0 : a.eval (.tmp 0) = .slice (some ad) 512 vc := hF 0 (by decide +kernel)
          exact doesG_val rfl (ex_move rfl e0) rfl rfl
        · intro a w' hF hB hd
          have e27 : a.eval (.tmp 27) = .slice (some ad) 512 vc := hd 2 (by decide +kernel) (.inr (by decide))
          have f27 : a.tmps[27]?.getD undef = .slice (some ad) 512 vc := by rw [← Array.getD_eq_getD_getElem?]; exact e27
          exact doesG_val rfl (v := .slice (some (ad.add 480)) 32 (vc - 480)) (by unfold execOp; simp only [e27]; go_simp) rfl rfl
        · intro a w' hF hB hd
          have e28 : a.eval (.tmp 28) = .slice (some (ad.add 480)) 32 (vc - 480) := hd 3 (by decide +kernel) (.inr (by decide))
          exact doesG_val rfl (ex_convert (x := .tmp 28) rfl e28 (by rw [← HS2.out]; exact (V32.out.below (W3.out.on hB)).str)) rfl rfl
        · intro a w' hF hB hd
          have e26 : a.eval (.tmp 26) = .string S1 := hd 1 (by decide +kernel) (.inr (by decide))
          have e29 : a.eval (.tmp 29) = .string S2 := hd 4 (by decide +kernel) (.inr (by decide))
          exact doesG_val rfl (ex_binOp rfl e26 e29 (by go_simp) (HNQ.out _)) rfl rfl
      · intro vs w4 hB hvs _
        have e30 : vs 5 = .bool ns := hvs 5 (by decide) (by decide)
        have W4 := Lib.hid (W3.out.on hB)
        have K4 := Lib.hid (K3.out.below hB K3.out.lt)
        have X4 := Lib.hid (X3.out.below hB X3.out.lt)
        clear hvs hB W3 K3 X3 M3 RM3 HNQ HS1 HS2
        simp only [List.take_succ_cons, List.take_zero, List.drop_succ_cons, List.drop_zero, putOps, Act.put, List.setIfInBounds_toArray, List.set_cons_zero, List.set_cons_succ, e30]
        generalize vs 0 = y0 at *
        generalize vs 1 = y1 at *
        generalize vs 2 = y2 at *
        generalize vs 3 = y3 at *
        generalize vs 4 = y4 at *
        clear e30
        cases ns with
        | true =>
          have HF := Lib.hid (HNO.out 40 (got_open H512.out (by have h := HNS.out; cases hq : sealed b key with
            | true => rw [hq] at h; cases h
            | false => rfl)))
          go_wp2_with ((fail_if_success (with_reducible show bodyPost _ _ _ _ _ _)); first
            | (refine wpList_wanted rfl (.agg Z0.toArray) (ex_build rfl hbz) ?_)
            | (refine wpList_store_blk rfl 27 (.tmp 4) (.tmp 31) rfl (w.heap.size + 1) 0 Z0 rfl rfl 27 Z0 X4.out (Nat.le_of_eq (Nat.zero_add _)) (by rw [Z68.out]; exact infoRtC) Z1.out ?_; intro w8 b8 g8; rw [splice_all _ _ rfl] at b8; have X8 := Lib.hid b8; have W8 := Lib.hid (W4.out.grown g8 W4.out.size (fun g hg => by have := Option.some.inj hg; omega)); clear b8 g8))
          refine bodyPost_ret (HRET.out _ rfl _ Z0 Z68.out _ X8.out rfl) rfl ?_
          exact HF.out _ W8.out
        | false =>
          have HSE := Lib.hid (show sealed b key = true by have h := HNS.out; cases hq : sealed b key with
            | true => rfl
            | false => rw [hq] at h; cases h)
          have B512 := Lib.hid (show Bytes 512 b from ⟨H512.out, HV.out.byte⟩)
          have HR := Lib.hid (reads_ok B512.out)
          obtain ⟨V, hV⟩ : ∃ x, x = num ((b.drop 4).take 8) := ⟨_, rfl⟩
          obtain ⟨SUP, hSUP⟩ : ∃ x, x = (b.drop 12).take 32 := ⟨_, rfl⟩
          obtain ⟨AR, hAR⟩ : ∃ x, x = gb b 44 := ⟨_, rfl⟩
          obtain ⟨KS, hKS⟩ : ∃ x, x = (b.drop 45).take 32 := ⟨_, rfl⟩
          obtain ⟨LN, hLN⟩ : ∃ x, x = num ((b.drop 77).take 2) := ⟨_, rfl⟩
          obtain ⟨NP, hNP⟩ : ∃ x, x = gb b 79 := ⟨_, rfl⟩
          have BSU := Lib.hid (show Bytes 32 SUP by rw [hSUP]; exact cut_bytes B512.out 12 32 (by decide))
          have BKS := Lib.hid (show Bytes 32 KS by rw [hKS]; exact cut_bytes B512.out 45 32 (by decide))
          have AR8 : AR < 256 := by rw [hAR]; exact B512.out.2 _
          have NP8 : NP < 256 := by rw [hNP]; exact B512.out.2 _
          have LN2 : LN < 65536 := by
            rw [hLN]
            have c := cut_bytes B512.out 77 2 (by decide)
            exact num_le _ c.2 2 (by rw [c.1]; exact Nat.le_refl _)
          obtain ⟨XF, hXF⟩ : ∃ f : Value → List Value, f = rtc (reads b) := ⟨_, rfl⟩
          obtain ⟨XC1, hX1⟩ : ∃ L, L = rtc ⟨V, List.replicate 32 0, 0, List.replicate 32 0, 0, []⟩ (.slice none 0 0) := ⟨_, rfl⟩
          obtain ⟨XC2, hX2⟩ : ∃ L, L = rtc ⟨V, SUP, 0, List.replicate 32 0, 0, []⟩ (.slice none 0 0) := ⟨_, rfl⟩
          obtain ⟨XC3, hX3⟩ : ∃ L, L = rtc ⟨V, SUP, 0, KS, 0, []⟩ (.slice none 0 0) := ⟨_, rfl⟩
          obtain ⟨XC4, hX4⟩ : ∃ L, L = rtc ⟨V, SUP, (AR : Nat), KS, 0, []⟩ (.slice none 0 0) := ⟨_, rfl⟩
          have E1 := Lib.hid (show Z0.set 0 (.int .u64 (V : Int)) = XC1 by rw [HZ0.out, hX1]; rfl)
          have E2 := Lib.hid (show splice XC1 1 (row8 SUP) = XC2 by rw [hX1, hX2]; exact rtc_sup_put (by simp) BSU.out _)
          have E3 := Lib.hid (show splice XC2 34 (row8 KS) = XC3 by rw [hX2, hX3]; exact rtc_keys_put BSU.out.1 (by simp) BKS.out _)
          have E4 := Lib.hid (show XC3.set 33 (.int .i64 (AR : Int)) = XC4 by rw [hX3, hX4]; exact rtc_area_put BSU.out.1 _ _)
          have E5 := Lib.hid (show XC4.set 66 (.int .i64 (LN : Int)) = XF (.slice none 0 0) by
            have h := rtc_len_put (r := ⟨V, SUP, (AR : Nat), KS, 0, []⟩) BSU.out.1 BKS.out.1 (.slice none 0 0) (LN : Int)
            rw [hX4, h, hXF, hV, hSUP, hAR, hKS, hLN]; rfl)
          have L1 := Lib.hid (show XC1.length = 68 by rw [← E1.out, List.length_set, Z68.out])
          have L2 := Lib.hid (show XC2.length = 68 by rw [← E2.out, length_splice _ _ _ (by rw [L1.out, row8_len, BSU.out.1]; decide), L1.out])
          have L3 := Lib.hid (show XC3.length = 68 by rw [← E3.out, length_splice _ _ _ (by rw [L2.out, row8_len, BKS.out.1]; decide), L2.out])
          have L4 := Lib.hid (show XC4.length = 68 by rw [← E4.out, List.length_set, L3.out])
          have XFL := Lib.hid (show ∀ u, (XF u).length = 68 by intro u; rw [hXF]; exact rtc_len HR.out u)
          have XFS := Lib.hid (show ∀ u u', (XF u).set 67 u' = XF u' by intro u u'; rw [hXF]; exact rtc_set67 HR.out u u')
          have XFP := Lib.hid (show ∀ u, (XF u)[67]? = some u by intro u; rw [hXF]; exact rtc_pages HR.out u)
          have XF1 := Lib.hid (show ∀ a n c, (XF (.slice a n c)).toArray.all (·.oneCell') = true by intro a n c; rw [hXF]; exact rtc_one _ _ _)
          have HXF := Lib.hid hXF
          have R32 := Lib.hid (show (row8 SUP).length = 32 by rw [row8_len, BSU.out.1])
          have R32K := Lib.hid (show (row8 KS).length = 32 by rw [row8_len, BKS.out.1])
          have S5 := Lib.hid (show Rd w (.slice (some ⟨ad.block, ad.off + 4, none⟩) 476 (vc - 4)) ((b.take 480).drop 4) by
            have h := V480.out.drop 4 (by rw [B480.out]; decide)
            rw [if_neg n4, B480.out] at h; exact h)
          have HNV := Lib.hid hV.symm
          have HNA := Lib.hid (show num ((b.drop 44).take 1) = AR by rw [hAR]; exact num_at (by rw [H512.out]; decide))
          have HNL := Lib.hid hLN.symm
          have HNN := Lib.hid (show num ((b.drop 79).take 1) = NP by rw [hNP]; exact num_at (by rw [H512.out]; decide))
          have HSU := Lib.hid hSUP.symm
          have HKS := Lib.hid hKS.symm
          have HNP := Lib.hid hNP
          have aAR : IntKind.i64.wrap (AR : Int) = (AR : Int) := by rw [IntKind.wrap_i64]; omega
          have aLN : IntKind.i64.wrap (LN : Int) = (LN : Int) := by rw [IntKind.wrap_i64]; omega
          have aNP : IntKind.i64.wrap (NP : Int) = (NP : Int) := by rw [IntKind.wrap_i64]; omega
          clear hV hSUP hAR hKS hLN hNP hXF hX1 hX2 hX3 hX4
          obtain ⟨xb, hxb⟩ : ∃ x, x = w4.heap.size := ⟨_, rfl⟩
          have IA := Lib.hid (show GI w KC Z0 w4.heap.size Z0 (.slice none 0 0) ((w4.alloc (.cells Z0.toArray 27)).alloc (.cells #[.slice none 0 0, .int .i64 0] 65)) from
            ⟨W4.out.on (((Below.refl _ _).alloc (Nat.le_refl _) _).alloc (by simp) _), (K4.out.alloc _).alloc _, (X4.out.alloc _).alloc _, (Blk.new w4 27 Z0 _ rfl).alloc _, Blk.new _ 65 [.slice none 0 0, .int .i64 0] _ (by simp), by have := X4.out.lt; omega⟩)
          clear W4 K4 X4
          go_upto_region 8 with (first
            | (refine wpList_store_blk rfl 65 (.tmp 8) (.tmp 34) rfl (w4.heap.size + 1) 0 [.slice (some ⟨ad.block, ad.off + 4, none⟩) 476 (vc - 4), .int .i64 0] rfl rfl 65 [.slice none 0 0, .int .i64 0] IA.out.rd (Nat.le_refl _) infoRd (oneRd _ _ _ _) ?_; intro w5 b5 g5; rw [splice_all _ _ (by rfl)] at b5; have I5 := Lib.hid (IA.out.putR g5 b5); clear b5 g5))
          rw [← hxb] at I5 ⊢
          clear hxb IA
          obtain ⟨a5, ha5⟩ : ∃ x : Option Addr, x = some ⟨ad.block, ad.off + 4, none⟩ := ⟨_, rfl⟩
          obtain ⟨c5, hc5⟩ : ∃ x, x = vc - 4 := ⟨_, rfl⟩
          rw [← ha5, ← hc5] at I5 S5 ⊢
          clear ha5 hc5
          have C5 := Lib.hid (show Calls Tryd.prog 28 #[refv (.slice a5 476 c5) 0, .int .i64 8] w5 (fun e w' => ∃ a c, e = .returned (.tuple #[refv (.slice a 468 c) 0, .int .u64 (V : Int)]) ∧ Rd w (.slice a 468 c) ((b.take 480).drop 12) ∧ Below w5.heap.size w5 w') by rw [← HNV.out]; exact rnum_at H512.out w w5 I5.out.bel _ 4 8 12 468 rfl rfl S5.out)
          go_upto_region 9 with (first
            | (refine wpList_load_mid rfl 65 (.tmp 8) rfl (xb + 1) 0 rfl [.slice a5 476 c5, .int .i64 0] _ I5.out.rd.range Tryd.underlying65 rfl infoRd ?_)
            | (go_at_call 28; (with_reducible refine C5.out.mono ?_); rintro e w5a ⟨a6, c6, rfl, s, bb⟩; have S6 := Lib.hid s; have I5a := Lib.hid (I5.out.on bb); clear s bb)
            | (refine wpList_store_blk rfl 65 (.tmp 8) (.tmp 38) rfl (xb + 1) 0 [.slice a6 468 c6, .int .i64 0] rfl rfl 65 [.slice a5 476 c5, .int .i64 0] I5a.out.rd (Nat.le_refl _) infoRd (oneRd _ _ _ _) ?_; intro w5b bl5 gl5; rw [splice_all _ _ (by rfl)] at bl5; have I5b := Lib.hid (I5a.out.putR gl5 bl5); clear bl5 gl5)
            | (refine wpList_put1R rfl 22 (.tmp 40) (.tmp 39) rfl xb 0 (.int .u64 (V : Int)) rfl rfl 27 Z0 I5b.out.x (by rw [Z68.out]; decide) infoU641 rfl rfl ?_; intro w6 bx gx; rw [E1.out] at bx; have I6 := Lib.hid (I5b.out.putX gx bx); clear bx gx))
          clear I5 S5 C5 I5a I5b
          have C6 := Lib.hid (show Calls Tryd.prog 29 #[refv (.slice a6 468 c6) 0] w6 (fun e w' => ∃ a c, e = .returned (.tuple #[refv (.slice a 436 c) 0, .agg (row8 SUP).toArray]) ∧ Rd w (.slice a 436 c) ((b.take 480).drop 44) ∧ Below w6.heap.size w6 w') by rw [← HSU.out]; exact rsum_at H512.out w w6 I6.out.bel _ 12 44 436 rfl rfl S6.out)
          go_upto_region 10 with (first
            | (refine wpList_load_mid rfl 65 (.tmp 8) rfl (xb + 1) 0 rfl [.slice a6 468 c6, .int .i64 0] _ I6.out.rd.range Tryd.underlying65 rfl infoRd ?_)
            | (go_at_call 29; (with_reducible refine C6.out.mono ?_); rintro e w6a ⟨a7, c7, rfl, s, bb⟩; have S7 := Lib.hid s; have I6a := Lib.hid (I6.out.on bb); clear s bb)
            | (refine wpList_store_blk rfl 65 (.tmp 8) (.tmp 44) rfl (xb + 1) 0 [.slice a7 436 c7, .int .i64 0] rfl rfl 65 [.slice a6 468 c6, .int .i64 0] I6a.out.rd (Nat.le_refl _) infoRd (oneRd _ _ _ _) ?_; intro w6b bl6 gl6; rw [splice_all _ _ (by rfl)] at bl6; have I6b := Lib.hid (I6a.out.putR gl6 bl6); clear bl6 gl6)
            | (refine wpList_store_blk rfl 24 (.tmp 46) (.tmp 45) rfl xb 1 (row8 SUP) rfl rfl 27 XC1 I6b.out.x (by rw [R32.out, L1.out]; decide) (by rw [R32.out]; exact infoS) (row8_one _) ?_; intro w7 bx gx; rw [E2.out] at bx; have I7 := Lib.hid (I6b.out.putX gx bx); clear bx gx))
          clear I6 S6 C6 I6a I6b
          have C7 := Lib.hid (show Calls Tryd.prog 28 #[refv (.slice a7 436 c7) 0, .int .i64 1] w7 (fun e w' => ∃ a c, e = .returned (.tuple #[refv (.slice a 435 c) 0, .int .u64 (AR : Int)]) ∧ Rd w (.slice a 435 c) ((b.take 480).drop 45) ∧ Below w7.heap.size w7 w') by rw [← HNA.out]; exact rnum_at H512.out w w7 I7.out.bel _ 44 1 45 435 rfl rfl S7.out)
          go_upto_region 11 with (first
            | (refine wpList_load_mid rfl 65 (.tmp 8) rfl (xb + 1) 0 rfl [.slice a7 436 c7, .int .i64 0] _ I7.out.rd.range Tryd.underlying65 rfl infoRd ?_)
            | (go_at_call 28; (with_reducible refine C7.out.mono ?_); rintro e w7a ⟨a8, c8, rfl, s, bb⟩; have S8 := Lib.hid s; have I7a := Lib.hid (I7.out.on bb); clear s bb)
            | (refine wpList_store_blk rfl 65 (.tmp 8) (.tmp 50) rfl (xb + 1) 0 [.slice a8 435 c8, .int .i64 0] rfl rfl 65 [.slice a7 436 c7, .int .i64 0] I7a.out.rd (Nat.le_refl _) infoRd (oneRd _ _ _ _) ?_; intro w7b bl7 gl7; rw [splice_all _ _ (by rfl)] at bl7; have I7b := Lib.hid (I7a.out.putR gl7 bl7); clear bl7 gl7))
          clear I7 S7 C7 I7a
          have C8 := Lib.hid (show Calls Tryd.prog 29 #[refv (.slice a8 435 c8) 0] w7b (fun e w' => ∃ a c, e = .returned (.tuple #[refv (.slice a 403 c) 0, .agg (row8 KS).toArray]) ∧ Rd w (.slice a 403 c) ((b.take 480).drop 77) ∧ Below w7b.heap.size w7b w') by rw [← HKS.out]; exact rsum_at H512.out w w7b I7b.out.bel _ 45 77 403 rfl rfl S8.out)
          go_upto_region 12 with (first
            | (refine wpList_load_mid rfl 65 (.tmp 8) rfl (xb + 1) 0 rfl [.slice a8 435 c8, .int .i64 0] _ I7b.out.rd.range Tryd.underlying65 rfl infoRd ?_)
            | (go_at_call 29; (with_reducible refine C8.out.mono ?_); rintro e w8a ⟨a9, c9, rfl, s, bb⟩; have S9 := Lib.hid s; have I8a := Lib.hid (I7b.out.on bb); clear s bb)
            | (refine wpList_store_blk rfl 65 (.tmp 8) (.tmp 55) rfl (xb + 1) 0 [.slice a9 403 c9, .int .i64 0] rfl rfl 65 [.slice a8 435 c8, .int .i64 0] I8a.out.rd (Nat.le_refl _) infoRd (oneRd _ _ _ _) ?_; intro w8b bl8 gl8; rw [splice_all _ _ (by rfl)] at bl8; have I8b := Lib.hid (I8a.out.putR gl8 bl8); clear bl8 gl8)
            | (refine wpList_store_blk rfl 24 (.tmp 57) (.tmp 56) rfl xb 34 (row8 KS) rfl rfl 27 XC2 I8b.out.x (by rw [R32K.out, L2.out]; decide) (by rw [R32K.out]; exact infoS) (row8_one _) ?_; intro w9 bx gx; rw [E3.out] at bx; have I9 := Lib.hid (I8b.out.putX gx bx); clear bx gx))
          clear I7b S8 C8 I8a I8b
          have C9 := Lib.hid (show Calls Tryd.prog 28 #[refv (.slice a9 403 c9) 0, .int .i64 2] w9 (fun e w' => ∃ a c, e = .returned (.tuple #[refv (.slice a 401 c) 0, .int .u64 (LN : Int)]) ∧ Rd w (.slice a 401 c) ((b.take 480).drop 79) ∧ Below w9.heap.size w9 w') by rw [← HNL.out]; exact rnum_at H512.out w w9 I9.out.bel _ 77 2 79 401 rfl rfl S9.out)
          go_upto_region 13 with (first
            | (refine wpList_load_mid rfl 65 (.tmp 8) rfl (xb + 1) 0 rfl [.slice a9 403 c9, .int .i64 0] _ I9.out.rd.range Tryd.underlying65 rfl infoRd ?_)
            | (go_at_call 28; (with_reducible refine C9.out.mono ?_); rintro e w9a ⟨a10, c10, rfl, s, bb⟩; have S10 := Lib.hid s; have I9a := Lib.hid (I9.out.on bb); clear s bb)
            | (refine wpList_store_blk rfl 65 (.tmp 8) (.tmp 61) rfl (xb + 1) 0 [.slice a10 401 c10, .int .i64 0] rfl rfl 65 [.slice a9 403 c9, .int .i64 0] I9a.out.rd (Nat.le_refl _) infoRd (oneRd _ _ _ _) ?_; intro w9b bl9 gl9; rw [splice_all _ _ (by rfl)] at bl9; have I9b := Lib.hid (I9a.out.putR gl9 bl9); clear bl9 gl9))
          clear I9 S9 C9 I9a
          have C10 := Lib.hid (show Calls Tryd.prog 28 #[refv (.slice a10 401 c10) 0, .int .i64 1] w9b (fun e w' => ∃ a c, e = .returned (.tuple #[refv (.slice a 400 c) 0, .int .u64 (NP : Int)]) ∧ Rd w (.slice a 400 c) ((b.take 480).drop 80) ∧ Below w9b.heap.size w9b w') by rw [← HNN.out]; exact rnum_at H512.out w w9b I9b.out.bel _ 79 1 80 400 rfl rfl S10.out)
          go_upto_region 14 with (first
            | (refine wpList_load_mid rfl 65 (.tmp 8) rfl (xb + 1) 0 rfl [.slice a10 401 c10, .int .i64 0] _ I9b.out.rd.range Tryd.underlying65 rfl infoRd ?_)
            | (go_at_call 28; (with_reducible refine C10.out.mono ?_); rintro e w10a ⟨a11, c11, rfl, s, bb⟩; have S11 := Lib.hid s; have I10a := Lib.hid (I9b.out.on bb); clear s bb)
            | (refine wpList_store_blk rfl 65 (.tmp 8) (.tmp 66) rfl (xb + 1) 0 [.slice a11 400 c11, .int .i64 0] rfl rfl 65 [.slice a10 401 c10, .int .i64 0] I10a.out.rd (Nat.le_refl _) infoRd (oneRd _ _ _ _) ?_; intro w10b bl10 gl10; rw [splice_all _ _ (by rfl)] at bl10; have I10b := Lib.hid (I10a.out.putR gl10 bl10); clear bl10 gl10))
          clear I9b S10 C10 I10a
          go_upto_region 16 with (first
            | (refine wpList_put1R rfl 3 (.tmp 72) (.tmp 69) rfl xb 33 (.int .i64 (AR : Int)) rfl rfl 27 XC3 I10b.out.x (by rw [L3.out]; decide) infoInt1 rfl rfl ?_; intro w14a bx gx; rw [E4.out] at bx; have I14a := Lib.hid (I10b.out.putX gx bx); clear bx gx)
            | (refine wpList_put1R rfl 3 (.tmp 73) (.tmp 71) rfl xb 66 (.int .i64 (LN : Int)) rfl rfl 27 XC4 I14a.out.x (by rw [L4.out]; decide) infoInt1 rfl rfl ?_; intro w14 bx gx; rw [E5.out] at bx; have I14 := Lib.hid (I14a.out.putX gx bx); clear bx gx))
          clear I10b I14a
          obtain ⟨N, hN⟩ : ∃ x, x = min NP 9 := ⟨_, rfl⟩
          have HN := Lib.hid hN
          have N9 : N ≤ 9 := by omega
          have BB := Lib.hid B512.out.2
          clear hN
          have HLEN := Lib.hid (show ∀ k, (b.take 480).drop (80 + k * 36) = (b.take 480).drop (80 + k * 36) from fun _ => rfl)
          clear HLEN
          go_loopw [12] (fun i wr => ∃ (k : Nat) (pa : Option Addr) (pq : Nat) (ra : Option Addr) (rc : Nat), k ≤ N ∧ i = .int .i64 (k : Int) ∧ GI w KC Z0 xb (XF (.slice pa k pq)) (.slice ra (400 - k * 36) rc) wr ∧ Rd w (.slice ra (400 - k * 36) rc) ((b.take 480).drop (80 + k * 36)) ∧ wr.ownsRow (xb + 2) 45 33 (.slice pa k pq) k (pcs (pgs b k))) (fun i _ => 9 - (intOf i).toNat)
          case atStart => exact ⟨0, none, 0, a11, c11, by omega, rfl, I14.out, S11.out, World.ownsRow_nil _ _ _ _⟩
          case round =>
            clear I14 S11
            obtain ⟨k, pa, pq, ra, rc, hkN, rfl, hi, hs, ho⟩ := hrel
            have I0 := Lib.hid hi
            have S0 := Lib.hid hs
            have O0 := Lib.hid ho
            clear hi hs ho
            have hk9 : k ≤ 9 := by omega
            by_cases hlt : k < N
            · have hkn : (k : Int) < (NP : Int) := by have := HN.out; omega
              have hk8 : (k : Int) ≤ 8 := by omega
              obtain ⟨AT, hAT⟩ : ∃ x, x = (pgAt b k).at_ := ⟨_, rfl⟩
              obtain ⟨SS, hSS⟩ : ∃ x, x = (pgAt b k).sum := ⟨_, rfl⟩
              have hpg := pgAt_ok B512.out (i := k) (by omega)
              have AT4 : AT < 4294967296 := by rw [hAT]; exact hpg.1
              have BSS := Lib.hid (show Bytes 32 SS by rw [hSS]; exact hpg.2)
              have SS32 := Lib.hid (show (row8 SS).length = 32 by rw [row8_len, BSS.out.1])
              have HPC := Lib.hid (show (.int .u32 (AT : Int)) :: row8 SS = pc (pgAt b k) by rw [hAT, hSS]; rfl)
              have HPL := Lib.hid (show ((.int .u32 (AT : Int)) :: row8 SS).length = 33 by rw [List.length_cons, row8_len, BSS.out.1])
              have HP1 := Lib.hid (show ∀ u ∈ ((.int .u32 (AT : Int)) :: row8 SS), u.oneCell' = true from fun u hu => by
                rcases List.mem_cons.1 hu with rfl | q
                · rfl
                · exact row8_one' _ u q)
              have aAT : IntKind.u32.wrap (AT : Int) = (AT : Int) := by rw [IntKind.wrap_u32]; omega
              obtain ⟨mA, hmA⟩ : ∃ x, x = 400 - k * 36 := ⟨_, rfl⟩
              obtain ⟨mB, hmB⟩ : ∃ x, x = 396 - k * 36 := ⟨_, rfl⟩
              obtain ⟨mC, hmC⟩ : ∃ x, x = 400 - (k + 1) * 36 := ⟨_, rfl⟩
              have HMC := Lib.hid hmC
              rw [← hmA] at I0 S0
              have hzRef := zeroRef
              have XL := Lib.hid (fun u => show (XF u).length = 68 from XFL.out u)
              have P1 := Lib.hid (Blk.new wr 45 zref wr.heap.size rfl)
              have bA := (Below.refl wr.heap.size wr).alloc (Nat.le_refl _) (.cells zref.toArray 45)
              have I1 := Lib.hid (I0.out.on bA)
              have O1 := Lib.hid (ownsT_on O0.out bA)
              clear bA
              have LB := Lib.hid (show xb + 1 < wr.heap.size from I0.out.rd.lt)
              have CN := Lib.hid (show ∀ W, GI w KC Z0 xb (XF (.slice pa k pq)) (.slice ra mA rc) W → Calls Tryd.prog 28 #[refv (.slice ra mA rc) 0, .int .i64 4] W (fun e w' => ∃ a c, e = .returned (.tuple #[refv (.slice a mB c) 0, .int .u64 (AT : Int)]) ∧ Rd w (.slice a mB c) ((b.take 480).drop (84 + k * 36)) ∧ Below W.heap.size W w') from fun W h => by
                rw [hAT]
                exact rnum_at H512.out w W h.bel _ (80 + k * 36) 4 (84 + k * 36) mB (by omega) (by omega) S0.out)
              have CS := Lib.hid (show ∀ W sv, Below w.heap.size w W → Rd w sv ((b.take 480).drop (84 + k * 36)) → Calls Tryd.prog 29 #[refv sv 0] W (fun e w' => ∃ a c, e = .returned (.tuple #[refv (.slice a mC c) 0, .agg (row8 SS).toArray]) ∧ Rd w (.slice a mC c) ((b.take 480).drop (80 + (k + 1) * 36)) ∧ Below W.heap.size W w') from fun W sv h hs => by
                rw [hSS]
                exact rsum_at H512.out w W h _ (84 + k * 36) (80 + (k + 1) * 36) mC (by omega) (by omega) hs)
              clear hAT hSS hpg hmA hmB hmC
              go_upto_region 20 with fail
              obtain ⟨pb, hpb⟩ : ∃ x, x = wr.heap.size := ⟨_, rfl⟩
              have HPB := Lib.hid hpb
              obtain ⟨wA, hwA⟩ : ∃ x, x = wr.alloc (.cells zref.toArray 45) := ⟨_, rfl⟩
              rw [← hwA] at P1 I1 O1 ⊢
              rw [← hpb] at P1 LB ⊢
              clear hwA hpb
              go_upto_region 21 with (first
                | (refine wpList_load_mid rfl 65 (.tmp 8) rfl (xb + 1) 0 rfl [.slice ra mA rc, .int .i64 0] _ I1.out.rd.range Tryd.underlying65 rfl infoRd ?_)
                | (go_at_call 28; (with_reducible refine (CN.out _ I1.out).mono ?_); rintro e wB ⟨a2, c2, rfl, s, bb⟩; have S2 := Lib.hid s; have I2 := Lib.hid (I1.out.on bb); have P2 := Lib.hid (P1.out.below bb P1.out.lt); have O2 := Lib.hid (ownsT_on O1.out bb); clear s bb)
                | (refine wpList_store_blk rfl 65 (.tmp 8) (.tmp 87) rfl (xb + 1) 0 [.slice a2 mB c2, .int .i64 0] rfl rfl 65 [.slice ra mA rc, .int .i64 0] I2.out.rd (Nat.le_refl _) infoRd (oneRd _ _ _ _) ?_; intro wC bl gl; rw [splice_all _ _ (by rfl)] at bl; have I3 := Lib.hid (I2.out.putR gl bl); have P3 := Lib.hid (P2.out.grown gl (fun e => by have := LB.out; have := Option.some.inj e; omega)); have O3 := Lib.hid (ownsT_turn O2.out gl (.inl (by omega))); clear bl gl))
              clear I1 P1 O1 I2 P2 O2
              go_upto_region 22 with (refine wpList_put1R rfl 43 (.tmp 91) (.tmp 90) rfl pb 0 (.int .u32 (AT : Int)) rfl rfl 45 zref P3.out (by rw [zref_len]; decide) infoU321 rfl rfl ?_; intro wD bx gx; have P4 := Lib.hid bx; have I4 := Lib.hid (I3.out.other gx (fun c e => by have := LB.out; have := Option.some.inj e; omega)); have O4 := Lib.hid (ownsT_turn2 O0.out O3.out gx (by rw [HPB.out]; exact Nat.le_refl _)); clear bx gx)
              clear I3 P3 O3
              go_upto_region 23 with (first
                | (refine wpList_load_mid rfl 65 (.tmp 8) rfl (xb + 1) 0 rfl [.slice a2 mB c2, .int .i64 0] _ I4.out.rd.range Tryd.underlying65 rfl infoRd ?_)
                | (go_at_call 29; (with_reducible refine (CS.out _ _ I4.out.bel S2.out).mono ?_); rintro e wE ⟨a3, c3, rfl, s, bb⟩; have S5 := Lib.hid s; have I5 := Lib.hid (I4.out.on bb); have P5 := Lib.hid (P4.out.below bb P4.out.lt); have O5 := Lib.hid (ownsT_on O4.out bb); clear s bb)
                | (refine wpList_store_blk rfl 65 (.tmp 8) (.tmp 95) rfl (xb + 1) 0 [.slice a3 mC c3, .int .i64 0] rfl rfl 65 [.slice a2 mB c2, .int .i64 0] I5.out.rd (Nat.le_refl _) infoRd (oneRd _ _ _ _) ?_; intro wF bl gl; rw [splice_all _ _ (by rfl)] at bl; have I6 := Lib.hid (I5.out.putR gl bl); have P6 := Lib.hid (P5.out.grown gl (fun e => by have := LB.out; have := Option.some.inj e; omega)); have O6 := Lib.hid (ownsT_turn O5.out gl (.inl (by omega))); clear bl gl)
                | (refine wpList_store_blk rfl 24 (.tmp 97) (.tmp 96) rfl pb 1 (row8 SS) rfl rfl 45 (zref.set 0 (.int .u32 (AT : Int))) P6.out (by rw [SS32.out, List.length_set, zref_len]; decide) (by rw [SS32.out]; exact infoS) (row8_one _) ?_; intro wG bl gl; rw [page_put _ BSS.out] at bl; have P7 := Lib.hid bl; have I7 := Lib.hid (I6.out.other gl (fun c e => by have := LB.out; have := Option.some.inj e; omega)); have O7 := Lib.hid (ownsT_turn2 O0.out O6.out gl (by rw [HPB.out]; exact Nat.le_refl _)); clear bl gl))
              clear I4 P4 O4 I5 P5 O5 I6 P6 O6 S2 CN CS
              have c67 := I7.out.x.cell 67 _ (XFP.out _)
              have IW := Lib.hid (I7.out.on ((Below.refl wG.heap.size wG).alloc (Nat.le_refl _) (.cells ((.int .u32 (AT : Int)) :: row8 SS).toArray 45)))
              have OW := Lib.hid (ownsT_on O7.out ((Below.refl wG.heap.size wG).alloc (Nat.le_refl _) (.cells ((.int .u32 (AT : Int)) :: row8 SS).toArray 45)))
              have ONE := Lib.hid (rdT_one wG 45 ((.int .u32 (AT : Int)) :: row8 SS) 33 HPL.out)
              have OL := Lib.hid (fun g hg => (World.ownsRow.lt O7.out g hg).1)
              go_wp2_with (first
                | (refine wpList_load_mid rfl 45 (.tmp 13) rfl pb 0 rfl ((.int .u32 (AT : Int)) :: row8 SS) _ P7.out.range Tryd.underlying45 rfl (by rw [HPL.out]; exact infoRef33) ?_)
                | (refine wpList_oneT rfl (.tmp 100) 25 45 33 36 zref ((.int .u32 (AT : Int)) :: row8 SS) rfl Tryd.underlying25 infoRef (by decide) (by decide) HPL.out rfl ?_)
                | (refine wpList_appT rfl (.tmp 99) (.tmp 101) 25 45 33 36 zref rfl Tryd.underlying25 infoRef zref_len (by decide) (by decide) (xb + 2) (.slice pa k pq) (.slice (some ⟨wG.heap.size, 0, none⟩) 1 1) k 1 (pcs (pgs b k)) ((.int .u32 (AT : Int)) :: row8 SS) rfl rfl OW.out ONE.out HP1.out (by omega) (by have := IW.out.rd.lt; omega) ?_; intro vH wH oH gH _; obtain ⟨pa2, pq2, hsh, _⟩ := (owned_rd oH).shape; subst hsh; have O8 := Lib.hid oH; have I8 := Lib.hid (IW.out.other gH (fun c e => by have := OL.out c e; omega)); clear oH gH c67)
                | (refine wpList_put1R rfl 25 (.tmp 103) (.tmp 102) rfl xb 67 (.slice pa2 (k + 1) pq2) rfl rfl 27 (XF (.slice pa k pq)) I8.out.x (by rw [XFL.out]; decide) infoRefs1 rfl rfl ?_; intro wJ bx gx; rw [XFS.out] at bx; have I9 := Lib.hid (I8.out.putX gx bx); have O9 := Lib.hid (ownsT_turn O8.out gx (.inl (by omega))); clear bx gx))
              rw [HPC.out, ← pgs_next] at O9
              rw [HMC.out] at I9 S5
              exact ⟨⟨k + 1, pa2, pq2, a3, c3, by omega, by go_num, I9.out, S5.out, O9.out⟩, by simp [intOf]; omega⟩
            · obtain rfl : k = N := by omega
              have hNN := HN.out
              have HPG := Lib.hid (show (reads b).pages = pgs b k by
                show (List.range (min (gb b 79) 9)).map (pgAt b) = pgs b k
                unfold pgs
                rw [← HNP.out, ← hNN])
              have HPT := Lib.hid (show Calls Tryd.prog 12 #[.agg (XF (.slice pa k pq)).toArray, .agg KC.toArray] wr (fun e w' => ∃ u, e = .returned (.tuple #[u, .int .i64 (perr (reads b))]) ∧ Own w' wr.heap.size u (put (reads b) key) ∧ Below wr.heap.size wr w') by
                rw [HXF.out, HKC.out]
                exact rrput_any (reads b) HR.out key HKY.out _ wr (by rw [HPG.out, pgs_len]; exact owned_rd O0.out) (HT.out.below I0.out.bel))
              have HLOW := Lib.hid (show w.heap.size + 1 < xb + 2 by have := I0.out.lo; omega)
              have hqq : ((k : Int) < (NP : Int) ∧ 8 < (k : Int)) ∨ ¬ (k : Int) < (NP : Int) := by omega
              clear hNN
              rcases hqq with ⟨q1, q2⟩ | q1
              · go_upto_region 24 with fail
                cases hm : may (reads b) with
                | false =>
                  have HF := Lib.hid (HNO.out 4 (got_bad H512.out HSE.out (.inl hm)))
                  rw [(put_no hm key).2] at HPT
                  clear hm HYES HNO
                  go_wp2_with ((fail_if_success (with_reducible show bodyPost _ _ _ _ _ _)); first
                    | (refine wpList_load_mid rfl 27 (.tmp 7) rfl xb 0 rfl (XF (.slice pa k pq)) _ I0.out.x.range Tryd.underlying27 rfl (by rw [XFL.out]; exact infoRtC) ?_)
                    | (refine wpList_load_mid rfl 28 (.tmp 3) rfl w.heap.size 0 rfl KC _ I0.out.key.range Tryd.underlying28 rfl (by rw [K32.out]; exact infoKeyR) ?_)
                    | (go_at_call 12; (with_reducible refine HPT.out.mono ?_); rintro e w7 ⟨u7, rfl, o7, b7⟩; have I7 := Lib.hid (I0.out.on b7); have O7 := Lib.hid (ownsT_on O0.out b7); clear o7 b7)
                    | (refine wpList_wanted rfl (.agg Z0.toArray) (ex_build rfl hbz) ?_)
                    | (refine wpList_store_blk rfl 27 (.tmp 4) (.tmp 119) rfl (w.heap.size + 1) 0 Z0 rfl rfl 27 Z0 I7.out.res (Nat.le_of_eq (by simp only [Z68.out, Nat.zero_add])) (by rw [Z68.out]; exact infoRtC) Z1.out ?_; intro w8 b8 g8; rw [splice_all _ _ (by simp only [Z68.out])] at b8; have X8 := Lib.hid b8; have W8 := Lib.hid (I7.out.bel.grown g8 I7.out.bel.size (fun g hg => by have := Option.some.inj hg; omega)); have O8 := Lib.hid (ownsT_turn O7.out g8 (.inl HLOW.out)); clear b8 g8))
                  refine bodyPost_ret (HRET.out _ rfl _ Z0 Z68.out _ X8.out rfl) rfl ?_
                  exact HF.out _ W8.out
                | true =>
                  rw [(put_yes hm key).1, (put_yes hm key).2] at HPT
                  have HM8 := (may_iff.1 hm).2.2.2.1
                  have HLL := Lib.hid (lay_len HR.out HM8 key)
                  have HLB := Lib.hid (show ∀ k, gb (lay (reads b) key) k < 256 from lay_byte HR.out hm key)
                  obtain ⟨SL, hSL⟩ : ∃ S, S = bstr (lay (reads b) key) := ⟨_, rfl⟩
                  obtain ⟨SB, hSB⟩ : ∃ S, S = bstr b := ⟨_, rfl⟩
                  have HSL := Lib.hid hSL.symm
                  have HSB := Lib.hid hSB.symm
                  by_cases heq : lay (reads b) key = b
                  · have HF := Lib.hid (HYES.out (got_yes H512.out HSE.out hm heq))
                    have HNQ2 := Lib.hid (fun W => (show (binOp .neq 9 (.string SL) (.string SB)).run Tryd.prog W = .ok (.bool false) W by rw [run_neq_str, hSL, hSB, heq]; simp))
                    clear hm HYES HNO heq hSL hSB HM8
                    go_wp2_with ((fail_if_success (with_reducible show bodyPost _ _ _ _ _ _)); first
                      | (refine wpList_load_mid rfl 27 (.tmp 7) rfl xb 0 rfl (XF (.slice pa k pq)) _ I0.out.x.range Tryd.underlying27 rfl (by rw [XFL.out]; exact infoRtC) ?_)
                      | (refine wpList_load_mid rfl 28 (.tmp 3) rfl w.heap.size 0 rfl KC _ I0.out.key.range Tryd.underlying28 rfl (by rw [K32.out]; exact infoKeyR) ?_)
                      | (go_at_call 12; (with_reducible refine HPT.out.mono ?_); rintro e w7 ⟨u7, rfl, o7, b7⟩; have I7 := Lib.hid (I0.out.on b7); have O7 := Lib.hid (ownsT_on O0.out b7); obtain ⟨ua, uc, rfl, _⟩ := o7.rd.shape; rw [HLL.out] at o7 ⊢; have U7 := Lib.hid o7.rd; clear o7 b7)
                      | (refine wpList_wanted rfl (.string SL) (ex_convert (x := .tmp 113) rfl rfl (by rw [← HSL.out]; exact U7.out.str)) ?_)
                      | (refine wpList_wanted rfl (.string SB) (ex_convert (x := .tmp 115) rfl rfl (by rw [← HSB.out]; exact (HV.out.below I7.out.bel).str)) ?_)
                      | (refine wpList_wanted rfl (.bool false) (ex_binOp (x := .tmp 114) (y := .tmp 116) (b := .neq) (t := 9) rfl rfl rfl (by go_simp) (HNQ2.out _)) ?_)
                      | (refine wpList_load_mid rfl 27 (.tmp 7) rfl xb 0 rfl (XF (.slice pa k pq)) _ I7.out.x.range Tryd.underlying27 rfl (by rw [XFL.out]; exact infoRtC) ?_)
                      | (refine wpList_store_blk rfl 27 (.tmp 4) (.tmp 120) rfl (w.heap.size + 1) 0 (XF (.slice pa k pq)) rfl rfl 27 Z0 I7.out.res (Nat.le_of_eq (by simp only [XFL.out, Z68.out, Nat.zero_add])) (by rw [XFL.out]; exact infoRtC) (XF1.out _ _ _) ?_; intro w8 b8 g8; rw [splice_all _ _ (by simp only [XFL.out, Z68.out])] at b8; have X8 := Lib.hid b8; have W8 := Lib.hid (I7.out.bel.grown g8 I7.out.bel.size (fun g hg => by have := Option.some.inj hg; omega)); have O8 := Lib.hid (ownsT_turn O7.out g8 (.inl HLOW.out)); clear b8 g8))
                    refine bodyPost_ret (HRET.out _ rfl _ (XF (.slice pa k pq)) (XFL.out _) _ X8.out rfl) rfl ?_
                    have h := HF.out (.slice pa k pq) _ (by rw [HPG.out, pgs_len]; exact ownT_lower O8.out (by have := HLOW.out; omega)) W8.out
                    rw [← HXF.out] at h
                    exact h
                  · have HF := Lib.hid (HNO.out 4 (got_bad H512.out HSE.out (.inr heq)))
                    have HNQ2 := Lib.hid (fun W => (show (binOp .neq 9 (.string SL) (.string SB)).run Tryd.prog W = .ok (.bool true) W by rw [run_neq_str, hSL, hSB, decide_eq_false (fun e => heq ((bstr_iff HLB.out BB.out).1 e))]; rfl))
                    clear hm HYES HNO heq hSL hSB HM8
                    go_wp2_with ((fail_if_success (with_reducible show bodyPost _ _ _ _ _ _)); first
                      | (refine wpList_load_mid rfl 27 (.tmp 7) rfl xb 0 rfl (XF (.slice pa k pq)) _ I0.out.x.range Tryd.underlying27 rfl (by rw [XFL.out]; exact infoRtC) ?_)
                      | (refine wpList_load_mid rfl 28 (.tmp 3) rfl w.heap.size 0 rfl KC _ I0.out.key.range Tryd.underlying28 rfl (by rw [K32.out]; exact infoKeyR) ?_)
                      | (go_at_call 12; (with_reducible refine HPT.out.mono ?_); rintro e w7 ⟨u7, rfl, o7, b7⟩; have I7 := Lib.hid (I0.out.on b7); have O7 := Lib.hid (ownsT_on O0.out b7); obtain ⟨ua, uc, rfl, _⟩ := o7.rd.shape; rw [HLL.out] at o7 ⊢; have U7 := Lib.hid o7.rd; clear o7 b7)
                      | (refine wpList_wanted rfl (.string SL) (ex_convert (x := .tmp 113) rfl rfl (by rw [← HSL.out]; exact U7.out.str)) ?_)
                      | (refine wpList_wanted rfl (.string SB) (ex_convert (x := .tmp 115) rfl rfl (by rw [← HSB.out]; exact (HV.out.below I7.out.bel).str)) ?_)
                      | (refine wpList_wanted rfl (.bool true) (ex_binOp (x := .tmp 114) (y := .tmp 116) (b := .neq) (t := 9) rfl rfl rfl (by go_simp) (HNQ2.out _)) ?_)
                      | (refine wpList_wanted rfl (.agg Z0.toArray) (ex_build rfl hbz) ?_)
                      | (refine wpList_store_blk rfl 27 (.tmp 4) (.tmp 119) rfl (w.heap.size + 1) 0 Z0 rfl rfl 27 Z0 I7.out.res (Nat.le_of_eq (by simp only [Z68.out, Nat.zero_add])) (by rw [Z68.out]; exact infoRtC) Z1.out ?_; intro w8 b8 g8; rw [splice_all _ _ (by simp only [Z68.out])] at b8; have X8 := Lib.hid b8; have W8 := Lib.hid (I7.out.bel.grown g8 I7.out.bel.size (fun g hg => by have := Option.some.inj hg; omega)); have O8 := Lib.hid (ownsT_turn O7.out g8 (.inl HLOW.out)); clear b8 g8))
                    refine bodyPost_ret (HRET.out _ rfl _ Z0 Z68.out _ X8.out rfl) rfl ?_
                    exact HF.out _ W8.out
              · go_upto_region 24 with fail
                cases hm : may (reads b) with
                | false =>
                  have HF := Lib.hid (HNO.out 4 (got_bad H512.out HSE.out (.inl hm)))
                  rw [(put_no hm key).2] at HPT
                  clear hm HYES HNO
                  go_wp2_with ((fail_if_success (with_reducible show bodyPost _ _ _ _ _ _)); first
                    | (refine wpList_load_mid rfl 27 (.tmp 7) rfl xb 0 rfl (XF (.slice pa k pq)) _ I0.out.x.range Tryd.underlying27 rfl (by rw [XFL.out]; exact infoRtC) ?_)
                    | (refine wpList_load_mid rfl 28 (.tmp 3) rfl w.heap.size 0 rfl KC _ I0.out.key.range Tryd.underlying28 rfl (by rw [K32.out]; exact infoKeyR) ?_)
                    | (go_at_call 12; (with_reducible refine HPT.out.mono ?_); rintro e w7 ⟨u7, rfl, o7, b7⟩; have I7 := Lib.hid (I0.out.on b7); have O7 := Lib.hid (ownsT_on O0.out b7); clear o7 b7)
                    | (refine wpList_wanted rfl (.agg Z0.toArray) (ex_build rfl hbz) ?_)
                    | (refine wpList_store_blk rfl 27 (.tmp 4) (.tmp 119) rfl (w.heap.size + 1) 0 Z0 rfl rfl 27 Z0 I7.out.res (Nat.le_of_eq (by simp only [Z68.out, Nat.zero_add])) (by rw [Z68.out]; exact infoRtC) Z1.out ?_; intro w8 b8 g8; rw [splice_all _ _ (by simp only [Z68.out])] at b8; have X8 := Lib.hid b8; have W8 := Lib.hid (I7.out.bel.grown g8 I7.out.bel.size (fun g hg => by have := Option.some.inj hg; omega)); have O8 := Lib.hid (ownsT_turn O7.out g8 (.inl HLOW.out)); clear b8 g8))
                  refine bodyPost_ret (HRET.out _ rfl _ Z0 Z68.out _ X8.out rfl) rfl ?_
                  exact HF.out _ W8.out
                | true =>
                  rw [(put_yes hm key).1, (put_yes hm key).2] at HPT
                  have HM8 := (may_iff.1 hm).2.2.2.1
                  have HLL := Lib.hid (lay_len HR.out HM8 key)
                  have HLB := Lib.hid (show ∀ k, gb (lay (reads b) key) k < 256 from lay_byte HR.out hm key)
                  obtain ⟨SL, hSL⟩ : ∃ S, S = bstr (lay (reads b) key) := ⟨_, rfl⟩
                  obtain ⟨SB, hSB⟩ : ∃ S, S = bstr b := ⟨_, rfl⟩
                  have HSL := Lib.hid hSL.symm
                  have HSB := Lib.hid hSB.symm
                  by_cases heq : lay (reads b) key = b
                  · have HF := Lib.hid (HYES.out (got_yes H512.out HSE.out hm heq))
                    have HNQ2 := Lib.hid (fun W => (show (binOp .neq 9 (.string SL) (.string SB)).run Tryd.prog W = .ok (.bool false) W by rw [run_neq_str, hSL, hSB, heq]; simp))
                    clear hm HYES HNO heq hSL hSB HM8
                    go_wp2_with ((fail_if_success (with_reducible show bodyPost _ _ _ _ _ _)); first
                      | (refine wpList_load_mid rfl 27 (.tmp 7) rfl xb 0 rfl (XF (.slice pa k pq)) _ I0.out.x.range Tryd.underlying27 rfl (by rw [XFL.out]; exact infoRtC) ?_)
                      | (refine wpList_load_mid rfl 28 (.tmp 3) rfl w.heap.size 0 rfl KC _ I0.out.key.range Tryd.underlying28 rfl (by rw [K32.out]; exact infoKeyR) ?_)
                      | (go_at_call 12; (with_reducible refine HPT.out.mono ?_); rintro e w7 ⟨u7, rfl, o7, b7⟩; have I7 := Lib.hid (I0.out.on b7); have O7 := Lib.hid (ownsT_on O0.out b7); obtain ⟨ua, uc, rfl, _⟩ := o7.rd.shape; rw [HLL.out] at o7 ⊢; have U7 := Lib.hid o7.rd; clear o7 b7)
                      | (refine wpList_wanted rfl (.string SL) (ex_convert (x := .tmp 113) rfl rfl (by rw [← HSL.out]; exact U7.out.str)) ?_)
                      | (refine wpList_wanted rfl (.string SB) (ex_convert (x := .tmp 115) rfl rfl (by rw [← HSB.out]; exact (HV.out.below I7.out.bel).str)) ?_)
                      | (refine wpList_wanted rfl (.bool false) (ex_binOp (x := .tmp 114) (y := .tmp 116) (b := .neq) (t := 9) rfl rfl rfl (by go_simp) (HNQ2.out _)) ?_)
                      | (refine wpList_load_mid rfl 27 (.tmp 7) rfl xb 0 rfl (XF (.slice pa k pq)) _ I7.out.x.range Tryd.underlying27 rfl (by rw [XFL.out]; exact infoRtC) ?_)
                      | (refine wpList_store_blk rfl 27 (.tmp 4) (.tmp 120) rfl (w.heap.size + 1) 0 (XF (.slice pa k pq)) rfl rfl 27 Z0 I7.out.res (Nat.le_of_eq (by simp only [XFL.out, Z68.out, Nat.zero_add])) (by rw [XFL.out]; exact infoRtC) (XF1.out _ _ _) ?_; intro w8 b8 g8; rw [splice_all _ _ (by simp only [XFL.out, Z68.out])] at b8; have X8 := Lib.hid b8; have W8 := Lib.hid (I7.out.bel.grown g8 I7.out.bel.size (fun g hg => by have := Option.some.inj hg; omega)); have O8 := Lib.hid (ownsT_turn O7.out g8 (.inl HLOW.out)); clear b8 g8))
                    refine bodyPost_ret (HRET.out _ rfl _ (XF (.slice pa k pq)) (XFL.out _) _ X8.out rfl) rfl ?_
                    have h := HF.out (.slice pa k pq) _ (by rw [HPG.out, pgs_len]; exact ownT_lower O8.out (by have := HLOW.out; omega)) W8.out
                    rw [← HXF.out] at h
                    exact h
                  · have HF := Lib.hid (HNO.out 4 (got_bad H512.out HSE.out (.inr heq)))
                    have HNQ2 := Lib.hid (fun W => (show (binOp .neq 9 (.string SL) (.string SB)).run Tryd.prog W = .ok (.bool true) W by rw [run_neq_str, hSL, hSB, decide_eq_false (fun e => heq ((bstr_iff HLB.out BB.out).1 e))]; rfl))
                    clear hm HYES HNO heq hSL hSB HM8
                    go_wp2_with ((fail_if_success (with_reducible show bodyPost _ _ _ _ _ _)); first
                      | (refine wpList_load_mid rfl 27 (.tmp 7) rfl xb 0 rfl (XF (.slice pa k pq)) _ I0.out.x.range Tryd.underlying27 rfl (by rw [XFL.out]; exact infoRtC) ?_)
                      | (refine wpList_load_mid rfl 28 (.tmp 3) rfl w.heap.size 0 rfl KC _ I0.out.key.range Tryd.underlying28 rfl (by rw [K32.out]; exact infoKeyR) ?_)
                      | (go_at_call 12; (with_reducible refine HPT.out.mono ?_); rintro e w7 ⟨u7, rfl, o7, b7⟩; have I7 := Lib.hid (I0.out.on b7); have O7 := Lib.hid (ownsT_on O0.out b7); obtain ⟨ua, uc, rfl, _⟩ := o7.rd.shape; rw [HLL.out] at o7 ⊢; have U7 := Lib.hid o7.rd; clear o7 b7)
                      | (refine wpList_wanted rfl (.string SL) (ex_convert (x := .tmp 113) rfl rfl (by rw [← HSL.out]; exact U7.out.str)) ?_)
                      | (refine wpList_wanted rfl (.string SB) (ex_convert (x := .tmp 115) rfl rfl (by rw [← HSB.out]; exact (HV.out.below I7.out.bel).str)) ?_)
                      | (refine wpList_wanted rfl (.bool true) (ex_binOp (x := .tmp 114) (y := .tmp 116) (b := .neq) (t := 9) rfl rfl rfl (by go_simp) (HNQ2.out _)) ?_)
                      | (refine wpList_wanted rfl (.agg Z0.toArray) (ex_build rfl hbz) ?_)
                      | (refine wpList_store_blk rfl 27 (.tmp 4) (.tmp 119) rfl (w.heap.size + 1) 0 Z0 rfl rfl 27 Z0 I7.out.res (Nat.le_of_eq (by simp only [Z68.out, Nat.zero_add])) (by rw [Z68.out]; exact infoRtC) Z1.out ?_; intro w8 b8 g8; rw [splice_all _ _ (by simp only [Z68.out])] at b8; have X8 := Lib.hid b8; have W8 := Lib.hid (I7.out.bel.grown g8 I7.out.bel.size (fun g hg => by have := Option.some.inj hg; omega)); have O8 := Lib.hid (ownsT_turn O7.out g8 (.inl HLOW.out)); clear b8 g8))
                    refine bodyPost_ret (HRET.out _ rfl _ Z0 Z68.out _ X8.out rfl) rfl ?_
                    exact HF.out _ W8.out
  · have HF := Lib.hid (HNO.out 4 (got_short (fun e => hlen (HBL.out.trans e)) key))
    have hl2 : ¬ ((bl : Int) = 512) := by omega
    have hl3 : ((bl : Int) == 512) = false := by simpa using hl2
    have hl4 : ((bl : Int) != 512) = true := by simpa using hl2
    go_enter Tryd.func16, Tryd.ntmps16
    go_upto_region 2 with fail
    rw [← hw1]
    clear hw1
    go_wp2_with ((fail_if_success (with_reducible show bodyPost _ _ _ _ _ _)); first
      | (refine wpList_wanted rfl (.agg Z0.toArray) (ex_build rfl hbz) ?_)
      | (refine wpList_store_blk rfl 27 (.tmp 4) (.tmp 20) rfl (w.heap.size + 1) 0 Z0 rfl rfl 27 Z0 X1.out (Nat.le_of_eq (Nat.zero_add _)) (by rw [Z68.out]; exact infoRtC) Z1.out ?_; intro w8 b8 g8; rw [splice_all _ _ rfl] at b8; have X8 := Lib.hid b8; have W8 := Lib.hid (W1.out.grown g8 W1.out.size (fun g hg => by have := Option.some.inj hg; omega)); clear b8 g8))
    refine bodyPost_ret (HRET.out _ rfl _ Z0 Z68.out _ X8.out rfl) rfl ?_
    exact HF.out _ W8.out
end Go.Proofs.YtenigdbnfepkeaaDoor
/- The newer of two roots, by the document's answer: contract. Own work. -/
namespace Go.Proofs.YtenigdbnfepkeaaDoor
open Go.ChangeShapes Go.WideShapes Go.ChangeAt Go.RowKit
namespace RT
/-- Is it the second one? -/
def second (a b key : List Nat) : Bool := decide (gerr a key ≠ 0) || (decide (gerr b key = 0) && decide ((got a key).ver < (got b key).ver))
def none2 (a b key : List Nat) : Bool := decide (gerr a key ≠ 0) && decide (gerr b key ≠ 0)
def newest (a b key : List Nat) : Rt := if none2 a b key = true then zero else if second a b key = true then got b key else got a key
def newAt (a b key : List Nat) : Int := if none2 a b key = true then 0 else if second a b key = true then 1 else 0
def newErr (a b key : List Nat) : Int := if none2 a b key = true then 40 else 0
theorem got_ok {b : List Nat} (h : ∀ k, gb b k < 256) (key : List Nat) : Ok (got b key) := by
  unfold got
  split
  · rename_i q
    refine reads_ok ⟨?_, h⟩
    unfold okG at q
    rw [Bool.and_eq_true, decide_eq_true_iff] at q
    exact q.1
  · exact zero_ok
end RT
open RT
theorem results_mid3R {P : Program} {fn : Func} {p t t2 : Tmp} {ty : TypeId} (h : fn.results = #[.cell p ty, .tmp t, .tmp t2]) (tmps : Array Value) (w : World) (b : Nat) (cs : List Value) (d : TypeDesc)
    (hp : tmps.getD p undef = .pointer (some ⟨b, 0, none⟩)) (hr : w.rangeAt b 0 cs) (hu : P.underlying ty = some d) (hd : d.isRow = true) (hi : (P.info? ty).map (·.size) = some cs.length) :
    (results fn tmps).run P w = .ok (.tuple #[.agg cs.toArray, tmps.getD t undef, tmps.getD t2 undef]) w := by
  have hp' : tmps[p]?.getD undef = .pointer (some ⟨b, 0, none⟩) := by simpa using hp
  simp [results, h, hp', asAddr, run_loadVar_mid w b 0 ty cs d hr hu hd hi]
set_option maxRecDepth 100000 in
set_option maxHeartbeats 4000000 in
theorem rrnewest_any (a b key : List Nat) (hkey : Bytes 32 key) (u v : Value) (w : World) (hu : Rd w u a) (hv : Rd w v b) (ht : Tab w) : Calls Tryd.prog 18 #[u, v, .agg (row8 key).toArray] w fun e w' => ∃ pv, e = .returned (.tuple #[.agg (rtc (newest a b key) pv).toArray, .int .i64 (newAt a b key), .int .i64 (newErr a b key)]) ∧ w'.ownsRow w.heap.size 45 33 pv (newest a b key).pages.length (pcs (newest a b key).pages) ∧ Below w.heap.size w w' := by
  obtain ⟨ua, uc, rfl, _⟩ := hu.shape
  obtain ⟨va, vc, rfl, _⟩ := hv.shape
  have HU := Lib.hid hu
  have HV := Lib.hid hv
  have HT := Lib.hid ht
  have HKY := Lib.hid hkey
  have OA := Lib.hid (got_ok hu.byte key)
  have OB := Lib.hid (got_ok hv.byte key)
  obtain ⟨G, hG⟩ : ∃ G : Ending → World → Prop, G = fun e w' => ∃ pv, e = .returned (.tuple #[.agg (rtc (newest a b key) pv).toArray, .int .i64 (newAt a b key), .int .i64 (newErr a b key)]) ∧ w'.ownsRow w.heap.size 45 33 pv (newest a b key).pages.length (pcs (newest a b key).pages) ∧ Below w.heap.size w w' := ⟨_, rfl⟩
  obtain ⟨un, hun⟩ : ∃ x, x = a.length := ⟨_, rfl⟩
  obtain ⟨vn, hvn⟩ : ∃ x, x = b.length := ⟨_, rfl⟩
  obtain ⟨KC, hKC⟩ : ∃ L, L = row8 key := ⟨_, rfl⟩
  obtain ⟨Z0, hZ0⟩ : ∃ L, L = rtc zero (.slice none 0 0) := ⟨_, rfl⟩
  have hz : ∀ w, (zeroValue 27).run Tryd.prog w = .ok (.agg Z0.toArray) w := by rw [hZ0]; exact zeroRt
  have hbz : Tryd.prog.built 27 [] = some Z0.toArray := by rw [hZ0]; exact builtRt
  have Z68 := Lib.hid (show Z0.length = 68 by rw [hZ0]; exact rtc_len zero_ok _)
  have Z1 := Lib.hid (show Z0.toArray.all (·.oneCell') = true by rw [hZ0]; exact rtc_one _ _ _)
  have K32 := Lib.hid (show KC.length = 32 by rw [hKC, row8_len, hkey.1])
  have HG := Lib.hid (show ∀ R at_ er pv W, newest a b key = R → newAt a b key = at_ → newErr a b key = er → World.ownsRow W w.heap.size 45 33 pv R.pages.length (pcs R.pages) → Below w.heap.size w W → G (.returned (.tuple #[.agg (rtc R pv).toArray, .int .i64 at_, .int .i64 er])) W from by
    intro R at_ er pv W h1 h2 h3 h4 h5
    rw [hG]; subst h1; subst h2; subst h3
    exact ⟨pv, rfl, h4, h5⟩)
  have HZ0 := Lib.hid hZ0
  have HA := Lib.hid (show ∀ W, Below w.heap.size w W → Calls Tryd.prog 16 #[.slice ua un uc, .agg KC.toArray] W (fun e w' => ∃ pv, e = .returned (.tuple #[.agg (rtc (got a key) pv).toArray, .int .i64 (gerr a key)]) ∧ w'.ownsRow W.heap.size 45 33 pv (got a key).pages.length (pcs (got a key).pages) ∧ Below W.heap.size W w') from fun W hW => by
    rw [hKC, hun]; exact rrget_any a key hkey _ W (hu.below hW) (ht.below hW))
  have HB := Lib.hid (show ∀ W, Below w.heap.size w W → Calls Tryd.prog 16 #[.slice va vn vc, .agg KC.toArray] W (fun e w' => ∃ pv, e = .returned (.tuple #[.agg (rtc (got b key) pv).toArray, .int .i64 (gerr b key)]) ∧ w'.ownsRow W.heap.size 45 33 pv (got b key).pages.length (pcs (got b key).pages) ∧ Below W.heap.size W w') from fun W hW => by
    rw [hKC, hvn]; exact rrget_any b key hkey _ W (hv.below hW) (ht.below hW))
  rw [← hG, ← hun, ← hvn, ← hKC]
  obtain ⟨RA, hRA⟩ : ∃ x, x = got a key := ⟨_, rfl⟩
  obtain ⟨RB, hRB⟩ : ∃ x, x = got b key := ⟨_, rfl⟩
  obtain ⟨ea, hea⟩ : ∃ x, x = gerr a key := ⟨_, rfl⟩
  obtain ⟨eb, heb⟩ : ∃ x, x = gerr b key := ⟨_, rfl⟩
  have H2 := Lib.hid (show ea ≠ 0 → eb ≠ 0 → newest a b key = zero ∧ newAt a b key = 0 ∧ newErr a b key = 40 from fun h1 h2 => by
    have q : none2 a b key = true := by unfold none2; rw [← hea, ← heb, decide_eq_true h1, decide_eq_true h2]; rfl
    unfold newest newAt newErr; rw [q]; exact ⟨rfl, rfl, rfl⟩)
  have HS := Lib.hid (show (ea ≠ 0 ∧ eb = 0) ∨ (ea = 0 ∧ eb = 0 ∧ RA.ver < RB.ver) → newest a b key = RB ∧ newAt a b key = 1 ∧ newErr a b key = 0 from fun h => by
    have q : none2 a b key = false := by
      unfold none2; rw [← hea, ← heb]
      rcases h with h | h
      · rw [show decide (eb ≠ 0) = false from decide_eq_false (fun e => e h.2)]; simp
      · rw [show decide (ea ≠ 0) = false from decide_eq_false (fun e => e h.1)]; simp
    have q2 : second a b key = true := by
      unfold second; rw [← hea, ← heb, ← hRA, ← hRB]
      rcases h with h | h
      · rw [decide_eq_true h.1]; rfl
      · rw [decide_eq_true h.2.1, decide_eq_true h.2.2]; simp
    unfold newest newAt newErr; rw [q, q2, ← hRB]; exact ⟨rfl, rfl, rfl⟩)
  have HF := Lib.hid (show ea = 0 → (eb ≠ 0 ∨ ¬ RA.ver < RB.ver) → newest a b key = RA ∧ newAt a b key = 0 ∧ newErr a b key = 0 from fun h1 h => by
    have q : none2 a b key = false := by
      unfold none2; rw [← hea, ← heb, decide_eq_false (fun e => e h1)]; simp
    have q2 : second a b key = false := by
      unfold second; rw [← hea, ← heb, ← hRA, ← hRB, decide_eq_false (fun e => e h1)]
      rcases h with h | h
      · rw [decide_eq_false h]; rfl
      · rw [decide_eq_false h]; simp
    unfold newest newAt newErr; rw [q, q2, ← hRA]; exact ⟨rfl, rfl, rfl⟩)
  rw [← hRA] at OA
  rw [← hRB] at OB
  rw [← hRA, ← hea] at HA
  rw [← hRB, ← heb] at HB
  clear hG hun hvn hKC hZ0 hu hv ht hkey hRA hRB hea heb
  have LA := Lib.hid (fun q => show (rtc RA q).length = 68 from rtc_len OA.out q)
  have LB := Lib.hid (fun q => show (rtc RB q).length = 68 from rtc_len OB.out q)
  obtain ⟨w1, hw1⟩ : ∃ x, x = (w.alloc (.cells KC.toArray 28)).alloc (.cells Z0.toArray 27) := ⟨_, rfl⟩
  have W1 := Lib.hid (show Below w.heap.size w w1 by rw [hw1]; exact ((Below.refl w.heap.size w).alloc (Nat.le_refl _) _).alloc (by simp) _)
  have K1 := Lib.hid (show Blk w1 w.heap.size 28 KC by rw [hw1]; exact (Blk.new w 28 KC _ rfl).alloc _)
  have X1 := Lib.hid (show Blk w1 (w.heap.size + 1) 27 Z0 by rw [hw1]; exact Blk.new _ 27 Z0 _ (by simp))
  go_enter Tryd.func18, Tryd.ntmps18
  go_upto_region 1 with fail
  rw [← hw1]
  clear hw1
  go_upto_region 2 with (first
    | (refine wpList_load_mid rfl 28 (.tmp 5) rfl w.heap.size 0 rfl KC _ K1.out.range Tryd.underlying28 rfl (by rw [K32.out]; exact infoKeyR) ?_)
    | (go_at_call 16; (with_reducible refine (HA.out _ W1.out).mono ?_); rintro e w2 ⟨pa, rfl, o2, b2⟩; obtain ⟨pp, pq, hsh, _⟩ := (owned_rd o2).shape; subst hsh; have P2 := Lib.hid (ownT_lower o2 W1.out.size); have W2 := Lib.hid (W1.out.on b2); have K2 := Lib.hid (K1.out.below b2 K1.out.lt); have X2 := Lib.hid (X1.out.below b2 X1.out.lt); have PL := Lib.hid (show ∀ g, (Value.slice pp RA.pages.length pq).ownBlock = some g → w.heap.size + 1 < g from fun g hg => by have := (World.ownsRow.lt o2 g hg).1; have := X1.out.lt; omega); have N2 := Lib.hid (Blk.new w2 27 Z0 w2.heap.size rfl); clear o2 b2)
    | (refine wpList_store_blk rfl 27 (.tmp 9) (.tmp 17) rfl w2.heap.size 0 (rtc RA (.slice pp RA.pages.length pq)) rfl rfl 27 Z0 N2.out (Nat.le_of_eq (by simp only [LA.out, Z68.out, Nat.zero_add])) (by rw [LA.out]; exact infoRtC) (rtc_one _ _ _) ?_; intro w3 b3 g3; rw [splice_all _ _ (by simp only [LA.out, Z68.out])] at b3; have YA := Lib.hid b3; have ba := alloc_turn (Below.refl _ _) g3; have W3 := Lib.hid (W2.out.on ba); have K3 := Lib.hid (K2.out.below ba K2.out.lt); have X3 := Lib.hid (X2.out.below ba X2.out.lt); have P3 := Lib.hid (ownsT_on P2.out ba); have AL := Lib.hid (show w.heap.size + 1 < w2.heap.size from X2.out.lt); clear b3 g3 ba))
  clear K1 X1 W1 HA
  go_upto_region 3 with (first
    | (refine wpList_load_mid rfl 28 (.tmp 5) rfl w.heap.size 0 rfl KC _ K3.out.range Tryd.underlying28 rfl (by rw [K32.out]; exact infoKeyR) ?_)
    | (go_at_call 16; (with_reducible refine (HB.out _ W3.out).mono ?_); rintro e w4 ⟨pb, rfl, o4, b4⟩; obtain ⟨rp, rq, hsh, _⟩ := (owned_rd o4).shape; subst hsh; have Q4 := Lib.hid (ownT_lower o4 W3.out.size); have W4 := Lib.hid (W3.out.on b4); have X4 := Lib.hid (X3.out.below b4 X3.out.lt); have Y4 := Lib.hid (YA.out.below b4 YA.out.lt); have P4 := Lib.hid (ownsT_on P3.out b4); have QL := Lib.hid (show ∀ g, (Value.slice rp RB.pages.length rq).ownBlock = some g → w.heap.size + 1 < g from fun g hg => by have := (World.ownsRow.lt o4 g hg).1; have := X3.out.lt; omega); have N4 := Lib.hid (Blk.new w4 27 Z0 w4.heap.size rfl); clear o4 b4)
    | (refine wpList_store_blk rfl 27 (.tmp 11) (.tmp 23) rfl w4.heap.size 0 (rtc RB (.slice rp RB.pages.length rq)) rfl rfl 27 Z0 N4.out (Nat.le_of_eq (by simp only [LB.out, Z68.out, Nat.zero_add])) (by rw [LB.out]; exact infoRtC) (rtc_one _ _ _) ?_; intro w5 b5 g5; rw [splice_all _ _ (by simp only [LB.out, Z68.out])] at b5; have YB := Lib.hid b5; have ba := alloc_turn (Below.refl _ _) g5; have W5 := Lib.hid (W4.out.on ba); have X5 := Lib.hid (X4.out.below ba X4.out.lt); have Y5 := Lib.hid (Y4.out.below ba Y4.out.lt); have P5 := Lib.hid (ownsT_on P4.out ba); have Q5 := Lib.hid (ownsT_on Q4.out ba); clear b5 g5 ba))
  clear K3 X3 W3 HB YA P3 N4 W4 X4 Y4 P4 Q4
  have cA := Y5.out.cell 0 _ (rtc_ver RA _)
  have cB := YB.out.cell 0 _ (rtc_ver RB _)
  obtain ⟨ab, hab⟩ : ∃ x, x = w2.heap.size := ⟨_, rfl⟩
  obtain ⟨bb, hbb⟩ : ∃ x, x = w4.heap.size := ⟨_, rfl⟩
  rw [← hab] at Y5 cA ⊢
  rw [← hbb] at YB cB ⊢
  clear hab hbb N2 P2 W2 K2 X2 AL
  have HRET := Lib.hid (fun (fn : Func) (hf : fn.results = #[.cell 6 27, .tmp 7, .tmp 8]) (tmps : Array Value) (L : List Value) (hl : L.length = 68) W (hW : Blk W (w.heap.size + 1) 27 L) (h4 : tmps.getD 6 undef = .pointer (some ⟨w.heap.size + 1, 0, none⟩)) => (results_mid3R (P := Tryd.prog) hf tmps W (w.heap.size + 1) L _ h4 hW.range Tryd.underlying27 rfl (by rw [hl]; exact infoRtC)))
  have HPA := Lib.hid (fun W (g : w5.grownBy W (some (w.heap.size + 1))) => show World.ownsRow W w.heap.size 45 33 (.slice pp RA.pages.length pq) RA.pages.length (pcs RA.pages) from World.ownsRow.kept P5.out g (by
    cases e : (Value.slice pp RA.pages.length pq).ownBlock with
    | none => exact .inl rfl
    | some q => exact .inr (fun x => by have := PL.out q e; have := Option.some.inj x; omega)))
  have HPB := Lib.hid (fun W (g : w5.grownBy W (some (w.heap.size + 1))) => show World.ownsRow W w.heap.size 45 33 (.slice rp RB.pages.length rq) RB.pages.length (pcs RB.pages) from World.ownsRow.kept Q5.out g (by
    cases e : (Value.slice rp RB.pages.length rq).ownBlock with
    | none => exact .inl rfl
    | some q => exact .inr (fun x => by have := QL.out q e; have := Option.some.inj x; omega)))
  have HW6 := Lib.hid (fun W (g : w5.grownBy W (some (w.heap.size + 1))) => show Below w.heap.size w W from W5.out.grown g W5.out.size (fun g hg => by have := Option.some.inj hg; omega))
  clear P5 Q5 PL QL W5
  by_cases hea : ea = 0
  · by_cases heb : eb = 0
    · by_cases hv : RA.ver < RB.ver
      · have HR := Lib.hid (HS.out (.inr ⟨hea, heb, hv⟩))
        have hvi : (RA.ver : Int) < (RB.ver : Int) := by omega
        subst hea heb
        clear HS HF H2 hv
        go_wp2_with ((fail_if_success (with_reducible show bodyPost _ _ _ _ _ _)); first
          | (refine wpList_load_mid rfl 27 (.tmp 11) rfl bb 0 rfl (rtc RB (.slice rp RB.pages.length rq)) _ YB.out.range Tryd.underlying27 rfl (by rw [LB.out]; exact infoRtC) ?_)
          | (refine wpList_store_blk rfl 27 (.tmp 6) (.tmp 47) rfl (w.heap.size + 1) 0 (rtc RB (.slice rp RB.pages.length rq)) rfl rfl 27 Z0 X5.out (Nat.le_of_eq (by simp only [LB.out, Z68.out, Nat.zero_add])) (by rw [LB.out]; exact infoRtC) (rtc_one _ _ _) ?_; intro w6 b6 g6; rw [splice_all _ _ (by simp only [LB.out, Z68.out])] at b6; have X6 := Lib.hid b6; have G6 := Lib.hid g6; clear b6 g6))
        refine bodyPost_ret (HRET.out _ rfl _ (rtc RB (.slice rp RB.pages.length rq)) (LB.out _) _ X6.out rfl) rfl ?_
        exact HG.out RB 1 0 _ w6 HR.out.1 HR.out.2.1 HR.out.2.2 (HPB.out _ G6.out) (HW6.out _ G6.out)
      · have HR := Lib.hid (HF.out hea (.inr hv))
        have hvi : ¬ (RA.ver : Int) < (RB.ver : Int) := by omega
        subst hea heb
        clear HS HF H2 hv
        go_wp2_with ((fail_if_success (with_reducible show bodyPost _ _ _ _ _ _)); first
          | (refine wpList_load_mid rfl 27 (.tmp 9) rfl ab 0 rfl (rtc RA (.slice pp RA.pages.length pq)) _ Y5.out.range Tryd.underlying27 rfl (by rw [LA.out]; exact infoRtC) ?_)
          | (refine wpList_store_blk rfl 27 (.tmp 6) (.tmp 48) rfl (w.heap.size + 1) 0 (rtc RA (.slice pp RA.pages.length pq)) rfl rfl 27 Z0 X5.out (Nat.le_of_eq (by simp only [LA.out, Z68.out, Nat.zero_add])) (by rw [LA.out]; exact infoRtC) (rtc_one _ _ _) ?_; intro w6 b6 g6; rw [splice_all _ _ (by simp only [LA.out, Z68.out])] at b6; have X6 := Lib.hid b6; have G6 := Lib.hid g6; clear b6 g6))
        refine bodyPost_ret (HRET.out _ rfl _ (rtc RA (.slice pp RA.pages.length pq)) (LA.out _) _ X6.out rfl) rfl ?_
        exact HG.out RA 0 0 _ w6 HR.out.1 HR.out.2.1 HR.out.2.2 (HPA.out _ G6.out) (HW6.out _ G6.out)
    · have HR := Lib.hid (HF.out hea (.inl heb))
      have eb2 : (eb == 0) = false := by simpa using heb
      have eb3 : (eb != 0) = true := by simpa using heb
      subst hea
      clear HS HF H2
      go_wp2_with ((fail_if_success (with_reducible show bodyPost _ _ _ _ _ _)); first
        | (refine wpList_load_mid rfl 27 (.tmp 9) rfl ab 0 rfl (rtc RA (.slice pp RA.pages.length pq)) _ Y5.out.range Tryd.underlying27 rfl (by rw [LA.out]; exact infoRtC) ?_)
        | (refine wpList_store_blk rfl 27 (.tmp 6) (.tmp 48) rfl (w.heap.size + 1) 0 (rtc RA (.slice pp RA.pages.length pq)) rfl rfl 27 Z0 X5.out (Nat.le_of_eq (by simp only [LA.out, Z68.out, Nat.zero_add])) (by rw [LA.out]; exact infoRtC) (rtc_one _ _ _) ?_; intro w6 b6 g6; rw [splice_all _ _ (by simp only [LA.out, Z68.out])] at b6; have X6 := Lib.hid b6; have G6 := Lib.hid g6; clear b6 g6))
      refine bodyPost_ret (HRET.out _ rfl _ (rtc RA (.slice pp RA.pages.length pq)) (LA.out _) _ X6.out rfl) rfl ?_
      exact HG.out RA 0 0 _ w6 HR.out.1 HR.out.2.1 HR.out.2.2 (HPA.out _ G6.out) (HW6.out _ G6.out)
  · by_cases heb : eb = 0
    · have HR := Lib.hid (HS.out (.inl ⟨hea, heb⟩))
      have ea2 : (ea == 0) = false := by simpa using hea
      have ea3 : (ea != 0) = true := by simpa using hea
      subst heb
      clear HS HF H2
      go_wp2_with ((fail_if_success (with_reducible show bodyPost _ _ _ _ _ _)); first
        | (refine wpList_load_mid rfl 27 (.tmp 11) rfl bb 0 rfl (rtc RB (.slice rp RB.pages.length rq)) _ YB.out.range Tryd.underlying27 rfl (by rw [LB.out]; exact infoRtC) ?_)
        | (refine wpList_store_blk rfl 27 (.tmp 6) (.tmp 47) rfl (w.heap.size + 1) 0 (rtc RB (.slice rp RB.pages.length rq)) rfl rfl 27 Z0 X5.out (Nat.le_of_eq (by simp only [LB.out, Z68.out, Nat.zero_add])) (by rw [LB.out]; exact infoRtC) (rtc_one _ _ _) ?_; intro w6 b6 g6; rw [splice_all _ _ (by simp only [LB.out, Z68.out])] at b6; have X6 := Lib.hid b6; have G6 := Lib.hid g6; clear b6 g6))
      refine bodyPost_ret (HRET.out _ rfl _ (rtc RB (.slice rp RB.pages.length rq)) (LB.out _) _ X6.out rfl) rfl ?_
      exact HG.out RB 1 0 _ w6 HR.out.1 HR.out.2.1 HR.out.2.2 (HPB.out _ G6.out) (HW6.out _ G6.out)
    · have HR := Lib.hid (H2.out hea heb)
      have ea2 : (ea == 0) = false := by simpa using hea
      have ea3 : (ea != 0) = true := by simpa using hea
      have eb2 : (eb == 0) = false := by simpa using heb
      have eb3 : (eb != 0) = true := by simpa using heb
      clear HS HF H2
      go_wp2_with ((fail_if_success (with_reducible show bodyPost _ _ _ _ _ _)); first
        | (refine wpList_wanted rfl (.agg Z0.toArray) (ex_build rfl hbz) ?_)
        | (refine wpList_store_blk rfl 27 (.tmp 6) (.tmp 32) rfl (w.heap.size + 1) 0 Z0 rfl rfl 27 Z0 X5.out (Nat.le_of_eq (by simp only [Z68.out, Nat.zero_add])) (by rw [Z68.out]; exact infoRtC) Z1.out ?_; intro w6 b6 g6; rw [splice_all _ _ (by simp only [Z68.out])] at b6; have X6 := Lib.hid b6; have G6 := Lib.hid g6; clear b6 g6))
      refine bodyPost_ret (HRET.out _ rfl _ Z0 Z68.out _ X6.out rfl) rfl ?_
      have h := HG.out zero 0 40 (.slice none 0 0) w6 HR.out.1 HR.out.2.1 HR.out.2.2 (World.ownsRow_nil _ _ _ _) (HW6.out _ G6.out)
      rw [← HZ0.out] at h
      exact h
end Go.Proofs.YtenigdbnfepkeaaDoor
