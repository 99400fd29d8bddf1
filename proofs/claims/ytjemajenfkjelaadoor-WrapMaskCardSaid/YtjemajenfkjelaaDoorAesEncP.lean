/- The program's Cipher: Encrypt and Decrypt, of a Cipher and of none: contracts. Own work. -/
import Derived.Test.YtjemajenfkjelaaDoorAesMixP
import Derived.Test.YtjemajenfkjelaaDoorAesSched
namespace Go.Proofs.YtjemajenfkjelaaDoor
open Go.ChangeShapes Go.WideShapes Go.ChangeAt Go.RowKit
open AM FM
/-- In block c lies a Cipher with the key K. -/
def Cph (w : World) (c : Nat) (K : List Nat) : Prop := Bytes 32 K ∧ Blk w c 61 (row8 (sched K))
theorem Cph.lt {w : World} {c : Nat} {K : List Nat} (h : Cph w c K) : c < w.heap.size := h.2.lt
theorem Cph.below {w w' : World} {c : Nat} {K : List Nat} (h : Cph w c K) (hb : Below w.heap.size w w') : Cph w' c K := ⟨h.1, h.2.below hb h.2.lt⟩
theorem Cph.grown {w w' : World} {c : Nat} {K : List Nat} {o : Option Nat} (h : Cph w c K) (hg : w.grownBy w' o) (hne : some c ≠ o) : Cph w' c K := ⟨h.1, h.2.grown hg hne⟩
namespace AM
theorem decTo_step (k : Nat → List Nat) (b : List Nat) (m : Nat) (h0 : 0 < m) (h : m ≤ 13) : decTo k b (14 - (m - 1)) = iss (imx (ax (decTo k b (14 - m)) (k m))) := by
  obtain ⟨n, rfl⟩ : ∃ n, m = 13 - n := ⟨13 - m, by omega⟩
  rw [show 14 - (13 - n - 1) = n + 2 by omega, show 14 - (13 - n) = n + 1 by omega]
  rfl
end AM
set_option maxRecDepth 100000 in
theorem cph_enc_nil (s : List Nat) (w : World) :
    Calls Tryd.prog 24 #[.pointer none, .agg (row8 s).toArray] w fun e w' => e = .returned (.agg (row8 (List.replicate 16 0)).toArray) ∧ Below w.heap.size w w' := by
  obtain ⟨C0, hC0⟩ : ∃ C0, C0 = row8 (List.replicate 16 0) := ⟨_, rfl⟩
  have hz : ∀ w, (zeroValue 47).run Tryd.prog w = .ok (.agg C0.toArray) w := by rw [hC0]; exact zero16
  have hbd : Tryd.prog.built 47 [] = some C0.toArray := by rw [hC0]; kernel_rfl
  have hc0 : C0.length = 16 := by rw [hC0, row8_len, List.length_replicate]
  have hone : C0.toArray.all (·.oneCell') = true := by rw [hC0]; exact row8_one _
  rw [← hC0]
  have w1 := (Below.refl w.heap.size w).alloc (Nat.le_refl _) (.cells (row8 s).toArray 47)
  have w2 := w1.alloc w1.size (.cells C0.toArray 47)
  have N1 := Lib.hid (Blk.new (w.alloc (.cells (row8 s).toArray 47)) 47 C0 (w.heap.size + 1) (by simp))
  have W2 := Lib.hid w2
  clear hC0 w1 w2
  go_enter Tryd.func24, Tryd.ntmps24
  go_wp2_with (first
    | (refine wpList_buildTo rfl 47 _ rfl (some 8) rfl C0.toArray hbd ?_)
    | (refine wpList_store_mid rfl 47 (.tmp 4) (.tmp 8) rfl (w.heap.size + 1) 0 C0.toArray rfl rfl (N1.out.there _ (by rw [List.size_toArray])) (by rw [List.size_toArray, hc0]; exact info16) hone ?_))
  have fin := N1.out.whole C0 rfl
  exact bodyPost_ret (v := .agg C0.toArray) (results_mid rfl _ _ (w.heap.size + 1) C0 _ rfl fin.range Tryd.underlying47 rfl (by rw [hc0]; exact info16)) rfl ⟨rfl, below_setCells (w.heap.size + 1) (by omega) _ 0 _ W2.out⟩
set_option maxRecDepth 100000 in
set_option maxHeartbeats 4000000 in
theorem cph_enc (K : List Nat) (c : Nat) (s : List Nat) (hs : Bytes 16 s) (w : World) (h : Cph w c K) (hx : TabX w) :
    Calls Tryd.prog 24 #[.pointer (some ⟨c, 0, none⟩), .agg (row8 s).toArray] w fun e w' => e = .returned (.agg (row8 (enc (rk (sched K)) s)).toArray) ∧ Below w.heap.size w w' := by
  obtain ⟨hK, hcb⟩ := h
  obtain ⟨S, hS⟩ : ∃ S, S = sched K := ⟨_, rfl⟩
  rw [← hS] at hcb ⊢
  have bS : Bytes 240 S := by rw [hS]; exact sched_bytes hK.2
  have hk : ∀ n, Bytes 16 (rk S n) := fun n => rk_bytes bS.2 n
  obtain ⟨C0, hC0⟩ : ∃ C0, C0 = row8 (List.replicate 16 0) := ⟨_, rfl⟩
  have hz : ∀ w, (zeroValue 47).run Tryd.prog w = .ok (.agg C0.toArray) w := by rw [hC0]; exact zero16
  have hc0 : C0.length = 16 := by rw [hC0, row8_len, List.length_replicate]
  have w1 := (Below.refl w.heap.size w).alloc (Nat.le_refl _) (.cells (row8 s).toArray 47)
  have w2 := w1.alloc w1.size (.cells C0.toArray 47)
  have N2 := Lib.hid ((Blk.new w 47 (row8 s) _ rfl).alloc (.cells C0.toArray 47))
  have R2 := Lib.hid (Blk.new (w.alloc (.cells (row8 s).toArray 47)) 47 C0 (w.heap.size + 1) (by simp))
  have C2 := Lib.hid ((hcb.alloc (.cells (row8 s).toArray 47)).alloc (.cells C0.toArray 47))
  have HCL := Lib.hid hcb.lt
  have B2 := Lib.hid w2
  have HK := Lib.hid hk
  have HSL := Lib.hid bS.1
  have HS := Lib.hid hs
  have HX := Lib.hid hx
  clear hC0 w1 w2 hK hS bS hk hs hx hcb
  go_enter Tryd.func24, Tryd.ntmps24
  go_upto_region 3 with (fail)
  obtain ⟨wr, hwr⟩ : ∃ W, W = (w.alloc (.cells (row8 s).toArray 47)).alloc (.cells C0.toArray 47) := ⟨_, rfl⟩
  rw [← hwr] at N2 R2 C2 B2 ⊢
  clear hwr
  obtain ⟨Da, hD⟩ : ∃ Da, Da = s := ⟨_, rfl⟩
  have bD : Bytes 16 Da := by rw [hD]; exact HS.out
  obtain ⟨Ma, hM⟩ : ∃ Ma, Ma = ax Da (rk S 0) := ⟨_, rfl⟩
  have bM : Bytes 16 Ma := by rw [hM]; exact ax_bytes bD (HK.out 0)
  have D16 := Lib.hid (show (row8 Da).length = 16 by rw [row8_len]; exact bD.1)
  have M16 := Lib.hid (show (row8 Ma).length = 16 by rw [row8_len]; exact bM.1)
  have R16 := Lib.hid (show (row8 (rk S 0)).length = 16 by rw [row8_len]; exact row_len _)
  rw [← hD] at N2
  have HC1 := Lib.hid (fun W => keyed_any Da (rk S 0) bD (HK.out 0) W)
  rw [← hM] at HC1
  have HM := Lib.hid (show Ma = encTo (rk S) s 0 by rw [hM, hD]; rfl)
  clear hM bM
  refine wp_region_g (by kernel_rfl) 7 (by decide) (by kernel_rfl) (by kernel_rfl) (by kernel_rfl) (wr.heap.size) (Nat.le_refl _) [.val (.agg (row8 Da).toArray), .val (.pointer (some ⟨c, 0, none⟩)), .val (.pointer (some ⟨c, 0, none⟩)), .val (.pointer (some ⟨c, 0, none⟩)), .val (.pointer (some ⟨c, 0, none⟩)), .val (.agg (row8 (rk S 0)).toArray), .val (.agg (row8 Ma).toArray)] (fun _ => 8) ?_ ?_
  · refine ⟨?_, ?_, ?_, ?_, ?_, ?_, ?_, trivial⟩
    · intro a w' hF hB hd
      have e3 : a.eval (.tmp 3) = .pointer (some ⟨w.heap.size, 0, none⟩) := hF 3 (by decide +kernel)
      exact doesG_wp rfl rfl fun K' hK' => wp_load_mid 47 (.tmp 3) rfl w.heap.size 0 e3 (row8 Da) _ ((N2.out.below hB N2.out.lt).range) Tryd.underlying47 rfl (by rw [D16.out]; exact info16) (hK' _ _ rfl (Below.refl _ _))
    · intro a w' hF hB hd
      have e0 : a.eval (.tmp 0) = .pointer (some ⟨c, 0, none⟩) := hF 0 (by decide +kernel)
      exact doesG_val rfl (ex_move rfl e0) rfl rfl
    · intro a w' hF hB hd
      have e10 : a.eval (.tmp 10) = .pointer (some ⟨c, 0, none⟩) := hd 1 (by decide +kernel) (.inr (by decide))
      exact doesG_val rfl (v := .pointer (some ⟨c, 0, none⟩)) (by unfold execOp; simp only [e10]; go_simp) rfl rfl
    · intro a w' hF hB hd
      have e11 : a.eval (.tmp 11) = .pointer (some ⟨c, 0, none⟩) := hd 2 (by decide +kernel) (.inr (by decide))
      exact doesG_val rfl (v := .pointer (some ⟨c, 0, none⟩)) (by unfold execOp; simp only [e11]; go_simp) rfl rfl
    · intro a w' hF hB hd
      have e12 : a.eval (.tmp 12) = .pointer (some ⟨c, 0, none⟩) := hd 3 (by decide +kernel) (.inr (by decide))
      exact doesG_val rfl (v := .pointer (some ⟨c, 0, none⟩)) (by unfold execOp; simp only [e12]; go_simp) rfl rfl
    · intro a w' hF hB hd
      have e13 : a.eval (.tmp 13) = .pointer (some ⟨c, 0, none⟩) := hd 4 (by decide +kernel) (.inr (by decide))
      exact doesG_wp rfl rfl fun K' hK' => wp_load_mid 47 (.tmp 13) rfl c 0 e13 (row8 (rk S 0)) _ ((by have h := range_part (C2.out.below hB C2.out.lt) 0 _ (fun j v h => by have := rk_part HSL.out 0 (by omega) j v h; simpa using this); exact h)) Tryd.underlying47 rfl (by rw [R16.out]; exact info16) (hK' _ _ rfl (Below.refl _ _))
    · intro a w' hF hB hd
      have e9 : a.eval (.tmp 9) = .agg (row8 Da).toArray := hd 0 (by decide +kernel) (.inr (by decide))
      have e14 : a.eval (.tmp 14) = .agg (row8 (rk S 0)).toArray := hd 5 (by decide +kernel) (.inr (by decide))
      exact doesG_call rfl (ex_call (vs := #[.agg (row8 Da).toArray, .agg (row8 (rk S 0)).toArray]) rfl (by simp only [List.map_toArray, List.map_cons, List.map_nil, e9, e14]) (by go_simp)) rfl ((HC1.out w').mono fun e w2 hh => ⟨_, hh.1, rfl, hh.2⟩)
  · intro vs w7 hB hv hap
    have er : vs 6 = .agg (row8 Ma).toArray := hv 6 (by decide) (by decide)
    simp only [List.take_succ_cons, List.take_zero, List.drop_succ_cons, List.drop_zero, putOps, Act.put, List.setIfInBounds_toArray, List.set_cons_zero, List.set_cons_succ, er]
    have N7 := Lib.hid (N2.out.below hB N2.out.lt)
    have R7 := Lib.hid (R2.out.below hB R2.out.lt)
    have C7 := Lib.hid (C2.out.below hB C2.out.lt)
    have B7 := Lib.hid (B2.out.on hB)
    clear hv hap er hB N2 R2 C2 B2
    generalize vs 0 = v0 at *
    generalize vs 1 = v1 at *
    generalize vs 2 = v2 at *
    generalize vs 3 = v3 at *
    generalize vs 4 = v4 at *
    generalize vs 5 = v5 at *
    go_upto_region 5 with (refine wpList_store_blk rfl 47 (.tmp 3) (.tmp 15) rfl w.heap.size 0 (row8 Ma) rfl rfl 47 (row8 Da) N7.out (by rw [M16.out, D16.out]; exact Nat.le_refl _) (by rw [M16.out]; exact info16) (row8_one _) ?_; intro w9 b9 g9; rw [splice_all _ _ (by rw [M16.out, D16.out])] at b9; have N9 := Lib.hid b9; have R9 := Lib.hid (R7.out.grown g9 (fun q => by have e : (w.heap.size + 1) = w.heap.size := Option.some.inj q; omega)); have C9 := Lib.hid (C7.out.grown g9 (fun q => by have e : c = w.heap.size := Option.some.inj q; have := HCL.out; omega)); have B9 := Lib.hid (B7.out.grown g9 B7.out.size (fun k hk => by have e : w.heap.size = k := Option.some.inj hk; omega)); clear b9 g9 N7 R7 C7 B7)
    rw [HM.out] at N9
    clear HM M16 D16 R16 HC1 bD
    go_loopw [5] (fun x wr => ∃ n : Nat, n ≤ 13 ∧ x = .int .i64 ((n : Int) + 1) ∧ Blk wr w.heap.size 47 (row8 (encTo (rk S) s n)) ∧ Blk wr (w.heap.size + 1) 47 C0 ∧ Blk wr c 61 (row8 S) ∧ Below w.heap.size w wr) (fun x _ => 14 - (intOf x).toNat)
    case atStart => exact ⟨0, by omega, rfl, N9.out, R9.out, C9.out, B9.out⟩
    case round =>
      clear N9 R9 C9 B9
      obtain ⟨n, hn, rfl, n0, r0, c0, b0⟩ := hrel
      have HXr := Lib.hid (HX.out.below b0)
      by_cases hlt : n < 13
      · have hltI : (n : Int) + 1 < 14 := by omega
        obtain ⟨D, hD⟩ : ∃ D, D = encTo (rk S) s n := ⟨_, rfl⟩
        have bD : Bytes 16 D := by rw [hD]; exact encTo_bytes HK.out HS.out n
        obtain ⟨M, hM⟩ : ∃ M, M = ax (mx (ss D)) (rk S (n + 1)) := ⟨_, rfl⟩
        have bM : Bytes 16 M := by rw [hM]; exact ax_bytes (mx_bytes (ss_bytes _)) (HK.out (n + 1))
        obtain ⟨E1, hE1⟩ : ∃ E, E = mpA box D := ⟨_, rfl⟩
        have bE1 : Bytes 16 E1 := by rw [hE1]; exact mpA_bytes _ box_byte _
        obtain ⟨E2, hE2⟩ : ∃ E, E = shA E1 := ⟨_, rfl⟩
        have bE2 : Bytes 16 E2 := by rw [hE2]; exact shA_bytes bE1
        obtain ⟨E3, hE3⟩ : ∃ E, E = mx E2 := ⟨_, rfl⟩
        have bE3 : Bytes 16 E3 := by rw [hE3]; exact mx_bytes bE2
        have hM3 : M = ax E3 (rk S (n + 1)) := by rw [hM, hE3, hE2, hE1, ss_said]
        have HM := Lib.hid (show M = encTo (rk S) s (n + 1) by rw [hM, hD]; rfl)
        rw [← hD] at n0
        have N2 := Lib.hid n0
        have R2 := Lib.hid r0
        have C2 := Lib.hid c0
        have B2 := Lib.hid b0
        have HC1 := Lib.hid (fun W (hW : Below wr.heap.size wr W) => boxed_any D bD W (HXr.out.below hW))
        have HC2 := Lib.hid (fun W => shifted_any E1 bE1 W)
        have HC3 := Lib.hid (fun W => mixed_any E2 bE2 W)
        have HC4 := Lib.hid (fun W => keyed_any E3 (rk S (n + 1)) bE3 (HK.out (n + 1)) W)
        rw [← hE1] at HC1
        rw [← hE2] at HC2
        rw [← hE3] at HC3
        rw [← hM3] at HC4
        have D16 := Lib.hid (show (row8 D).length = 16 by rw [row8_len]; exact bD.1)
        have M16 := Lib.hid (show (row8 M).length = 16 by rw [row8_len]; exact bM.1)
        have R16 := Lib.hid (show (row8 (rk S (n + 1))).length = 16 by rw [row8_len]; exact row_len _)
        clear hD hM hM3 hE1 hE2 hE3 bD bM bE1 bE2 bE3 n0 r0 c0 b0
        have z0 : (0 : Int) ≤ (n : Int) + 1 := by omega
        have z1 : (n : Int) + 1 < 15 := by omega
        have z2 : ((n : Int) + 1).toNat = n + 1 := by omega
        go_upto_region 7 with (fail)
        refine wp_region_g (by kernel_rfl) 11 (by decide) (by kernel_rfl) (by kernel_rfl) (by kernel_rfl) (wr.heap.size) (Nat.le_refl _) [.val (.agg (row8 D).toArray), .val (.agg (row8 E1).toArray), .val (.agg (row8 E2).toArray), .val (.agg (row8 E3).toArray), .val (.pointer (some ⟨c, 0, none⟩)), .val (.int .i64 ((n : Int) + 1)), .val (.pointer (some ⟨c, 0, none⟩)), .val (.pointer (some ⟨c, 0, none⟩)), .val (.pointer (some ⟨c, 16 * (n + 1), none⟩)), .val (.agg (row8 (rk S (n + 1))).toArray), .val (.agg (row8 M).toArray)] (fun _ => 12) ?_ ?_
        · refine ⟨?_, ?_, ?_, ?_, ?_, ?_, ?_, ?_, ?_, ?_, ?_, trivial⟩
          · intro a w' hF hB hd
            have e3 : a.eval (.tmp 3) = .pointer (some ⟨w.heap.size, 0, none⟩) := hF 3 (by decide +kernel)
            exact doesG_wp rfl rfl fun K' hK' => wp_load_mid 47 (.tmp 3) rfl w.heap.size 0 e3 (row8 D) _ ((N2.out.below hB N2.out.lt).range) Tryd.underlying47 rfl (by rw [D16.out]; exact info16) (hK' _ _ rfl (Below.refl _ _))
          · intro a w' hF hB hd
            have e20 : a.eval (.tmp 20) = .agg (row8 D).toArray := hd 0 (by decide +kernel) (.inr (by decide))
            exact doesG_call rfl (ex_call (vs := #[.agg (row8 D).toArray]) rfl (by simp only [List.map_toArray, List.map_cons, List.map_nil, e20]) (by go_simp)) rfl ((HC1.out w' hB).mono fun e w2 hh => ⟨_, hh.1, rfl, hh.2⟩)
          · intro a w' hF hB hd
            have e21 : a.eval (.tmp 21) = .agg (row8 E1).toArray := hd 1 (by decide +kernel) (.inr (by decide))
            exact doesG_call rfl (ex_call (vs := #[.agg (row8 E1).toArray]) rfl (by simp only [List.map_toArray, List.map_cons, List.map_nil, e21]) (by go_simp)) rfl ((HC2.out w').mono fun e w2 hh => ⟨_, hh.1, rfl, hh.2⟩)
          · intro a w' hF hB hd
            have e22 : a.eval (.tmp 22) = .agg (row8 E2).toArray := hd 2 (by decide +kernel) (.inr (by decide))
            exact doesG_call rfl (ex_call (vs := #[.agg (row8 E2).toArray]) rfl (by simp only [List.map_toArray, List.map_cons, List.map_nil, e22]) (by go_simp)) rfl ((HC3.out w').mono fun e w2 hh => ⟨_, hh.1, rfl, hh.2⟩)
          · intro a w' hF hB hd
            have e0 : a.eval (.tmp 0) = .pointer (some ⟨c, 0, none⟩) := hF 0 (by decide +kernel)
            exact doesG_val rfl (ex_move rfl e0) rfl rfl
          · intro a w' hF hB hd
            have e5 : a.eval (.tmp 5) = .int .i64 ((n : Int) + 1) := hF 5 (by decide +kernel)
            exact doesG_val rfl (ex_move rfl e5) rfl rfl
          · intro a w' hF hB hd
            have e24 : a.eval (.tmp 24) = .pointer (some ⟨c, 0, none⟩) := hd 4 (by decide +kernel) (.inr (by decide))
            exact doesG_val rfl (v := .pointer (some ⟨c, 0, none⟩)) (by unfold execOp; simp only [e24]; go_simp) rfl rfl
          · intro a w' hF hB hd
            have e26 : a.eval (.tmp 26) = .pointer (some ⟨c, 0, none⟩) := hd 6 (by decide +kernel) (.inr (by decide))
            exact doesG_val rfl (v := .pointer (some ⟨c, 0, none⟩)) (by unfold execOp; simp only [e26]; go_simp) rfl rfl
          · intro a w' hF hB hd
            have e27 : a.eval (.tmp 27) = .pointer (some ⟨c, 0, none⟩) := hd 7 (by decide +kernel) (.inr (by decide))
            have e25 : a.eval (.tmp 25) = .int .i64 ((n : Int) + 1) := hd 5 (by decide +kernel) (.inr (by decide))
            exact doesG_val rfl (v := .pointer (some ⟨c, 16 * (n + 1), none⟩)) (by unfold execOp; simp only [e27, e25]; go_simp; try rw [z2]; try omega) rfl rfl
          · intro a w' hF hB hd
            have e28 : a.eval (.tmp 28) = .pointer (some ⟨c, 16 * (n + 1), none⟩) := hd 8 (by decide +kernel) (.inr (by decide))
            exact doesG_wp rfl rfl fun K' hK' => wp_load_mid 47 (.tmp 28) rfl c (16 * (n + 1)) e28 (row8 (rk S (n + 1))) _ (range_part (C2.out.below hB C2.out.lt) (16 * (n + 1)) _ (rk_part HSL.out (n + 1) (by omega))) Tryd.underlying47 rfl (by rw [R16.out]; exact info16) (hK' _ _ rfl (Below.refl _ _))
          · intro a w' hF hB hd
            have e23 : a.eval (.tmp 23) = .agg (row8 E3).toArray := hd 3 (by decide +kernel) (.inr (by decide))
            have e29 : a.eval (.tmp 29) = .agg (row8 (rk S (n + 1))).toArray := hd 9 (by decide +kernel) (.inr (by decide))
            exact doesG_call rfl (ex_call (vs := #[.agg (row8 E3).toArray, .agg (row8 (rk S (n + 1))).toArray]) rfl (by simp only [List.map_toArray, List.map_cons, List.map_nil, e23, e29]) (by go_simp)) rfl ((HC4.out w').mono fun e w2 hh => ⟨_, hh.1, rfl, hh.2⟩)
        · intro vs w7 hB hv hap
          have er : vs 10 = .agg (row8 M).toArray := hv 10 (by decide) (by decide)
          simp only [List.take_succ_cons, List.take_zero, List.drop_succ_cons, List.drop_zero, putOps, Act.put, List.setIfInBounds_toArray, List.set_cons_zero, List.set_cons_succ, er]
          have N7 := Lib.hid (N2.out.below hB N2.out.lt)
          have R7 := Lib.hid (R2.out.below hB R2.out.lt)
          have C7 := Lib.hid (C2.out.below hB C2.out.lt)
          have B7 := Lib.hid (B2.out.on hB)
          clear hv hap er hB N2 R2 C2 B2
          generalize vs 0 = v0 at *
          generalize vs 1 = v1 at *
          generalize vs 2 = v2 at *
          generalize vs 3 = v3 at *
          generalize vs 4 = v4 at *
          generalize vs 5 = v5 at *
          generalize vs 6 = v6 at *
          generalize vs 7 = v7 at *
          generalize vs 8 = v8 at *
          generalize vs 9 = v9 at *
          go_wp2_with (refine wpList_store_blk rfl 47 (.tmp 3) (.tmp 30) rfl w.heap.size 0 (row8 M) rfl rfl 47 (row8 D) N7.out (by rw [M16.out, D16.out]; exact Nat.le_refl _) (by rw [M16.out]; exact info16) (row8_one _) ?_; intro w9 b9 g9; rw [splice_all _ _ (by rw [M16.out, D16.out])] at b9; have N9 := Lib.hid b9; have R9 := Lib.hid (R7.out.grown g9 (fun q => by have e : (w.heap.size + 1) = w.heap.size := Option.some.inj q; omega)); have C9 := Lib.hid (C7.out.grown g9 (fun q => by have e : c = w.heap.size := Option.some.inj q; have := HCL.out; omega)); have B9 := Lib.hid (B7.out.grown g9 B7.out.size (fun k hk => by have e : w.heap.size = k := Option.some.inj hk; omega)); clear b9 g9 N7 R7 C7 B7)
          exact ⟨⟨n + 1, by omega, by go_num, by rw [← HM.out]; exact N9.out, R9.out, C9.out, B9.out⟩, by simp [intOf]; omega⟩
      · have hltI : ¬ (n : Int) + 1 < 14 := by omega
        obtain rfl : n = 13 := by omega
        obtain ⟨D, hD⟩ : ∃ D, D = encTo (rk S) s 13 := ⟨_, rfl⟩
        have bD : Bytes 16 D := by rw [hD]; exact encTo_bytes HK.out HS.out 13
        obtain ⟨M, hM⟩ : ∃ M, M = ax (ss D) (rk S 14) := ⟨_, rfl⟩
        have bM : Bytes 16 M := by rw [hM]; exact ax_bytes (ss_bytes _) (HK.out 14)
        obtain ⟨E1, hE1⟩ : ∃ E, E = mpA box D := ⟨_, rfl⟩
        have bE1 : Bytes 16 E1 := by rw [hE1]; exact mpA_bytes _ box_byte _
        obtain ⟨E2, hE2⟩ : ∃ E, E = shA E1 := ⟨_, rfl⟩
        have bE2 : Bytes 16 E2 := by rw [hE2]; exact shA_bytes bE1
        have hM3 : M = ax E2 (rk S 14) := by rw [hM, hE2, hE1, ss_said]
        have HM := Lib.hid (show M = enc (rk S) s by rw [hM, hD]; rfl)
        rw [← hD] at n0
        have N2 := Lib.hid n0
        have R2 := Lib.hid r0
        have C2 := Lib.hid c0
        have B2 := Lib.hid b0
        have HC1 := Lib.hid (fun W (hW : Below wr.heap.size wr W) => boxed_any D bD W (HXr.out.below hW))
        have HC2 := Lib.hid (fun W => shifted_any E1 bE1 W)
        have HC4 := Lib.hid (fun W => keyed_any E2 (rk S 14) bE2 (HK.out 14) W)
        rw [← hE1] at HC1
        rw [← hE2] at HC2
        rw [← hM3] at HC4
        have D16 := Lib.hid (show (row8 D).length = 16 by rw [row8_len]; exact bD.1)
        have M16 := Lib.hid (show (row8 M).length = 16 by rw [row8_len]; exact bM.1)
        have R16 := Lib.hid (show (row8 (rk S 14)).length = 16 by rw [row8_len]; exact row_len _)
        clear hD hM hM3 hE1 hE2 bD bM bE1 bE2 n0 r0 c0 b0
        go_upto_region 8 with (fail)
        refine wp_region_g (by kernel_rfl) 9 (by decide) (by kernel_rfl) (by kernel_rfl) (by kernel_rfl) (wr.heap.size) (Nat.le_refl _) [.val (.agg (row8 D).toArray), .val (.agg (row8 E1).toArray), .val (.agg (row8 E2).toArray), .val (.pointer (some ⟨c, 0, none⟩)), .val (.pointer (some ⟨c, 0, none⟩)), .val (.pointer (some ⟨c, 0, none⟩)), .val (.pointer (some ⟨c, 224, none⟩)), .val (.agg (row8 (rk S 14)).toArray), .val (.agg (row8 M).toArray)] (fun _ => 10) ?_ ?_
        · refine ⟨?_, ?_, ?_, ?_, ?_, ?_, ?_, ?_, ?_, trivial⟩
          · intro a w' hF hB hd
            have e3 : a.eval (.tmp 3) = .pointer (some ⟨w.heap.size, 0, none⟩) := hF 3 (by decide +kernel)
            exact doesG_wp rfl rfl fun K' hK' => wp_load_mid 47 (.tmp 3) rfl w.heap.size 0 e3 (row8 D) _ ((N2.out.below hB N2.out.lt).range) Tryd.underlying47 rfl (by rw [D16.out]; exact info16) (hK' _ _ rfl (Below.refl _ _))
          · intro a w' hF hB hd
            have e31 : a.eval (.tmp 31) = .agg (row8 D).toArray := hd 0 (by decide +kernel) (.inr (by decide))
            exact doesG_call rfl (ex_call (vs := #[.agg (row8 D).toArray]) rfl (by simp only [List.map_toArray, List.map_cons, List.map_nil, e31]) (by go_simp)) rfl ((HC1.out w' hB).mono fun e w2 hh => ⟨_, hh.1, rfl, hh.2⟩)
          · intro a w' hF hB hd
            have e32 : a.eval (.tmp 32) = .agg (row8 E1).toArray := hd 1 (by decide +kernel) (.inr (by decide))
            exact doesG_call rfl (ex_call (vs := #[.agg (row8 E1).toArray]) rfl (by simp only [List.map_toArray, List.map_cons, List.map_nil, e32]) (by go_simp)) rfl ((HC2.out w').mono fun e w2 hh => ⟨_, hh.1, rfl, hh.2⟩)
          · intro a w' hF hB hd
            have e0 : a.eval (.tmp 0) = .pointer (some ⟨c, 0, none⟩) := hF 0 (by decide +kernel)
            exact doesG_val rfl (ex_move rfl e0) rfl rfl
          · intro a w' hF hB hd
            have e34 : a.eval (.tmp 34) = .pointer (some ⟨c, 0, none⟩) := hd 3 (by decide +kernel) (.inr (by decide))
            exact doesG_val rfl (v := .pointer (some ⟨c, 0, none⟩)) (by unfold execOp; simp only [e34]; go_simp) rfl rfl
          · intro a w' hF hB hd
            have e35 : a.eval (.tmp 35) = .pointer (some ⟨c, 0, none⟩) := hd 4 (by decide +kernel) (.inr (by decide))
            exact doesG_val rfl (v := .pointer (some ⟨c, 0, none⟩)) (by unfold execOp; simp only [e35]; go_simp) rfl rfl
          · intro a w' hF hB hd
            have e36 : a.eval (.tmp 36) = .pointer (some ⟨c, 0, none⟩) := hd 5 (by decide +kernel) (.inr (by decide))
            exact doesG_val rfl (v := .pointer (some ⟨c, 224, none⟩)) (by unfold execOp; simp only [e36]; go_simp) rfl rfl
          · intro a w' hF hB hd
            have e37 : a.eval (.tmp 37) = .pointer (some ⟨c, 224, none⟩) := hd 6 (by decide +kernel) (.inr (by decide))
            exact doesG_wp rfl rfl fun K' hK' => wp_load_mid 47 (.tmp 37) rfl c 224 e37 (row8 (rk S 14)) _ (range_part (C2.out.below hB C2.out.lt) 224 _ (rk_part HSL.out 14 (by omega))) Tryd.underlying47 rfl (by rw [R16.out]; exact info16) (hK' _ _ rfl (Below.refl _ _))
          · intro a w' hF hB hd
            have e33 : a.eval (.tmp 33) = .agg (row8 E2).toArray := hd 2 (by decide +kernel) (.inr (by decide))
            have e38 : a.eval (.tmp 38) = .agg (row8 (rk S 14)).toArray := hd 7 (by decide +kernel) (.inr (by decide))
            exact doesG_call rfl (ex_call (vs := #[.agg (row8 E2).toArray, .agg (row8 (rk S 14)).toArray]) rfl (by simp only [List.map_toArray, List.map_cons, List.map_nil, e33, e38]) (by go_simp)) rfl ((HC4.out w').mono fun e w2 hh => ⟨_, hh.1, rfl, hh.2⟩)
        · intro vs w7 hB hv hap
          have er : vs 8 = .agg (row8 M).toArray := hv 8 (by decide) (by decide)
          simp only [List.take_succ_cons, List.take_zero, List.drop_succ_cons, List.drop_zero, putOps, Act.put, List.setIfInBounds_toArray, List.set_cons_zero, List.set_cons_succ, er]
          have N7 := Lib.hid (N2.out.below hB N2.out.lt)
          have R7 := Lib.hid (R2.out.below hB R2.out.lt)
          have C7 := Lib.hid (C2.out.below hB C2.out.lt)
          have B7 := Lib.hid (B2.out.on hB)
          clear hv hap er hB N2 R2 C2 B2
          generalize vs 0 = v0 at *
          generalize vs 1 = v1 at *
          generalize vs 2 = v2 at *
          generalize vs 3 = v3 at *
          generalize vs 4 = v4 at *
          generalize vs 5 = v5 at *
          generalize vs 6 = v6 at *
          generalize vs 7 = v7 at *
          go_wp2_with (refine wpList_store_blk rfl 47 (.tmp 4) (.tmp 39) rfl (w.heap.size + 1) 0 (row8 M) rfl rfl 47 C0 R7.out (by rw [M16.out, hc0]; exact Nat.le_refl _) (by rw [M16.out]; exact info16) (row8_one _) ?_; intro w9 b9 g9; rw [splice_all _ _ (by rw [M16.out, hc0])] at b9; have R9 := Lib.hid b9; have N9 := Lib.hid (N7.out.grown g9 (fun q => by have e : w.heap.size = (w.heap.size + 1) := Option.some.inj q; omega)); have C9 := Lib.hid (C7.out.grown g9 (fun q => by have e : c = (w.heap.size + 1) := Option.some.inj q; have := HCL.out; omega)); have B9 := Lib.hid (B7.out.grown g9 B7.out.size (fun k hk => by have e : (w.heap.size + 1) = k := Option.some.inj hk; omega)); clear b9 g9 R7 N7 C7 B7)
          exact bodyPost_ret (v := .agg (row8 M).toArray) (results_mid rfl _ _ (w.heap.size + 1) (row8 M) _ rfl R9.out.range Tryd.underlying47 rfl (by rw [M16.out]; exact info16)) rfl ⟨by rw [HM.out], B9.out⟩
end Go.Proofs.YtjemajenfkjelaaDoor
