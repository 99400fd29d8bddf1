/- Texts of one subject in one file: RtPMay, RtPLay. Own work. -/
import Derived.Test.YtenigdbnfepkeaaDoorRtSm
import Derived.Test.YtenigdbnfepkeaaDoorRtDocA
import Derived.Test.YtenigdbnfepkeaaDoorEqX
import Derived.Test.YtenigdbnfepkeaaDoorRtDocB
import Derived.Test.YtenigdbnfepkeaaDoorFactX
import Derived.Test.YtenigdbnfepkeaaDoorPutX
import Derived.Test.YtenigdbnfepkeaaDoorHmacA
import Derived.Great.BuildSlice
/- May a root be: contracts of the program (nowhere, slices.IndexFunc, slices.ContainsFunc, mayBe). Written by gen_rtpmay.py. Own work. -/
namespace Go.Proofs.YtenigdbnfepkeaaDoor
open Go.ChangeShapes Go.WideShapes Go.ChangeAt Go.RowKit
open RT
set_option maxHeartbeats 400000 in
theorem nowhere_any (p : Pg) (w : World) : Calls Tryd.prog 58 #[.agg (pc p).toArray] w fun e w' => ∃ v, e = .returned v ∧ (v = .bool true ∧ p.at_ = 0 ∨ v = .bool false ∧ p.at_ ≠ 0) ∧ Below w.heap.size w w' := by
  obtain ⟨L, hL⟩ : ∃ L, L = pc p := ⟨_, rfl⟩
  have hb := Blk.new w 45 L _ rfl
  have c0 := hb.cell 0 _ (by rw [hL]; rfl)
  have W1 := Lib.hid ((Below.refl w.heap.size w).alloc (Nat.le_refl _) (.cells L.toArray 45))
  obtain ⟨x, hx⟩ : ∃ x, x = p.at_ := ⟨_, rfl⟩
  rw [← hx] at c0 ⊢
  rw [← hL]
  clear hL hb hx
  by_cases h : x = 0
  · subst h
    go_enter Tryd.func58, Tryd.ntmps58
    go_wp2_with fail
    go_ret
    exact ⟨_, rfl, .inl (by simp), W1.out⟩
  · have hxe : ((x : Int) == 0) = false := by simpa using h
    have hxe2 : ¬ (x : Int) = 0 := by omega
    have H := Lib.hid h
    clear h
    go_enter Tryd.func58, Tryd.ntmps58
    go_wp2_with fail
    go_ret
    exact ⟨_, rfl, .inr ⟨rfl, H.out⟩, W1.out⟩
def nowhereV : Value := .func (.func 58) #[] #[]
set_option maxRecDepth 100000 in
set_option maxHeartbeats 1000000 in
theorem nowhereAt_any (ps : List Pg) (hp : ∀ p ∈ ps, Pok p) (v : Value) (w : World) (hv : RdT 33 w v ps.length (pcs ps)) (hn1 : ps.length ≤ 140737488355328) :
    Calls Tryd.prog 70 #[v, .func (.func 58) #[] #[]] w fun e w' => ∃ v, e = .returned v ∧ ((∃ z : Int, v = .int .i64 z ∧ 0 ≤ z ∧ ∃ p ∈ ps, p.at_ = 0) ∨ v = .int .i64 (-1) ∧ ∀ p ∈ ps, p.at_ ≠ 0) ∧ Below w.heap.size w w' := by
  obtain ⟨ra, rq, rfl, hrq⟩ := hv.shape
  have HV := Lib.hid hv
  have HPR := Lib.hid hp
  obtain ⟨n, hn⟩ : ∃ n, n = ps.length := ⟨_, rfl⟩
  rw [← hn] at hn1
  rw [← hn]
  have HN := Lib.hid hn
  clear hv hp hrq hn
  go_enter Tryd.func70, Tryd.ntmps70
  go_wp2_with fail
  go_loopw [8] (fun i wr => ∃ k : Nat, k ≤ n ∧ i = .int .i64 (k : Int) ∧ Below w.heap.size w wr ∧ ∀ j (h1 : j < ps.length), j < k → ps[j].at_ ≠ 0) (fun i _ => n - (intOf i).toNat)
  case atStart => exact ⟨0, Nat.zero_le _, rfl, Below.refl _ _, fun j _ h => absurd h (Nat.not_lt_zero j)⟩
  case round =>
    obtain ⟨k, hk, rfl, hw, hz⟩ := hrel
    have HZ := Lib.hid hz
    have W1 := Lib.hid hw
    clear hz hw
    by_cases hlt : k < n
    · have hkp : k < ps.length := by rw [← HN.out]; exact hlt
      obtain ⟨pb, po, rfl, hpc⟩ := ref_range (HV.out.below W1.out) HPR.out hkp
      have PC := Lib.hid hpc
      have PL := Lib.hid (pc_len (HPR.out _ (List.getElem_mem hkp)))
      have HNW := Lib.hid (fun W => nowhere_any ps[k] W)
      have HMEM := Lib.hid (List.getElem_mem hkp)
      have hklt : (k : Int) < (n : Int) := by omega
      have hk0 : (0 : Int) ≤ (k : Int) := by omega
      clear hpc
      go_wp2_with (first
        | (refine wpList_load_mid rfl 45 (.tmp 14) rfl pb (po + k * 33) rfl (pc ps[k]) _ PC.out Tryd.underlying45 rfl (by rw [PL.out]; exact infoRf) ?_)
        | (go_at_call 58; (with_reducible refine (HNW.out _).mono ?_); rintro e w2 ⟨u2, rfl, hb, b2⟩; have W2 := Lib.hid (W1.out.on b2); rcases hb with ⟨rfl, hb⟩ | ⟨rfl, hb⟩ <;> (have HB := Lib.hid hb; clear hb b2)))
      · go_wp2_with fail
        go_ret
        exact ⟨_, rfl, .inl ⟨_, rfl, hk0, _, HMEM.out, HB.out⟩, W2.out⟩
      · go_wp2_with fail
        refine ⟨⟨k + 1, by omega, by go_num, W2.out, fun j h1 hjk => ?_⟩, by simp [intOf]; omega⟩
        by_cases e : j = k
        · subst e; exact HB.out
        · exact HZ.out j h1 (by omega)
    · obtain rfl : k = n := by omega
      have HA := Lib.hid (show ∀ p ∈ ps, p.at_ ≠ 0 from fun p hp => by
        obtain ⟨j, hj, rfl⟩ := List.getElem_of_mem hp
        exact HZ.out j hj (by rw [HN.out]; exact hj))
      have hkk : ¬ (k : Int) < (k : Int) := by omega
      go_wp2_with fail
      go_ret
      exact ⟨_, rfl, .inr ⟨rfl, HA.out⟩, W1.out⟩
set_option maxHeartbeats 1000000 in
theorem anyNowhere_any (ps : List Pg) (hp : ∀ p ∈ ps, Pok p) (v : Value) (w : World) (hv : RdT 33 w v ps.length (pcs ps)) (hn1 : ps.length ≤ 140737488355328) :
    Calls Tryd.prog 57 #[v, .func (.func 58) #[] #[]] w fun e w' => ∃ v, e = .returned v ∧ ((v = .bool true ∧ ∃ p ∈ ps, p.at_ = 0) ∨ v = .bool false ∧ ∀ p ∈ ps, p.at_ ≠ 0) ∧ Below w.heap.size w w' := by
  obtain ⟨ra, rq, rfl, hrq⟩ := hv.shape
  have HC := Lib.hid (nowhereAt_any ps hp _ w hv hn1)
  obtain ⟨n, hn⟩ : ∃ n, n = ps.length := ⟨_, rfl⟩
  rw [← hn] at HC ⊢
  clear hv hp hrq hn hn1
  go_enter Tryd.func57, Tryd.ntmps57
  go_wp2_with (go_at_call 70; (with_reducible refine HC.out.mono ?_); rintro e w2 ⟨u2, rfl, hb, b2⟩; have W2 := Lib.hid b2; clear b2; rcases hb with ⟨z, rfl, hz, hb⟩ | ⟨rfl, hb⟩ <;> (have HB := Lib.hid hb; clear hb))
  · have hz2 : ¬ z < 0 := by omega
    go_wp2_with fail
    go_ret
    exact ⟨_, rfl, .inl ⟨rfl, HB.out⟩, W2.out⟩
  · go_wp2_with fail
    go_ret
    exact ⟨_, rfl, .inr ⟨rfl, HB.out⟩, W2.out⟩
set_option maxRecDepth 100000 in
set_option maxHeartbeats 1000000 in
theorem prmay_any (r : Rt) (hr : RT.Ok r) (v : Value) (w : World) (hv : RdT 33 w v r.pages.length (pcs r.pages)) (hn1 : r.pages.length ≤ 140737488355328) : Calls Tryd.prog 35 #[.agg (rtc r v).toArray] w fun e w' => e = .returned (.bool (may r)) ∧ Below w.heap.size w w' := by
  obtain ⟨pa, pcap, rfl, hpc⟩ := hv.shape
  obtain ⟨L, hL⟩ : ∃ L, L = rtc r (.slice pa r.pages.length pcap) := ⟨_, rfl⟩
  obtain ⟨R, hR⟩ : ∃ R, R = may r := ⟨_, rfl⟩
  have hb := Blk.new w 27 L _ rfl
  have c33 := hb.cell 33 _ (by rw [hL]; exact rtc_area hr _)
  have c66 := hb.cell 66 _ (by rw [hL]; exact rtc_lenc hr _)
  have c67 := hb.cell 67 _ (by rw [hL]; exact rtc_pages hr _)
  have W1 := Lib.hid ((Below.refl w.heap.size w).alloc (Nat.le_refl _) (.cells L.toArray 27))
  have HC := Lib.hid (anyNowhere_any r.pages hr.pages _ _ (hv.below W1.out) hn1)
  have HM := Lib.hid (may_iff (r := r))
  rw [← hR] at HM
  obtain ⟨ps, hps⟩ : ∃ ps, ps = r.pages := ⟨_, rfl⟩
  obtain ⟨area, ha⟩ : ∃ x, x = r.area := ⟨_, rfl⟩
  obtain ⟨len, hl⟩ : ∃ x, x = r.len := ⟨_, rfl⟩
  rw [← hps] at HC HM c67
  rw [← ha] at c33 HM
  rw [← hl] at c66 HM
  rw [← hL, ← hR]
  obtain ⟨n, hn⟩ : ∃ n, n = ps.length := ⟨_, rfl⟩
  rw [← hn] at c67 HC HM
  clear hv hb hL hR hps ha hl hr hpc hn hn1
  by_cases h0 : 0 ≤ area
  · have y0 : ¬ area < 0 := by omega
    have z0 : 0 ≤ area := by omega
    by_cases h1 : area < 2
    · have y1 : area < 2 := by omega
      have z1 : area < 2 := by omega
      by_cases h2 : 0 ≤ len
      · have y2 : ¬ len < 0 := by omega
        have z2 : 0 ≤ len := by omega
        by_cases h3 : len ≤ 8192
        · have y3 : ¬ 8192 < len := by omega
          have z3 : len ≤ 8192 := by omega
          by_cases h4 : n ≤ 8
          · have y4 : ¬ (8 : Int) < (n : Int) := by omega
            have z4 : (n : Int) ≤ 8 := by omega
            have H5 := Lib.hid (show (area = 0 ∨ area = 1) ∧ 0 ≤ len ∧ len ≤ 8192 ∧ n ≤ 8 from ⟨by omega, h2, h3, h4⟩)
            go_enter Tryd.func35, Tryd.ntmps35
            go_wp2_with (go_at_call 57; (with_reducible refine HC.out.mono ?_); rintro e w2 ⟨u2, rfl, hb, b2⟩; have W2 := Lib.hid (W1.out.on b2); clear b2; rcases hb with ⟨rfl, hb⟩ | ⟨rfl, hb⟩ <;> (have HB := Lib.hid hb; clear hb))
            · have hf : R = false := Bool.eq_false_iff.2 fun h => by
                obtain ⟨p, hp, h0⟩ := HB.out
                exact (HM.out.1 h).2.2.2.2 p hp h0
              subst hf
              clear HM
              go_wp2_with fail
              go_ret
              exact ⟨rfl, W2.out⟩
            · have ht : R = true := HM.out.2 ⟨H5.out.1, H5.out.2.1, H5.out.2.2.1, H5.out.2.2.2, HB.out⟩
              subst ht
              clear HM
              go_wp2_with fail
              go_ret
              exact ⟨rfl, W2.out⟩
          · have m4 : (8 : Int) < (n : Int) := by omega
            have n4 : ¬ ((n : Int) ≤ 8) := by omega
            have G := Lib.hid h4
            have hf : R = false := Bool.eq_false_iff.2 (fun h => G.out (HM.out.1 h).2.2.2.1)
            subst hf
            clear HM h4 G
            go_enter Tryd.func35, Tryd.ntmps35
            go_wp2_with fail
            go_ret
            exact ⟨rfl, W1.out⟩
        · have m3 : 8192 < len := by omega
          have n3 : ¬ (len ≤ 8192) := by omega
          have G := Lib.hid h3
          have hf : R = false := Bool.eq_false_iff.2 (fun h => G.out (HM.out.1 h).2.2.1)
          subst hf
          clear HM h3 G
          go_enter Tryd.func35, Tryd.ntmps35
          go_wp2_with fail
          go_ret
          exact ⟨rfl, W1.out⟩
      · have m2 : len < 0 := by omega
        have n2 : ¬ (0 ≤ len) := by omega
        have G := Lib.hid h2
        have hf : R = false := Bool.eq_false_iff.2 (fun h => G.out (HM.out.1 h).2.1)
        subst hf
        clear HM h2 G
        go_enter Tryd.func35, Tryd.ntmps35
        go_wp2_with fail
        go_ret
        exact ⟨rfl, W1.out⟩
    · have m1 : ¬ area < 2 := by omega
      have n1 : ¬ (area < 2) := by omega
      have G := Lib.hid h1
      have hf : R = false := Bool.eq_false_iff.2 (fun h => by have := (HM.out.1 h).1; omega)
      subst hf
      clear HM h1 G
      go_enter Tryd.func35, Tryd.ntmps35
      go_wp2_with fail
      go_ret
      exact ⟨rfl, W1.out⟩
  · have m0 : area < 0 := by omega
    have n0 : ¬ (0 ≤ area) := by omega
    have G := Lib.hid h0
    have hf : R = false := Bool.eq_false_iff.2 (fun h => by have := (HM.out.1 h).1; omega)
    subst hf
    clear HM h0 G
    go_enter Tryd.func35, Tryd.ntmps35
    go_wp2_with fail
    go_ret
    exact ⟨rfl, W1.out⟩
end Go.Proofs.YtenigdbnfepkeaaDoor
/- What the program lays of a root, and Put: contracts. Written by gen_rtplay.py. Own work. -/
namespace Go.Proofs.YtenigdbnfepkeaaDoor
open Go.ChangeShapes Go.WideShapes Go.ChangeAt Go.RowKit
open RT
theorem rds_seven {w : World} {x0 x1 x2 x3 x4 x5 x6 : Value} {l0 l1 l2 l3 l4 l5 l6 : List Nat} (h0 : Rd w x0 l0) (h1 : Rd w x1 l1) (h2 : Rd w x2 l2) (h3 : Rd w x3 l3) (h4 : Rd w x4 l4) (h5 : Rd w x5 l5) (h6 : Rd w x6 l6) {b : Nat} (hb : b = w.heap.size) : Rds (w.alloc (.cells #[x0, x1, x2, x3, x4, x5, x6] 30)) (.slice (some ⟨b, 0, none⟩) 7 7) [l0, l1, l2, l3, l4, l5, l6] := by
  subst hb
  have hB := Blk.new w 30 [x0, x1, x2, x3, x4, x5, x6] _ rfl
  refine ⟨by simp, .inr ⟨_, 7, rfl, Nat.le_refl _, fun i l' hj => ?_⟩⟩
  match i, hj with
  | 0, hj => simp at hj; subst hj; exact ⟨x0, hB.cell 0 x0 rfl, h0.alloc _⟩
  | 1, hj => simp at hj; subst hj; exact ⟨x1, hB.cell 1 x1 rfl, h1.alloc _⟩
  | 2, hj => simp at hj; subst hj; exact ⟨x2, hB.cell 2 x2 rfl, h2.alloc _⟩
  | 3, hj => simp at hj; subst hj; exact ⟨x3, hB.cell 3 x3 rfl, h3.alloc _⟩
  | 4, hj => simp at hj; subst hj; exact ⟨x4, hB.cell 4 x4 rfl, h4.alloc _⟩
  | 5, hj => simp at hj; subst hj; exact ⟨x5, hB.cell 5 x5 rfl, h5.alloc _⟩
  | 6, hj => simp at hj; subst hj; exact ⟨x6, hB.cell 6 x6 rfl, h6.alloc _⟩
def mark4 : List Nat := [82, 79, 79, 84]
theorem pre_flat (r : Rt) : ([mark4, be r.ver 8, r.sup, [r.area.toNat], r.keys, be r.len.toNat 2, [r.pages.length]] : List (List Nat)).flatten = pre r := by
  unfold pre mark4; simp
theorem infoRtL : (Tryd.prog.info? 27).map (·.size) = some 68 := by kernel_rfl
theorem zeroRefL (w : World) : (zeroValue 45).run Tryd.prog w = .ok (.agg zref.toArray) w := by kernel_rfl
theorem zrefL_len : zref.length = 33 := by kernel_rfl
theorem pc_one (p : Pg) : ((pc p).toArray.all (·.oneCell')) = true := by
  rw [List.all_toArray, List.all_eq_true]
  intro u hu
  exact pcs_one' [p] u (by rw [pcs_one]; exact hu)
set_option maxHeartbeats 400000 in
theorem play_no (r : Rt) (hr : RT.Ok r) (v : Value) (w : World) (hv : RdT 33 w v r.pages.length (pcs r.pages)) (hn1 : r.pages.length ≤ 140737488355328) (hm : may r = false) : Calls Tryd.prog 21 #[.agg (rtc r v).toArray] w fun e w' => e = .returned (.tuple #[.slice none 0 0, .int .i64 2]) ∧ Below w.heap.size w w' := by
  obtain ⟨pa, pcap, rfl, hpc⟩ := hv.shape
  obtain ⟨L, hL⟩ : ∃ L, L = rtc r (.slice pa r.pages.length pcap) := ⟨_, rfl⟩
  have hb := Blk.new w 27 L _ rfl
  have X1 := Lib.hid hb
  have W1 := Lib.hid ((Below.refl w.heap.size w).alloc (Nat.le_refl _) (.cells L.toArray 27))
  have L68 := Lib.hid (show L.length = 68 by rw [hL]; exact rtc_len hr _)
  have HM := Lib.hid (prmay_any r hr _ _ (hv.below W1.out) hn1)
  rw [hm, ← hL] at HM
  rw [← hL]
  clear hb hL hv hm hr hpc hn1
  go_enter Tryd.func21, Tryd.ntmps21
  go_wp2_with (first
    | (refine wpList_load_mid rfl 27 (.tmp 1) rfl w.heap.size 0 rfl L _ X1.out.range Tryd.underlying27 rfl (by rw [L68.out]; exact infoRtL) ?_)
    | (go_at_call 35; (with_reducible refine HM.out.mono ?_); rintro e w2 ⟨rfl, b2⟩; have W2 := Lib.hid (W1.out.on b2); clear b2))
  go_ret2
  exact ⟨rfl, W2.out⟩
set_option maxRecDepth 100000 in
set_option maxHeartbeats 2000000 in
theorem play_ok (r : Rt) (hr : RT.Ok r) (v : Value) (w : World) (hv : RdT 33 w v r.pages.length (pcs r.pages)) (hn1 : r.pages.length ≤ 140737488355328) (hm : may r = true) : Calls Tryd.prog 21 #[.agg (rtc r v).toArray] w fun e w' => ∃ v, e = .returned (.tuple #[v, .int .i64 0]) ∧ Own w' w.heap.size v (body r) ∧ Below w.heap.size w w' := by
  obtain ⟨pa, pcap, rfl, hpc⟩ := hv.shape
  obtain ⟨L, hL⟩ : ∃ L, L = rtc r (.slice pa r.pages.length pcap) := ⟨_, rfl⟩
  have hb := Blk.new w 27 L _ rfl
  have X1 := Lib.hid hb
  have W1 := Lib.hid ((Below.refl w.heap.size w).alloc (Nat.le_refl _) (.cells L.toArray 27))
  have L68 := Lib.hid (show L.length = 68 by rw [hL]; exact rtc_len hr _)
  have HM := Lib.hid (prmay_any r hr _ _ (hv.below W1.out) hn1)
  rw [hm, ← hL] at HM
  obtain ⟨ha, hl0, hl1, hn8, _⟩ := may_iff.1 hm
  obtain ⟨ar, har⟩ : ∃ a : Nat, r.area = (a : Int) := ⟨r.area.toNat, by omega⟩
  obtain ⟨ln, hln⟩ : ∃ a : Nat, r.len = (a : Int) := ⟨r.len.toNat, by omega⟩
  have C0 := Lib.hid (show L[0]? = some (.int .u64 (r.ver : Int)) by rw [hL]; exact rtc_ver r _)
  have C33 := Lib.hid (show L[33]? = some (.int .i64 r.area) by rw [hL]; exact rtc_area hr _)
  have C66 := Lib.hid (show L[66]? = some (.int .i64 r.len) by rw [hL]; exact rtc_lenc hr _)
  have C67B := Lib.hid (show L[67]? = some (.slice pa r.pages.length pcap) by rw [hL]; exact rtc_pages hr _)
  have C67 := Lib.hid (show L[67]? = some (.slice pa r.pages.length pcap) by rw [hL]; exact rtc_pages hr _)
  have HCS := Lib.hid (show (L.drop 1).take 32 = row8 r.sup by rw [hL]; exact rtc_sup hr _)
  have HCK := Lib.hid (show (L.drop 34).take 32 = row8 r.keys by rw [hL]; exact rtc_keys hr _)
  have BSU := Lib.hid hr.sup
  have BKE := Lib.hid hr.keys
  have HPS := Lib.hid hr.pages
  have HVR := hr.ver
  have HPV := Lib.hid (fun W => put64_any r.ver HVR W)
  have HFL := pre_flat r
  have HPL := pre_len hr
  have HCC := Lib.hid (fun W v (hv : Rds W v [mark4, be r.ver 8, r.sup, [r.area.toNat], r.keys, be r.len.toNat 2, [r.pages.length]]) => concat_any _ (by rw [HFL, HPL]; decide) v W hv)
  rw [HFL] at HCC
  have HRL := raw_len hr
  have HPD := Lib.hid (fun W v (hv : Rd W v (pre r ++ ones r.pages)) => (show Calls Tryd.prog 40 #[v, .int .i64 480] W fun e w' => e = .returned (.tuple #[.slice (some ⟨W.heap.size, 0, none⟩) 480 480, .int .i64 0]) ∧ Own w' W.heap.size (.slice (some ⟨W.heap.size, 0, none⟩) 480 480) (body r) ∧ Below W.heap.size W w' from pad_ok W v (raw r) 480 hv (by decide) (by rw [HRL]; omega)))
  have HV := Lib.hid hv
  have PRE80 := Lib.hid HPL
  have HOL := Lib.hid (fun k => ones_len (ps := r.pages.take k) (fun p hp => hr.pages p (List.mem_of_mem_take hp)))
  have HOT := Lib.hid (fun k (hk : k < r.pages.length) => ones_take hk)
  obtain ⟨F, hF⟩ : ∃ F, F = body r := ⟨_, rfl⟩
  obtain ⟨PR, hPR⟩ : ∃ F, F = pre r := ⟨_, rfl⟩
  obtain ⟨ps, hps⟩ : ∃ ps, ps = r.pages := ⟨_, rfl⟩
  obtain ⟨n, hn⟩ : ∃ n, n = ps.length := ⟨_, rfl⟩
  obtain ⟨ver, hver⟩ : ∃ n, n = r.ver := ⟨_, rfl⟩
  obtain ⟨sup, hsup⟩ : ∃ n, n = r.sup := ⟨_, rfl⟩
  obtain ⟨keys, hkeys⟩ : ∃ n, n = r.keys := ⟨_, rfl⟩
  rw [har, Int.toNat_natCast, hln, Int.toNat_natCast] at HCC
  rw [har] at C33 ha
  rw [hln] at C66 hl0 hl1
  rw [← hL]
  rw [← hF] at HPD ⊢
  rw [← hPR] at HCC HPD PRE80
  rw [← hver] at C0 HPV HCC HVR
  rw [← hsup] at HCS BSU HCC
  rw [← hkeys] at HCK BKE HCC
  rw [← hps] at C67 C67B HCC HPS HPD HV HOL HOT hn8
  rw [← hn] at C67 C67B HCC hn8
  have HN := Lib.hid hn
  have HPL := Lib.hid (fun W => put16_any ln (by omega) W)
  have ac : IntKind.u16.wrap (ln : Int) = (ln : Int) := by rw [IntKind.wrap_u16]; omega
  have ap : IntKind.u8.wrap (ar : Int) = (ar : Int) := by rw [IntKind.wrap_u8]; omega
  have an : IntKind.u8.wrap (n : Int) = (n : Int) := by rw [IntKind.wrap_u8]; omega
  have AR2 := Lib.hid (show ar < 256 by omega)
  have N256 := Lib.hid (show n < 256 by omega)
  have N8 := Lib.hid hn8
  clear hb hL hv hm hr hpc hF hPR hps hn hver hsup hkeys har hln ha hl0 hl1 HFL HRL hn1 HVR
  go_enter Tryd.func21, Tryd.ntmps21
  go_upto_region 3 with (first
    | (refine wpList_load_mid rfl 27 (.tmp 1) rfl w.heap.size 0 rfl L _ X1.out.range Tryd.underlying27 rfl (by rw [L68.out]; exact infoRtL) ?_)
    | (go_at_call 35; (with_reducible refine HM.out.mono ?_); rintro e w2 ⟨rfl, b2⟩; have W2 := Lib.hid (W1.out.on b2); have X2 := Lib.hid (X1.out.below b2 X1.out.lt); have HV2 := Lib.hid (HV.out.below W2.out); clear b2))
  clear X1 W1 HM
  refine wp_region_c (by kernel_rfl) 23 (by decide) (by kernel_rfl) (by kernel_rfl) (by kernel_rfl) w2.heap.size rfl [.lit mark4, .rd mark4, .val (.pointer (some ⟨w.heap.size, 0, none⟩)), .val (.int .u64 (ver : Int)), .rd (be ver 8), .val (.pointer (some ⟨w.heap.size, 1, none⟩)), .val (.slice (some ⟨w.heap.size, 1, none⟩) 32 32), .val (.pointer (some ⟨w.heap.size, 33, none⟩)), .val (.int .i64 (ar : Int)), .val (.int .u8 (ar : Int)), .rd [ar], .val (.pointer (some ⟨w.heap.size, 34, none⟩)), .val (.slice (some ⟨w.heap.size, 34, none⟩) 32 32), .val (.pointer (some ⟨w.heap.size, 66, none⟩)), .val (.int .i64 (ln : Int)), .val (.int .u16 (ln : Int)), .rd (be ln 2), .val (.pointer (some ⟨w.heap.size, 67, none⟩)), .val (.slice pa n pcap), .val (.int .i64 (n : Int)), .val (.int .u8 (n : Int)), .rd [n], .rds [mark4, be ver 8, sup, [ar], keys, be ln 2, [n]]] ?_ ?_
  · refine ⟨?_, ?_, ?_, ?_, ?_, ?_, ?_, ?_, ?_, ?_, ?_, ?_, ?_, ?_, ?_, ?_, ?_, ?_, ?_, ?_, ?_, ?_, ?_, trivial⟩
    · intro a w' hF hB hd
      refine doesC_wp hB.below.size rfl fun K hK => ?_
      unfold Oper.wp execOp
      go_simp
      exact hK _ _ ⟨_, rfl, hB.below.size, (own_new w' mark4 (small_bytes (by decide)) (by decide) rfl (Nat.le_refl _)).rd, by simp⟩ ((Below.refl _ _).alloc (Nat.le_refl _) _)
    · intro a w' hF hB hd
      exact doesC_mark rfl (.tmp 10) rfl mark4 (hd 0 (by decide +kernel))
    · intro a w' hF hB hd
      have e1 : a.eval (.tmp 1) = .pointer (some ⟨w.heap.size, 0, none⟩) := hF 1 (by decide +kernel)
      exact doesC_val rfl (v := .pointer (some ⟨w.heap.size, 0, none⟩)) (by unfold execOp; simp only [e1]; go_simp) rfl
    · intro a w' hF hB hd
      have e12 : a.eval (.tmp 12) = .pointer (some ⟨w.heap.size, 0, none⟩) := hd 2 (by decide +kernel)
      have c0 := (X2.out.below hB.below X2.out.lt).cell 0 _ C0.out
      exact doesC_val rfl (v := .int .u64 (ver : Int)) (by unfold execOp; simp only [e12]; go_simp) rfl
    · intro a w' hF hB hd
      have e13 : a.eval (.tmp 13) = .int .u64 (ver : Int) := hd 3 (by decide +kernel)
      exact doesC_call hB.below.size rfl (ex_call (vs := #[.int .u64 (ver : Int)]) rfl (by simp only [List.map_toArray, List.map_cons, List.map_nil, e13]) (by go_simp)) ((HPV.out w').mono fun e w3 hh => by
        obtain ⟨v, rfl, ho, hb⟩ := hh
        exact ⟨v, rfl, ho.rd, hb⟩)
    · intro a w' hF hB hd
      have e1 : a.eval (.tmp 1) = .pointer (some ⟨w.heap.size, 0, none⟩) := hF 1 (by decide +kernel)
      exact doesC_val rfl (v := .pointer (some ⟨w.heap.size, 1, none⟩)) (by unfold execOp; simp only [e1]; go_simp) rfl
    · intro a w' hF hB hd
      have e15 : a.eval (.tmp 15) = .pointer (some ⟨w.heap.size, 1, none⟩) := hd 5 (by decide +kernel)
      exact doesC_val rfl (v := .slice (some ⟨w.heap.size, 1, none⟩) 32 32) (by unfold execOp; simp only [e15]; go_simp) rfl
    · intro a w' hF hB hd
      have e1 : a.eval (.tmp 1) = .pointer (some ⟨w.heap.size, 0, none⟩) := hF 1 (by decide +kernel)
      exact doesC_val rfl (v := .pointer (some ⟨w.heap.size, 33, none⟩)) (by unfold execOp; simp only [e1]; go_simp) rfl
    · intro a w' hF hB hd
      have e17 : a.eval (.tmp 17) = .pointer (some ⟨w.heap.size, 33, none⟩) := hd 7 (by decide +kernel)
      have c0 := (X2.out.below hB.below X2.out.lt).cell 33 _ C33.out
      exact doesC_val rfl (v := .int .i64 (ar : Int)) (by unfold execOp; simp only [e17]; go_simp) rfl
    · intro a w' hF hB hd
      have e18 : a.eval (.tmp 18) = .int .i64 (ar : Int) := hd 8 (by decide +kernel)
      exact doesC_val rfl (ex_convert rfl e18 (by go_simp)) rfl
    · intro a w' hF hB hd
      have e19 : a.eval (.tmp 19) = .int .u8 (ar : Int) := hd 9 (by decide +kernel)
      have f19 : a.tmps[19]?.getD undef = .int .u8 (ar : Int) := by rw [← Array.getD_eq_getD_getElem?]; exact e19
      refine doesC_wp hB.below.size rfl fun K hK => ?_
      unfold Oper.wp execOp
      go_simp
      exact hK _ _ (own_new w' [ar] (fun k => by cases k with | zero => exact AR2.out | succ k => exact Nat.zero_lt_succ _) (by simp) rfl (Nat.le_refl _)).rd ((Below.refl _ _).alloc (Nat.le_refl _) _)
    · intro a w' hF hB hd
      have e1 : a.eval (.tmp 1) = .pointer (some ⟨w.heap.size, 0, none⟩) := hF 1 (by decide +kernel)
      exact doesC_val rfl (v := .pointer (some ⟨w.heap.size, 34, none⟩)) (by unfold execOp; simp only [e1]; go_simp) rfl
    · intro a w' hF hB hd
      have e21 : a.eval (.tmp 21) = .pointer (some ⟨w.heap.size, 34, none⟩) := hd 11 (by decide +kernel)
      exact doesC_val rfl (v := .slice (some ⟨w.heap.size, 34, none⟩) 32 32) (by unfold execOp; simp only [e21]; go_simp) rfl
    · intro a w' hF hB hd
      have e1 : a.eval (.tmp 1) = .pointer (some ⟨w.heap.size, 0, none⟩) := hF 1 (by decide +kernel)
      exact doesC_val rfl (v := .pointer (some ⟨w.heap.size, 66, none⟩)) (by unfold execOp; simp only [e1]; go_simp) rfl
    · intro a w' hF hB hd
      have e23 : a.eval (.tmp 23) = .pointer (some ⟨w.heap.size, 66, none⟩) := hd 13 (by decide +kernel)
      have c0 := (X2.out.below hB.below X2.out.lt).cell 66 _ C66.out
      exact doesC_val rfl (v := .int .i64 (ln : Int)) (by unfold execOp; simp only [e23]; go_simp) rfl
    · intro a w' hF hB hd
      have e24 : a.eval (.tmp 24) = .int .i64 (ln : Int) := hd 14 (by decide +kernel)
      exact doesC_val rfl (ex_convert rfl e24 (by go_simp)) rfl
    · intro a w' hF hB hd
      have e25 : a.eval (.tmp 25) = .int .u16 (ln : Int) := hd 15 (by decide +kernel)
      exact doesC_call hB.below.size rfl (ex_call (vs := #[.int .u16 (ln : Int)]) rfl (by simp only [List.map_toArray, List.map_cons, List.map_nil, e25]) (by go_simp)) ((HPL.out w').mono fun e w3 hh => by
        obtain ⟨v, rfl, ho, hb⟩ := hh
        exact ⟨v, rfl, ho.rd, hb⟩)
    · intro a w' hF hB hd
      have e1 : a.eval (.tmp 1) = .pointer (some ⟨w.heap.size, 0, none⟩) := hF 1 (by decide +kernel)
      exact doesC_val rfl (v := .pointer (some ⟨w.heap.size, 67, none⟩)) (by unfold execOp; simp only [e1]; go_simp) rfl
    · intro a w' hF hB hd
      have e27 : a.eval (.tmp 27) = .pointer (some ⟨w.heap.size, 67, none⟩) := hd 17 (by decide +kernel)
      have c0 := (X2.out.below hB.below X2.out.lt).cell 67 _ C67.out
      exact doesC_val rfl (v := .slice pa n pcap) (by unfold execOp; simp only [e27]; go_simp) rfl
    · intro a w' hF hB hd
      have e28 : a.eval (.tmp 28) = .slice pa n pcap := hd 18 (by decide +kernel)
      have f28 : a.tmps[28]?.getD undef = .slice pa n pcap := by rw [← Array.getD_eq_getD_getElem?]; exact e28
      exact doesC_val rfl (v := .int .i64 (n : Int)) (by unfold execOp; go_simp) rfl
    · intro a w' hF hB hd
      have e29 : a.eval (.tmp 29) = .int .i64 (n : Int) := hd 19 (by decide +kernel)
      exact doesC_val rfl (ex_convert rfl e29 (by go_simp)) rfl
    · intro a w' hF hB hd
      have e30 : a.eval (.tmp 30) = .int .u8 (n : Int) := hd 20 (by decide +kernel)
      have f30 : a.tmps[30]?.getD undef = .int .u8 (n : Int) := by rw [← Array.getD_eq_getD_getElem?]; exact e30
      refine doesC_wp hB.below.size rfl fun K hK => ?_
      unfold Oper.wp execOp
      go_simp
      exact hK _ _ (own_new w' [n] (fun k => by cases k with | zero => exact N256.out | succ k => exact Nat.zero_lt_succ _) (by simp) rfl (Nat.le_refl _)).rd ((Below.refl _ _).alloc (Nat.le_refl _) _)
    · intro a w' hF hB hd
      have e11 : Rd w' (a.eval (.tmp 11)) (mark4) := hd 1 (by decide +kernel)
      obtain ⟨a11, c11, q11, _⟩ := e11.shape
      rw [q11] at e11
      have f11 : a.tmps[11]?.getD undef = .slice a11 4 c11 := by rw [← Array.getD_eq_getD_getElem?]; exact q11
      have e14 : Rd w' (a.eval (.tmp 14)) (be ver 8) := hd 4 (by decide +kernel)
      obtain ⟨a14, c14, q14, _⟩ := e14.shape
      rw [q14] at e14
      rw [be_len] at q14 e14
      have f14 : a.tmps[14]?.getD undef = .slice a14 8 c14 := by rw [← Array.getD_eq_getD_getElem?]; exact q14
      have q16 : a.eval (.tmp 16) = .slice (some ⟨w.heap.size, 1, none⟩) 32 32 := hd 6 (by decide +kernel)
      have e16 : Rd w' (.slice (some ⟨w.heap.size, 1, none⟩) 32 32) sup := rd_part (X2.out.below hB.below X2.out.lt) BSU.out HCS.out (by decide)
      have f16 : a.tmps[16]?.getD undef = .slice (some ⟨w.heap.size, 1, none⟩) 32 32 := by rw [← Array.getD_eq_getD_getElem?]; exact q16
      have e20 : Rd w' (a.eval (.tmp 20)) ([ar]) := hd 10 (by decide +kernel)
      obtain ⟨a20, c20, q20, _⟩ := e20.shape
      rw [q20] at e20
      have f20 : a.tmps[20]?.getD undef = .slice a20 1 c20 := by rw [← Array.getD_eq_getD_getElem?]; exact q20
      have q22 : a.eval (.tmp 22) = .slice (some ⟨w.heap.size, 34, none⟩) 32 32 := hd 12 (by decide +kernel)
      have e22 : Rd w' (.slice (some ⟨w.heap.size, 34, none⟩) 32 32) keys := rd_part (X2.out.below hB.below X2.out.lt) BKE.out HCK.out (by decide)
      have f22 : a.tmps[22]?.getD undef = .slice (some ⟨w.heap.size, 34, none⟩) 32 32 := by rw [← Array.getD_eq_getD_getElem?]; exact q22
      have e26 : Rd w' (a.eval (.tmp 26)) (be ln 2) := hd 16 (by decide +kernel)
      obtain ⟨a26, c26, q26, _⟩ := e26.shape
      rw [q26] at e26
      rw [be_len] at q26 e26
      have f26 : a.tmps[26]?.getD undef = .slice a26 2 c26 := by rw [← Array.getD_eq_getD_getElem?]; exact q26
      have e31 : Rd w' (a.eval (.tmp 31)) ([n]) := hd 21 (by decide +kernel)
      obtain ⟨a31, c31, q31, _⟩ := e31.shape
      rw [q31] at e31
      have f31 : a.tmps[31]?.getD undef = .slice a31 1 c31 := by rw [← Array.getD_eq_getD_getElem?]; exact q31
      have R := Lib.hid (rds_seven e11 e14 e16 e20 e22 e26 e31 rfl)
      clear q11 q14 q16 q20 q22 q26 q31 e11 e14 e16 e20 e22 e26 e31 hd
      refine doesC_wp hB.below.size rfl fun K hK => ?_
      unfold Oper.wp execOp
      go_simp
      exact hK _ _ R.out ((Below.refl _ _).alloc (Nat.le_refl _) _)
  · intro vs w3 hB hv
    have e32 : Rds w3 (vs 22) [mark4, be ver 8, sup, [ar], keys, be ln 2, [n]] := hv 22 (by decide)
    have E := Lib.hid e32
    have W3 := Lib.hid (W2.out.trans (hB.below.mono W2.out.size))
    have X3 := Lib.hid (X2.out.below hB.below X2.out.lt)
    have c67 := X3.out.cell 67 _ C67.out
    obtain ⟨a32, c32, q32', _⟩ := e32.shape
    have q32 : vs 22 = .slice a32 7 c32 := q32'
    clear hv hB e32 q32'
    rw [q32] at E
    simp only [List.take_succ_cons, List.take_zero, List.drop_succ_cons, List.drop_zero, putOps, Act.put, List.setIfInBounds_toArray, List.set_cons_zero, List.set_cons_succ, q32]
    clear q32
    generalize vs 0 = y0
    generalize vs 1 = y1
    generalize vs 2 = y2
    generalize vs 3 = y3
    generalize vs 4 = y4
    generalize vs 5 = y5
    generalize vs 6 = y6
    generalize vs 7 = y7
    generalize vs 8 = y8
    generalize vs 9 = y9
    generalize vs 10 = y10
    generalize vs 11 = y11
    generalize vs 12 = y12
    generalize vs 13 = y13
    generalize vs 14 = y14
    generalize vs 15 = y15
    generalize vs 16 = y16
    generalize vs 17 = y17
    generalize vs 18 = y18
    generalize vs 19 = y19
    generalize vs 20 = y20
    generalize vs 21 = y21
    have HC3 := Lib.hid (HCC.out w3 _ E.out)
    clear HCC E W2 X2 HPV HPL C0 C33 C66 C67 HCS HCK BSU BKE AR2 N256
    go_wp2_with (go_at_call 36; (with_reducible refine HC3.out.mono ?_); rintro e w4 ⟨v4, rfl, o4, b4⟩; have W4 := Lib.hid (W3.out.on b4); have O4 := Lib.hid (o4.lower W3.out.size); have c67 := (X3.out.below b4 X3.out.lt).cell 67 _ C67B.out; clear o4 b4)
    go_loopw [4, 37] (fun s i wr => ∃ k : Nat, k ≤ n ∧ i = .int .i64 (k : Int) ∧ Own wr w.heap.size s (PR ++ ones (ps.take k)) ∧ Below w.heap.size w wr) (fun _ i _ => n - (intOf i).toNat)
    case atStart => exact ⟨0, Nat.zero_le _, rfl, by rw [List.take_zero]; show Own _ _ _ (PR ++ []); rw [List.append_nil]; exact O4.out, W4.out⟩
    case round =>
      clear O4 W4 W3 X3 HC3 c67
      obtain ⟨k, hk, rfl, ho, hw⟩ := hrel
      have W5 := Lib.hid hw
      have O5 := Lib.hid ho
      have B5 := Lib.hid ho.rd.fits
      clear ho hw
      obtain ⟨sa, sq, rfl, _⟩ := O5.out.rd.shape
      obtain ⟨M, hM⟩ : ∃ M, M = PR ++ ones (ps.take k) := ⟨_, rfl⟩
      rw [← hM] at O5 ⊢
      have HML := Lib.hid (show M.length ≤ 368 by
        rw [hM, List.length_append, PRE80.out, HOL.out k, List.length_take]
        have := N8.out; have := HN.out
        omega)
      have HMM := Lib.hid hM
      obtain ⟨ml, hml⟩ : ∃ x, x = M.length := ⟨_, rfl⟩
      rw [← hml] at O5 HML ⊢
      have HLL := Lib.hid hml
      clear hM hml
      by_cases hlt : k < n
      · have hkp : k < ps.length := by rw [← HN.out]; exact hlt
        obtain ⟨pb, po, rfl, hpc⟩ := ref_range (HV.out.below W5.out) HPS.out hkp
        have PC := Lib.hid hpc
        have POK := HPS.out _ (List.getElem_mem hkp)
        have PL := Lib.hid (pc_len POK)
        have hklt : (k : Int) < (n : Int) := by omega
        have hk0 : (0 : Int) ≤ (k : Int) := by omega
        have HNX := Lib.hid (show PR ++ ones (ps.take (k + 1)) = (M ++ be ps[k].at_ 4) ++ ps[k].sum by
          rw [HOT.out k hkp, HMM.out]; unfold one; simp only [List.append_assoc])
        have HP32 := Lib.hid (fun W => put32_any ps[k].at_ POK.1 W)
        have BSM := Lib.hid POK.2
        have HPC0 := Lib.hid (show (pc ps[k])[0]? = some (.int .u32 (ps[k].at_ : Int)) from rfl)
        have HPC1 := Lib.hid (show ((pc ps[k]).drop 1).take 32 = row8 ps[k].sum by unfold pc; rw [List.drop_succ_cons, List.drop_zero, List.take_of_length_le (by rw [row8_len, POK.2.1]; exact Nat.le_refl _)])
        have PG1 := Lib.hid (pc_one ps[k])
        obtain ⟨PG, hPG⟩ : ∃ x, x = pc ps[k] := ⟨_, rfl⟩
        obtain ⟨AT, hAT⟩ : ∃ x, x = ps[k].at_ := ⟨_, rfl⟩
        obtain ⟨SM_, hSM⟩ : ∃ x, x = ps[k].sum := ⟨_, rfl⟩
        rw [← hPG] at PC PL HPC0 HPC1 PG1
        rw [← hAT] at HNX HP32 HPC0
        rw [← hSM] at HNX BSM HPC1
        have hzr := zeroRefL
        obtain ⟨Z, hZ⟩ : ∃ Z, Z = zref := ⟨_, rfl⟩
        rw [← hZ] at hzr
        have ZL := Lib.hid (show Z.length = 33 by rw [hZ]; exact zrefL_len)
        have P1 := Lib.hid (Blk.new wr 45 Z wr.heap.size rfl)
        have bA := (Below.refl wr.heap.size wr).alloc (Nat.le_refl _) (.cells Z.toArray 45)
        have W6 := Lib.hid (W5.out.on bA)
        have O6 := Lib.hid (O5.out.below bA)
        have OLT := Lib.hid (fun g (hg : (Value.slice sa ml sq).ownBlock = some g) => (O5.out.from g hg))
        have WRS := Lib.hid W5.out.size
        clear hpc POK hPG hAT hSM hZ bA O5
        go_wp2_with (first
          | (refine wpList_load_mid rfl 45 (.tmp 39) rfl pb (po + k * 33) rfl PG _ PC.out Tryd.underlying45 rfl (by rw [PL.out]; exact infoRf) ?_)
          | (refine wpList_store_blk rfl 45 (.tmp 6) (.tmp 40) rfl wr.heap.size 0 PG rfl rfl 45 Z P1.out (by have := PL.out; have := ZL.out; omega) (by rw [PL.out]; exact infoRf) PG1.out ?_; intro w7 b7 g7; rw [splice_all _ _ (by have := PL.out; have := ZL.out; omega)] at b7; have P7 := Lib.hid b7; have W7 := Lib.hid (W6.out.grown g7 W6.out.size (fun g hg => by have := WRS.out; have := Option.some.inj hg; omega)); have O7 := Lib.hid (O6.out.keep g7 (.inr (fun e => by have := (OLT.out _ e).2; omega))); have c0 := b7.cell 0 _ HPC0.out; clear b7 g7)
          | (go_at_call 39; (with_reducible refine (HP32.out _).mono ?_); rintro e w8 ⟨v8, rfl, o8, b8⟩; have R8 := Lib.hid o8.rd; have W8 := Lib.hid (W7.out.on b8); have O8 := Lib.hid (O7.out.below b8); have P8 := Lib.hid (P7.out.below b8 P7.out.lt); clear o8 b8)
          | (refine wpList_app rfl (.tmp 41) (.tmp 44) rfl w.heap.size _ _ M (be AT 4) rfl rfl O8.out R8.out (by rw [← HLL.out, be_len]; have := HML.out; omega) W8.out.size ?_; intro v9 w9 o9 g9 k9; have O9 := Lib.hid o9; have W9 := Lib.hid (W8.out.grown g9 W8.out.size (fun g hg => (OLT.out g hg).1)); have P9 := Lib.hid (P8.out.grown g9 (fun e => by have := (OLT.out _ e.symm).2; omega)); have R9 := Lib.hid (rd_part P9.out BSM.out HPC1.out (by decide)); have OF9 := Lib.hid (fun g hg => (O9.out.from g hg).1); clear o9 g9 k9)
          | (refine wpList_app rfl (.tmp 46) (.tmp 48) rfl w.heap.size _ _ (M ++ be AT 4) SM_ rfl rfl O9.out R9.out (by rw [List.length_append, ← HLL.out, be_len, BSM.out.1]; have := HML.out; omega) W9.out.size ?_; intro v10 w10 o10 g10 k10; have O10 := Lib.hid o10; have W10 := Lib.hid (W9.out.grown g10 W9.out.size OF9.out); clear o10 g10 k10))
        exact ⟨⟨k + 1, by omega, by go_num, by rw [HNX.out]; exact O10.out, W10.out⟩, by simp [intOf]; omega⟩
      · obtain rfl : k = n := by omega
        have HA : PR ++ ones (ps.take k) = PR ++ ones ps := by rw [HN.out, List.take_length]
        rw [HMM.out, HA] at O5
        have hkk : ¬ (k : Int) < (k : Int) := by omega
        have HP6 := Lib.hid (HPD.out wr _ O5.out.rd)
        go_wp2_with (go_at_call 40; (with_reducible refine HP6.out.mono ?_); rintro e w7 ⟨rfl, o7, b7⟩; have W7 := Lib.hid (W5.out.on b7); have O7 := Lib.hid (o7.lower W5.out.size); clear o7 b7)
        go_ret2
        exact ⟨_, rfl, O7.out, W7.out⟩
set_option maxHeartbeats 400000 in
theorem pput_no (r : Rt) (hr : RT.Ok r) (v : Value) (w : World) (hv : RdT 33 w v r.pages.length (pcs r.pages)) (hn1 : r.pages.length ≤ 140737488355328) (hm : may r = false) (key : List Nat) : Calls Tryd.prog 11 #[.agg (rtc r v).toArray, .agg (row8 key).toArray] w fun e w' => e = .returned (.tuple #[.slice none 0 0, .int .i64 2]) ∧ Below w.heap.size w w' := by
  obtain ⟨L, hL⟩ : ∃ L, L = rtc r v := ⟨_, rfl⟩
  have L68 := Lib.hid (show L.length = 68 by rw [hL]; exact rtc_len hr _)
  obtain ⟨w1, hw1⟩ : ∃ x, x = (w.alloc (.cells L.toArray 27)).alloc (.cells (row8 key).toArray 28) := ⟨_, rfl⟩
  have W1 := Lib.hid (show Below w.heap.size w w1 by rw [hw1]; exact ((Below.refl w.heap.size w).alloc (Nat.le_refl _) _).alloc (by simp) _)
  have X1 := Lib.hid (show Blk w1 w.heap.size 27 L by rw [hw1]; exact (Blk.new w 27 L _ rfl).alloc _)
  have HL := Lib.hid (play_no r hr v w1 (hv.below W1.out) hn1 hm)
  rw [← hL] at HL ⊢
  clear hL hv hm hr hn1
  go_enter Tryd.func11, Tryd.ntmps11
  go_upto_region 1 with (fail)
  rw [← hw1]
  clear hw1
  go_wp2_with (first
    | (refine wpList_load_mid rfl 27 (.tmp 2) rfl w.heap.size 0 rfl L _ X1.out.range Tryd.underlying27 rfl (by rw [L68.out]; exact infoRtL) ?_)
    | (go_at_call 21; (with_reducible refine HL.out.mono ?_); rintro e w2 ⟨rfl, b2⟩; have W2 := Lib.hid (W1.out.on b2); clear b2))
  go_ret2
  exact ⟨rfl, W2.out⟩
theorem zeroSumL (w : World) : (zeroValue 24).run Tryd.prog w = .ok (.agg (row8 (List.replicate 32 0)).toArray) w := by kernel_rfl
theorem infoSumL : (Tryd.prog.info? 24).map (·.size) = some 32 := by kernel_rfl
set_option maxRecDepth 100000 in
set_option maxHeartbeats 1000000 in
theorem pput_ok (r : Rt) (hr : RT.Ok r) (v : Value) (w : World) (hv : RdT 33 w v r.pages.length (pcs r.pages)) (hn1 : r.pages.length ≤ 140737488355328) (hm : may r = true) (key : List Nat) (hkey : Bytes 32 key) (ht : TabP w) : Calls Tryd.prog 11 #[.agg (rtc r v).toArray, .agg (row8 key).toArray] w fun e w' => ∃ u, e = .returned (.tuple #[u, .int .i64 0]) ∧ Own w' w.heap.size u (lay r key) ∧ Below w.heap.size w w' := by
  obtain ⟨L, hL⟩ : ∃ L, L = rtc r v := ⟨_, rfl⟩
  have L68 := Lib.hid (show L.length = 68 by rw [hL]; exact rtc_len hr _)
  obtain ⟨w1, hw1⟩ : ∃ x, x = (w.alloc (.cells L.toArray 27)).alloc (.cells (row8 key).toArray 28) := ⟨_, rfl⟩
  have W1 := Lib.hid (show Below w.heap.size w w1 by rw [hw1]; exact ((Below.refl w.heap.size w).alloc (Nat.le_refl _) _).alloc (by simp) _)
  have X1 := Lib.hid (show Blk w1 w.heap.size 27 L by rw [hw1]; exact (Blk.new w 27 L _ rfl).alloc _)
  have k1 : Blk (w.alloc (.cells L.toArray 27)) w.heap.size 27 L := Blk.new w 27 L _ rfl
  have K1 := Lib.hid (show Blk w1 (w.heap.size + 1) 28 (row8 key) by
    rw [hw1]
    have h := Blk.new (w.alloc (.cells L.toArray 27)) 28 (row8 key) _ rfl
    rw [show (w.alloc (.cells L.toArray 27)).heap.size = w.heap.size + 1 by simp] at h
    exact h)
  have HL := Lib.hid (play_ok r hr v w1 (hv.below W1.out) hn1 hm)
  have HB := Lib.hid (body_len hr (may_iff.1 hm).2.2.2.1)
  have HK := Lib.hid hkey
  have HT := Lib.hid ht
  obtain ⟨F, hF⟩ : ∃ F, F = lay r key := ⟨_, rfl⟩
  have hf0 := hF
  unfold lay at hf0
  obtain ⟨S, hS⟩ : ∃ S, S = SM.mac key (body r) := ⟨_, rfl⟩
  obtain ⟨B, hB⟩ : ∃ S, S = body r := ⟨_, rfl⟩
  have BS := Lib.hid (show Bytes 32 S by rw [hS]; exact mac_bytes _ _)
  rw [← hS, ← hB] at hf0
  rw [← hB] at HL HB hS
  have HS := Lib.hid hS
  have HF := Lib.hid hf0
  clear hf0
  rw [← hL] at HL ⊢
  rw [← hF]
  have hzs := zeroSumL
  obtain ⟨Z, hZ⟩ : ∃ Z, Z = row8 (List.replicate 32 0) := ⟨_, rfl⟩
  rw [← hZ] at hzs
  have ZL := Lib.hid (show Z.length = 32 by rw [hZ, row8_len]; simp)
  clear hL hv hm hr hn1 hF hS hB hZ k1 hkey ht
  go_enter Tryd.func11, Tryd.ntmps11
  go_upto_region 1 with (fail)
  rw [← hw1]
  clear hw1
  go_upto_region 4 with (first
    | (refine wpList_load_mid rfl 27 (.tmp 2) rfl w.heap.size 0 rfl L _ X1.out.range Tryd.underlying27 rfl (by rw [L68.out]; exact infoRtL) ?_)
    | (go_at_call 21; (with_reducible refine HL.out.mono ?_); rintro e w2 ⟨u2, rfl, o2, b2⟩; have W2 := Lib.hid (W1.out.on b2); have O2 := Lib.hid (o2.lower W1.out.size); have K2 := Lib.hid (K1.out.below b2 K1.out.lt); clear o2 b2))
  have R2 := Lib.hid O2.out.rd
  have RK2 := Lib.hid (blk_rd_at K2.out HK.out.2 0 32 32 (by rw [HK.out.1]; decide) (Nat.le_refl _) (by rw [HK.out.1]; decide))
  rw [show (key.drop 0).take 32 = key by rw [List.drop_zero, List.take_of_length_le (by rw [HK.out.1]; exact Nat.le_refl _)]] at RK2
  have HOF := Lib.hid (hof_one_at (b := w2.heap.size) rfl RK2.out R2.out (HT.out.below W2.out) (by rw [HB.out]; decide) HS.out)
  obtain ⟨a2, c2, rfl, _⟩ := O2.out.rd.shape
  rw [HB.out] at O2 R2 HOF ⊢
  go_upto_region 5 with (first
    | (go_at_call 20; (with_reducible refine HOF.out.mono ?_); rintro e w3 ⟨rfl, b3⟩; have W3 := Lib.hid (W2.out.on b3); have O3 := Lib.hid (O2.out.below b3); clear b3; have S3 := Lib.hid (Blk.new w3 24 Z _ rfl); have b4 := (Below.refl w3.heap.size w3).alloc (Nat.le_refl _) (.cells Z.toArray 24); have W4 := Lib.hid (W3.out.on b4); have O4 := Lib.hid (O3.out.below b4); clear b4)
    | (refine wpList_store_blk rfl 24 (.tmp 8) (.tmp 20) rfl w3.heap.size 0 (row8 S) rfl rfl 24 Z S3.out (by have := BS.out.1; have := ZL.out; rw [row8_len]; omega) (by rw [row8_len, BS.out.1]; exact infoSumL) (row8_one _) ?_; intro w5 b5 g5; rw [splice_all _ _ (by have := BS.out.1; have := ZL.out; rw [row8_len]; omega)] at b5; have S5 := Lib.hid b5; have W5 := Lib.hid (W4.out.grown g5 W4.out.size (fun g hg => by have := W3.out.size; have := Option.some.inj hg; omega)); have O5 := Lib.hid (O4.out.keep g5 (.inr (fun e => by have := (O3.out.from _ e).2; omega))); clear b5 g5))
  have RS5 := Lib.hid (blk_rd_at S5.out BS.out.2 0 32 32 (by rw [BS.out.1]; decide) (Nat.le_refl _) (by rw [BS.out.1]; decide))
  rw [show (S.drop 0).take 32 = S by rw [List.drop_zero, List.take_of_length_le (by rw [BS.out.1]; exact Nat.le_refl _)]] at RS5
  have OF5 := Lib.hid (fun g hg => (O5.out.from g hg).1)
  go_wp2_with (refine wpList_app rfl (.tmp 21) (.tmp 22) rfl w.heap.size _ _ B S rfl rfl O5.out RS5.out (by rw [HB.out, BS.out.1]; decide) W5.out.size ?_; intro v6 w6 o6 g6 k6; rw [← HF.out] at o6; have O6 := Lib.hid o6; have W6 := Lib.hid (W5.out.grown g6 W5.out.size OF5.out); clear o6 g6 k6)
  go_ret2
  exact ⟨_, rfl, O6.out, W6.out⟩
theorem pput_any (r : Rt) (hr : RT.Ok r) (v : Value) (w : World) (hv : RdT 33 w v r.pages.length (pcs r.pages)) (hn1 : r.pages.length ≤ 140737488355328) (key : List Nat) (hkey : Bytes 32 key) (ht : TabP w) : Calls Tryd.prog 11 #[.agg (rtc r v).toArray, .agg (row8 key).toArray] w fun e w' => ∃ u, e = .returned (.tuple #[u, .int .i64 (perr r)]) ∧ Own w' w.heap.size u (put r key) ∧ Below w.heap.size w w' := by
  cases h : may r with
  | false =>
    rw [(put_no h key).1, (put_no h key).2]
    exact (pput_no r hr v w hv hn1 h key).mono fun e w' hh => ⟨_, hh.1, (own_nil w').lower hh.2.size, hh.2⟩
  | true =>
    rw [(put_yes h key).1, (put_yes h key).2]
    exact pput_ok r hr v w hv hn1 h key hkey ht
end Go.Proofs.YtenigdbnfepkeaaDoor
