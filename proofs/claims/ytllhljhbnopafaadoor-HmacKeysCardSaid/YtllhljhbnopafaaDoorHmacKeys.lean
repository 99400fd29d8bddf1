/- HmacKeys: for any key and any bytes: a nought behind a key of fewer than 64 bytes changes nothing, and a key of more is as good as its sum; and the law's closed case holds. No condition but that the program's table holds its constants when the call begins. -/
import Derived.Test.YtllhljhbnopafaaDoorRows
import Derived.Test.YtllhljhbnopafaaDoorHmacAwake
import Derived.Test.YtllhljhbnopafaaDoorDoorP
import Derived.Test.YtllhljhbnopafaaDoorTie
import Derived.Test.YtllhljhbnopafaaDoorCards
import Derived.SevenTiedAt
import Derived.Test.YtllhljhbnopafaaDoorArgs
import Derived.WalkKit
import Derived.ProofKit
import Derived.OpenShut
import Derived.SizedLaws
import Derived.Carry
import Derived.Deep.DeepHandedRow
import Derived.Deep.DeepWitnessRowRef
namespace Go.Proofs.YtllhljhbnopafaaDoor.hmacKeys
open Go.ChangeShapes Go.WideShapes Go.ChangeAt Go.RowKit

theorem own : ownKnob Tryd.prog.godebug = none := by kernel_rfl
set_option linter.unusedVariables false in
set_option maxHeartbeats 4000000 in
set_option maxRecDepth 100000 in
theorem walk (w : World) (ht : TabP w) (v0 : Value) (l0 : List Nat) (h0 : Rd w v0 l0) (v1 : Value) (l1 : List Nat) (h1 : Rd w v1 l1) :
    Calls Tryd.prog 6 #[v0, v1] w fun e w' => e = .returned (.bool true) ∧ Below w.heap.size w w' := by
  obtain ⟨a0, c0, rfl, hc0⟩ := h0.shape
  obtain ⟨a1, c1, rfl, hc1⟩ := h1.shape
  have q0 := h0.fits
  have q1 := h1.fits
  obtain ⟨M, hM⟩ : ∃ S, S = SM.mac l0 l1 := ⟨_, rfl⟩
  have bM : Bytes 32 M := by rw [hM]; exact mac_bytes _ _
  have hem := fun w => run_eql_sum bM bM w
  simp only [decide_true] at hem
  have K32 := Lib.hid (show (row8 M).length = 32 by rw [row8_len]; exact bM.1)
  obtain ⟨D0, hD0⟩ : ∃ C0, C0 = row8 (List.replicate 32 0) := ⟨_, rfl⟩
  have hz : ∀ w, (zeroValue 26).run Tryd.prog w = .ok (.agg D0.toArray) w := by rw [hD0]; exact zeroSum
  have hd0 : D0.length = 32 := by rw [hD0, row8_len, List.length_replicate]
  have HK := Lib.hid h0
  have HV := Lib.hid h1
  have HT := Lib.hid ht
  have HOV := Lib.hid (fun (hl : 0 < l1.length) (g : Nat) (hg : w.heap.size ≤ g) => h1.old hl g hg)
  have HOF := Lib.hid (hof_one_at (b := w.heap.size) rfl h0 h1 ht (by omega) hM)
  have HMM := Lib.hid hM.symm
  clear h0 h1 ht hD0 bM hM
  go_enter Tryd.func6, Tryd.ntmps6
  go_upto_region 2 with (first
    | (go_at_call 10; (with_reducible refine HOF.out.mono ?_); rintro e w2 ⟨rfl, b2⟩; have B2 := Lib.hid b2; clear b2)
    | (refine wpList_store_blk rfl 26 (.tmp 5) (.tmp 10) rfl w2.heap.size 0 (row8 M) rfl rfl 26 D0 (Blk.new w2 26 D0 _ rfl) (by rw [K32.out, hd0]; exact Nat.le_refl _) (by rw [K32.out]; exact infoS) (row8_one _) ?_; intro w3 b3 g3; rw [splice_all _ _ (by rw [K32.out, hd0])] at b3; have N3 := Lib.hid b3; have B3 := Lib.hid (own_turn B2.out g3); clear b3 g3))
  simp only [put_none]
  obtain ⟨mb, hmb⟩ : ∃ mb, mb = w2.heap.size := ⟨_, rfl⟩
  rw [← hmb] at N3 ⊢
  clear B2 HOF hmb
  by_cases hlt : l0.length < 64
  · have hlI : (l0.length : Int) < 64 := by omega
    have HT2 := Lib.hid (HT.out.below B3.out)
    have HK2 := Lib.hid (HK.out.below B3.out)
    have HV2 := Lib.hid (HV.out.below B3.out)
    have HSZ := Lib.hid B3.out.size
    have HM := Lib.hid N3.out
    have HN := Lib.hid (SM.mac_nought l0 l1 hlt)
    go_upto_region 3 with (fail)
    refine wp_region_g (by kernel_rfl) 14 (by decide) (by kernel_rfl) (by kernel_rfl) (by kernel_rfl) (w3.heap.size) (Nat.le_refl _) [.own ([]), .val (.slice a0 l0.length c0), .own ([] ++ l0), .own ([0]), .own ([] ++ l0 ++ [0]), .val (.slice a1 l1.length c1), .rds ([l1]), .val (.agg (row8 M).toArray), .val (.agg (row8 M).toArray), .val (.bool true), .val (.bool true), .val (.bool true), .val (.bool true), .val (.bool true)] (fun j => if j = 2 then 4 else if j = 0 then 2 else 14) ?_ ?_
    · refine ⟨?_, ?_, ?_, ?_, ?_, ?_, ?_, ?_, ?_, ?_, ?_, ?_, ?_, ?_, trivial⟩
      · intro a w' hF hB hd
        exact doesG_empty rfl rfl hB.size (fun _ _ h => h)
      · intro a w' hF hB hd
        have e0 : a.eval (.tmp 0) = .slice a0 l0.length c0 := hF 0 (by decide +kernel)
        exact doesG_val rfl (ex_move rfl e0) rfl rfl
      · intro a w' hF hB hd
        have e14 : Own w' w3.heap.size (a.eval (.tmp 14)) ([]) := hd 0 (by decide +kernel) (.inl (by decide))
        have e15 : a.eval (.tmp 15) = .slice a0 l0.length c0 := hd 1 (by decide +kernel) (.inr (by decide))
        exact doesG_app rfl (.tmp 14) (.tmp 15) rfl 0 (by decide +kernel) rfl rfl _ _ _ _ rfl rfl e15 e14 (HK2.out.below hB) (by simp; omega) hB.size (fun _ _ h => h)
      · intro a w' hF hB hd
        exact doesG_byte rfl 0 (by decide) rfl hB.size (fun _ _ h => h)
      · intro a w' hF hB hd
        have e16 : Own w' w3.heap.size (a.eval (.tmp 16)) ([] ++ l0) := hd 2 (by decide +kernel) (.inl (by decide))
        have e17 : Own w' w3.heap.size (a.eval (.tmp 17)) ([0]) := hd 3 (by decide +kernel) (.inr (by decide))
        exact doesG_app rfl (.tmp 16) (.tmp 17) rfl 2 (by decide +kernel) rfl rfl _ _ _ _ rfl rfl rfl e16 e17.rd (by simp; omega) hB.size (fun _ _ h => h)
      · intro a w' hF hB hd
        have e1 : a.eval (.tmp 1) = .slice a1 l1.length c1 := hF 1 (by decide +kernel)
        exact doesG_val rfl (ex_move rfl e1) rfl rfl
      · intro a w' hF hB hd
        have e19 : a.eval (.tmp 19) = .slice a1 l1.length c1 := hd 5 (by decide +kernel) (.inr (by decide))
        exact doesG_one rfl 19 rfl e19 _ (HV2.out.below hB) (fun h g hg => HOV.out h g (by have := HSZ.out; omega)) (fun _ _ h => h)
      · intro a w' hF hB hd
        have e18 : Own w' w3.heap.size (a.eval (.tmp 18)) ([] ++ l0 ++ [0]) := hd 4 (by decide +kernel) (.inr (by decide))
        have e20 : Olds w3.heap.size (a.eval (.tmp 20)) ([l1]) w' := hd 6 (by decide +kernel) (.inr (by decide))
        exact doesG_call rfl (ex_call (vs := #[a.eval (.tmp 18), a.eval (.tmp 20)]) rfl (by simp only [List.map_toArray, List.map_cons, List.map_nil]) (by go_simp)) rfl ((hof_any ([] ++ l0 ++ [0]) [l1] (by rw [List.flatten_cons, List.flatten_nil, List.append_nil]; omega) _ _ w' e18.rd e20.rds (HT2.out.below hB)).mono fun e w2 hh => ⟨_, by rw [hh.1, List.nil_append, List.flatten_cons, List.flatten_nil, List.append_nil, HN.out, HMM.out], rfl, hh.2⟩)
      · intro a w' hF hB hd
        have e5 : a.eval (.tmp 5) = .pointer (some ⟨mb, 0, none⟩) := hF 5 (by decide +kernel)
        exact doesG_wp rfl rfl fun K' hK' => wp_load_mid 26 (.tmp 5) rfl mb 0 e5 (row8 M) _ (HM.out.below hB HM.out.lt).range Tryd.underlying26 rfl (by rw [K32.out]; exact infoS) (hK' _ _ rfl (Below.refl _ _))
      · intro a w' hF hB hd
        have e21 : a.eval (.tmp 21) = .agg (row8 M).toArray := hd 7 (by decide +kernel) (.inr (by decide))
        have e22 : a.eval (.tmp 22) = .agg (row8 M).toArray := hd 8 (by decide +kernel) (.inr (by decide))
        exact doesG_val rfl (ex_binOp rfl e21 e22 (run_eqGuard_agg (P := Tryd.prog) (w := w') .eql 26 _ _ _ _ eqTypeS) (hem w')) rfl rfl
      · intro a w' hF hB hd
        have e23 : a.eval (.tmp 23) = .bool true := hd 9 (by decide +kernel) (.inr (by decide))
        exact doesG_val rfl (ex_move rfl e23) rfl rfl
      · intro a w' hF hB hd
        have e24 : a.eval (.tmp 24) = .bool true := hd 10 (by decide +kernel) (.inr (by decide))
        exact doesG_call (wanted_of rfl (yielded_of rfl e24)) (ex_call (vs := #[]) rfl (by simp) (by go_simp)) rfl ((hawake_any w' (HT2.out.below hB)).mono fun e w2 hh => ⟨_, hh.1, rfl, hh.2⟩)
      · intro a w' hF hB hd
        have e24 : a.eval (.tmp 24) = .bool true := hd 10 (by decide +kernel) (.inr (by decide))
        have e25 : a.eval (.tmp 25) = .bool true := hd 11 (by decide +kernel) (.inr (by decide))
        exact doesG_val rfl (ex_pick rfl e24 (by simp [e25])) rfl rfl
      · intro a w' hF hB hd
        have e26 : a.eval (.tmp 26) = .bool true := hd 12 (by decide +kernel) (.inr (by decide))
        exact doesG_val rfl (ex_assign rfl e26) rfl rfl
    · intro vs w4 hb hv hap
      have e2 : vs 13 = .bool true := hv 13 (by decide) (by decide)
      simp only [List.take_succ_cons, List.take_zero, List.drop_succ_cons, List.drop_zero, putOps, Act.put, List.setIfInBounds_toArray, List.set_cons_zero, List.set_cons_succ, e2]
      have HB := Lib.hid (B3.out.on hb)
      clear hv hap e2 hb
      go_wp2_with fail
      go_ret
      exact ⟨rfl, HB.out⟩
  · have hlI : ¬ (l0.length : Int) < 64 := by omega
    obtain ⟨S, hS⟩ : ∃ S, S = SM.sha l0 := ⟨_, rfl⟩
    have bS : Bytes 32 S := by rw [hS]; exact sha_bytes _
    have S32 := Lib.hid (show (row8 S).length = 32 by rw [row8_len]; exact bS.1)
    have HBS := Lib.hid bS
    have HS := Lib.hid hS
    have HOS := Lib.hid (of_one_at (b := w3.heap.size) rfl (HK.out.below B3.out) (HT.out.below B3.out) (by omega) hS)
    clear bS hS
    go_upto_region 5 with (first
      | (go_at_call 17; (with_reducible refine HOS.out.mono ?_); rintro e w4 ⟨rfl, b4⟩; have B4 := Lib.hid (B3.out.on b4); have N4 := Lib.hid (N3.out.below b4 N3.out.lt); clear b4)
      | (refine wpList_store_blk rfl 26 (.tmp 6) (.tmp 29) rfl w4.heap.size 0 (row8 S) rfl rfl 26 D0 (Blk.new w4 26 D0 _ rfl) (by rw [S32.out, hd0]; exact Nat.le_refl _) (by rw [S32.out]; exact infoS) (row8_one _) ?_; intro w5 b5 g5; rw [splice_all _ _ (by rw [S32.out, hd0])] at b5; have S5 := Lib.hid b5; have B5 := Lib.hid (own_turn B4.out g5); have HM := Lib.hid ((N4.out.alloc (.cells D0.toArray 26)).grown g5 (fun q => by have e : mb = w4.heap.size := Option.some.inj q; have := N4.out.lt; omega)); clear b5 g5))
    simp only [put_none]
    obtain ⟨xb, hxb⟩ : ∃ b, b = w4.heap.size := ⟨_, rfl⟩
    rw [← hxb] at S5 ⊢
    have XL := Lib.hid S5.out.lt
    have HT2 := Lib.hid (HT.out.below B5.out)
    have HV2 := Lib.hid (HV.out.below B5.out)
    have HSZ := Lib.hid B5.out.size
    have s9 := blk_rd S5.out HBS.out.2 (n := 32) (cap := 32) (by rw [HBS.out.1]; omega) (by omega) (by rw [HBS.out.1]; omega)
    rw [List.take_of_length_le (by rw [HBS.out.1]; omega)] at s9
    have HX := Lib.hid s9
    clear s9 hxb hz hd0 HOS N4 S5 N3 B3 B4
    by_cases h64 : l0.length = 64
    · have h6I : (l0.length : Int) = 64 := by omega
      refine wp_region_g (by kernel_rfl) 15 (by decide) (by kernel_rfl) (by kernel_rfl) (by kernel_rfl) (w5.heap.size) (Nat.le_refl _) [.val (.slice a0 l0.length c0), .val (.int .i64 (l0.length : Int)), .val (.bool true), .val (.bool true), .val undef, .val undef, .val undef, .val undef, .val undef, .val undef, .val (.bool true), .val (.bool true), .val (.bool true), .val (.bool true), .val (.bool true)] (fun _ => 15) ?_ ?_
      · refine ⟨?_, ?_, ?_, ?_, ?_, ?_, ?_, ?_, ?_, ?_, ?_, ?_, ?_, ?_, ?_, trivial⟩
        · intro a w' hF hB hd
          have e0 : a.eval (.tmp 0) = .slice a0 l0.length c0 := hF 0 (by decide +kernel)
          exact doesG_val rfl (ex_move rfl e0) rfl rfl
        · intro a w' hF hB hd
          have e30 : a.eval (.tmp 30) = .slice a0 l0.length c0 := hd 0 (by decide +kernel) (.inr (by decide))
          have f30 : a.tmps[30]?.getD undef = .slice a0 l0.length c0 := by rw [← Array.getD_eq_getD_getElem?]; exact e30
          exact doesG_val rfl (v := .int .i64 (l0.length : Int)) (by unfold execOp; go_simp) rfl rfl
        · intro a w' hF hB hd
          have e31 : a.eval (.tmp 31) = .int .i64 (l0.length : Int) := hd 1 (by decide +kernel) (.inr (by decide))
          exact doesG_val rfl (ex_binOp rfl e31 rfl (by go_simp) (by go_simp)) rfl rfl
        · intro a w' hF hB hd
          have e32 : a.eval (.tmp 32) = .bool true := hd 2 (by decide +kernel) (.inr (by decide))
          exact doesG_val rfl (ex_move rfl e32) rfl rfl
        · intro a w' hF hB hd
          have e33 : a.eval (.tmp 33) = .bool true := hd 3 (by decide +kernel) (.inr (by decide))
          exact doesG_skip (unwanted_of rfl (yielded_of rfl e33) (by decide)) rfl
        · intro a w' hF hB hd
          have e33 : a.eval (.tmp 33) = .bool true := hd 3 (by decide +kernel) (.inr (by decide))
          exact doesG_skip (unwanted_of rfl (yielded_of rfl e33) (by decide)) rfl
        · intro a w' hF hB hd
          have e33 : a.eval (.tmp 33) = .bool true := hd 3 (by decide +kernel) (.inr (by decide))
          exact doesG_skip (unwanted_of rfl (yielded_of rfl e33) (by decide)) rfl
        · intro a w' hF hB hd
          have e33 : a.eval (.tmp 33) = .bool true := hd 3 (by decide +kernel) (.inr (by decide))
          exact doesG_skip (unwanted_of rfl (yielded_of rfl e33) (by decide)) rfl
        · intro a w' hF hB hd
          have e33 : a.eval (.tmp 33) = .bool true := hd 3 (by decide +kernel) (.inr (by decide))
          exact doesG_skip (unwanted_of rfl (yielded_of rfl e33) (by decide)) rfl
        · intro a w' hF hB hd
          have e33 : a.eval (.tmp 33) = .bool true := hd 3 (by decide +kernel) (.inr (by decide))
          exact doesG_skip (unwanted_of rfl (yielded_of rfl e33) (by decide)) rfl
        · intro a w' hF hB hd
          have e33 : a.eval (.tmp 33) = .bool true := hd 3 (by decide +kernel) (.inr (by decide))
          exact doesG_val rfl (ex_pick rfl e33 (rfl)) rfl rfl
        · intro a w' hF hB hd
          have e40 : a.eval (.tmp 40) = .bool true := hd 10 (by decide +kernel) (.inr (by decide))
          exact doesG_val rfl (ex_move rfl e40) rfl rfl
        · intro a w' hF hB hd
          have e41 : a.eval (.tmp 41) = .bool true := hd 11 (by decide +kernel) (.inr (by decide))
          exact doesG_call (wanted_of rfl (yielded_of rfl e41)) (ex_call (vs := #[]) rfl (by simp) (by go_simp)) rfl ((hawake_any w' (HT2.out.below hB)).mono fun e w2 hh => ⟨_, hh.1, rfl, hh.2⟩)
        · intro a w' hF hB hd
          have e41 : a.eval (.tmp 41) = .bool true := hd 11 (by decide +kernel) (.inr (by decide))
          have e42 : a.eval (.tmp 42) = .bool true := hd 12 (by decide +kernel) (.inr (by decide))
          exact doesG_val rfl (ex_pick rfl e41 (by simp [e42])) rfl rfl
        · intro a w' hF hB hd
          have e43 : a.eval (.tmp 43) = .bool true := hd 13 (by decide +kernel) (.inr (by decide))
          exact doesG_val rfl (ex_assign rfl e43) rfl rfl
      · intro vs w6 hb hv hap
        have e2 : vs 14 = .bool true := hv 14 (by decide) (by decide)
        simp only [List.take_succ_cons, List.take_zero, List.drop_succ_cons, List.drop_zero, putOps, Act.put, List.setIfInBounds_toArray, List.set_cons_zero, List.set_cons_succ, e2]
        have HB := Lib.hid (B5.out.on hb)
        clear hv hap e2 hb
        go_wp2_with fail
        go_ret
        exact ⟨rfl, HB.out⟩
    · have h6I : ¬ (l0.length : Int) = 64 := by omega
      have HSS := Lib.hid (show SM.mac S l1 = SM.mac l0 l1 by rw [HS.out]; exact SM.mac_sum l0 l1 (by omega))
      refine wp_region_g (by kernel_rfl) 15 (by decide) (by kernel_rfl) (by kernel_rfl) (by kernel_rfl) (w5.heap.size) (Nat.le_refl _) [.val (.slice a0 l0.length c0), .val (.int .i64 (l0.length : Int)), .val (.bool false), .val (.bool false), .val (.slice (some ⟨xb, 0, none⟩) 32 32), .val (.slice a1 l1.length c1), .rds ([l1]), .val (.agg (row8 M).toArray), .val (.agg (row8 M).toArray), .val (.bool true), .val (.bool true), .val (.bool true), .val (.bool true), .val (.bool true), .val (.bool true)] (fun _ => 15) ?_ ?_
      · refine ⟨?_, ?_, ?_, ?_, ?_, ?_, ?_, ?_, ?_, ?_, ?_, ?_, ?_, ?_, ?_, trivial⟩
        · intro a w' hF hB hd
          have e0 : a.eval (.tmp 0) = .slice a0 l0.length c0 := hF 0 (by decide +kernel)
          exact doesG_val rfl (ex_move rfl e0) rfl rfl
        · intro a w' hF hB hd
          have e30 : a.eval (.tmp 30) = .slice a0 l0.length c0 := hd 0 (by decide +kernel) (.inr (by decide))
          have f30 : a.tmps[30]?.getD undef = .slice a0 l0.length c0 := by rw [← Array.getD_eq_getD_getElem?]; exact e30
          exact doesG_val rfl (v := .int .i64 (l0.length : Int)) (by unfold execOp; go_simp) rfl rfl
        · intro a w' hF hB hd
          have e31 : a.eval (.tmp 31) = .int .i64 (l0.length : Int) := hd 1 (by decide +kernel) (.inr (by decide))
          exact doesG_val rfl (ex_binOp rfl e31 rfl (by go_simp) (by go_simp)) rfl rfl
        · intro a w' hF hB hd
          have e32 : a.eval (.tmp 32) = .bool false := hd 2 (by decide +kernel) (.inr (by decide))
          exact doesG_val rfl (ex_move rfl e32) rfl rfl
        · intro a w' hF hB hd
          have e33 : a.eval (.tmp 33) = .bool false := hd 3 (by decide +kernel) (.inr (by decide))
          have e6 : a.eval (.tmp 6) = .pointer (some ⟨xb, 0, none⟩) := hF 6 (by decide +kernel)
          exact doesG_val (wanted_of rfl (yielded_of rfl e33)) (v := .slice (some ⟨xb, 0, none⟩) 32 32) (by unfold execOp; simp only [e6]; go_simp) rfl rfl
        · intro a w' hF hB hd
          have e33 : a.eval (.tmp 33) = .bool false := hd 3 (by decide +kernel) (.inr (by decide))
          have e1 : a.eval (.tmp 1) = .slice a1 l1.length c1 := hF 1 (by decide +kernel)
          exact doesG_val (wanted_of rfl (yielded_of rfl e33)) (ex_move rfl e1) rfl rfl
        · intro a w' hF hB hd
          have e33 : a.eval (.tmp 33) = .bool false := hd 3 (by decide +kernel) (.inr (by decide))
          have e35 : a.eval (.tmp 35) = .slice a1 l1.length c1 := hd 5 (by decide +kernel) (.inr (by decide))
          exact doesG_one (wanted_of rfl (yielded_of rfl e33)) 35 rfl e35 _ (HV2.out.below hB) (fun h g hg => HOV.out h g (by have := HSZ.out; omega)) (fun _ _ h => h)
        · intro a w' hF hB hd
          have e33 : a.eval (.tmp 33) = .bool false := hd 3 (by decide +kernel) (.inr (by decide))
          have e34 : a.eval (.tmp 34) = .slice (some ⟨xb, 0, none⟩) 32 32 := hd 4 (by decide +kernel) (.inr (by decide))
          have e36 : Olds w5.heap.size (a.eval (.tmp 36)) ([l1]) w' := hd 6 (by decide +kernel) (.inr (by decide))
          exact doesG_call (wanted_of rfl (yielded_of rfl e33)) (ex_call (vs := #[.slice (some ⟨xb, 0, none⟩) 32 32, a.eval (.tmp 36)]) rfl (by simp only [List.map_toArray, List.map_cons, List.map_nil, e34]) (by go_simp)) rfl ((hof_any S [l1] (by rw [List.flatten_cons, List.flatten_nil, List.append_nil]; omega) _ _ w' (HX.out.below hB) e36.rds (HT2.out.below hB)).mono fun e w2 hh => ⟨_, by rw [hh.1, List.flatten_cons, List.flatten_nil, List.append_nil, HSS.out, HMM.out], rfl, hh.2⟩)
        · intro a w' hF hB hd
          have e33 : a.eval (.tmp 33) = .bool false := hd 3 (by decide +kernel) (.inr (by decide))
          have e5 : a.eval (.tmp 5) = .pointer (some ⟨mb, 0, none⟩) := hF 5 (by decide +kernel)
          exact doesG_wp (wanted_of rfl (yielded_of rfl e33)) rfl fun K' hK' => wp_load_mid 26 (.tmp 5) rfl mb 0 e5 (row8 M) _ (HM.out.below hB HM.out.lt).range Tryd.underlying26 rfl (by rw [K32.out]; exact infoS) (hK' _ _ rfl (Below.refl _ _))
        · intro a w' hF hB hd
          have e33 : a.eval (.tmp 33) = .bool false := hd 3 (by decide +kernel) (.inr (by decide))
          have e37 : a.eval (.tmp 37) = .agg (row8 M).toArray := hd 7 (by decide +kernel) (.inr (by decide))
          have e38 : a.eval (.tmp 38) = .agg (row8 M).toArray := hd 8 (by decide +kernel) (.inr (by decide))
          exact doesG_val (wanted_of rfl (yielded_of rfl e33)) (ex_binOp rfl e37 e38 (run_eqGuard_agg (P := Tryd.prog) (w := w') .eql 26 _ _ _ _ eqTypeS) (hem w')) rfl rfl
        · intro a w' hF hB hd
          have e33 : a.eval (.tmp 33) = .bool false := hd 3 (by decide +kernel) (.inr (by decide))
          have e39 : a.eval (.tmp 39) = .bool true := hd 9 (by decide +kernel) (.inr (by decide))
          exact doesG_val rfl (ex_pick rfl e33 (by simp [e39])) rfl rfl
        · intro a w' hF hB hd
          have e40 : a.eval (.tmp 40) = .bool true := hd 10 (by decide +kernel) (.inr (by decide))
          exact doesG_val rfl (ex_move rfl e40) rfl rfl
        · intro a w' hF hB hd
          have e41 : a.eval (.tmp 41) = .bool true := hd 11 (by decide +kernel) (.inr (by decide))
          exact doesG_call (wanted_of rfl (yielded_of rfl e41)) (ex_call (vs := #[]) rfl (by simp) (by go_simp)) rfl ((hawake_any w' (HT2.out.below hB)).mono fun e w2 hh => ⟨_, hh.1, rfl, hh.2⟩)
        · intro a w' hF hB hd
          have e41 : a.eval (.tmp 41) = .bool true := hd 11 (by decide +kernel) (.inr (by decide))
          have e42 : a.eval (.tmp 42) = .bool true := hd 12 (by decide +kernel) (.inr (by decide))
          exact doesG_val rfl (ex_pick rfl e41 (by simp [e42])) rfl rfl
        · intro a w' hF hB hd
          have e43 : a.eval (.tmp 43) = .bool true := hd 13 (by decide +kernel) (.inr (by decide))
          exact doesG_val rfl (ex_assign rfl e43) rfl rfl
      · intro vs w6 hb hv hap
        have e2 : vs 14 = .bool true := hv 14 (by decide) (by decide)
        simp only [List.take_succ_cons, List.take_zero, List.drop_succ_cons, List.drop_zero, putOps, Act.put, List.setIfInBounds_toArray, List.set_cons_zero, List.set_cons_succ, e2]
        have HB := Lib.hid (B5.out.on hb)
        clear hv hap e2 hb
        go_wp2_with fail
        go_ret
        exact ⟨rfl, HB.out⟩
set_option maxRecDepth 100000 in
theorem reads (os : Os) {H : Type} (enc : TypeId × Value → H) : ∃ places, DataW.whole enc Tryd.prog ((World.doorLaid Tryd.prog 400 os).forCall (fun _ _ => 0) ⟨#[], #[.slice none 0 0, .slice none 0 0], []⟩).memory Tryd.f6.params.toList Rows.hmacKeysSpec.vars false (#[.slice none 0 0, .slice none 0 0] : Array Value).toList 8 = some ([.nil, .nil], [], places) :=
  ⟨[], by kernel_rfl⟩
set_option linter.unusedVariables false in
set_option maxHeartbeats 1000000 in
set_option maxRecDepth 100000 in
theorem lifted (os : Os) (started : os.Started) (H : Type) (enc : TypeId × Value → H) (F : Stop.Interp) :
    ReturnsInHanded {} Tryd.checked os 6 .any ((OpenSpec.ofChange Rows.hmacKeysSpec).preRow enc Tryd.prog Tryd.f6 Rows.hmacKeysRow.domain false laidP) (((OpenSpec.ofChange Rows.hmacKeysSpec).at F).post enc Tryd.prog Tryd.f6 false true false false) := by
  obtain ⟨places, hx⟩ := reads os enc
  refine returnsInHanded_of_row (C := Tryd.checked) (s := OpenSpec.ofChange Rows.hmacKeysSpec) own started (by kernel_rfl) Tryd.func6
    (witness_row_atRef (enc := enc) (C := Tryd.checked) false (World.doorLaid Tryd.prog 400 os) #[.slice none 0 0, .slice none 0 0] rfl (by kernel_rfl) (by kernel_rfl) (by kernel_rfl)
      (OpenSpec.preRow_of_cond 8 hx (by kernel_rfl) (fun k hk => by cases hk) (by kernel_rfl) (doorP_met os _))) ?_
  intro W base args ds gs before hval0 hW _ hcond hsz0 hL _ _
  have hsz : (DataW.weightsEach Tryd.prog (Tryd.f6.params.toList ++ Rows.hmacKeysSpec.plain.varTypes Tryd.prog) (ds ++ gs)).all (· ≤ reachBytes) = true := hsz0
  clear hsz0
  have hval : ∀ (j : Nat) t v, Tryd.f6.params[j]? = some t → args[j]? = some v → Value.okWide Tryd.prog W .any base t v := hval0
  have hW' := hW
  obtain ⟨p, q, hA0, hV, rfl, _, _⟩ := hW
  have hA : DataW.TrodAll enc Tryd.prog W 0 (fun _ => true) true Tryd.f6.params.toList args.toList ds p := hA0
  rw [Tryd.params6] at hA hval hsz
  obtain ⟨v0, vs0, d0, ds0, p0, q0, hargs, rfl, rfl, g0, r0⟩ := trodAll_cons hA
  obtain ⟨v1, vs1, d1, ds1, p1, q1, rfl, rfl, rfl, g1, r1⟩ := trodAll_cons r0
  obtain ⟨rfl, rfl, rfl⟩ := trodAll_nil r1
  obtain rfl : args = #[v0, v1] := by cases args; simp_all
  obtain ⟨rfl, rfl⟩ := trodVars_none hV
  obtain ⟨l0, h0⟩ := open_bytes (hval 0 22 v0 rfl rfl) g0 (fun elems spare e => sized_slice hsz (j := 0) (t := 22) (e := 5) rfl (by rw [← e]; rfl) Tryd.underlying22)
  obtain ⟨l1, h1⟩ := open_bytes (hval 1 22 v1 rfl rfl) g1 (fun elems spare e => sized_slice hsz (j := 1) (t := 22) (e := 5) rfl (by rw [← e]; rfl) Tryd.underlying22)
  clear hA0 hval0
  have hlt := hW'.lt
  refine (walk W (tabP_of_laid hL) v0 l0 h0 v1 l1 h1).mono fun e W' ⟨he, hb⟩ => ?_
  subst he
  have hargs : DataW.TrodAll enc Tryd.prog W' 0 (fun b => decide (b < W.heap.size)) true _ _ _ _ := (trodAll_cons_mk (Below.trod laidOut (by kernel_rfl) (of_decide_eq_true (by kernel_rfl)) g0 hb (fun x hx => hlt x (by simp [hx]))) (trodAll_cons_mk (Below.trod laidOut (by kernel_rfl) (of_decide_eq_true (by kernel_rfl)) g1 hb (fun x hx => hlt x (by simp [hx]))) trodAll_mk0))
  simp only [List.append_nil] at hW' hargs
  exact ⟨_, rfl, post_law hW' (trodAll_cons_mk (shut_bool Tryd.underlying4 _) trodAll_mk0) hargs rfl hb⟩

theorem over : Rows.hmacKeysRow.holds Tryd.pinned (OpenSpec.ofChange Rows.hmacKeysSpec) :=
  OpenClaim.holds_of_cond 6 Tryd.f6 rfl rfl rfl rfl rfl rfl rfl ⟨rfl, rfl, rfl, rfl, rfl⟩ rfl rfl rfl rfl rfl (by kernel_rfl) Tryd.func6 (by kernel_rfl)
    (of_decide_eq_true (by kernel_rfl)) (by unfold Func.isWrapper; first | (rw [if_pos (by decide +kernel)]; kernel_rfl) | (rw [if_neg (by decide +kernel)]; exact ⟨rfl, rfl⟩))
    (fun os started H enc _ F => by rw [OpenClaim.pre_eq_preRow]; exact lifted os started H enc F)

/-- The given statement. -/
theorem proved : Rows.HmacKeysCardSaid :=
  Claim7.holds_tied_plain_at .later [] _ _ _ _
    over (fun _ h => by cases h) (by kernel_rfl) (fun _ h => by cases h) hmacKeys_row_tie rfl ⟨rfl, rfl⟩ (by kernel_rfl) rfl
    (fun f fn hf hfn => by
      obtain rfl : f = 6 := Option.some.inj ((show Tryd.prog.funcNamed "reliquary/reliquarylaw04.HmacKeys" = some 6 by kernel_rfl).symm.trans hf) |>.symm
      obtain rfl : fn = Tryd.f6 := (Option.some.inj (Tryd.func6.symm.trans hfn)).symm
      exact ⟨by kernel_rfl, fun j t ht => by
        rw [Tryd.params6] at ht
        have hm : t ∈ [22, 22] := by simpa using Array.mem_of_getElem? ht
        have hall : ([22, 22].all fun u => !Tryd.prog.wantsStandIn u) = true := by kernel_rfl
        exact (show Tryd.prog.wantsStandIn t = false by simpa using List.all_eq_true.1 hall t hm)⟩)
    (by kernel_rfl)
end Go.Proofs.YtllhljhbnopafaaDoor.hmacKeys
