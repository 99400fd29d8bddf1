/- NodeKinds: the sums of the three kinds are those of a word and the cluster, that of data with its place; and the law's closed case holds. No condition. -/
import Derived.Test.YtoacdeddkfcllaaDoorRows
import Derived.Test.YtoacdeddkfcllaaDoorNdAwake
import Derived.Test.YtoacdeddkfcllaaDoorFactX
import Derived.Test.YtoacdeddkfcllaaDoorShaD
import Derived.Test.YtoacdeddkfcllaaDoorRdsThree
import Derived.Test.YtoacdeddkfcllaaDoorShaC
import Derived.Test.YtoacdeddkfcllaaDoorTie
import Derived.Test.YtoacdeddkfcllaaDoorCards
import Derived.SevenTiedAt
import Derived.Test.YtoacdeddkfcllaaDoorMem
import Derived.WalkKit
import Derived.ProofKit
import Derived.OpenShut
import Derived.SizedLaws
import Derived.Carry
import Derived.Deep.DeepHandedRow
import Derived.Deep.DeepWitnessRowRef
namespace Go.Proofs.YtoacdeddkfcllaaDoor.nodeKinds
open Go.ChangeShapes Go.WideShapes Go.ChangeAt Go.RowKit
open RT
theorem infoKeyN : (Tryd.prog.info? 39).map (·.size) = some 32 := by kernel_rfl
theorem own : ownKnob Tryd.prog.godebug = none := by kernel_rfl
theorem cells39 : Tryd.prog.cellsOf 39 = 32 := by kernel_rfl
theorem cells5 : Tryd.prog.cellsOf 5 = 1 := by kernel_rfl
set_option linter.unusedVariables false in
set_option maxRecDepth 100000 in
set_option maxHeartbeats 2000000 in
theorem walk (w : World) (ht : TabP w) (l0 : List Nat) (h0 : Bytes 32 l0) (a1 : Int) (w1 : (Lit.int .u32 a1).wf = true) (v2 : Value) (l2 : List Nat) (h2 : Rd w v2 l2) :
    Calls Tryd.prog 7 #[.agg (row8 l0).toArray, .int .u32 a1, v2] w fun e w' => e = .returned (.bool true) ∧ Below w.heap.size w w' := by
  obtain ⟨va, vc, rfl, _⟩ := h2.shape
  have hfit := h2.fits
  obtain ⟨bl, hbl⟩ : ∃ n, n = l2.length := ⟨_, rfl⟩
  have w1' : 0 ≤ a1 ∧ a1 ≤ 4294967295 := by simpa [Lit.wf, IntKind.min, IntKind.max, IntKind.signed, IntKind.bits] using w1
  obtain ⟨at_, hat⟩ : ∃ n : Nat, a1 = (n : Int) := ⟨a1.toNat, by omega⟩
  have hat32 : at_ < 4294967296 := by omega
  subst hat
  clear w1'
  have HT := Lib.hid ht
  have HN := Lib.hid (fun W v (hv : Rd W v l2) (hW : TabP W) => npsum_any l2 v W hv hW)
  have HP := Lib.hid (fun W v (hv : Rd W v l2) (hW : TabP W) => nppage_any l2 v W hv hW)
  have HL := Lib.hid (fun W v (hv : Rd W v l2) (hW : TabP W) => npleaf_any l0 h0 at_ hat32 l2 v W hv hW)
  have HO1 := Lib.hid (fun W v (hv : Rds W v [[110, 111, 100, 101], l2]) (hW : TabP W) => of_any [[110, 111, 100, 101], l2] (by simp; omega) v W hv hW)
  have HO2 := Lib.hid (fun W v (hv : Rds W v [[112, 97, 103, 101], l2]) (hW : TabP W) => of_any [[112, 97, 103, 101], l2] (by simp; omega) v W hv hW)
  have HO3 := Lib.hid (fun W u v (hu : Rd W u l0) (hv : Rds W v [[108, 101, 97, 102], be at_ 4, l2]) (hW : TabP W) => hof_three hu hv hW (by rw [be_len]; show 4 + 4 + _ ≤ _; omega) rfl)
  have HN4 := Lib.hid (fun W => put32_any at_ hat32 W)
  rw [show [[110, 111, 100, 101], l2].flatten = [110, 111, 100, 101] ++ l2 by simp] at HO1
  rw [show [[112, 97, 103, 101], l2].flatten = [112, 97, 103, 101] ++ l2 by simp] at HO2
  have HQ1 := Lib.hid (fun W => (show (binOp .eql 24 (.agg (row8 (SM.sha ([110, 111, 100, 101] ++ l2))).toArray) (.agg (row8 (SM.sha ([110, 111, 100, 101] ++ l2))).toArray)).run Tryd.prog W = .ok (.bool true) W by rw [run_eql_sum (sha_bytes _) (sha_bytes _), decide_eq_true rfl]))
  have HQ2 := Lib.hid (fun W => (show (binOp .eql 24 (.agg (row8 (SM.sha ([112, 97, 103, 101] ++ l2))).toArray) (.agg (row8 (SM.sha ([112, 97, 103, 101] ++ l2))).toArray)).run Tryd.prog W = .ok (.bool true) W by rw [run_eql_sum (sha_bytes _) (sha_bytes _), decide_eq_true rfl]))
  have HQ3 := Lib.hid (fun W => (show (binOp .eql 24 (.agg (row8 (SM.mac l0 ([108, 101, 97, 102] ++ be at_ 4 ++ l2))).toArray) (.agg (row8 (SM.mac l0 ([108, 101, 97, 102] ++ be at_ 4 ++ l2))).toArray)).run Tryd.prog W = .ok (.bool true) W by rw [run_eql_sum (mac_bytes _ _) (mac_bytes _ _), decide_eq_true rfl]))
  obtain ⟨M1, hM1⟩ : ∃ x, x = row8 (SM.sha ([110, 111, 100, 101] ++ l2)) := ⟨_, rfl⟩
  obtain ⟨M2, hM2⟩ : ∃ x, x = row8 (SM.sha ([112, 97, 103, 101] ++ l2)) := ⟨_, rfl⟩
  obtain ⟨M3, hM3⟩ : ∃ x, x = row8 (SM.mac l0 ([108, 101, 97, 102] ++ be at_ 4 ++ l2)) := ⟨_, rfl⟩
  obtain ⟨KC, hKC⟩ : ∃ X, X = row8 l0 := ⟨_, rfl⟩
  have K32 := Lib.hid (show KC.length = 32 by rw [hKC, row8_len, h0.1])
  have HKC := Lib.hid (show (KC.drop 0).take 32 = row8 l0 by rw [hKC, List.drop_zero, List.take_of_length_le (by rw [row8_len, h0.1]; exact Nat.le_refl _)])
  have HKY := Lib.hid h0
  rw [← hM1] at HN HO1 HQ1
  rw [← hM2] at HP HO2 HQ2
  rw [← hM3] at HO3
  rw [← hM3, ← hKC] at HL
  rw [← hM3] at HQ3
  rw [← hKC]
  obtain ⟨w1, hw1⟩ : ∃ x, x = w.alloc (.cells KC.toArray 39) := ⟨_, rfl⟩
  have W1 := Lib.hid (show Below w.heap.size w w1 by rw [hw1]; exact (Below.refl w.heap.size w).alloc (Nat.le_refl _) _)
  have K1 := Lib.hid (show Blk w1 w.heap.size 39 KC by rw [hw1]; exact Blk.new w 39 KC _ rfl)
  have V1 := Lib.hid (h2.below W1.out)
  rw [← hbl] at V1 ⊢
  clear hM1 hM2 hM3 hKC h0 h2 hbl ht hfit hat32
  go_enter Tryd.func7, Tryd.ntmps7
  go_upto_region 1 with fail
  rw [← hw1]
  clear hw1
  refine wp_region_c (by kernel_rfl) 36 (by decide) (by kernel_rfl) (by kernel_rfl) (by kernel_rfl) w1.heap.size rfl [.val (.slice va bl vc), .val (.agg M1.toArray), .lit ([110, 111, 100, 101]), .rd ([110, 111, 100, 101]), .val (.slice va bl vc), .rds [[110, 111, 100, 101], l2], .val (.agg M1.toArray), .val (.bool true), .val (.bool true), .val (.slice va bl vc), .val (.agg M2.toArray), .lit ([112, 97, 103, 101]), .rd ([112, 97, 103, 101]), .val (.slice va bl vc), .rds [[112, 97, 103, 101], l2], .val (.agg M2.toArray), .val (.bool true), .val (.bool true), .val (.bool true), .val (.agg KC.toArray), .val (.int .u32 (at_ : Int)), .val (.slice va bl vc), .val (.agg M3.toArray), .val (.slice (some ⟨w.heap.size, 0, none⟩) 32 32), .lit ([108, 101, 97, 102]), .rd ([108, 101, 97, 102]), .val (.int .u32 (at_ : Int)), .rd (be at_ 4), .val (.slice va bl vc), .rds [[108, 101, 97, 102], be at_ 4, l2], .val (.agg M3.toArray), .val (.bool true), .val (.bool true), .val (.bool true), .val (.bool true), .val (.bool true)] ?_ ?_
  · refine ⟨?_, ?_, ?_, ?_, ?_, ?_, ?_, ?_, ?_, ?_, ?_, ?_, ?_, ?_, ?_, ?_, ?_, ?_, ?_, ?_, ?_, ?_, ?_, ?_, ?_, ?_, ?_, ?_, ?_, ?_, ?_, ?_, ?_, ?_, ?_, ?_, trivial⟩
    · intro a w' hF hB hd
      have e2 : a.eval (.tmp 2) = .slice va bl vc := hF 2 (by decide +kernel)
      exact doesC_val rfl (ex_move rfl e2) rfl
    · intro a w' hF hB hd
      have e7 : a.eval (.tmp 7) = .slice va bl vc := hd 0 (by decide +kernel)
      exact doesC_call hB.below.size rfl (ex_call (vs := #[.slice va bl vc]) rfl (by simp only [List.map_toArray, List.map_cons, List.map_nil, e7]) (by go_simp)) ((HN.out w' _ (V1.out.below hB.below) (HT.out.below (W1.out.on hB.below))).mono fun e w3 hh => ⟨_, hh.1, rfl, hh.2⟩)
    · intro a w' hF hB hd
      refine doesC_wp hB.below.size rfl fun K hK => ?_
      unfold Oper.wp execOp
      go_simp
      exact hK _ _ ⟨_, rfl, hB.below.size, (own_new w' [110, 111, 100, 101] (small_bytes (by decide)) (by decide) rfl (Nat.le_refl _)).rd, by simp⟩ ((Below.refl _ _).alloc (Nat.le_refl _) _)
    · intro a w' hF hB hd
      exact doesC_mark rfl (.tmp 9) rfl [110, 111, 100, 101] (hd 2 (by decide +kernel))
    · intro a w' hF hB hd
      have e2 : a.eval (.tmp 2) = .slice va bl vc := hF 2 (by decide +kernel)
      exact doesC_val rfl (ex_move rfl e2) rfl
    · intro a w' hF hB hd
      have e10 : Rd w' (a.eval (.tmp 10)) ([110, 111, 100, 101]) := hd 3 (by decide +kernel)
      obtain ⟨a10, c10, q10, _⟩ := e10.shape
      rw [q10] at e10
      have f10 : a.tmps[10]?.getD undef = .slice a10 4 c10 := by rw [← Array.getD_eq_getD_getElem?]; exact q10
      have q11 : a.eval (.tmp 11) = .slice va bl vc := hd 4 (by decide +kernel)
      have e11 : Rd w' (.slice va bl vc) (l2) := (V1.out.below hB.below)
      have f11 : a.tmps[11]?.getD undef = .slice va bl vc := by rw [← Array.getD_eq_getD_getElem?]; exact q11
      have R := Lib.hid (rds_two e10 e11 rfl)
      clear q10 e10 q11 e11 hd
      refine doesC_wp hB.below.size rfl fun K hK => ?_
      unfold Oper.wp execOp
      go_simp
      exact hK _ _ R.out ((Below.refl _ _).alloc (Nat.le_refl _) _)
    · intro a w' hF hB hd
      have e12 : Rds w' (a.eval (.tmp 12)) ([[110, 111, 100, 101], l2]) := hd 5 (by decide +kernel)
      exact doesC_call hB.below.size rfl (ex_call (vs := #[a.eval (.tmp 12)]) rfl (by simp only [List.map_toArray, List.map_cons, List.map_nil]) (by go_simp)) ((HO1.out w' _ e12 (HT.out.below (W1.out.on hB.below))).mono fun e w3 hh => ⟨_, hh.1, rfl, hh.2⟩)
    · intro a w' hF hB hd
      have e8 : a.eval (.tmp 8) = .agg M1.toArray := hd 1 (by decide +kernel)
      have e13 : a.eval (.tmp 13) = .agg M1.toArray := hd 6 (by decide +kernel)
      exact doesC_val rfl (ex_binOp rfl e8 e13 (run_eqGuard_agg (P := Tryd.prog) (w := w') .eql 24 _ _ _ _ eqTypeS) (HQ1.out _)) rfl
    · intro a w' hF hB hd
      have e14 : a.eval (.tmp 14) = .bool true := hd 7 (by decide +kernel)
      exact doesC_val rfl (ex_move rfl e14) rfl
    · intro a w' hF hB hd
      have e15 : a.eval (.tmp 15) = .bool true := hd 8 (by decide +kernel)
      have e2 : a.eval (.tmp 2) = .slice va bl vc := hF 2 (by decide +kernel)
      exact doesC_val (wanted_of rfl (yielded_of rfl e15)) (ex_move rfl e2) rfl
    · intro a w' hF hB hd
      have e15 : a.eval (.tmp 15) = .bool true := hd 8 (by decide +kernel)
      have e16 : a.eval (.tmp 16) = .slice va bl vc := hd 9 (by decide +kernel)
      exact doesC_call hB.below.size (wanted_of rfl (yielded_of rfl e15)) (ex_call (vs := #[.slice va bl vc]) rfl (by simp only [List.map_toArray, List.map_cons, List.map_nil, e16]) (by go_simp)) ((HP.out w' _ (V1.out.below hB.below) (HT.out.below (W1.out.on hB.below))).mono fun e w3 hh => ⟨_, hh.1, rfl, hh.2⟩)
    · intro a w' hF hB hd
      have e15 : a.eval (.tmp 15) = .bool true := hd 8 (by decide +kernel)
      refine doesC_wp hB.below.size (wanted_of rfl (yielded_of rfl e15)) fun K hK => ?_
      unfold Oper.wp execOp
      go_simp
      exact hK _ _ ⟨_, rfl, hB.below.size, (own_new w' [112, 97, 103, 101] (small_bytes (by decide)) (by decide) rfl (Nat.le_refl _)).rd, by simp⟩ ((Below.refl _ _).alloc (Nat.le_refl _) _)
    · intro a w' hF hB hd
      have e15 : a.eval (.tmp 15) = .bool true := hd 8 (by decide +kernel)
      exact doesC_mark (wanted_of rfl (yielded_of rfl e15)) (.tmp 18) rfl [112, 97, 103, 101] (hd 11 (by decide +kernel))
    · intro a w' hF hB hd
      have e15 : a.eval (.tmp 15) = .bool true := hd 8 (by decide +kernel)
      have e2 : a.eval (.tmp 2) = .slice va bl vc := hF 2 (by decide +kernel)
      exact doesC_val (wanted_of rfl (yielded_of rfl e15)) (ex_move rfl e2) rfl
    · intro a w' hF hB hd
      have e15 : a.eval (.tmp 15) = .bool true := hd 8 (by decide +kernel)
      have e19 : Rd w' (a.eval (.tmp 19)) ([112, 97, 103, 101]) := hd 12 (by decide +kernel)
      obtain ⟨a19, c19, q19, _⟩ := e19.shape
      rw [q19] at e19
      have f19 : a.tmps[19]?.getD undef = .slice a19 4 c19 := by rw [← Array.getD_eq_getD_getElem?]; exact q19
      have q20 : a.eval (.tmp 20) = .slice va bl vc := hd 13 (by decide +kernel)
      have e20 : Rd w' (.slice va bl vc) (l2) := (V1.out.below hB.below)
      have f20 : a.tmps[20]?.getD undef = .slice va bl vc := by rw [← Array.getD_eq_getD_getElem?]; exact q20
      have R := Lib.hid (rds_two e19 e20 rfl)
      clear q19 e19 q20 e20 hd
      refine doesC_wp hB.below.size (wanted_of rfl (yielded_of rfl e15)) fun K hK => ?_
      unfold Oper.wp execOp
      go_simp
      exact hK _ _ R.out ((Below.refl _ _).alloc (Nat.le_refl _) _)
    · intro a w' hF hB hd
      have e15 : a.eval (.tmp 15) = .bool true := hd 8 (by decide +kernel)
      have e21 : Rds w' (a.eval (.tmp 21)) ([[112, 97, 103, 101], l2]) := hd 14 (by decide +kernel)
      exact doesC_call hB.below.size (wanted_of rfl (yielded_of rfl e15)) (ex_call (vs := #[a.eval (.tmp 21)]) rfl (by simp only [List.map_toArray, List.map_cons, List.map_nil]) (by go_simp)) ((HO2.out w' _ e21 (HT.out.below (W1.out.on hB.below))).mono fun e w3 hh => ⟨_, hh.1, rfl, hh.2⟩)
    · intro a w' hF hB hd
      have e15 : a.eval (.tmp 15) = .bool true := hd 8 (by decide +kernel)
      have e17 : a.eval (.tmp 17) = .agg M2.toArray := hd 10 (by decide +kernel)
      have e22 : a.eval (.tmp 22) = .agg M2.toArray := hd 15 (by decide +kernel)
      exact doesC_val (wanted_of rfl (yielded_of rfl e15)) (ex_binOp rfl e17 e22 (run_eqGuard_agg (P := Tryd.prog) (w := w') .eql 24 _ _ _ _ eqTypeS) (HQ2.out _)) rfl
    · intro a w' hF hB hd
      have e15 : a.eval (.tmp 15) = .bool true := hd 8 (by decide +kernel)
      have e23 : a.eval (.tmp 23) = .bool true := hd 16 (by decide +kernel)
      exact doesC_val rfl (ex_pick rfl e15 (by simp [e23])) rfl
    · intro a w' hF hB hd
      have e24 : a.eval (.tmp 24) = .bool true := hd 17 (by decide +kernel)
      exact doesC_val rfl (ex_move rfl e24) rfl
    · intro a w' hF hB hd
      have e25 : a.eval (.tmp 25) = .bool true := hd 18 (by decide +kernel)
      have e3 : a.eval (.tmp 3) = .pointer (some ⟨w.heap.size, 0, none⟩) := hF 3 (by decide +kernel)
      exact doesC_val (wanted_of rfl (yielded_of rfl e25)) (ex_load_part 39 (.tmp 3) rfl w.heap.size 0 e3 KC _ ((K1.out.below hB.below K1.out.lt).range) Tryd.underlying39 rfl (by rw [K32.out]; exact infoKeyN)) rfl
    · intro a w' hF hB hd
      have e25 : a.eval (.tmp 25) = .bool true := hd 18 (by decide +kernel)
      have e1 : a.eval (.tmp 1) = .int .u32 (at_ : Int) := hF 1 (by decide +kernel)
      exact doesC_val (wanted_of rfl (yielded_of rfl e25)) (ex_move rfl e1) rfl
    · intro a w' hF hB hd
      have e25 : a.eval (.tmp 25) = .bool true := hd 18 (by decide +kernel)
      have e2 : a.eval (.tmp 2) = .slice va bl vc := hF 2 (by decide +kernel)
      exact doesC_val (wanted_of rfl (yielded_of rfl e25)) (ex_move rfl e2) rfl
    · intro a w' hF hB hd
      have e25 : a.eval (.tmp 25) = .bool true := hd 18 (by decide +kernel)
      have e26 : a.eval (.tmp 26) = .agg KC.toArray := hd 19 (by decide +kernel)
      have e27 : a.eval (.tmp 27) = .int .u32 (at_ : Int) := hd 20 (by decide +kernel)
      have e28 : a.eval (.tmp 28) = .slice va bl vc := hd 21 (by decide +kernel)
      exact doesC_call hB.below.size (wanted_of rfl (yielded_of rfl e25)) (ex_call (vs := #[.agg KC.toArray, .int .u32 (at_ : Int), .slice va bl vc]) rfl (by simp only [List.map_toArray, List.map_cons, List.map_nil, e26, e27, e28]) (by go_simp)) ((HL.out w' _ (V1.out.below hB.below) (HT.out.below (W1.out.on hB.below))).mono fun e w3 hh => ⟨_, hh.1, rfl, hh.2⟩)
    · intro a w' hF hB hd
      have e25 : a.eval (.tmp 25) = .bool true := hd 18 (by decide +kernel)
      have e3 : a.eval (.tmp 3) = .pointer (some ⟨w.heap.size, 0, none⟩) := hF 3 (by decide +kernel)
      exact doesC_val (wanted_of rfl (yielded_of rfl e25)) (v := .slice (some ⟨w.heap.size, 0, none⟩) 32 32) (by unfold execOp; simp only [e3]; go_simp) rfl
    · intro a w' hF hB hd
      have e25 : a.eval (.tmp 25) = .bool true := hd 18 (by decide +kernel)
      refine doesC_wp hB.below.size (wanted_of rfl (yielded_of rfl e25)) fun K hK => ?_
      unfold Oper.wp execOp
      go_simp
      exact hK _ _ ⟨_, rfl, hB.below.size, (own_new w' [108, 101, 97, 102] (small_bytes (by decide)) (by decide) rfl (Nat.le_refl _)).rd, by simp⟩ ((Below.refl _ _).alloc (Nat.le_refl _) _)
    · intro a w' hF hB hd
      have e25 : a.eval (.tmp 25) = .bool true := hd 18 (by decide +kernel)
      exact doesC_mark (wanted_of rfl (yielded_of rfl e25)) (.tmp 31) rfl [108, 101, 97, 102] (hd 24 (by decide +kernel))
    · intro a w' hF hB hd
      have e25 : a.eval (.tmp 25) = .bool true := hd 18 (by decide +kernel)
      have e1 : a.eval (.tmp 1) = .int .u32 (at_ : Int) := hF 1 (by decide +kernel)
      exact doesC_val (wanted_of rfl (yielded_of rfl e25)) (ex_move rfl e1) rfl
    · intro a w' hF hB hd
      have e25 : a.eval (.tmp 25) = .bool true := hd 18 (by decide +kernel)
      have e33 : a.eval (.tmp 33) = .int .u32 (at_ : Int) := hd 26 (by decide +kernel)
      exact doesC_call hB.below.size (wanted_of rfl (yielded_of rfl e25)) (ex_call (vs := #[.int .u32 (at_ : Int)]) rfl (by simp only [List.map_toArray, List.map_cons, List.map_nil, e33]) (by go_simp)) ((HN4.out w').mono fun e w3 hh => by obtain ⟨v, he, ho, hb⟩ := hh; exact ⟨v, he, ho.rd, hb⟩)
    · intro a w' hF hB hd
      have e25 : a.eval (.tmp 25) = .bool true := hd 18 (by decide +kernel)
      have e2 : a.eval (.tmp 2) = .slice va bl vc := hF 2 (by decide +kernel)
      exact doesC_val (wanted_of rfl (yielded_of rfl e25)) (ex_move rfl e2) rfl
    · intro a w' hF hB hd
      have e25 : a.eval (.tmp 25) = .bool true := hd 18 (by decide +kernel)
      have e32 : Rd w' (a.eval (.tmp 32)) ([108, 101, 97, 102]) := hd 25 (by decide +kernel)
      obtain ⟨a32, c32, q32, _⟩ := e32.shape
      rw [q32] at e32
      have f32 : a.tmps[32]?.getD undef = .slice a32 4 c32 := by rw [← Array.getD_eq_getD_getElem?]; exact q32
      have e34 : Rd w' (a.eval (.tmp 34)) (be at_ 4) := hd 27 (by decide +kernel)
      obtain ⟨a34, c34, q34, _⟩ := e34.shape
      rw [q34] at e34
      rw [be_len] at q34 e34
      have f34 : a.tmps[34]?.getD undef = .slice a34 4 c34 := by rw [← Array.getD_eq_getD_getElem?]; exact q34
      have q35 : a.eval (.tmp 35) = .slice va bl vc := hd 28 (by decide +kernel)
      have e35 : Rd w' (.slice va bl vc) (l2) := (V1.out.below hB.below)
      have f35 : a.tmps[35]?.getD undef = .slice va bl vc := by rw [← Array.getD_eq_getD_getElem?]; exact q35
      have R := Lib.hid (rds_three e32 e34 e35 rfl)
      clear q32 e32 q34 e34 q35 e35 hd
      refine doesC_wp hB.below.size (wanted_of rfl (yielded_of rfl e25)) fun K hK => ?_
      unfold Oper.wp execOp
      go_simp
      exact hK _ _ R.out ((Below.refl _ _).alloc (Nat.le_refl _) _)
    · intro a w' hF hB hd
      have e25 : a.eval (.tmp 25) = .bool true := hd 18 (by decide +kernel)
      have e30 : a.eval (.tmp 30) = .slice (some ⟨w.heap.size, 0, none⟩) 32 32 := hd 23 (by decide +kernel)
      have e36 : Rds w' (a.eval (.tmp 36)) ([[108, 101, 97, 102], be at_ 4, l2]) := hd 29 (by decide +kernel)
      exact doesC_call hB.below.size (wanted_of rfl (yielded_of rfl e25)) (ex_call (vs := #[.slice (some ⟨w.heap.size, 0, none⟩) 32 32, a.eval (.tmp 36)]) rfl (by simp only [List.map_toArray, List.map_cons, List.map_nil, e30]) (by go_simp)) ((HO3.out w' _ _ (rd_part (K1.out.below hB.below K1.out.lt) HKY.out HKC.out (by decide)) e36 (HT.out.below (W1.out.on hB.below))).mono fun e w3 hh => ⟨_, hh.1, rfl, hh.2⟩)
    · intro a w' hF hB hd
      have e25 : a.eval (.tmp 25) = .bool true := hd 18 (by decide +kernel)
      have e29 : a.eval (.tmp 29) = .agg M3.toArray := hd 22 (by decide +kernel)
      have e37 : a.eval (.tmp 37) = .agg M3.toArray := hd 30 (by decide +kernel)
      exact doesC_val (wanted_of rfl (yielded_of rfl e25)) (ex_binOp rfl e29 e37 (run_eqGuard_agg (P := Tryd.prog) (w := w') .eql 24 _ _ _ _ eqTypeS) (HQ3.out _)) rfl
    · intro a w' hF hB hd
      have e25 : a.eval (.tmp 25) = .bool true := hd 18 (by decide +kernel)
      have e38 : a.eval (.tmp 38) = .bool true := hd 31 (by decide +kernel)
      exact doesC_val rfl (ex_pick rfl e25 (by simp [e38])) rfl
    · intro a w' hF hB hd
      have e39 : a.eval (.tmp 39) = .bool true := hd 32 (by decide +kernel)
      exact doesC_val rfl (ex_move rfl e39) rfl
    · intro a w' hF hB hd
      have e40 : a.eval (.tmp 40) = .bool true := hd 33 (by decide +kernel)
      exact doesC_call hB.below.size (wanted_of rfl (yielded_of rfl e40)) (ex_call (vs := #[]) rfl (by simp) (by go_simp)) ((ndawake_any w' (HT.out.below (W1.out.on hB.below))).mono fun e w3 hh => ⟨_, hh.1, rfl, hh.2⟩)
    · intro a w' hF hB hd
      have e40 : a.eval (.tmp 40) = .bool true := hd 33 (by decide +kernel)
      have e41 : a.eval (.tmp 41) = .bool true := hd 34 (by decide +kernel)
      exact doesC_val rfl (ex_pick rfl e40 (by simp [e41])) rfl
  · intro vs w4 hB hv
    have e9 : vs 35 = .bool true := hv 35 (by decide)
    simp only [List.take_succ_cons, List.take_zero, List.drop_succ_cons, List.drop_zero, putOps, Act.put, List.setIfInBounds_toArray, List.set_cons_zero, List.set_cons_succ, e9]
    have W4 := Lib.hid (W1.out.on hB.below)
    clear hv e9 hB
    go_wp2_with fail
    go_ret
    exact ⟨rfl, W4.out⟩
set_option maxRecDepth 100000 in
theorem reads (os : Os) {H : Type} (enc : TypeId × Value → H) : ∃ places, DataW.whole enc Tryd.prog ((World.doorLaid Tryd.prog 400 os).forCall (fun _ _ => 0) ⟨#[], #[.agg (row8 (List.replicate 32 0)).toArray, .int .u32 0, .slice none 0 0], []⟩).memory Tryd.f7.params.toList Rows.nodeKindsSpec.vars false (#[.agg (row8 (List.replicate 32 0)).toArray, .int .u32 0, .slice none 0 0] : Array Value).toList 8 = some ([lit8 (List.replicate 32 0), .lit (.int .u32 0), .nil], [], places) :=
  ⟨[], by kernel_rfl⟩
set_option linter.unusedVariables false in
set_option maxHeartbeats 1000000 in
set_option maxRecDepth 100000 in
theorem lifted (os : Os) (started : os.Started) (H : Type) (enc : TypeId × Value → H) (F : Stop.Interp) :
    ReturnsInHanded {} Tryd.checked os 7 .any ((OpenSpec.ofChange Rows.nodeKindsSpec).preRow enc Tryd.prog Tryd.f7 Rows.nodeKindsRow.domain false laidP) (((OpenSpec.ofChange Rows.nodeKindsSpec).at F).post enc Tryd.prog Tryd.f7 false true false false) := by
  obtain ⟨places, hx⟩ := reads os enc
  refine returnsInHanded_of_row (C := Tryd.checked) (s := OpenSpec.ofChange Rows.nodeKindsSpec) own started (by kernel_rfl) Tryd.func7
    (witness_row_atRef (enc := enc) (C := Tryd.checked) false (World.doorLaid Tryd.prog 400 os) #[.agg (row8 (List.replicate 32 0)).toArray, .int .u32 0, .slice none 0 0] rfl (by kernel_rfl) (by kernel_rfl) (by kernel_rfl)
      (OpenSpec.preRow_of_cond 8 hx (by kernel_rfl) (fun k hk => by cases hk) (by kernel_rfl) (doorP_met os _))) ?_
  intro W base args ds gs before hval0 hW _ hcond hsz0 hL _ _
  have hsz : (DataW.weightsEach Tryd.prog (Tryd.f7.params.toList ++ Rows.nodeKindsSpec.plain.varTypes Tryd.prog) (ds ++ gs)).all (· ≤ reachBytes) = true := hsz0
  clear hsz0
  have hval : ∀ (j : Nat) t v, Tryd.f7.params[j]? = some t → args[j]? = some v → Value.okWide Tryd.prog W .any base t v := hval0
  have hW' := hW
  obtain ⟨p, q, hA0, hV, rfl, _, _⟩ := hW
  have hA : DataW.TrodAll enc Tryd.prog W 0 (fun _ => true) true Tryd.f7.params.toList args.toList ds p := hA0
  rw [Tryd.params7] at hA hval hsz
  obtain ⟨v0, vs0, d0, ds0, p0, q0, hargs, rfl, rfl, g0, r0⟩ := trodAll_cons hA
  obtain ⟨v1, vs1, d1, ds1, p1, q1, rfl, rfl, rfl, g1, r1⟩ := trodAll_cons r0
  obtain ⟨v2, vs2, d2, ds2, p2, q2, rfl, rfl, rfl, g2, r2⟩ := trodAll_cons r1
  obtain ⟨rfl, rfl, rfl⟩ := trodAll_nil r2
  obtain rfl : args = #[v0, v1, v2] := by cases args; simp_all
  obtain ⟨rfl, rfl⟩ := trodVars_none hV
  obtain ⟨l0, h0, rfl, rfl, rfl⟩ := open_row Tryd.underlying39 Tryd.underlying5 cells5 (hval 0 39 v0 rfl rfl) cells39 g0
  obtain ⟨a1, rfl, rfl, rfl, w1⟩ := open_int Tryd.underlying22 (hval 1 22 v1 rfl rfl) g1
  obtain ⟨l2, h2⟩ := open_bytes (hval 2 29 v2 rfl rfl) g2 (fun elems spare e => sized_slice hsz (j := 2) (t := 29) (e := 5) rfl (by rw [← e]; rfl) Tryd.underlying29)
  clear hA0 hval0
  have hlt := hW'.lt
  refine (walk W (tabP_of_laid hL) l0 h0 a1 w1 v2 l2 h2).mono fun e W' ⟨he, hb⟩ => ?_
  subst he
  have hargs : DataW.TrodAll enc Tryd.prog W' 0 (fun b => decide (b < W.heap.size)) true _ _ _ _ := (trodAll_cons_mk (shut_row Tryd.underlying39 Tryd.underlying5 cells5 cells39 h0) (trodAll_cons_mk (shut_int Tryd.underlying22 w1) (trodAll_cons_mk (Below.trod laidOut (by kernel_rfl) (of_decide_eq_true (by kernel_rfl)) g2 hb (fun x hx => hlt x (by simp [hx]))) trodAll_mk0)))
  simp only [List.append_nil] at hW' hargs
  exact ⟨_, rfl, post_law hW' (trodAll_cons_mk (shut_bool Tryd.underlying4 _) trodAll_mk0) hargs rfl hb⟩
theorem over : Rows.nodeKindsRow.holds Tryd.pinned (OpenSpec.ofChange Rows.nodeKindsSpec) :=
  OpenClaim.holds_of_cond 7 Tryd.f7 rfl rfl rfl rfl rfl rfl rfl ⟨rfl, rfl, rfl, rfl, rfl⟩ rfl rfl rfl rfl rfl (by kernel_rfl) Tryd.func7 (by kernel_rfl)
    (of_decide_eq_true (by kernel_rfl)) (by unfold Func.isWrapper; first | (rw [if_pos (by decide +kernel)]; kernel_rfl) | (rw [if_neg (by decide +kernel)]; exact ⟨rfl, rfl⟩))
    (fun os started H enc _ F => by rw [OpenClaim.pre_eq_preRow]; exact lifted os started H enc F)

/-- The given statement. -/
theorem proved : Rows.NodeKindsCardSaid :=
  Claim7.holds_tied_plain_at .later [] _ _ _ _
    over (fun _ h => by cases h) (by kernel_rfl) (fun _ h => by cases h) nodeKinds_row_tie rfl ⟨rfl, rfl⟩ (by kernel_rfl) rfl
    (fun f fn hf hfn => by
      obtain rfl : f = 7 := Option.some.inj ((show Tryd.prog.funcNamed "reliquary/reliquarylaw15.NodeKinds" = some 7 by kernel_rfl).symm.trans hf) |>.symm
      obtain rfl : fn = Tryd.f7 := (Option.some.inj (Tryd.func7.symm.trans hfn)).symm
      exact ⟨by kernel_rfl, fun j t ht => by
        rw [Tryd.params7] at ht
        have hm : t ∈ [39, 22, 29] := by simpa using Array.mem_of_getElem? ht
        have hall : ([39, 22, 29].all fun u => !Tryd.prog.wantsStandIn u) = true := by kernel_rfl
        exact (show Tryd.prog.wantsStandIn t = false by simpa using List.all_eq_true.1 hall t hm)⟩)
    (by kernel_rfl)
end Go.Proofs.YtoacdeddkfcllaaDoor.nodeKinds
