/- NodeSums: any cluster has, as a node, as a page, and as data, the sums that the document says; the bytes stay as they are; and the law's closed case holds. No condition. -/
import Derived.Test.YtoacdeddkfcllaaDoorRows
import Derived.Test.YtoacdeddkfcllaaDoorNdAwake
import Derived.Test.YtoacdeddkfcllaaDoorNdSumR
import Derived.Test.YtoacdeddkfcllaaDoorNdLeafR
import Derived.Test.YtoacdeddkfcllaaDoorFactX
import Derived.Test.YtoacdeddkfcllaaDoorShaD
import Derived.Test.YtoacdeddkfcllaaDoorArgsK
import Derived.Test.YtoacdeddkfcllaaDoorTie
import Derived.Test.YtoacdeddkfcllaaDoorCards
import Derived.SevenTiedAt
import Derived.Test.YtoacdeddkfcllaaDoorMem
import Derived.WalkKit
import Derived.ProofKit
import Derived.OpenShut
import Derived.SizedLaws
import Derived.Carry
import Derived.Deep.DeepHandedRow
import Derived.Deep.DeepWitnessRowRef
namespace Go.Proofs.YtoacdeddkfcllaaDoor.nodeSums
open Go.ChangeShapes Go.WideShapes Go.ChangeAt Go.RowKit
open RT
theorem infoKeyN : (Tryd.prog.info? 39).map (·.size) = some 32 := by kernel_rfl
theorem own : ownKnob Tryd.prog.godebug = none := by kernel_rfl
theorem cells39 : Tryd.prog.cellsOf 39 = 32 := by kernel_rfl
theorem cells5 : Tryd.prog.cellsOf 5 = 1 := by kernel_rfl
set_option linter.unusedVariables false in
set_option maxRecDepth 100000 in
set_option maxHeartbeats 2000000 in
theorem walk (w : World) (ht : Tab w ∧ TabP w) (l0 : List Nat) (h0 : Bytes 32 l0) (a1 : Int) (w1 : (Lit.int .u32 a1).wf = true) (v2 : Value) (l2 : List Nat) (h2 : Rd w v2 l2) (k2 : l2.length ≤ 140737488351232) :
    Calls Tryd.prog 5 #[.agg (row8 l0).toArray, .int .u32 a1, v2] w fun e w' => e = .returned (.bool true) ∧ Below w.heap.size w w' := by
  obtain ⟨va, vc, rfl, _⟩ := h2.shape
  have hfit := h2.fits
  obtain ⟨bl, hbl⟩ : ∃ n, n = l2.length := ⟨_, rfl⟩
  have w1' : 0 ≤ a1 ∧ a1 ≤ 4294967295 := by simpa [Lit.wf, IntKind.min, IntKind.max, IntKind.signed, IntKind.bits] using w1
  obtain ⟨at_, hat⟩ : ∃ n : Nat, a1 = (n : Int) := ⟨a1.toNat, by omega⟩
  have hat32 : at_ < 4294967296 := by omega
  subst hat
  clear w1'
  have HT := Lib.hid ht.2
  have HTA := Lib.hid ht.1
  have HN := Lib.hid (fun W v (hv : Rd W v l2) (hW : TabP W) => npsum_any l2 v W hv hW)
  have HM := Lib.hid (fun W v (hv : Rd W v l2) (hW : Tab W) => nrsum_any l2 (by omega) v W hv hW)
  have HP := Lib.hid (fun W v (hv : Rd W v l2) (hW : TabP W) => nppage_any l2 v W hv hW)
  have HR := Lib.hid (fun W v (hv : Rd W v l2) (hW : Tab W) => nrpage_any l2 (by omega) v W hv hW)
  have HL := Lib.hid (fun W v (hv : Rd W v l2) (hW : TabP W) => npleaf_any l0 h0 at_ hat32 l2 v W hv hW)
  have HK := Lib.hid (fun W v (hv : Rd W v l2) (hW : Tab W) => nrleaf_any l0 h0 at_ hat32 l2 (by omega) v W hv hW)
  have HQ1 := Lib.hid (fun W => (show (binOp .eql 24 (.agg (row8 (SM.sha ([110, 111, 100, 101] ++ l2))).toArray) (.agg (row8 (SM.sha ([110, 111, 100, 101] ++ l2))).toArray)).run Tryd.prog W = .ok (.bool true) W by rw [run_eql_sum (sha_bytes _) (sha_bytes _), decide_eq_true rfl]))
  have HQ2 := Lib.hid (fun W => (show (binOp .eql 24 (.agg (row8 (SM.sha ([112, 97, 103, 101] ++ l2))).toArray) (.agg (row8 (SM.sha ([112, 97, 103, 101] ++ l2))).toArray)).run Tryd.prog W = .ok (.bool true) W by rw [run_eql_sum (sha_bytes _) (sha_bytes _), decide_eq_true rfl]))
  have HQ3 := Lib.hid (fun W => (show (binOp .eql 24 (.agg (row8 (SM.mac l0 ([108, 101, 97, 102] ++ be at_ 4 ++ l2))).toArray) (.agg (row8 (SM.mac l0 ([108, 101, 97, 102] ++ be at_ 4 ++ l2))).toArray)).run Tryd.prog W = .ok (.bool true) W by rw [run_eql_sum (mac_bytes _ _) (mac_bytes _ _), decide_eq_true rfl]))
  obtain ⟨M1, hM1⟩ : ∃ x, x = row8 (SM.sha ([110, 111, 100, 101] ++ l2)) := ⟨_, rfl⟩
  obtain ⟨M2, hM2⟩ : ∃ x, x = row8 (SM.sha ([112, 97, 103, 101] ++ l2)) := ⟨_, rfl⟩
  obtain ⟨M3, hM3⟩ : ∃ x, x = row8 (SM.mac l0 ([108, 101, 97, 102] ++ be at_ 4 ++ l2)) := ⟨_, rfl⟩
  obtain ⟨KC, hKC⟩ : ∃ X, X = row8 l0 := ⟨_, rfl⟩
  have K32 := Lib.hid (show KC.length = 32 by rw [hKC, row8_len, h0.1])
  obtain ⟨S, hS⟩ : ∃ S, S = bstr l2 := ⟨_, rfl⟩
  have HS := Lib.hid hS
  have HE := Lib.hid (fun W => (show (binOp .eql 9 (.string S) (.string S)).run Tryd.prog W = .ok (.bool true) W by rw [run_eql_str, decide_eq_true rfl]))
  rw [← hM1] at HN HM HQ1
  rw [← hM2] at HP HR HQ2
  rw [← hM3, ← hKC] at HL HK
  rw [← hM3] at HQ3
  rw [← hKC]
  have HV := Lib.hid h2
  have HBL := Lib.hid hbl
  obtain ⟨w0, hw0⟩ : ∃ x, x = w.alloc (.cells KC.toArray 39) := ⟨_, rfl⟩
  have W0 := Lib.hid (show Below w.heap.size w w0 by rw [hw0]; exact (Below.refl w.heap.size w).alloc (Nat.le_refl _) _)
  have K0 := Lib.hid (show Blk w0 w.heap.size 39 KC by rw [hw0]; exact Blk.new w 39 KC _ rfl)
  have HE0 := Lib.hid (own_empty w0 (b := w0.heap.size) rfl (base := w0.heap.size) (Nat.le_refl _))
  have WE := Lib.hid ((Below.refl w0.heap.size w0).alloc (Nat.le_refl _) (.cells #[] 5))
  have V0 := Lib.hid (h2.below W0.out)
  rw [← hbl] at HV V0 ⊢
  rw [← hbl] at hfit
  clear hM1 hM2 hM3 hKC hS h0 h2 hbl ht
  go_enter Tryd.func5, Tryd.ntmps5
  go_upto_region 1 with fail
  rw [← hw0]
  clear hw0
  go_upto_region 2 with (refine wpList_app rfl (.tmp 8) (.tmp 9) rfl w0.heap.size (.slice (some ⟨w0.heap.size, 0, none⟩) 0 0) (.slice va bl vc) [] l2 rfl rfl HE0.out (V0.out.below WE.out) (by rw [← HBL.out, List.length_nil, Nat.zero_add]; exact hfit) WE.out.size ?_; intro v1 w1 o1 g1 k1; rw [List.nil_append] at o1; have I1 := Lib.hid o1.rd; have hb1 := Lib.hid (show Below w0.heap.size w0 w1 from WE.out.grown g1 WE.out.size (fun g hg => by have e : w0.heap.size = g := Option.some.inj hg; omega)); clear o1 g1 k1)
  obtain ⟨ia, ic, hsh, _⟩ := I1.out.shape
  rw [← HBL.out] at hsh
  subst hsh
  have W1 := Lib.hid (W0.out.on hb1.out)
  have V1 := Lib.hid (V0.out.below hb1.out)
  have K1 := Lib.hid (K0.out.below hb1.out K0.out.lt)
  clear hb1 HE0 WE W0 K0 V0 HV hfit
  refine wp_region_l (by kernel_rfl) 33 (by decide) (by kernel_rfl) (by kernel_rfl) (by kernel_rfl) [.val (.slice ia bl ic), .val (.agg M1.toArray), .val (.slice va bl vc), .val (.agg M1.toArray), .val (.bool true), .val (.bool true), .val (.slice ia bl ic), .val (.agg M2.toArray), .val (.slice va bl vc), .val (.agg M2.toArray), .val (.bool true), .val (.bool true), .val (.bool true), .val (.agg KC.toArray), .val (.int .u32 (at_ : Int)), .val (.slice ia bl ic), .val (.agg M3.toArray), .val (.agg KC.toArray), .val (.int .u32 (at_ : Int)), .val (.slice va bl vc), .val (.agg M3.toArray), .val (.bool true), .val (.bool true), .val (.bool true), .val (.slice ia bl ic), .val (.string S), .val (.slice va bl vc), .val (.string S), .val (.bool true), .val (.bool true), .val (.bool true), .val (.bool true), .val (.bool true)] ?_ ?_
  · refine ⟨?_, ?_, ?_, ?_, ?_, ?_, ?_, ?_, ?_, ?_, ?_, ?_, ?_, ?_, ?_, ?_, ?_, ?_, ?_, ?_, ?_, ?_, ?_, ?_, ?_, ?_, ?_, ?_, ?_, ?_, ?_, ?_, ?_, trivial⟩
    · intro a w' hF hB hd
      have e7 : a.eval (.tmp 7) = .slice ia bl ic := hF 7 (by decide +kernel)
      exact doesL_val rfl (ex_move rfl e7) rfl
    · intro a w' hF hB hd
      have e11 : a.eval (.tmp 11) = .slice ia bl ic := hd 0 (by decide +kernel)
      exact doesL_call rfl (ex_call (vs := #[.slice ia bl ic]) rfl (by simp only [List.map_toArray, List.map_cons, List.map_nil, e11]) (by go_simp)) ((HN.out w' _ (I1.out.below hB) (HT.out.below (W1.out.on hB))).mono fun e w3 hh => ⟨_, hh.1, rfl, hh.2⟩)
    · intro a w' hF hB hd
      have e2 : a.eval (.tmp 2) = .slice va bl vc := hF 2 (by decide +kernel)
      exact doesL_val rfl (ex_move rfl e2) rfl
    · intro a w' hF hB hd
      have e13 : a.eval (.tmp 13) = .slice va bl vc := hd 2 (by decide +kernel)
      exact doesL_call rfl (ex_call (vs := #[.slice va bl vc]) rfl (by simp only [List.map_toArray, List.map_cons, List.map_nil, e13]) (by go_simp)) ((HM.out w' _ (V1.out.below hB) (HTA.out.below (W1.out.on hB))).mono fun e w3 hh => ⟨_, hh.1, rfl, hh.2⟩)
    · intro a w' hF hB hd
      have e12 : a.eval (.tmp 12) = .agg M1.toArray := hd 1 (by decide +kernel)
      have e14 : a.eval (.tmp 14) = .agg M1.toArray := hd 3 (by decide +kernel)
      exact doesL_val rfl (ex_binOp rfl e12 e14 (run_eqGuard_agg (P := Tryd.prog) (w := w') .eql 24 _ _ _ _ eqTypeS) (HQ1.out _)) rfl
    · intro a w' hF hB hd
      have e15 : a.eval (.tmp 15) = .bool true := hd 4 (by decide +kernel)
      exact doesL_val rfl (ex_move rfl e15) rfl
    · intro a w' hF hB hd
      have e16 : a.eval (.tmp 16) = .bool true := hd 5 (by decide +kernel)
      have e7 : a.eval (.tmp 7) = .slice ia bl ic := hF 7 (by decide +kernel)
      exact doesL_val (wanted_of rfl (yielded_of rfl e16)) (ex_move rfl e7) rfl
    · intro a w' hF hB hd
      have e16 : a.eval (.tmp 16) = .bool true := hd 5 (by decide +kernel)
      have e17 : a.eval (.tmp 17) = .slice ia bl ic := hd 6 (by decide +kernel)
      exact doesL_call (wanted_of rfl (yielded_of rfl e16)) (ex_call (vs := #[.slice ia bl ic]) rfl (by simp only [List.map_toArray, List.map_cons, List.map_nil, e17]) (by go_simp)) ((HP.out w' _ (I1.out.below hB) (HT.out.below (W1.out.on hB))).mono fun e w3 hh => ⟨_, hh.1, rfl, hh.2⟩)
    · intro a w' hF hB hd
      have e16 : a.eval (.tmp 16) = .bool true := hd 5 (by decide +kernel)
      have e2 : a.eval (.tmp 2) = .slice va bl vc := hF 2 (by decide +kernel)
      exact doesL_val (wanted_of rfl (yielded_of rfl e16)) (ex_move rfl e2) rfl
    · intro a w' hF hB hd
      have e16 : a.eval (.tmp 16) = .bool true := hd 5 (by decide +kernel)
      have e19 : a.eval (.tmp 19) = .slice va bl vc := hd 8 (by decide +kernel)
      exact doesL_call (wanted_of rfl (yielded_of rfl e16)) (ex_call (vs := #[.slice va bl vc]) rfl (by simp only [List.map_toArray, List.map_cons, List.map_nil, e19]) (by go_simp)) ((HR.out w' _ (V1.out.below hB) (HTA.out.below (W1.out.on hB))).mono fun e w3 hh => ⟨_, hh.1, rfl, hh.2⟩)
    · intro a w' hF hB hd
      have e16 : a.eval (.tmp 16) = .bool true := hd 5 (by decide +kernel)
      have e18 : a.eval (.tmp 18) = .agg M2.toArray := hd 7 (by decide +kernel)
      have e20 : a.eval (.tmp 20) = .agg M2.toArray := hd 9 (by decide +kernel)
      exact doesL_val (wanted_of rfl (yielded_of rfl e16)) (ex_binOp rfl e18 e20 (run_eqGuard_agg (P := Tryd.prog) (w := w') .eql 24 _ _ _ _ eqTypeS) (HQ2.out _)) rfl
    · intro a w' hF hB hd
      have e16 : a.eval (.tmp 16) = .bool true := hd 5 (by decide +kernel)
      have e21 : a.eval (.tmp 21) = .bool true := hd 10 (by decide +kernel)
      exact doesL_val rfl (ex_pick rfl e16 (by simp [e21])) rfl
    · intro a w' hF hB hd
      have e22 : a.eval (.tmp 22) = .bool true := hd 11 (by decide +kernel)
      exact doesL_val rfl (ex_move rfl e22) rfl
    · intro a w' hF hB hd
      have e23 : a.eval (.tmp 23) = .bool true := hd 12 (by decide +kernel)
      have e3 : a.eval (.tmp 3) = .pointer (some ⟨w.heap.size, 0, none⟩) := hF 3 (by decide +kernel)
      exact doesL_val (wanted_of rfl (yielded_of rfl e23)) (ex_load_part 39 (.tmp 3) rfl w.heap.size 0 e3 KC _ ((K1.out.below hB K1.out.lt).range) Tryd.underlying39 rfl (by rw [K32.out]; exact infoKeyN)) rfl
    · intro a w' hF hB hd
      have e23 : a.eval (.tmp 23) = .bool true := hd 12 (by decide +kernel)
      have e1 : a.eval (.tmp 1) = .int .u32 (at_ : Int) := hF 1 (by decide +kernel)
      exact doesL_val (wanted_of rfl (yielded_of rfl e23)) (ex_move rfl e1) rfl
    · intro a w' hF hB hd
      have e23 : a.eval (.tmp 23) = .bool true := hd 12 (by decide +kernel)
      have e7 : a.eval (.tmp 7) = .slice ia bl ic := hF 7 (by decide +kernel)
      exact doesL_val (wanted_of rfl (yielded_of rfl e23)) (ex_move rfl e7) rfl
    · intro a w' hF hB hd
      have e23 : a.eval (.tmp 23) = .bool true := hd 12 (by decide +kernel)
      have e24 : a.eval (.tmp 24) = .agg KC.toArray := hd 13 (by decide +kernel)
      have e25 : a.eval (.tmp 25) = .int .u32 (at_ : Int) := hd 14 (by decide +kernel)
      have e26 : a.eval (.tmp 26) = .slice ia bl ic := hd 15 (by decide +kernel)
      exact doesL_call (wanted_of rfl (yielded_of rfl e23)) (ex_call (vs := #[.agg KC.toArray, .int .u32 (at_ : Int), .slice ia bl ic]) rfl (by simp only [List.map_toArray, List.map_cons, List.map_nil, e24, e25, e26]) (by go_simp)) ((HL.out w' _ (I1.out.below hB) (HT.out.below (W1.out.on hB))).mono fun e w3 hh => ⟨_, hh.1, rfl, hh.2⟩)
    · intro a w' hF hB hd
      have e23 : a.eval (.tmp 23) = .bool true := hd 12 (by decide +kernel)
      have e3 : a.eval (.tmp 3) = .pointer (some ⟨w.heap.size, 0, none⟩) := hF 3 (by decide +kernel)
      exact doesL_val (wanted_of rfl (yielded_of rfl e23)) (ex_load_part 39 (.tmp 3) rfl w.heap.size 0 e3 KC _ ((K1.out.below hB K1.out.lt).range) Tryd.underlying39 rfl (by rw [K32.out]; exact infoKeyN)) rfl
    · intro a w' hF hB hd
      have e23 : a.eval (.tmp 23) = .bool true := hd 12 (by decide +kernel)
      have e1 : a.eval (.tmp 1) = .int .u32 (at_ : Int) := hF 1 (by decide +kernel)
      exact doesL_val (wanted_of rfl (yielded_of rfl e23)) (ex_move rfl e1) rfl
    · intro a w' hF hB hd
      have e23 : a.eval (.tmp 23) = .bool true := hd 12 (by decide +kernel)
      have e2 : a.eval (.tmp 2) = .slice va bl vc := hF 2 (by decide +kernel)
      exact doesL_val (wanted_of rfl (yielded_of rfl e23)) (ex_move rfl e2) rfl
    · intro a w' hF hB hd
      have e23 : a.eval (.tmp 23) = .bool true := hd 12 (by decide +kernel)
      have e28 : a.eval (.tmp 28) = .agg KC.toArray := hd 17 (by decide +kernel)
      have e29 : a.eval (.tmp 29) = .int .u32 (at_ : Int) := hd 18 (by decide +kernel)
      have e30 : a.eval (.tmp 30) = .slice va bl vc := hd 19 (by decide +kernel)
      exact doesL_call (wanted_of rfl (yielded_of rfl e23)) (ex_call (vs := #[.agg KC.toArray, .int .u32 (at_ : Int), .slice va bl vc]) rfl (by simp only [List.map_toArray, List.map_cons, List.map_nil, e28, e29, e30]) (by go_simp)) ((HK.out w' _ (V1.out.below hB) (HTA.out.below (W1.out.on hB))).mono fun e w3 hh => ⟨_, hh.1, rfl, hh.2⟩)
    · intro a w' hF hB hd
      have e23 : a.eval (.tmp 23) = .bool true := hd 12 (by decide +kernel)
      have e27 : a.eval (.tmp 27) = .agg M3.toArray := hd 16 (by decide +kernel)
      have e31 : a.eval (.tmp 31) = .agg M3.toArray := hd 20 (by decide +kernel)
      exact doesL_val (wanted_of rfl (yielded_of rfl e23)) (ex_binOp rfl e27 e31 (run_eqGuard_agg (P := Tryd.prog) (w := w') .eql 24 _ _ _ _ eqTypeS) (HQ3.out _)) rfl
    · intro a w' hF hB hd
      have e23 : a.eval (.tmp 23) = .bool true := hd 12 (by decide +kernel)
      have e32 : a.eval (.tmp 32) = .bool true := hd 21 (by decide +kernel)
      exact doesL_val rfl (ex_pick rfl e23 (by simp [e32])) rfl
    · intro a w' hF hB hd
      have e33 : a.eval (.tmp 33) = .bool true := hd 22 (by decide +kernel)
      exact doesL_val rfl (ex_move rfl e33) rfl
    · intro a w' hF hB hd
      have e34 : a.eval (.tmp 34) = .bool true := hd 23 (by decide +kernel)
      have e7 : a.eval (.tmp 7) = .slice ia bl ic := hF 7 (by decide +kernel)
      exact doesL_val (wanted_of rfl (yielded_of rfl e34)) (ex_move rfl e7) rfl
    · intro a w' hF hB hd
      have e34 : a.eval (.tmp 34) = .bool true := hd 23 (by decide +kernel)
      have e35 : a.eval (.tmp 35) = .slice ia bl ic := hd 24 (by decide +kernel)
      exact doesL_val (wanted_of rfl (yielded_of rfl e34)) (ex_convert (x := .tmp 35) rfl e35 (by rw [HS.out]; exact ((I1.out.below hB)).str)) rfl
    · intro a w' hF hB hd
      have e34 : a.eval (.tmp 34) = .bool true := hd 23 (by decide +kernel)
      have e2 : a.eval (.tmp 2) = .slice va bl vc := hF 2 (by decide +kernel)
      exact doesL_val (wanted_of rfl (yielded_of rfl e34)) (ex_move rfl e2) rfl
    · intro a w' hF hB hd
      have e34 : a.eval (.tmp 34) = .bool true := hd 23 (by decide +kernel)
      have e37 : a.eval (.tmp 37) = .slice va bl vc := hd 26 (by decide +kernel)
      exact doesL_val (wanted_of rfl (yielded_of rfl e34)) (ex_convert (x := .tmp 37) rfl e37 (by rw [HS.out]; exact ((V1.out.below hB)).str)) rfl
    · intro a w' hF hB hd
      have e34 : a.eval (.tmp 34) = .bool true := hd 23 (by decide +kernel)
      have e36 : a.eval (.tmp 36) = .string S := hd 25 (by decide +kernel)
      have e38 : a.eval (.tmp 38) = .string S := hd 27 (by decide +kernel)
      exact doesL_val (wanted_of rfl (yielded_of rfl e34)) (ex_binOp rfl e36 e38 (by go_simp) (HE.out _)) rfl
    · intro a w' hF hB hd
      have e34 : a.eval (.tmp 34) = .bool true := hd 23 (by decide +kernel)
      have e39 : a.eval (.tmp 39) = .bool true := hd 28 (by decide +kernel)
      exact doesL_val rfl (ex_pick rfl e34 (by simp [e39])) rfl
    · intro a w' hF hB hd
      have e40 : a.eval (.tmp 40) = .bool true := hd 29 (by decide +kernel)
      exact doesL_val rfl (ex_move rfl e40) rfl
    · intro a w' hF hB hd
      have e41 : a.eval (.tmp 41) = .bool true := hd 30 (by decide +kernel)
      exact doesL_call (wanted_of rfl (yielded_of rfl e41)) (ex_call (vs := #[]) rfl (by simp) (by go_simp)) ((ndawake_any w' (HT.out.below (W1.out.on hB))).mono fun e w3 hh => ⟨_, hh.1, rfl, hh.2⟩)
    · intro a w' hF hB hd
      have e41 : a.eval (.tmp 41) = .bool true := hd 30 (by decide +kernel)
      have e42 : a.eval (.tmp 42) = .bool true := hd 31 (by decide +kernel)
      exact doesL_val rfl (ex_pick rfl e41 (by simp [e42])) rfl
  · intro vs w4 hB hv
    have e9 : vs 32 = .bool true := hv 32 (by decide)
    simp only [List.take_succ_cons, List.take_zero, List.drop_succ_cons, List.drop_zero, putOps, Act.put, List.setIfInBounds_toArray, List.set_cons_zero, List.set_cons_succ, e9]
    have W4 := Lib.hid (W1.out.on hB)
    clear hv e9 hB
    go_wp2_with fail
    go_ret
    exact ⟨rfl, W4.out⟩
set_option maxRecDepth 100000 in
theorem reads (os : Os) {H : Type} (enc : TypeId × Value → H) : ∃ places, DataW.whole enc Tryd.prog ((World.doorLaid Tryd.prog 400 os).forCall (fun _ _ => 0) ⟨#[], #[.agg (row8 (List.replicate 32 0)).toArray, .int .u32 0, .slice none 0 0], []⟩).memory Tryd.f5.params.toList Rows.nodeSumsSpec.vars false (#[.agg (row8 (List.replicate 32 0)).toArray, .int .u32 0, .slice none 0 0] : Array Value).toList 8 = some ([lit8 (List.replicate 32 0), .lit (.int .u32 0), .nil], [], places) :=
  ⟨[], by kernel_rfl⟩
set_option linter.unusedVariables false in
set_option maxHeartbeats 1000000 in
set_option maxRecDepth 100000 in
theorem lifted (os : Os) (started : os.Started) (H : Type) (enc : TypeId × Value → H) (F : Stop.Interp) :
    ReturnsInHanded {} Tryd.checked os 5 .any ((OpenSpec.ofChange Rows.nodeSumsSpec).preRow enc Tryd.prog Tryd.f5 Rows.nodeSumsRow.domain false laidB) (((OpenSpec.ofChange Rows.nodeSumsSpec).at F).post enc Tryd.prog Tryd.f5 false true false false) := by
  obtain ⟨places, hx⟩ := reads os enc
  refine returnsInHanded_of_row (C := Tryd.checked) (s := OpenSpec.ofChange Rows.nodeSumsSpec) own started (by kernel_rfl) Tryd.func5
    (witness_row_atRef (enc := enc) (C := Tryd.checked) false (World.doorLaid Tryd.prog 400 os) #[.agg (row8 (List.replicate 32 0)).toArray, .int .u32 0, .slice none 0 0] rfl (by kernel_rfl) (by kernel_rfl) (by kernel_rfl)
      (OpenSpec.preRow_of_cond 8 hx (by kernel_rfl) (fun k hk => by cases hk) (by kernel_rfl) (doorB_met os _))) ?_
  intro W base args ds gs before hval0 hW _ hcond hsz0 hL _ _
  have hsz : (DataW.weightsEach Tryd.prog (Tryd.f5.params.toList ++ Rows.nodeSumsSpec.plain.varTypes Tryd.prog) (ds ++ gs)).all (· ≤ reachBytes) = true := hsz0
  clear hsz0
  have hval : ∀ (j : Nat) t v, Tryd.f5.params[j]? = some t → args[j]? = some v → Value.okWide Tryd.prog W .any base t v := hval0
  have hW' := hW
  obtain ⟨p, q, hA0, hV, rfl, _, _⟩ := hW
  have hA : DataW.TrodAll enc Tryd.prog W 0 (fun _ => true) true Tryd.f5.params.toList args.toList ds p := hA0
  rw [Tryd.params5] at hA hval hsz
  obtain ⟨v0, vs0, d0, ds0, p0, q0, hargs, rfl, rfl, g0, r0⟩ := trodAll_cons hA
  obtain ⟨v1, vs1, d1, ds1, p1, q1, rfl, rfl, rfl, g1, r1⟩ := trodAll_cons r0
  obtain ⟨v2, vs2, d2, ds2, p2, q2, rfl, rfl, rfl, g2, r2⟩ := trodAll_cons r1
  obtain ⟨rfl, rfl, rfl⟩ := trodAll_nil r2
  obtain rfl : args = #[v0, v1, v2] := by cases args; simp_all
  obtain ⟨rfl, rfl⟩ := trodVars_none hV
  obtain ⟨l0, h0, rfl, rfl, rfl⟩ := open_row Tryd.underlying39 Tryd.underlying5 cells5 (hval 0 39 v0 rfl rfl) cells39 g0
  obtain ⟨a1, rfl, rfl, rfl, w1⟩ := open_int Tryd.underlying22 (hval 1 22 v1 rfl rfl) g1
  obtain ⟨l2, h2⟩ := open_bytes (hval 2 29 v2 rfl rfl) g2 (fun elems spare e => sized_slice hsz (j := 2) (t := 29) (e := 5) rfl (by rw [← e]; rfl) Tryd.underlying29)
  have k2 : l2.length ≤ 140737488351232 := bytes_bound (hval 2 29 v2 rfl rfl) g2 (fun elems spare e => sized_slice hsz (j := 2) (t := 29) (e := 5) rfl (by rw [← e]; rfl) Tryd.underlying29) h2
  clear hA0 hval0
  have hlt := hW'.lt
  refine (walk W (tabs_of_laid hL) l0 h0 a1 w1 v2 l2 h2 k2).mono fun e W' ⟨he, hb⟩ => ?_
  subst he
  have hargs : DataW.TrodAll enc Tryd.prog W' 0 (fun b => decide (b < W.heap.size)) true _ _ _ _ := (trodAll_cons_mk (shut_row Tryd.underlying39 Tryd.underlying5 cells5 cells39 h0) (trodAll_cons_mk (shut_int Tryd.underlying22 w1) (trodAll_cons_mk (Below.trod laidOut (by kernel_rfl) (of_decide_eq_true (by kernel_rfl)) g2 hb (fun x hx => hlt x (by simp [hx]))) trodAll_mk0)))
  simp only [List.append_nil] at hW' hargs
  exact ⟨_, rfl, post_law hW' (trodAll_cons_mk (shut_bool Tryd.underlying4 _) trodAll_mk0) hargs rfl hb⟩
theorem over : Rows.nodeSumsRow.holds Tryd.pinned (OpenSpec.ofChange Rows.nodeSumsSpec) :=
  OpenClaim.holds_of_cond 5 Tryd.f5 rfl rfl rfl rfl rfl rfl rfl ⟨rfl, rfl, rfl, rfl, rfl⟩ rfl rfl rfl rfl rfl (by kernel_rfl) Tryd.func5 (by kernel_rfl)
    (of_decide_eq_true (by kernel_rfl)) (by unfold Func.isWrapper; first | (rw [if_pos (by decide +kernel)]; kernel_rfl) | (rw [if_neg (by decide +kernel)]; exact ⟨rfl, rfl⟩))
    (fun os started H enc _ F => by rw [OpenClaim.pre_eq_preRow]; exact lifted os started H enc F)

/-- The given statement. -/
theorem proved : Rows.NodeSumsCardSaid :=
  Claim7.holds_tied_plain_at .later [] _ _ _ _
    over (fun _ h => by cases h) (by kernel_rfl) (fun _ h => by cases h) nodeSums_row_tie rfl ⟨rfl, rfl⟩ (by kernel_rfl) rfl
    (fun f fn hf hfn => by
      obtain rfl : f = 5 := Option.some.inj ((show Tryd.prog.funcNamed "reliquary/reliquarylaw15.NodeSums" = some 5 by kernel_rfl).symm.trans hf) |>.symm
      obtain rfl : fn = Tryd.f5 := (Option.some.inj (Tryd.func5.symm.trans hfn)).symm
      exact ⟨by kernel_rfl, fun j t ht => by
        rw [Tryd.params5] at ht
        have hm : t ∈ [39, 22, 29] := by simpa using Array.mem_of_getElem? ht
        have hall : ([39, 22, 29].all fun u => !Tryd.prog.wantsStandIn u) = true := by kernel_rfl
        exact (show Tryd.prog.wantsStandIn t = false by simpa using List.all_eq_true.1 hall t hm)⟩)
    (by kernel_rfl)
end Go.Proofs.YtoacdeddkfcllaaDoor.nodeSums
