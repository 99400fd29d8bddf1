/- For whatever catalog of at most 300 snapshots: the program lays the document's bytes, or tells the document's error, and Check tells the same; the catalog stays as it is. The law is told true. Own work. -/
import Derived.Test.YtkagapgganoomaaRows
import Derived.Test.YtkagapgganoomaaCtAw
import Derived.Test.YtkagapgganoomaaCtSameB
import Derived.Test.YtkagapgganoomaaCtCopy
import Derived.Test.YtkagapgganoomaaCtArg
import Derived.Test.YtkagapgganoomaaFactX
import Derived.Test.YtkagapgganoomaaReg
import Derived.Test.YtkagapgganoomaaCtPutR
import Derived.WalkKit
import Derived.ProofKit
import Derived.OpenShut
import Derived.SizedLaws
import Derived.Carry
import Derived.Deep.DeepHandedRow
import Derived.Deep.DeepWitnessRowRef
namespace Go.Proofs.Ytkagapgganoomaa.catalogPuts
open Go.ChangeShapes Go.WideShapes Go.ChangeAt Go.RowKit

theorem own : ownKnob Try.prog.godebug = none := by kernel_rfl
set_option linter.unusedVariables false in
set_option maxHeartbeats 8000000 in
theorem walk (w : World) (c0 : CT.Ct) (v0 : Value) (h0 : CT.Ok c0) (p0 : RdT 34 w v0 c0.snaps.length (CT.sncs c0.snaps)) (k0 : c0.snaps.length ≤ 2513169434916) :
    Calls Try.prog 3 #[.agg (CT.ctc c0 v0).toArray] w fun e w' => e = .returned (.bool true) ∧ Below w.heap.size w w' := by
  obtain ⟨a0, q0, rfl, -⟩ := p0.shape
  have HAW := Lib.hid (fun W => cawake_any W)
  have HFW := Lib.hid (fun W => rcfew_any c0 h0.top a0 q0 W)
  obtain ⟨LC, hLC⟩ : ∃ x, x = CT.ctc c0 (.slice a0 c0.snaps.length q0) := ⟨_, rfl⟩
  have LC34 := Lib.hid (show LC.length = 34 by rw [hLC]; exact CT.ctc_len h0.top _)
  have W1 := Lib.hid ((Below.refl w.heap.size w).alloc (Nat.le_refl _) (.cells LC.toArray 29))
  have X1 := Lib.hid (Blk.new w 29 LC _ rfl)
  have V1 := Lib.hid (p0.below W1.out)
  rw [← hLC] at HFW ⊢
  by_cases hfew : c0.snaps.length ≤ 300
  · rw [decide_eq_true hfew] at HFW
    have HCO := Lib.hid (fun W x => rccopy_any c0 h0 (.slice a0 c0.snaps.length q0) W x k0)
    have HPU := Lib.hid (fun u W x => cpput_any c0 h0 u W x (by omega))
    have HPR := Lib.hid (fun W x => crput_any c0 h0 (.slice a0 c0.snaps.length q0) W x (by omega))
    have HCP := Lib.hid (fun u W x => pccheck_any c0 h0 u W x (by omega))
    have HCR := Lib.hid (fun W x => rccheck_any c0 h0 (.slice a0 c0.snaps.length q0) W x)
    have HSM := Lib.hid (fun u W x y => rsame_any c0 c0 h0 h0 u (.slice a0 c0.snaps.length q0) W x y (by omega))
    rw [ctEq_iff.2 rfl] at HSM
    rw [← hLC] at HCO HPR HCR HSM
    have HCL := Lib.hid (fun u : Value => show (CT.ctc c0 u).length = 34 from CT.ctc_len h0.top u)
    have HCA := Lib.hid (fun (a : Option Addr) (n q : Nat) => show (CT.ctc c0 (.slice a n q)).toArray.all (·.oneCell') = true from ctc_all rfl)
    obtain ⟨E, hE⟩ : ∃ x, x = CT.check c0 := ⟨_, rfl⟩
    rw [← hE] at HPU HPR HCP HCR
    obtain ⟨PU, hPU⟩ : ∃ x, x = CT.put c0 := ⟨_, rfl⟩
    rw [← hPU] at HPU HPR
    obtain ⟨PL, hPL⟩ : ∃ x, x = PU.length := ⟨_, rfl⟩
    have HPL := Lib.hid hPL
    obtain ⟨SP, hSP⟩ : ∃ x, x = bstr PU := ⟨_, rfl⟩
    have HSP := Lib.hid hSP
    obtain ⟨CS, hCS⟩ : ∃ x, x = CT.sncs c0.snaps := ⟨_, rfl⟩
    rw [← hCS] at HCO HPU HPR HCP HCR HSM V1
    obtain ⟨n, hn⟩ : ∃ x, x = c0.snaps.length := ⟨_, rfl⟩
    rw [← hn] at HCO HPU HPR HCP HCR HSM V1
    obtain ⟨Z, hZ⟩ : ∃ Z, Z = CT.ctc CT.zero (.slice none 0 0) := ⟨_, rfl⟩
    have hz : ∀ w, (zeroValue 29).run Try.prog w = .ok (.agg Z.toArray) w := by rw [hZ]; exact zeroCt
    have Z34 := Lib.hid (show Z.length = 34 by rw [hZ]; exact CT.ctc_len CT.zp_ok _)
    clear hLC hE hPU hPL hSP hCS hn hZ h0 p0 k0 hfew
    go_enter Try.func3, Try.ntmps3
    go_upto_region 6 with (first
      | ((with_reducible show wpList _ _ _ (Oper.mk (some 8) (.load _ _) _ _ _ _ :: _) _ _); refine wpList_load_mid rfl 29 (.tmp 1) rfl w.heap.size 0 rfl LC _ X1.out.range Try.underlying29 rfl (by rw [LC34.out]; exact infoCtC) ?_)
      | (go_at_call 10; (with_reducible refine (HFW.out _).mono ?_); rintro e w2 ⟨rfl, b2⟩; have W2 := Lib.hid (W1.out.on b2); have X2 := Lib.hid (X1.out.below b2 X1.out.lt); have V2 := Lib.hid (V1.out.below b2); clear b2)
      | ((with_reducible show wpList _ _ _ (Oper.mk (some 12) (.load _ _) _ _ _ _ :: _) _ _); refine wpList_load_mid rfl 29 (.tmp 1) rfl w.heap.size 0 rfl LC _ X2.out.range Try.underlying29 rfl (by rw [LC34.out]; exact infoCtC) ?_)
      | (go_at_call 12; (with_reducible refine (HCO.out _ V2.out).mono ?_); rintro e w3 ⟨u3, rfl, o3, b3⟩; obtain ⟨a3, q3, hsh, _⟩ := (owned_rd o3).shape; subst hsh; have V3 := Lib.hid (V2.out.below b3); have U3 := Lib.hid (owned_rd o3); have W3 := Lib.hid (W2.out.on b3); have X3 := Lib.hid (X2.out.below b3 X2.out.lt); clear o3 b3)
      | ((with_reducible show wpList _ _ _ (Oper.mk _ (.store _ (.tmp 3) (.tmp 13)) _ _ _ _ :: _) _ _); refine wpList_store_blk rfl 29 (.tmp 3) (.tmp 13) rfl w3.heap.size 0 (CT.ctc c0 (.slice a3 n q3)) rfl rfl 29 Z (Blk.new w3 29 Z _ rfl) (by rw [HCL.out, Z34.out]; exact Nat.le_refl _) (by rw [HCL.out]; exact infoCtC) (HCA.out _ _ _) ?_; intro w4 b4 g4; rw [splice_all _ _ (by rw [HCL.out, Z34.out])] at b4; have I4 := Lib.hid b4; have B4 := ((Below.refl w3.heap.size w3).alloc (Nat.le_refl _) (.cells Z.toArray 29)).grown g4 (by simp) (fun g hg => Nat.le_of_eq (Option.some.inj hg)); have V4 := Lib.hid (V3.out.below B4); have U4 := Lib.hid (U3.out.below B4); have W4 := Lib.hid (W3.out.on B4); have X4 := Lib.hid (X3.out.below B4 X3.out.lt); clear b4 g4 B4)
      | ((with_reducible show wpList _ _ _ (Oper.mk (some 15) (.load _ _) _ _ _ _ :: _) _ _); refine wpList_load_mid rfl 29 (.tmp 3) rfl w3.heap.size 0 rfl (CT.ctc c0 (.slice a3 n q3)) _ I4.out.range Try.underlying29 rfl (by rw [HCL.out]; exact infoCtC) ?_)
      | (go_at_call 13; (with_reducible refine (HPU.out _ _ U4.out).mono ?_); rintro e w5 ⟨u5, rfl, o5, b5⟩; obtain ⟨a4, q4, hsh, _⟩ := o5.rd.shape; rw [← HPL.out] at hsh; subst hsh; have O5 := Lib.hid o5; have V5 := Lib.hid (V4.out.below b5); have U5 := Lib.hid (U4.out.below b5); have W5 := Lib.hid (W4.out.on b5); have X5 := Lib.hid (X4.out.below b5 X4.out.lt); have I5 := Lib.hid (I4.out.below b5 I4.out.lt); clear o5 b5)
      | ((with_reducible show wpList _ _ _ (Oper.mk (some 20) (.load _ _) _ _ _ _ :: _) _ _); refine wpList_load_mid rfl 29 (.tmp 1) rfl w.heap.size 0 rfl LC _ X5.out.range Try.underlying29 rfl (by rw [LC34.out]; exact infoCtC) ?_)
      | (go_at_call 14; (with_reducible refine (HPR.out _ V5.out).mono ?_); rintro e w6 ⟨u6, rfl, o6, b6⟩; obtain ⟨a6, q6, hsh, _⟩ := o6.rd.shape; rw [← HPL.out] at hsh; subst hsh; have O6 := Lib.hid o6; have O4 := Lib.hid (O5.out.below b6); have VC := Lib.hid (V5.out.below b6); have VI := Lib.hid (U5.out.below b6); have W6 := Lib.hid (W5.out.on b6); have XC := Lib.hid (X5.out.below b6 X5.out.lt); have XI := Lib.hid (I5.out.below b6 I5.out.lt); clear o6 b6))
    have HCP := Lib.hid (fun W x => HCP.out (.slice a3 n q3) W x)
    have HSM := Lib.hid (fun W x y => HSM.out (.slice a3 n q3) W x y)
    obtain ⟨LI, hLI⟩ : ∃ x, x = CT.ctc c0 (.slice a3 n q3) := ⟨_, rfl⟩
    have LI34 := Lib.hid (show LI.length = 34 by rw [hLI]; exact HCL.out _)
    rw [← hLI] at HCP HSM XI
    obtain ⟨bi, hbi⟩ : ∃ x, x = w3.heap.size := ⟨_, rfl⟩
    rw [← hbi] at XI ⊢
    clear hLI hbi HCO HPU HPR HFW V1 V2 V3 V4 V5 U3 U4 U5 X1 X2 X3 X4 X5 I4 I5 W1 W2 W3 W4 W5 O5 HCL HCA
    refine wp_region_l (by kernel_rfl) 25 (by decide) (by kernel_rfl) (by kernel_rfl) (by kernel_rfl) [.val (.slice a4 PL q4), .val (.string SP), .val (.slice a6 PL q6), .val (.string SP), .val (.bool true), .val (.bool true), .val (.int .i64 E), .val (.int .i64 E), .val (.bool true), .val (.bool true), .val (.bool true), .val (.agg LI.toArray), .val (.int .i64 E), .val (.agg LC.toArray), .val (.int .i64 E), .val (.bool true), .val (.bool true), .val (.bool true), .val (.agg LI.toArray), .val (.agg LC.toArray), .val (.bool true), .val (.bool true), .val (.bool true), .val (.bool true), .val (.bool true)] ?_ ?_
    · refine ⟨?_, ?_, ?_, ?_, ?_, ?_, ?_, ?_, ?_, ?_, ?_, ?_, ?_, ?_, ?_, ?_, ?_, ?_, ?_, ?_, ?_, ?_, ?_, ?_, ?_, trivial⟩
      · intro a w' hF hB hd
        have e4 : a.eval (.tmp 4) = .slice a4 PL q4 := hF 4 (by decide +kernel)
        exact doesL_val rfl (ex_move rfl e4) rfl
      · intro a w' hF hB hd
        have e24 : a.eval (.tmp 24) = .slice a4 PL q4 := hd 0 (by decide +kernel)
        exact doesL_val rfl (ex_convert (x := .tmp 24) rfl e24 (by rw [HSP.out]; exact ((O4.out.rd.below hB)).str)) rfl
      · intro a w' hF hB hd
        have e6 : a.eval (.tmp 6) = .slice a6 PL q6 := hF 6 (by decide +kernel)
        exact doesL_val rfl (ex_move rfl e6) rfl
      · intro a w' hF hB hd
        have e26 : a.eval (.tmp 26) = .slice a6 PL q6 := hd 2 (by decide +kernel)
        exact doesL_val rfl (ex_convert (x := .tmp 26) rfl e26 (by rw [HSP.out]; exact ((O6.out.rd.below hB)).str)) rfl
      · intro a w' hF hB hd
        have e25 : a.eval (.tmp 25) = .string SP := hd 1 (by decide +kernel)
        have e27 : a.eval (.tmp 27) = .string SP := hd 3 (by decide +kernel)
        exact doesL_val rfl (ex_binOp rfl e25 e27 (by go_simp) (by rw [run_eql_str]; simp)) rfl
      · intro a w' hF hB hd
        have e28 : a.eval (.tmp 28) = .bool true := hd 4 (by decide +kernel)
        exact doesL_val rfl (ex_move rfl e28) rfl
      · intro a w' hF hB hd
        have e29 : a.eval (.tmp 29) = .bool true := hd 5 (by decide +kernel)
        have e5 : a.eval (.tmp 5) = .int .i64 E := hF 5 (by decide +kernel)
        exact doesL_val (wanted_of rfl (yielded_of rfl e29)) (ex_move rfl e5) rfl
      · intro a w' hF hB hd
        have e29 : a.eval (.tmp 29) = .bool true := hd 5 (by decide +kernel)
        have e7 : a.eval (.tmp 7) = .int .i64 E := hF 7 (by decide +kernel)
        exact doesL_val (wanted_of rfl (yielded_of rfl e29)) (ex_move rfl e7) rfl
      · intro a w' hF hB hd
        have e29 : a.eval (.tmp 29) = .bool true := hd 5 (by decide +kernel)
        have e30 : a.eval (.tmp 30) = .int .i64 E := hd 6 (by decide +kernel)
        have e31 : a.eval (.tmp 31) = .int .i64 E := hd 7 (by decide +kernel)
        exact doesL_val (wanted_of rfl (yielded_of rfl e29)) (ex_binOp rfl e30 e31 (by go_simp) (by go_simp)) rfl
      · intro a w' hF hB hd
        have e29 : a.eval (.tmp 29) = .bool true := hd 5 (by decide +kernel)
        have e32 : a.eval (.tmp 32) = .bool true := hd 8 (by decide +kernel)
        exact doesL_val rfl (ex_pick rfl e29 (by simp [e32])) rfl
      · intro a w' hF hB hd
        have e33 : a.eval (.tmp 33) = .bool true := hd 9 (by decide +kernel)
        exact doesL_val rfl (ex_move rfl e33) rfl
      · intro a w' hF hB hd
        have e34 : a.eval (.tmp 34) = .bool true := hd 10 (by decide +kernel)
        have e3 : a.eval (.tmp 3) = .pointer (some ⟨bi, 0, none⟩) := hF 3 (by decide +kernel)
        exact doesL_val (wanted_of rfl (yielded_of rfl e34)) (ex_load_part 29 (.tmp 3) rfl bi 0 e3 LI _ ((XI.out.below hB XI.out.lt).range) Try.underlying29 rfl (by rw [LI34.out]; exact infoCtC)) rfl
      · intro a w' hF hB hd
        have e34 : a.eval (.tmp 34) = .bool true := hd 10 (by decide +kernel)
        have e35 : a.eval (.tmp 35) = .agg LI.toArray := hd 11 (by decide +kernel)
        exact doesL_call (wanted_of rfl (yielded_of rfl e34)) (ex_call (vs := #[.agg LI.toArray]) rfl (by simp only [List.map_toArray, List.map_cons, List.map_nil, e35]) (by go_simp)) ((HCP.out w' (VI.out.below hB)).mono fun e w3 hh => ⟨_, hh.1, rfl, hh.2⟩)
      · intro a w' hF hB hd
        have e34 : a.eval (.tmp 34) = .bool true := hd 10 (by decide +kernel)
        have e1 : a.eval (.tmp 1) = .pointer (some ⟨w.heap.size, 0, none⟩) := hF 1 (by decide +kernel)
        exact doesL_val (wanted_of rfl (yielded_of rfl e34)) (ex_load_part 29 (.tmp 1) rfl w.heap.size 0 e1 LC _ ((XC.out.below hB XC.out.lt).range) Try.underlying29 rfl (by rw [LC34.out]; exact infoCtC)) rfl
      · intro a w' hF hB hd
        have e34 : a.eval (.tmp 34) = .bool true := hd 10 (by decide +kernel)
        have e37 : a.eval (.tmp 37) = .agg LC.toArray := hd 13 (by decide +kernel)
        exact doesL_call (wanted_of rfl (yielded_of rfl e34)) (ex_call (vs := #[.agg LC.toArray]) rfl (by simp only [List.map_toArray, List.map_cons, List.map_nil, e37]) (by go_simp)) ((HCR.out w' (VC.out.below hB)).mono fun e w3 hh => ⟨_, hh.1, rfl, hh.2⟩)
      · intro a w' hF hB hd
        have e34 : a.eval (.tmp 34) = .bool true := hd 10 (by decide +kernel)
        have e36 : a.eval (.tmp 36) = .int .i64 E := hd 12 (by decide +kernel)
        have e38 : a.eval (.tmp 38) = .int .i64 E := hd 14 (by decide +kernel)
        exact doesL_val (wanted_of rfl (yielded_of rfl e34)) (ex_binOp rfl e36 e38 (by go_simp) (by go_simp)) rfl
      · intro a w' hF hB hd
        have e34 : a.eval (.tmp 34) = .bool true := hd 10 (by decide +kernel)
        have e39 : a.eval (.tmp 39) = .bool true := hd 15 (by decide +kernel)
        exact doesL_val rfl (ex_pick rfl e34 (by simp [e39])) rfl
      · intro a w' hF hB hd
        have e40 : a.eval (.tmp 40) = .bool true := hd 16 (by decide +kernel)
        exact doesL_val rfl (ex_move rfl e40) rfl
      · intro a w' hF hB hd
        have e41 : a.eval (.tmp 41) = .bool true := hd 17 (by decide +kernel)
        have e3 : a.eval (.tmp 3) = .pointer (some ⟨bi, 0, none⟩) := hF 3 (by decide +kernel)
        exact doesL_val (wanted_of rfl (yielded_of rfl e41)) (ex_load_part 29 (.tmp 3) rfl bi 0 e3 LI _ ((XI.out.below hB XI.out.lt).range) Try.underlying29 rfl (by rw [LI34.out]; exact infoCtC)) rfl
      · intro a w' hF hB hd
        have e41 : a.eval (.tmp 41) = .bool true := hd 17 (by decide +kernel)
        have e1 : a.eval (.tmp 1) = .pointer (some ⟨w.heap.size, 0, none⟩) := hF 1 (by decide +kernel)
        exact doesL_val (wanted_of rfl (yielded_of rfl e41)) (ex_load_part 29 (.tmp 1) rfl w.heap.size 0 e1 LC _ ((XC.out.below hB XC.out.lt).range) Try.underlying29 rfl (by rw [LC34.out]; exact infoCtC)) rfl
      · intro a w' hF hB hd
        have e41 : a.eval (.tmp 41) = .bool true := hd 17 (by decide +kernel)
        have e42 : a.eval (.tmp 42) = .agg LI.toArray := hd 18 (by decide +kernel)
        have e43 : a.eval (.tmp 43) = .agg LC.toArray := hd 19 (by decide +kernel)
        exact doesL_call (wanted_of rfl (yielded_of rfl e41)) (ex_call (vs := #[.agg LI.toArray, .agg LC.toArray]) rfl (by simp only [List.map_toArray, List.map_cons, List.map_nil, e42, e43]) (by go_simp)) ((HSM.out w' (VI.out.below hB) (VC.out.below hB)).mono fun e w3 hh => ⟨_, hh.1, rfl, hh.2⟩)
      · intro a w' hF hB hd
        have e41 : a.eval (.tmp 41) = .bool true := hd 17 (by decide +kernel)
        have e44 : a.eval (.tmp 44) = .bool true := hd 20 (by decide +kernel)
        exact doesL_val rfl (ex_pick rfl e41 (by simp [e44])) rfl
      · intro a w' hF hB hd
        have e45 : a.eval (.tmp 45) = .bool true := hd 21 (by decide +kernel)
        exact doesL_val rfl (ex_move rfl e45) rfl
      · intro a w' hF hB hd
        have e46 : a.eval (.tmp 46) = .bool true := hd 22 (by decide +kernel)
        exact doesL_call (wanted_of rfl (yielded_of rfl e46)) (ex_call (vs := #[]) rfl (by simp) (by go_simp)) ((HAW.out w').mono fun e w3 hh => ⟨_, hh.1, rfl, hh.2⟩)
      · intro a w' hF hB hd
        have e46 : a.eval (.tmp 46) = .bool true := hd 22 (by decide +kernel)
        have e47 : a.eval (.tmp 47) = .bool true := hd 23 (by decide +kernel)
        exact doesL_val rfl (ex_pick rfl e46 (by simp [e47])) rfl
    · intro vs w7 hB hv
      have e48 : vs 24 = .bool true := hv 24 (by decide)
      simp only [List.take_succ_cons, List.take_zero, List.drop_succ_cons, List.drop_zero, putOps, Act.put, List.setIfInBounds_toArray, List.set_cons_zero, List.set_cons_succ, e48]
      have W7 := Lib.hid (W6.out.on hB)
      clear hv e48 hB
      go_wp2_with fail
      go_ret
      exact ⟨rfl, W7.out⟩
  · rw [decide_eq_false hfew] at HFW
    clear hLC h0 p0 k0 hfew
    go_enter Try.func3, Try.ntmps3
    go_wp2_with ((fail_if_success (with_reducible show bodyPost _ _ _ _ _ _)); first
      | ((with_reducible show wpList _ _ _ (Oper.mk (some 8) (.load _ _) _ _ _ _ :: _) _ _); refine wpList_load_mid rfl 29 (.tmp 1) rfl w.heap.size 0 rfl LC _ X1.out.range Try.underlying29 rfl (by rw [LC34.out]; exact infoCtC) ?_)
      | (go_at_call 10; (with_reducible refine (HFW.out _).mono ?_); rintro e w2 ⟨rfl, b2⟩; have W2 := Lib.hid (W1.out.on b2); clear b2)
      | (go_at_call 11; (with_reducible refine (HAW.out _).mono ?_); rintro e w3 ⟨rfl, b3⟩; have W3 := Lib.hid (W2.out.on b3); clear b3))
    go_ret
    exact ⟨rfl, W3.out⟩
set_option linter.unusedVariables false in
set_option maxHeartbeats 400000 in
set_option maxRecDepth 100000 in
theorem lifted (os : Os) (started : os.Started) (H : Type) (enc : TypeId × Value → H) :
    ReturnsInHanded {} Try.checked os 3 .any (Rows.catalogPutsSpec.pre6 enc Try.prog Try.f3 Rows.catalogPutsRow.domain false) (Rows.catalogPutsSpec.post enc Try.prog Try.f3 false true false false) := by
  refine returnsInHanded_of_change_sized (C := Try.checked) own started (by kernel_rfl) Try.func3
    (ChangeSpec.witness6 (enc := enc) (C := Try.checked) false ⟨#[], #[.agg (CT.ctc CT.zero (.slice none 0 0)).toArray], []⟩ 8 (by kernel_rfl) (by kernel_rfl) (by kernel_rfl) (by kernel_rfl)) ?_
  intro W base args ds gs before hval0 hW _ hsz0 _
  have hsz : (DataW.weightsEach Try.prog (Try.f3.params.toList ++ Rows.catalogPutsSpec.plain.varTypes Try.prog) (ds ++ gs)).all (· ≤ reachBytes) = true := hsz0
  clear hsz0
  have hval : ∀ (j : Nat) t v, Try.f3.params[j]? = some t → args[j]? = some v → Value.okWide Try.prog W .any base t v := hval0
  have hW' := hW
  obtain ⟨p, q, hA0, hV, rfl, _, _⟩ := hW
  have hA : DataW.TrodAll enc Try.prog W 0 (fun _ => true) true Try.f3.params.toList args.toList ds p := hA0
  rw [Try.params3] at hA hval hsz
  obtain ⟨v0, vs0, d0, ds0, p0, q0, hargs, rfl, rfl, g0, r0⟩ := trodAll_cons hA
  obtain ⟨rfl, rfl, rfl⟩ := trodAll_nil r0
  obtain rfl : args = #[v0] := by cases args; simp_all
  obtain ⟨rfl, rfl⟩ := trodVars_none hV
  obtain ⟨cc0, uu0, rfl, hh0, pp0, kk0⟩ := open_cat (hval 0 29 v0 rfl rfl) g0 (fun n hn => by simpa using List.all_eq_true.1 hsz n (DataW.weights_mem_each (j := 0) (t := 29) rfl rfl n hn))
  clear hA0 hval0
  have hlt := hW'.lt
  refine (walk W cc0 uu0 hh0 pp0 kk0).mono fun e W' ⟨he, hb⟩ => ?_
  subst he
  have hargs : DataW.TrodAll enc Try.prog W' 0 (fun b => decide (b < W.heap.size)) true _ _ _ _ := (trodAll_cons_mk (Below.trod laidOut (by kernel_rfl) (of_decide_eq_true (by kernel_rfl)) g0 hb (fun x hx => hlt x (by simp [hx]))) trodAll_mk0)
  simp only [List.append_nil] at hW' hargs
  exact ⟨_, rfl, post_law hW' (trodAll_cons_mk (shut_bool Try.underlying4 _) trodAll_mk0) hargs rfl hb⟩
theorem over : Rows.catalogPutsRow.holds Try.pinned (OpenSpec.ofChange Rows.catalogPutsSpec) :=
  OpenClaim.holds_of_wide 3 Try.f3 rfl rfl rfl rfl rfl rfl rfl ⟨rfl, rfl, rfl, rfl, rfl⟩ rfl rfl rfl rfl rfl (by kernel_rfl) Try.func3 (by kernel_rfl)
    (of_decide_eq_true (by kernel_rfl)) (by unfold Func.isWrapper; first | (rw [if_pos (by decide +kernel)]; kernel_rfl) | (rw [if_neg (by decide +kernel)]; exact ⟨rfl, rfl⟩))
    (fun os started H enc _ => lifted os started H enc)

/-- The given statement. -/
theorem proved : Rows.CatalogPutsSaid := over
end Go.Proofs.Ytkagapgganoomaa.catalogPuts
