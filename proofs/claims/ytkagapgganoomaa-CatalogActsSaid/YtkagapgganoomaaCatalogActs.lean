/- For whatever catalog of at most 300 snapshots and whatever name: adding, dropping, reverting and looking for a snapshot leave and tell what the document says; the catalog asked stays as it is, also when what was told is changed. The law is told true. Own work. -/
import Derived.Test.YtkagapgganoomaaRows
import Derived.Test.YtkagapgganoomaaCtAw
import Derived.Test.YtkagapgganoomaaCtSameB
import Derived.Test.YtkagapgganoomaaCtCopy
import Derived.Test.YtkagapgganoomaaCtArg
import Derived.Test.YtkagapgganoomaaFactX
import Derived.Test.YtkagapgganoomaaReg
import Derived.Test.YtkagapgganoomaaCtSnap
import Derived.Test.YtkagapgganoomaaCtSnapR
import Derived.Test.YtkagapgganoomaaCtDrop
import Derived.Test.YtkagapgganoomaaCtDropR
import Derived.Test.YtkagapgganoomaaCtRev
import Derived.Test.YtkagapgganoomaaCtRevR
import Derived.Test.YtkagapgganoomaaCtFind
import Derived.Test.YtkagapgganoomaaCtTold
import Derived.Test.YtkagapgganoomaaCtY
import Derived.Test.YtkagapgganoomaaCtNames
import Derived.WalkKit
import Derived.ProofKit
import Derived.OpenShut
import Derived.SizedLaws
import Derived.Carry
import Derived.Deep.DeepHandedRow
import Derived.Deep.DeepWitnessRowRef
namespace Go.Proofs.Ytkagapgganoomaa.catalogActs
open Go.ChangeShapes Go.WideShapes Go.ChangeAt Go.RowKit
open RT CT
theorem own : ownKnob Try.prog.godebug = none := by kernel_rfl
set_option linter.unusedVariables false in
set_option maxHeartbeats 16000000 in
set_option maxRecDepth 100000 in
theorem walk (w : World) (c0 : CT.Ct) (v0 : Value) (h0 : CT.Ok c0) (p0 : RdT 34 w v0 c0.snaps.length (CT.sncs c0.snaps)) (k0 : c0.snaps.length ≤ 2513169434916) (a1 : ByteArray) (w1 : a1.size ≤ maxLen) (k1 : a1.size ≤ 140737488351232) :
    Calls Try.prog 6 #[.agg (CT.ctc c0 v0).toArray, .string a1] w fun e w' => e = .returned (.bool true) ∧ Below w.heap.size w w' := by
  obtain ⟨sa, q0, rfl, -⟩ := p0.shape
  have HAW := Lib.hid (fun W => cawake_any W)
  have HFW := Lib.hid (fun W => rcfew_any c0 h0.top sa q0 W)
  obtain ⟨LC, hLC⟩ : ∃ x, x = ctc c0 (.slice sa c0.snaps.length q0) := ⟨_, rfl⟩
  have LC34 := Lib.hid (show LC.length = 34 by rw [hLC]; exact ctc_len h0.top _)
  have W1 := Lib.hid ((Below.refl w.heap.size w).alloc (Nat.le_refl _) (.cells LC.toArray 29))
  have X1 := Lib.hid (Blk.new w 29 LC _ rfl)
  have V1 := Lib.hid (p0.below W1.out)
  rw [← hLC] at HFW ⊢
  by_cases hfew : c0.snaps.length ≤ 300
  · rw [decide_eq_true hfew] at HFW
    have HCO := Lib.hid (fun W x => rccopy_any c0 h0 (.slice sa c0.snaps.length q0) W x k0)
    have HSM := Lib.hid (fun u W x y => show Calls Try.prog 17 #[.agg (ctc c0 u).toArray, .agg (ctc c0 (.slice sa c0.snaps.length q0)).toArray] W fun e w' => e = .returned (.bool true) ∧ Below W.heap.size W w' by
      have q := rsame_any c0 c0 h0 h0 u (.slice sa c0.snaps.length q0) W x y (by omega)
      rw [ctEq_iff.2 rfl] at q
      exact q)
    have HNM := Lib.hid (fun u W x => pnames_any c0 h0 u W x (by omega))
    have HPF := Lib.hid (fun u W x => cpfind_any c0 h0 a1 u W x (by omega))
    have HRF := Lib.hid (fun W x => crfind_any c0 h0 a1 (.slice sa c0.snaps.length q0) W x (by omega))
    have HNF := Lib.hid (fun W => show (binOp .neq 26 (.agg (pc (CT.find c0 a1).1).toArray) (.agg (pc (CT.find c0 a1).1).toArray)).run Try.prog W = .ok (.bool false) W by rw [run_neq_ref (find_okT h0 a1) (find_okT h0 a1), pgEq_iff.2 rfl]; rfl)
    have F33 := Lib.hid (pc_len (find_okT h0 a1))
    obtain ⟨EF, hEF⟩ : ∃ x, x = (CT.find c0 a1).2 := ⟨_, rfl⟩
    obtain ⟨FP, hFP⟩ : ∃ x, x = (CT.find c0 a1).1 := ⟨_, rfl⟩
    rw [← hEF, ← hFP] at HPF HRF
    rw [← hFP] at HNF F33
    have FDO := Lib.hid (show (pc FP).toArray.all (·.oneCell') = true by rw [List.all_toArray, List.all_eq_true]; exact pc_one' _)
    obtain ⟨FD, hFD⟩ : ∃ x, x = pc FP := ⟨_, rfl⟩
    rw [← hFD] at HPF HRF HNF F33 FDO
    clear hEF hFP hFD
    have HPA := Lib.hid (fun u W x => show Calls Try.prog 23 #[.agg (ctc c0 u).toArray, .string a1] W fun e w' => ∃ y, e = .returned (.tuple #[.agg (pc (CT.snap c0 a1).1.top ++ [y]).toArray, .int .i64 (CT.snap c0 a1).2]) ∧ w'.ownsRow W.heap.size 60 34 y (CT.snap c0 a1).1.snaps.length (sncs (CT.snap c0 a1).1.snaps) ∧ Below W.heap.size W w' from cpsnap_any c0 h0 a1 u W x (by omega))
    have HRA := Lib.hid (fun W x => show Calls Try.prog 24 #[.agg (ctc c0 (.slice sa c0.snaps.length q0)).toArray, .string a1] W fun e w' => ∃ y, e = .returned (.tuple #[.agg (pc (CT.snap c0 a1).1.top ++ [y]).toArray, .int .i64 (CT.snap c0 a1).2]) ∧ w'.ownsRow W.heap.size 60 34 y (CT.snap c0 a1).1.snaps.length (sncs (CT.snap c0 a1).1.snaps) ∧ Below W.heap.size W w' from crsnap_any c0 h0 a1 (.slice sa c0.snaps.length q0) W x (by omega))
    have okA := snap_ok h0 a1
    have fwA := snap_fewT c0 a1
    obtain ⟨RA, hRA⟩ : ∃ x, x = (CT.snap c0 a1).1 := ⟨_, rfl⟩
    obtain ⟨EA, hEA⟩ : ∃ x, x = (CT.snap c0 a1).2 := ⟨_, rfl⟩
    rw [← hRA, ← hEA] at HPA HRA
    rw [← hRA] at okA fwA
    clear hRA hEA
    have HTA := Lib.hid (fun u v W => ctold_pc RA okA EA u v W (by omega))
    have HUA := Lib.hid (fun B u W => cturn_pc RA okA B u W (by omega))
    have PAL := Lib.hid (fun u : Value => show (pc RA.top ++ [u]).length = 34 by rw [List.length_append, pc_len okA.top]; rfl)
    have PAO := Lib.hid (fun (a : Option Addr) (n q : Nat) => show (pc RA.top ++ [Value.slice a n q]).toArray.all (·.oneCell') = true from ctc_all (c := ⟨RA.top, []⟩) rfl)
    obtain ⟨PA, hPA⟩ : ∃ x, x = pc RA.top := ⟨_, rfl⟩
    obtain ⟨NA, hNA⟩ : ∃ x, x = RA.snaps.length := ⟨_, rfl⟩
    obtain ⟨SA, hSA⟩ : ∃ x, x = sncs RA.snaps := ⟨_, rfl⟩
    rw [← hPA, ← hNA, ← hSA] at HPA HRA HTA HUA
    rw [← hPA] at PAL PAO
    clear okA fwA hPA hNA hSA
    have HPG := Lib.hid (fun u W x => show Calls Try.prog 25 #[.agg (ctc c0 u).toArray, .string a1] W fun e w' => ∃ y, e = .returned (.tuple #[.agg (pc (CT.drop c0 a1).1.top ++ [y]).toArray, .int .i64 (CT.drop c0 a1).2]) ∧ w'.ownsRow W.heap.size 60 34 y (CT.drop c0 a1).1.snaps.length (sncs (CT.drop c0 a1).1.snaps) ∧ Below W.heap.size W w' from cpdrop_any c0 h0 a1 u W x (by omega))
    have HRG := Lib.hid (fun W x => show Calls Try.prog 26 #[.agg (ctc c0 (.slice sa c0.snaps.length q0)).toArray, .string a1] W fun e w' => ∃ y, e = .returned (.tuple #[.agg (pc (CT.drop c0 a1).1.top ++ [y]).toArray, .int .i64 (CT.drop c0 a1).2]) ∧ w'.ownsRow W.heap.size 60 34 y (CT.drop c0 a1).1.snaps.length (sncs (CT.drop c0 a1).1.snaps) ∧ Below W.heap.size W w' from crdrop_any c0 h0 a1 (.slice sa c0.snaps.length q0) W x (by omega))
    have okG := drop_okT h0 a1
    have fwG := drop_fewT c0 a1
    obtain ⟨RG, hRG⟩ : ∃ x, x = (CT.drop c0 a1).1 := ⟨_, rfl⟩
    obtain ⟨EG, hEG⟩ : ∃ x, x = (CT.drop c0 a1).2 := ⟨_, rfl⟩
    rw [← hRG, ← hEG] at HPG HRG
    rw [← hRG] at okG fwG
    clear hRG hEG
    have HTG := Lib.hid (fun u v W => ctold_pc RG okG EG u v W (by omega))
    have HUG := Lib.hid (fun B u W => cturn_pc RG okG B u W (by omega))
    have PGL := Lib.hid (fun u : Value => show (pc RG.top ++ [u]).length = 34 by rw [List.length_append, pc_len okG.top]; rfl)
    have PGO := Lib.hid (fun (a : Option Addr) (n q : Nat) => show (pc RG.top ++ [Value.slice a n q]).toArray.all (·.oneCell') = true from ctc_all (c := ⟨RG.top, []⟩) rfl)
    obtain ⟨PG, hPG⟩ : ∃ x, x = pc RG.top := ⟨_, rfl⟩
    obtain ⟨NG, hNG⟩ : ∃ x, x = RG.snaps.length := ⟨_, rfl⟩
    obtain ⟨SG, hSG⟩ : ∃ x, x = sncs RG.snaps := ⟨_, rfl⟩
    rw [← hPG, ← hNG, ← hSG] at HPG HRG HTG HUG
    rw [← hPG] at PGL PGO
    clear okG fwG hPG hNG hSG
    have HPK := Lib.hid (fun u W x => show Calls Try.prog 27 #[.agg (ctc c0 u).toArray, .string a1] W fun e w' => ∃ y, e = .returned (.tuple #[.agg (pc (CT.revert c0 a1).1.top ++ [y]).toArray, .int .i64 (CT.revert c0 a1).2]) ∧ w'.ownsRow W.heap.size 60 34 y (CT.revert c0 a1).1.snaps.length (sncs (CT.revert c0 a1).1.snaps) ∧ Below W.heap.size W w' from cprevert_any c0 h0 a1 u W x (by omega))
    have HRK := Lib.hid (fun W x => show Calls Try.prog 28 #[.agg (ctc c0 (.slice sa c0.snaps.length q0)).toArray, .string a1] W fun e w' => ∃ y, e = .returned (.tuple #[.agg (pc (CT.revert c0 a1).1.top ++ [y]).toArray, .int .i64 (CT.revert c0 a1).2]) ∧ w'.ownsRow W.heap.size 60 34 y (CT.revert c0 a1).1.snaps.length (sncs (CT.revert c0 a1).1.snaps) ∧ Below W.heap.size W w' from crrevert_any c0 h0 a1 (.slice sa c0.snaps.length q0) W x (by omega))
    have okK := revert_okT h0 a1
    have fwK := revert_fewT c0 a1
    obtain ⟨RK, hRK⟩ : ∃ x, x = (CT.revert c0 a1).1 := ⟨_, rfl⟩
    obtain ⟨EK, hEK⟩ : ∃ x, x = (CT.revert c0 a1).2 := ⟨_, rfl⟩
    rw [← hRK, ← hEK] at HPK HRK
    rw [← hRK] at okK fwK
    clear hRK hEK
    have HTK := Lib.hid (fun u v W => ctold_pc RK okK EK u v W (by omega))
    have HUK := Lib.hid (fun B u W => cturn_pc RK okK B u W (by omega))
    have PKL := Lib.hid (fun u : Value => show (pc RK.top ++ [u]).length = 34 by rw [List.length_append, pc_len okK.top]; rfl)
    have PKO := Lib.hid (fun (a : Option Addr) (n q : Nat) => show (pc RK.top ++ [Value.slice a n q]).toArray.all (·.oneCell') = true from ctc_all (c := ⟨RK.top, []⟩) rfl)
    obtain ⟨PK, hPK⟩ : ∃ x, x = pc RK.top := ⟨_, rfl⟩
    obtain ⟨NK, hNK⟩ : ∃ x, x = RK.snaps.length := ⟨_, rfl⟩
    obtain ⟨SK, hSK⟩ : ∃ x, x = sncs RK.snaps := ⟨_, rfl⟩
    rw [← hPK, ← hNK, ← hSK] at HPK HRK HTK HUK
    rw [← hPK] at PKL PKO
    clear okK fwK hPK hNK hSK
    rw [← hLC] at HCO HSM HRF HRA HRG HRK
    have HCL := Lib.hid (fun u : Value => show (ctc c0 u).length = 34 from ctc_len h0.top u)
    have HCA := Lib.hid (fun (a : Option Addr) (n q : Nat) => show (ctc c0 (.slice a n q)).toArray.all (·.oneCell') = true from ctc_all rfl)
    have HC3 := Lib.hid (fun u : Value => show (ctc c0 u)[33]? = some u from ctc_snaps h0.top u)
    have HX3 := Lib.hid (show LC[33]? = some (.slice sa c0.snaps.length q0) by rw [hLC]; exact ctc_snaps h0.top _)
    have HPO := Lib.hid h0.snaps
    obtain ⟨SN, hSN⟩ : ∃ x, x = c0.snaps := ⟨_, rfl⟩
    have HSN := Lib.hid hSN
    obtain ⟨CS, hCS⟩ : ∃ x, x = sncs c0.snaps := ⟨_, rfl⟩
    have HCS := Lib.hid hCS
    obtain ⟨n, hn⟩ : ∃ x, x = c0.snaps.length := ⟨_, rfl⟩
    have HNN := Lib.hid hn
    have HN3 := Lib.hid (show n ≤ 300 by omega)
    rw [← hCS, ← hn] at HCO HSM HPF HRF HPA HRA HPG HRG HPK HRK V1
    rw [← hCS, ← hn] at HNM
    rw [← hn] at HX3
    obtain ⟨Z, hZ⟩ : ∃ Z, Z = ctc CT.zero (.slice none 0 0) := ⟨_, rfl⟩
    have hz : ∀ w, (zeroValue 29).run Try.prog w = .ok (.agg Z.toArray) w := by rw [hZ]; exact zeroCt
    have Z34 := Lib.hid (show Z.length = 34 by rw [hZ]; exact ctc_len CT.zp_ok _)
    obtain ⟨Zr, hZr⟩ : ∃ Z, Z = pc CT.zp := ⟨_, rfl⟩
    have hzr : ∀ w, (zeroValue 26).run Try.prog w = .ok (.agg Zr.toArray) w := by rw [hZr]; exact zeroRf
    have Z33 := Lib.hid (show Zr.length = 33 by rw [hZr]; exact pc_len CT.zp_ok)
    have VP := Lib.hid (fun w' (q : Below w.heap.size w w') => p0.below q)
    rw [← hCS, ← hn] at VP
    clear hLC hSN hCS hn hZ hZr h0 p0 k0 hfew
    go_enter Try.func6, Try.ntmps6
    go_upto_region 4 with (first
      | ((with_reducible show wpList _ _ _ (Oper.mk (some 24) (.load _ _) _ _ _ _ :: _) _ _); refine wpList_load_mid rfl 29 (.tmp 2) rfl w.heap.size 0 rfl LC _ X1.out.range Try.underlying29 rfl (by rw [LC34.out]; exact infoCtC) ?_)
      | (go_at_call 10; (with_reducible refine (HFW.out _).mono ?_); rintro e w2 ⟨rfl, b2⟩; have X2 := Lib.hid (X1.out.below b2 X1.out.lt); have V2 := Lib.hid (V1.out.below b2); have W2 := Lib.hid (W1.out.on b2); clear b2)
      | ((with_reducible show wpList _ _ _ (Oper.mk (some 28) (.load _ _) _ _ _ _ :: _) _ _); refine wpList_load_mid rfl 29 (.tmp 2) rfl w.heap.size 0 rfl LC _ X2.out.range Try.underlying29 rfl (by rw [LC34.out]; exact infoCtC) ?_)
      | (go_at_call 12; (with_reducible refine (HCO.out _ V2.out).mono ?_); rintro e w3 ⟨u3, rfl, o3, b3⟩; obtain ⟨a3, q3, hsh, _⟩ := (owned_rd o3).shape; subst hsh; have X3 := Lib.hid (X2.out.below b3 X2.out.lt); have V3 := Lib.hid (V2.out.below b3); have W3 := Lib.hid (W2.out.on b3); have UB := Lib.hid (show ∀ g, (Value.slice a3 n q3).ownBlock = some g → w2.heap.size ≤ g ∧ g < w3.heap.size from fun g hg => o3.lt g hg); have U3 := Lib.hid o3; clear o3 b3)
      | ((with_reducible show wpList _ _ _ (Oper.mk _ (.store _ (.tmp 5) (.tmp 29)) _ _ _ _ :: _) _ _); refine wpList_store_blk rfl 29 (.tmp 5) (.tmp 29) rfl w3.heap.size 0 (ctc c0 (.slice a3 n q3)) rfl rfl 29 Z (Blk.new w3 29 Z _ rfl) (by rw [HCL.out, Z34.out]; exact Nat.le_refl _) (by rw [HCL.out]; exact infoCtC) (HCA.out _ _ _) ?_; intro w4 b4 g4; rw [splice_all _ _ (by rw [HCL.out, Z34.out])] at b4; have B4 := ((Below.refl w3.heap.size w3).alloc (Nat.le_refl _) (.cells Z.toArray 29)).grown g4 (by simp) (fun g hg => Nat.le_of_eq (Option.some.inj hg)); have X4 := Lib.hid (X3.out.below B4 X3.out.lt); have V4 := Lib.hid (V3.out.below B4); have U4 := Lib.hid (owned_below U3.out B4); have W4 := Lib.hid (W3.out.on B4); have I4 := Lib.hid b4; have SZ4 := Lib.hid (show w3.heap.size < w4.heap.size from b4.lt); clear b4 g4 B4))
    have HNM := Lib.hid (fun W x => HNM.out (.slice a3 n q3) W x)
    have HSM := Lib.hid (fun W x y => HSM.out (.slice a3 n q3) W x y)
    have HPA := Lib.hid (fun W x => HPA.out (.slice a3 n q3) W x)
    have HPG := Lib.hid (fun W x => HPG.out (.slice a3 n q3) W x)
    have HPK := Lib.hid (fun W x => HPK.out (.slice a3 n q3) W x)
    have HPF := Lib.hid (fun W x => HPF.out (.slice a3 n q3) W x)
    have HI3 := Lib.hid (HC3.out (.slice a3 n q3))
    have SZX := Lib.hid (show w.heap.size < w4.heap.size from X4.out.lt)
    have SZI := Lib.hid (show w3.heap.size < w4.heap.size from I4.out.lt)
    obtain ⟨LI, hLI⟩ : ∃ x, x = ctc c0 (.slice a3 n q3) := ⟨_, rfl⟩
    have LI34 := Lib.hid (show LI.length = 34 by rw [hLI]; exact HCL.out _)
    rw [← hLI] at HNM HSM HPA HPG HPK HPF I4 HI3
    obtain ⟨bi, hbi⟩ : ∃ x, x = w3.heap.size := ⟨_, rfl⟩
    rw [← hbi] at I4 SZI ⊢
    clear hLI hbi HCO HFW HCL HCA HC3 X1 X2 X3 V1 V2 V3 W1 W2 W3 U3
    go_upto_region 5 with (first
      | ((with_reducible show wpList _ _ _ (Oper.mk (some 31) (.load _ _) _ _ _ _ :: _) _ _); refine wpList_load_mid rfl 29 (.tmp 5) rfl bi 0 rfl LI _ I4.out.range Try.underlying29 rfl (by rw [LI34.out]; exact infoCtC) ?_)
      | (go_at_call 23; (with_reducible refine (HPA.out _ (owned_rd U4.out)).mono ?_); rintro e w5 ⟨u5, rfl, o5, b5⟩; obtain ⟨aA, qA, hsh, _⟩ := (owned_rd o5).shape; subst hsh; have X5 := Lib.hid (X4.out.below b5 X4.out.lt); have V5 := Lib.hid (V4.out.below b5); have U5 := Lib.hid (owned_below U4.out b5); have I5 := Lib.hid (I4.out.below b5 I4.out.lt); have W5 := Lib.hid (W4.out.on b5); have SZ5 := Lib.hid (show w4.heap.size ≤ w5.heap.size from b5.size); have OAB := Lib.hid (show ∀ g, (Value.slice aA NA qA).ownBlock = some g → w4.heap.size ≤ g ∧ g < w5.heap.size from fun g hg => o5.lt g hg); have OA5 := Lib.hid o5; clear o5 b5)
      | ((with_reducible show wpList _ _ _ (Oper.mk _ (.store _ (.tmp 6) (.tmp 34)) _ _ _ _ :: _) _ _); refine wpList_store_blk rfl 29 (.tmp 6) (.tmp 34) rfl w5.heap.size 0 (PA ++ [.slice aA NA qA]) rfl rfl 29 Z (Blk.new w5 29 Z _ rfl) (by rw [PAL.out, Z34.out]; exact Nat.le_refl _) (by rw [PAL.out]; exact infoCtC) (PAO.out _ _ _) ?_; intro w6 b6 g6; rw [splice_all _ _ (by rw [PAL.out, Z34.out])] at b6; have B6 := ((Below.refl w5.heap.size w5).alloc (Nat.le_refl _) (.cells Z.toArray 29)).grown g6 (by simp) (fun g hg => Nat.le_of_eq (Option.some.inj hg)); have X6 := Lib.hid (X5.out.below B6 X5.out.lt); have V6 := Lib.hid (V5.out.below B6); have U6 := Lib.hid (owned_below U5.out B6); have I6 := Lib.hid (I5.out.below B6 I5.out.lt); have OA6 := Lib.hid (owned_below OA5.out B6); have W6 := Lib.hid (W5.out.on B6); have BA6 := Lib.hid b6; have SZ6 := Lib.hid (show w5.heap.size < w6.heap.size from b6.lt); clear b6 g6 B6))
    clear X4 V4 U4 I4 W4
    clear X5 V5 U5 I5 OA5 W5
    go_upto_region 6 with (first
      | ((with_reducible show wpList _ _ _ (Oper.mk (some 37) (.load _ _) _ _ _ _ :: _) _ _); refine wpList_load_mid rfl 29 (.tmp 2) rfl w.heap.size 0 rfl LC _ X6.out.range Try.underlying29 rfl (by rw [LC34.out]; exact infoCtC) ?_)
      | (go_at_call 24; (with_reducible refine (HRA.out _ V6.out).mono ?_); rintro e w7 ⟨u7, rfl, o7, b7⟩; obtain ⟨dA, rA, hsh, _⟩ := (owned_rd o7).shape; subst hsh; have X7 := Lib.hid (X6.out.below b7 X6.out.lt); have V7 := Lib.hid (V6.out.below b7); have U7 := Lib.hid (owned_below U6.out b7); have I7 := Lib.hid (I6.out.below b7 I6.out.lt); have OA7 := Lib.hid (owned_below OA6.out b7); have BA7 := Lib.hid (BA6.out.below b7 BA6.out.lt); have W7 := Lib.hid (W6.out.on b7); have SZ7 := Lib.hid (show w6.heap.size ≤ w7.heap.size from b7.size); have QAB := Lib.hid (show ∀ g, (Value.slice dA NA rA).ownBlock = some g → w6.heap.size ≤ g ∧ g < w7.heap.size from fun g hg => o7.lt g hg); have QA7 := Lib.hid o7; clear o7 b7)
      | ((with_reducible show wpList _ _ _ (Oper.mk _ (.store _ (.tmp 8) (.tmp 40)) _ _ _ _ :: _) _ _); refine wpList_store_blk rfl 29 (.tmp 8) (.tmp 40) rfl w7.heap.size 0 (PA ++ [.slice dA NA rA]) rfl rfl 29 Z (Blk.new w7 29 Z _ rfl) (by rw [PAL.out, Z34.out]; exact Nat.le_refl _) (by rw [PAL.out]; exact infoCtC) (PAO.out _ _ _) ?_; intro w8 b8 g8; rw [splice_all _ _ (by rw [PAL.out, Z34.out])] at b8; have B8 := ((Below.refl w7.heap.size w7).alloc (Nat.le_refl _) (.cells Z.toArray 29)).grown g8 (by simp) (fun g hg => Nat.le_of_eq (Option.some.inj hg)); have X8 := Lib.hid (X7.out.below B8 X7.out.lt); have V8 := Lib.hid (V7.out.below B8); have U8 := Lib.hid (owned_below U7.out B8); have I8 := Lib.hid (I7.out.below B8 I7.out.lt); have OA8 := Lib.hid (owned_below OA7.out B8); have BA8 := Lib.hid (BA7.out.below B8 BA7.out.lt); have QA8 := Lib.hid (owned_below QA7.out B8); have W8 := Lib.hid (W7.out.on B8); have DA8 := Lib.hid b8; have SZ8 := Lib.hid (show w7.heap.size < w8.heap.size from b8.lt); clear b8 g8 B8))
    clear X6 V6 U6 I6 OA6 BA6 W6
    clear X7 V7 U7 I7 OA7 BA7 QA7 W7
    go_upto_region 7 with (first
      | ((with_reducible show wpList _ _ _ (Oper.mk (some 43) (.load _ _) _ _ _ _ :: _) _ _); refine wpList_load_mid rfl 29 (.tmp 5) rfl bi 0 rfl LI _ I8.out.range Try.underlying29 rfl (by rw [LI34.out]; exact infoCtC) ?_)
      | (go_at_call 25; (with_reducible refine (HPG.out _ (owned_rd U8.out)).mono ?_); rintro e w9 ⟨u9, rfl, o9, b9⟩; obtain ⟨aG, qG, hsh, _⟩ := (owned_rd o9).shape; subst hsh; have X9 := Lib.hid (X8.out.below b9 X8.out.lt); have V9 := Lib.hid (V8.out.below b9); have U9 := Lib.hid (owned_below U8.out b9); have I9 := Lib.hid (I8.out.below b9 I8.out.lt); have OA9 := Lib.hid (owned_below OA8.out b9); have BA9 := Lib.hid (BA8.out.below b9 BA8.out.lt); have QA9 := Lib.hid (owned_below QA8.out b9); have DA9 := Lib.hid (DA8.out.below b9 DA8.out.lt); have W9 := Lib.hid (W8.out.on b9); have SZ9 := Lib.hid (show w8.heap.size ≤ w9.heap.size from b9.size); have OGB := Lib.hid (show ∀ g, (Value.slice aG NG qG).ownBlock = some g → w8.heap.size ≤ g ∧ g < w9.heap.size from fun g hg => o9.lt g hg); have OG9 := Lib.hid o9; clear o9 b9)
      | ((with_reducible show wpList _ _ _ (Oper.mk _ (.store _ (.tmp 10) (.tmp 46)) _ _ _ _ :: _) _ _); refine wpList_store_blk rfl 29 (.tmp 10) (.tmp 46) rfl w9.heap.size 0 (PG ++ [.slice aG NG qG]) rfl rfl 29 Z (Blk.new w9 29 Z _ rfl) (by rw [PGL.out, Z34.out]; exact Nat.le_refl _) (by rw [PGL.out]; exact infoCtC) (PGO.out _ _ _) ?_; intro w10 b10 g10; rw [splice_all _ _ (by rw [PGL.out, Z34.out])] at b10; have B10 := ((Below.refl w9.heap.size w9).alloc (Nat.le_refl _) (.cells Z.toArray 29)).grown g10 (by simp) (fun g hg => Nat.le_of_eq (Option.some.inj hg)); have X10 := Lib.hid (X9.out.below B10 X9.out.lt); have V10 := Lib.hid (V9.out.below B10); have U10 := Lib.hid (owned_below U9.out B10); have I10 := Lib.hid (I9.out.below B10 I9.out.lt); have OA10 := Lib.hid (owned_below OA9.out B10); have BA10 := Lib.hid (BA9.out.below B10 BA9.out.lt); have QA10 := Lib.hid (owned_below QA9.out B10); have DA10 := Lib.hid (DA9.out.below B10 DA9.out.lt); have OG10 := Lib.hid (owned_below OG9.out B10); have W10 := Lib.hid (W9.out.on B10); have BG10 := Lib.hid b10; have SZ10 := Lib.hid (show w9.heap.size < w10.heap.size from b10.lt); clear b10 g10 B10))
    clear X8 V8 U8 I8 OA8 BA8 QA8 DA8 W8
    clear X9 V9 U9 I9 OA9 BA9 QA9 DA9 OG9 W9
    go_upto_region 8 with (first
      | ((with_reducible show wpList _ _ _ (Oper.mk (some 49) (.load _ _) _ _ _ _ :: _) _ _); refine wpList_load_mid rfl 29 (.tmp 2) rfl w.heap.size 0 rfl LC _ X10.out.range Try.underlying29 rfl (by rw [LC34.out]; exact infoCtC) ?_)
      | (go_at_call 26; (with_reducible refine (HRG.out _ V10.out).mono ?_); rintro e w11 ⟨u11, rfl, o11, b11⟩; obtain ⟨dG, rG, hsh, _⟩ := (owned_rd o11).shape; subst hsh; have X11 := Lib.hid (X10.out.below b11 X10.out.lt); have V11 := Lib.hid (V10.out.below b11); have U11 := Lib.hid (owned_below U10.out b11); have I11 := Lib.hid (I10.out.below b11 I10.out.lt); have OA11 := Lib.hid (owned_below OA10.out b11); have BA11 := Lib.hid (BA10.out.below b11 BA10.out.lt); have QA11 := Lib.hid (owned_below QA10.out b11); have DA11 := Lib.hid (DA10.out.below b11 DA10.out.lt); have OG11 := Lib.hid (owned_below OG10.out b11); have BG11 := Lib.hid (BG10.out.below b11 BG10.out.lt); have W11 := Lib.hid (W10.out.on b11); have SZ11 := Lib.hid (show w10.heap.size ≤ w11.heap.size from b11.size); have QGB := Lib.hid (show ∀ g, (Value.slice dG NG rG).ownBlock = some g → w10.heap.size ≤ g ∧ g < w11.heap.size from fun g hg => o11.lt g hg); have QG11 := Lib.hid o11; clear o11 b11)
      | ((with_reducible show wpList _ _ _ (Oper.mk _ (.store _ (.tmp 12) (.tmp 52)) _ _ _ _ :: _) _ _); refine wpList_store_blk rfl 29 (.tmp 12) (.tmp 52) rfl w11.heap.size 0 (PG ++ [.slice dG NG rG]) rfl rfl 29 Z (Blk.new w11 29 Z _ rfl) (by rw [PGL.out, Z34.out]; exact Nat.le_refl _) (by rw [PGL.out]; exact infoCtC) (PGO.out _ _ _) ?_; intro w12 b12 g12; rw [splice_all _ _ (by rw [PGL.out, Z34.out])] at b12; have B12 := ((Below.refl w11.heap.size w11).alloc (Nat.le_refl _) (.cells Z.toArray 29)).grown g12 (by simp) (fun g hg => Nat.le_of_eq (Option.some.inj hg)); have X12 := Lib.hid (X11.out.below B12 X11.out.lt); have V12 := Lib.hid (V11.out.below B12); have U12 := Lib.hid (owned_below U11.out B12); have I12 := Lib.hid (I11.out.below B12 I11.out.lt); have OA12 := Lib.hid (owned_below OA11.out B12); have BA12 := Lib.hid (BA11.out.below B12 BA11.out.lt); have QA12 := Lib.hid (owned_below QA11.out B12); have DA12 := Lib.hid (DA11.out.below B12 DA11.out.lt); have OG12 := Lib.hid (owned_below OG11.out B12); have BG12 := Lib.hid (BG11.out.below B12 BG11.out.lt); have QG12 := Lib.hid (owned_below QG11.out B12); have W12 := Lib.hid (W11.out.on B12); have DG12 := Lib.hid b12; have SZ12 := Lib.hid (show w11.heap.size < w12.heap.size from b12.lt); clear b12 g12 B12))
    clear X10 V10 U10 I10 OA10 BA10 QA10 DA10 OG10 BG10 W10
    clear X11 V11 U11 I11 OA11 BA11 QA11 DA11 OG11 BG11 QG11 W11
    go_upto_region 9 with (first
      | ((with_reducible show wpList _ _ _ (Oper.mk (some 55) (.load _ _) _ _ _ _ :: _) _ _); refine wpList_load_mid rfl 29 (.tmp 5) rfl bi 0 rfl LI _ I12.out.range Try.underlying29 rfl (by rw [LI34.out]; exact infoCtC) ?_)
      | (go_at_call 27; (with_reducible refine (HPK.out _ (owned_rd U12.out)).mono ?_); rintro e w13 ⟨u13, rfl, o13, b13⟩; obtain ⟨aK, qK, hsh, _⟩ := (owned_rd o13).shape; subst hsh; have X13 := Lib.hid (X12.out.below b13 X12.out.lt); have V13 := Lib.hid (V12.out.below b13); have U13 := Lib.hid (owned_below U12.out b13); have I13 := Lib.hid (I12.out.below b13 I12.out.lt); have OA13 := Lib.hid (owned_below OA12.out b13); have BA13 := Lib.hid (BA12.out.below b13 BA12.out.lt); have QA13 := Lib.hid (owned_below QA12.out b13); have DA13 := Lib.hid (DA12.out.below b13 DA12.out.lt); have OG13 := Lib.hid (owned_below OG12.out b13); have BG13 := Lib.hid (BG12.out.below b13 BG12.out.lt); have QG13 := Lib.hid (owned_below QG12.out b13); have DG13 := Lib.hid (DG12.out.below b13 DG12.out.lt); have W13 := Lib.hid (W12.out.on b13); have SZ13 := Lib.hid (show w12.heap.size ≤ w13.heap.size from b13.size); have OKB := Lib.hid (show ∀ g, (Value.slice aK NK qK).ownBlock = some g → w12.heap.size ≤ g ∧ g < w13.heap.size from fun g hg => o13.lt g hg); have OK13 := Lib.hid o13; clear o13 b13)
      | ((with_reducible show wpList _ _ _ (Oper.mk _ (.store _ (.tmp 14) (.tmp 58)) _ _ _ _ :: _) _ _); refine wpList_store_blk rfl 29 (.tmp 14) (.tmp 58) rfl w13.heap.size 0 (PK ++ [.slice aK NK qK]) rfl rfl 29 Z (Blk.new w13 29 Z _ rfl) (by rw [PKL.out, Z34.out]; exact Nat.le_refl _) (by rw [PKL.out]; exact infoCtC) (PKO.out _ _ _) ?_; intro w14 b14 g14; rw [splice_all _ _ (by rw [PKL.out, Z34.out])] at b14; have B14 := ((Below.refl w13.heap.size w13).alloc (Nat.le_refl _) (.cells Z.toArray 29)).grown g14 (by simp) (fun g hg => Nat.le_of_eq (Option.some.inj hg)); have X14 := Lib.hid (X13.out.below B14 X13.out.lt); have V14 := Lib.hid (V13.out.below B14); have U14 := Lib.hid (owned_below U13.out B14); have I14 := Lib.hid (I13.out.below B14 I13.out.lt); have OA14 := Lib.hid (owned_below OA13.out B14); have BA14 := Lib.hid (BA13.out.below B14 BA13.out.lt); have QA14 := Lib.hid (owned_below QA13.out B14); have DA14 := Lib.hid (DA13.out.below B14 DA13.out.lt); have OG14 := Lib.hid (owned_below OG13.out B14); have BG14 := Lib.hid (BG13.out.below B14 BG13.out.lt); have QG14 := Lib.hid (owned_below QG13.out B14); have DG14 := Lib.hid (DG13.out.below B14 DG13.out.lt); have OK14 := Lib.hid (owned_below OK13.out B14); have W14 := Lib.hid (W13.out.on B14); have BK14 := Lib.hid b14; have SZ14 := Lib.hid (show w13.heap.size < w14.heap.size from b14.lt); clear b14 g14 B14))
    clear X12 V12 U12 I12 OA12 BA12 QA12 DA12 OG12 BG12 QG12 DG12 W12
    clear X13 V13 U13 I13 OA13 BA13 QA13 DA13 OG13 BG13 QG13 DG13 OK13 W13
    go_upto_region 10 with (first
      | ((with_reducible show wpList _ _ _ (Oper.mk (some 61) (.load _ _) _ _ _ _ :: _) _ _); refine wpList_load_mid rfl 29 (.tmp 2) rfl w.heap.size 0 rfl LC _ X14.out.range Try.underlying29 rfl (by rw [LC34.out]; exact infoCtC) ?_)
      | (go_at_call 28; (with_reducible refine (HRK.out _ V14.out).mono ?_); rintro e w15 ⟨u15, rfl, o15, b15⟩; obtain ⟨dK, rK, hsh, _⟩ := (owned_rd o15).shape; subst hsh; have X15 := Lib.hid (X14.out.below b15 X14.out.lt); have V15 := Lib.hid (V14.out.below b15); have U15 := Lib.hid (owned_below U14.out b15); have I15 := Lib.hid (I14.out.below b15 I14.out.lt); have OA15 := Lib.hid (owned_below OA14.out b15); have BA15 := Lib.hid (BA14.out.below b15 BA14.out.lt); have QA15 := Lib.hid (owned_below QA14.out b15); have DA15 := Lib.hid (DA14.out.below b15 DA14.out.lt); have OG15 := Lib.hid (owned_below OG14.out b15); have BG15 := Lib.hid (BG14.out.below b15 BG14.out.lt); have QG15 := Lib.hid (owned_below QG14.out b15); have DG15 := Lib.hid (DG14.out.below b15 DG14.out.lt); have OK15 := Lib.hid (owned_below OK14.out b15); have BK15 := Lib.hid (BK14.out.below b15 BK14.out.lt); have W15 := Lib.hid (W14.out.on b15); have SZ15 := Lib.hid (show w14.heap.size ≤ w15.heap.size from b15.size); have QKB := Lib.hid (show ∀ g, (Value.slice dK NK rK).ownBlock = some g → w14.heap.size ≤ g ∧ g < w15.heap.size from fun g hg => o15.lt g hg); have QK15 := Lib.hid o15; clear o15 b15)
      | ((with_reducible show wpList _ _ _ (Oper.mk _ (.store _ (.tmp 16) (.tmp 64)) _ _ _ _ :: _) _ _); refine wpList_store_blk rfl 29 (.tmp 16) (.tmp 64) rfl w15.heap.size 0 (PK ++ [.slice dK NK rK]) rfl rfl 29 Z (Blk.new w15 29 Z _ rfl) (by rw [PKL.out, Z34.out]; exact Nat.le_refl _) (by rw [PKL.out]; exact infoCtC) (PKO.out _ _ _) ?_; intro w16 b16 g16; rw [splice_all _ _ (by rw [PKL.out, Z34.out])] at b16; have B16 := ((Below.refl w15.heap.size w15).alloc (Nat.le_refl _) (.cells Z.toArray 29)).grown g16 (by simp) (fun g hg => Nat.le_of_eq (Option.some.inj hg)); have X16 := Lib.hid (X15.out.below B16 X15.out.lt); have V16 := Lib.hid (V15.out.below B16); have U16 := Lib.hid (owned_below U15.out B16); have I16 := Lib.hid (I15.out.below B16 I15.out.lt); have OA16 := Lib.hid (owned_below OA15.out B16); have BA16 := Lib.hid (BA15.out.below B16 BA15.out.lt); have QA16 := Lib.hid (owned_below QA15.out B16); have DA16 := Lib.hid (DA15.out.below B16 DA15.out.lt); have OG16 := Lib.hid (owned_below OG15.out B16); have BG16 := Lib.hid (BG15.out.below B16 BG15.out.lt); have QG16 := Lib.hid (owned_below QG15.out B16); have DG16 := Lib.hid (DG15.out.below B16 DG15.out.lt); have OK16 := Lib.hid (owned_below OK15.out B16); have BK16 := Lib.hid (BK15.out.below B16 BK15.out.lt); have QK16 := Lib.hid (owned_below QK15.out B16); have W16 := Lib.hid (W15.out.on B16); have DK16 := Lib.hid b16; have SZ16 := Lib.hid (show w15.heap.size < w16.heap.size from b16.lt); clear b16 g16 B16))
    clear X14 V14 U14 I14 OA14 BA14 QA14 DA14 OG14 BG14 QG14 DG14 OK14 BK14 W14
    clear X15 V15 U15 I15 OA15 BA15 QA15 DA15 OG15 BG15 QG15 DG15 OK15 BK15 QK15 W15
    go_upto_region 11 with (first
      | ((with_reducible show wpList _ _ _ (Oper.mk (some 67) (.load _ _) _ _ _ _ :: _) _ _); refine wpList_load_mid rfl 29 (.tmp 5) rfl bi 0 rfl LI _ I16.out.range Try.underlying29 rfl (by rw [LI34.out]; exact infoCtC) ?_)
      | (go_at_call 29; (with_reducible refine (HPF.out _ (owned_rd U16.out)).mono ?_); rintro e w17 ⟨rfl, b17⟩; have X17 := Lib.hid (X16.out.below b17 X16.out.lt); have V17 := Lib.hid (V16.out.below b17); have U17 := Lib.hid (owned_below U16.out b17); have I17 := Lib.hid (I16.out.below b17 I16.out.lt); have OA17 := Lib.hid (owned_below OA16.out b17); have BA17 := Lib.hid (BA16.out.below b17 BA16.out.lt); have QA17 := Lib.hid (owned_below QA16.out b17); have DA17 := Lib.hid (DA16.out.below b17 DA16.out.lt); have OG17 := Lib.hid (owned_below OG16.out b17); have BG17 := Lib.hid (BG16.out.below b17 BG16.out.lt); have QG17 := Lib.hid (owned_below QG16.out b17); have DG17 := Lib.hid (DG16.out.below b17 DG16.out.lt); have OK17 := Lib.hid (owned_below OK16.out b17); have BK17 := Lib.hid (BK16.out.below b17 BK16.out.lt); have QK17 := Lib.hid (owned_below QK16.out b17); have DK17 := Lib.hid (DK16.out.below b17 DK16.out.lt); have W17 := Lib.hid (W16.out.on b17); have SZ17 := Lib.hid (show w16.heap.size ≤ w17.heap.size from b17.size); clear b17)
      | ((with_reducible show wpList _ _ _ (Oper.mk _ (.store _ (.tmp 18) (.tmp 70)) _ _ _ _ :: _) _ _); refine wpList_store_blk rfl 26 (.tmp 18) (.tmp 70) rfl w17.heap.size 0 FD rfl rfl 26 Zr (Blk.new w17 26 Zr _ rfl) (by rw [F33.out, Z33.out]; exact Nat.le_refl _) (by rw [F33.out]; exact infoRfC) (FDO.out) ?_; intro w18 b18 g18; rw [splice_all _ _ (by rw [F33.out, Z33.out])] at b18; have B18 := ((Below.refl w17.heap.size w17).alloc (Nat.le_refl _) (.cells Zr.toArray 26)).grown g18 (by simp) (fun g hg => Nat.le_of_eq (Option.some.inj hg)); have X18 := Lib.hid (X17.out.below B18 X17.out.lt); have V18 := Lib.hid (V17.out.below B18); have U18 := Lib.hid (owned_below U17.out B18); have I18 := Lib.hid (I17.out.below B18 I17.out.lt); have OA18 := Lib.hid (owned_below OA17.out B18); have BA18 := Lib.hid (BA17.out.below B18 BA17.out.lt); have QA18 := Lib.hid (owned_below QA17.out B18); have DA18 := Lib.hid (DA17.out.below B18 DA17.out.lt); have OG18 := Lib.hid (owned_below OG17.out B18); have BG18 := Lib.hid (BG17.out.below B18 BG17.out.lt); have QG18 := Lib.hid (owned_below QG17.out B18); have DG18 := Lib.hid (DG17.out.below B18 DG17.out.lt); have OK18 := Lib.hid (owned_below OK17.out B18); have BK18 := Lib.hid (BK17.out.below B18 BK17.out.lt); have QK18 := Lib.hid (owned_below QK17.out B18); have DK18 := Lib.hid (DK17.out.below B18 DK17.out.lt); have W18 := Lib.hid (W17.out.on B18); have BF18 := Lib.hid b18; have SZ18 := Lib.hid (show w17.heap.size < w18.heap.size from b18.lt); clear b18 g18 B18))
    clear X16 V16 U16 I16 OA16 BA16 QA16 DA16 OG16 BG16 QG16 DG16 OK16 BK16 QK16 DK16 W16
    clear X17 V17 U17 I17 OA17 BA17 QA17 DA17 OG17 BG17 QG17 DG17 OK17 BK17 QK17 DK17 W17
    go_upto_region 12 with (first
      | ((with_reducible show wpList _ _ _ (Oper.mk (some 73) (.load _ _) _ _ _ _ :: _) _ _); refine wpList_load_mid rfl 29 (.tmp 2) rfl w.heap.size 0 rfl LC _ X18.out.range Try.underlying29 rfl (by rw [LC34.out]; exact infoCtC) ?_)
      | (go_at_call 30; (with_reducible refine (HRF.out _ V18.out).mono ?_); rintro e w19 ⟨rfl, b19⟩; have X19 := Lib.hid (X18.out.below b19 X18.out.lt); have V19 := Lib.hid (V18.out.below b19); have U19 := Lib.hid (owned_below U18.out b19); have I19 := Lib.hid (I18.out.below b19 I18.out.lt); have OA19 := Lib.hid (owned_below OA18.out b19); have BA19 := Lib.hid (BA18.out.below b19 BA18.out.lt); have QA19 := Lib.hid (owned_below QA18.out b19); have DA19 := Lib.hid (DA18.out.below b19 DA18.out.lt); have OG19 := Lib.hid (owned_below OG18.out b19); have BG19 := Lib.hid (BG18.out.below b19 BG18.out.lt); have QG19 := Lib.hid (owned_below QG18.out b19); have DG19 := Lib.hid (DG18.out.below b19 DG18.out.lt); have OK19 := Lib.hid (owned_below OK18.out b19); have BK19 := Lib.hid (BK18.out.below b19 BK18.out.lt); have QK19 := Lib.hid (owned_below QK18.out b19); have DK19 := Lib.hid (DK18.out.below b19 DK18.out.lt); have BF19 := Lib.hid (BF18.out.below b19 BF18.out.lt); have W19 := Lib.hid (W18.out.on b19); have SZ19 := Lib.hid (show w18.heap.size ≤ w19.heap.size from b19.size); clear b19)
      | ((with_reducible show wpList _ _ _ (Oper.mk _ (.store _ (.tmp 20) (.tmp 76)) _ _ _ _ :: _) _ _); refine wpList_store_blk rfl 26 (.tmp 20) (.tmp 76) rfl w19.heap.size 0 FD rfl rfl 26 Zr (Blk.new w19 26 Zr _ rfl) (by rw [F33.out, Z33.out]; exact Nat.le_refl _) (by rw [F33.out]; exact infoRfC) (FDO.out) ?_; intro w20 b20 g20; rw [splice_all _ _ (by rw [F33.out, Z33.out])] at b20; have B20 := ((Below.refl w19.heap.size w19).alloc (Nat.le_refl _) (.cells Zr.toArray 26)).grown g20 (by simp) (fun g hg => Nat.le_of_eq (Option.some.inj hg)); have X20 := Lib.hid (X19.out.below B20 X19.out.lt); have V20 := Lib.hid (V19.out.below B20); have U20 := Lib.hid (owned_below U19.out B20); have I20 := Lib.hid (I19.out.below B20 I19.out.lt); have OA20 := Lib.hid (owned_below OA19.out B20); have BA20 := Lib.hid (BA19.out.below B20 BA19.out.lt); have QA20 := Lib.hid (owned_below QA19.out B20); have DA20 := Lib.hid (DA19.out.below B20 DA19.out.lt); have OG20 := Lib.hid (owned_below OG19.out B20); have BG20 := Lib.hid (BG19.out.below B20 BG19.out.lt); have QG20 := Lib.hid (owned_below QG19.out B20); have DG20 := Lib.hid (DG19.out.below B20 DG19.out.lt); have OK20 := Lib.hid (owned_below OK19.out B20); have BK20 := Lib.hid (BK19.out.below B20 BK19.out.lt); have QK20 := Lib.hid (owned_below QK19.out B20); have DK20 := Lib.hid (DK19.out.below B20 DK19.out.lt); have BF20 := Lib.hid (BF19.out.below B20 BF19.out.lt); have W20 := Lib.hid (W19.out.on B20); have DF20 := Lib.hid b20; have SZ20 := Lib.hid (show w19.heap.size < w20.heap.size from b20.lt); clear b20 g20 B20))
    clear X18 V18 U18 I18 OA18 BA18 QA18 DA18 OG18 BG18 QG18 DG18 OK18 BK18 QK18 DK18 BF18 W18
    clear X19 V19 U19 I19 OA19 BA19 QA19 DA19 OG19 BG19 QG19 DG19 OK19 BK19 QK19 DK19 BF19 W19
    obtain ⟨xBA, hBA⟩ : ∃ x, x = w5.heap.size := ⟨_, rfl⟩
    have SYBA := Lib.hid hBA
    rw [← hBA] at BA20 ⊢
    clear hBA
    obtain ⟨xDA, hDA⟩ : ∃ x, x = w7.heap.size := ⟨_, rfl⟩
    have SYDA := Lib.hid hDA
    rw [← hDA] at DA20 ⊢
    clear hDA
    obtain ⟨xBG, hBG⟩ : ∃ x, x = w9.heap.size := ⟨_, rfl⟩
    have SYBG := Lib.hid hBG
    rw [← hBG] at BG20 ⊢
    clear hBG
    obtain ⟨xDG, hDG⟩ : ∃ x, x = w11.heap.size := ⟨_, rfl⟩
    have SYDG := Lib.hid hDG
    rw [← hDG] at DG20 ⊢
    clear hDG
    obtain ⟨xBK, hBK⟩ : ∃ x, x = w13.heap.size := ⟨_, rfl⟩
    have SYBK := Lib.hid hBK
    rw [← hBK] at BK20 ⊢
    clear hBK
    obtain ⟨xDK, hDK⟩ : ∃ x, x = w15.heap.size := ⟨_, rfl⟩
    have SYDK := Lib.hid hDK
    rw [← hDK] at DK20 ⊢
    clear hDK
    obtain ⟨xBF, hBF⟩ : ∃ x, x = w17.heap.size := ⟨_, rfl⟩
    have SYBF := Lib.hid hBF
    rw [← hBF] at BF20 ⊢
    clear hBF
    obtain ⟨xDF, hDF⟩ : ∃ x, x = w19.heap.size := ⟨_, rfl⟩
    have SYDF := Lib.hid hDF
    rw [← hDF] at DF20 ⊢
    clear hDF
    have hEA : (EA == EA) = true := by simp
    go_upto_region 14 with ((fail_if_success (with_reducible show bodyPost _ _ _ _ _ _)); first
      | ((with_reducible show wpList _ _ _ (Oper.mk (some 78) (.load _ _) _ _ _ _ :: _) _ _); refine wpList_load_mid rfl 29 (.tmp 6) rfl xBA 0 rfl (PA ++ [.slice aA NA qA]) _ BA20.out.range Try.underlying29 rfl (by rw [PAL.out]; exact infoCtC) ?_)
      | ((with_reducible show wpList _ _ _ (Oper.mk (some 80) (.load _ _) _ _ _ _ :: _) _ _); refine wpList_load_mid rfl 29 (.tmp 8) rfl xDA 0 rfl (PA ++ [.slice dA NA rA]) _ DA20.out.range Try.underlying29 rfl (by rw [PAL.out]; exact infoCtC) ?_)
      | (go_at_call 31; (with_reducible refine (HTA.out (.slice aA NA qA) (.slice dA NA rA) _ (owned_rd OA20.out) (owned_rd QA20.out)).mono ?_); rintro e w21 ⟨rfl, b21⟩; have X21 := Lib.hid (X20.out.below b21 X20.out.lt); have V21 := Lib.hid (V20.out.below b21); have U21 := Lib.hid (owned_below U20.out b21); have I21 := Lib.hid (I20.out.below b21 I20.out.lt); have OA21 := Lib.hid (owned_below OA20.out b21); have BA21 := Lib.hid (BA20.out.below b21 BA20.out.lt); have QA21 := Lib.hid (owned_below QA20.out b21); have DA21 := Lib.hid (DA20.out.below b21 DA20.out.lt); have OG21 := Lib.hid (owned_below OG20.out b21); have BG21 := Lib.hid (BG20.out.below b21 BG20.out.lt); have QG21 := Lib.hid (owned_below QG20.out b21); have DG21 := Lib.hid (DG20.out.below b21 DG20.out.lt); have OK21 := Lib.hid (owned_below OK20.out b21); have BK21 := Lib.hid (BK20.out.below b21 BK20.out.lt); have QK21 := Lib.hid (owned_below QK20.out b21); have DK21 := Lib.hid (DK20.out.below b21 DK20.out.lt); have BF21 := Lib.hid (BF20.out.below b21 BF20.out.lt); have DF21 := Lib.hid (DF20.out.below b21 DF20.out.lt); have W21 := Lib.hid (W20.out.on b21); have SZ21 := Lib.hid (show w20.heap.size ≤ w21.heap.size from b21.size); clear X20 V20 U20 I20 OA20 BA20 QA20 DA20 OG20 BG20 QG20 DG20 OK20 BK20 QK20 DK20 BF20 DF20 W20; clear b21)
      | ((with_reducible show wpList _ _ _ (Oper.mk (some 85) (.load _ _) _ _ _ _ :: _) _ _); refine wpList_load_wanted rfl 29 (.tmp 10) rfl xBG 0 rfl (PG ++ [.slice aG NG qG]) _ BG21.out.range Try.underlying29 rfl (by rw [PGL.out]; exact infoCtC) ?_)
      | ((with_reducible show wpList _ _ _ (Oper.mk (some 87) (.load _ _) _ _ _ _ :: _) _ _); refine wpList_load_wanted rfl 29 (.tmp 12) rfl xDG 0 rfl (PG ++ [.slice dG NG rG]) _ DG21.out.range Try.underlying29 rfl (by rw [PGL.out]; exact infoCtC) ?_)
      | (go_at_call 31; (with_reducible refine (HTG.out (.slice aG NG qG) (.slice dG NG rG) _ (owned_rd OG21.out) (owned_rd QG21.out)).mono ?_); rintro e w22 ⟨rfl, b22⟩; have X22 := Lib.hid (X21.out.below b22 X21.out.lt); have V22 := Lib.hid (V21.out.below b22); have U22 := Lib.hid (owned_below U21.out b22); have I22 := Lib.hid (I21.out.below b22 I21.out.lt); have OA22 := Lib.hid (owned_below OA21.out b22); have BA22 := Lib.hid (BA21.out.below b22 BA21.out.lt); have QA22 := Lib.hid (owned_below QA21.out b22); have DA22 := Lib.hid (DA21.out.below b22 DA21.out.lt); have OG22 := Lib.hid (owned_below OG21.out b22); have BG22 := Lib.hid (BG21.out.below b22 BG21.out.lt); have QG22 := Lib.hid (owned_below QG21.out b22); have DG22 := Lib.hid (DG21.out.below b22 DG21.out.lt); have OK22 := Lib.hid (owned_below OK21.out b22); have BK22 := Lib.hid (BK21.out.below b22 BK21.out.lt); have QK22 := Lib.hid (owned_below QK21.out b22); have DK22 := Lib.hid (DK21.out.below b22 DK21.out.lt); have BF22 := Lib.hid (BF21.out.below b22 BF21.out.lt); have DF22 := Lib.hid (DF21.out.below b22 DF21.out.lt); have W22 := Lib.hid (W21.out.on b22); have SZ22 := Lib.hid (show w21.heap.size ≤ w22.heap.size from b22.size); clear X21 V21 U21 I21 OA21 BA21 QA21 DA21 OG21 BG21 QG21 DG21 OK21 BK21 QK21 DK21 BF21 DF21 W21; clear b22)
      | ((with_reducible show wpList _ _ _ (Oper.mk (some 93) (.load _ _) _ _ _ _ :: _) _ _); refine wpList_load_wanted rfl 29 (.tmp 14) rfl xBK 0 rfl (PK ++ [.slice aK NK qK]) _ BK22.out.range Try.underlying29 rfl (by rw [PKL.out]; exact infoCtC) ?_)
      | ((with_reducible show wpList _ _ _ (Oper.mk (some 95) (.load _ _) _ _ _ _ :: _) _ _); refine wpList_load_wanted rfl 29 (.tmp 16) rfl xDK 0 rfl (PK ++ [.slice dK NK rK]) _ DK22.out.range Try.underlying29 rfl (by rw [PKL.out]; exact infoCtC) ?_)
      | (go_at_call 31; (with_reducible refine (HTK.out (.slice aK NK qK) (.slice dK NK rK) _ (owned_rd OK22.out) (owned_rd QK22.out)).mono ?_); rintro e w23 ⟨rfl, b23⟩; have X23 := Lib.hid (X22.out.below b23 X22.out.lt); have V23 := Lib.hid (V22.out.below b23); have U23 := Lib.hid (owned_below U22.out b23); have I23 := Lib.hid (I22.out.below b23 I22.out.lt); have OA23 := Lib.hid (owned_below OA22.out b23); have BA23 := Lib.hid (BA22.out.below b23 BA22.out.lt); have QA23 := Lib.hid (owned_below QA22.out b23); have DA23 := Lib.hid (DA22.out.below b23 DA22.out.lt); have OG23 := Lib.hid (owned_below OG22.out b23); have BG23 := Lib.hid (BG22.out.below b23 BG22.out.lt); have QG23 := Lib.hid (owned_below QG22.out b23); have DG23 := Lib.hid (DG22.out.below b23 DG22.out.lt); have OK23 := Lib.hid (owned_below OK22.out b23); have BK23 := Lib.hid (BK22.out.below b23 BK22.out.lt); have QK23 := Lib.hid (owned_below QK22.out b23); have DK23 := Lib.hid (DK22.out.below b23 DK22.out.lt); have BF23 := Lib.hid (BF22.out.below b23 BF22.out.lt); have DF23 := Lib.hid (DF22.out.below b23 DF22.out.lt); have W23 := Lib.hid (W22.out.on b23); have SZ23 := Lib.hid (show w22.heap.size ≤ w23.heap.size from b23.size); clear X22 V22 U22 I22 OA22 BA22 QA22 DA22 OG22 BG22 QG22 DG22 OK22 BK22 QK22 DK22 BF22 DF22 W22; clear b23)
      | ((with_reducible show wpList _ _ _ (Oper.mk (some 101) (.load _ _) _ _ _ _ :: _) _ _); refine wpList_load_wanted rfl 26 (.tmp 18) rfl xBF 0 rfl FD _ BF23.out.range Try.underlying26 rfl (by rw [F33.out]; exact infoRfC) ?_)
      | ((with_reducible show wpList _ _ _ (Oper.mk (some 102) (.load _ _) _ _ _ _ :: _) _ _); refine wpList_load_wanted rfl 26 (.tmp 20) rfl xDF 0 rfl FD _ DF23.out.range Try.underlying26 rfl (by rw [F33.out]; exact infoRfC) ?_)
      | ((with_reducible show wpList _ _ _ (Oper.mk _ (.binOp _ _ (.tmp 101) (.tmp 102) _) _ _ _ _ :: _) _ _); refine wpList_binW (.tmp 101) (.tmp 102) .neq 26 26 rfl (.agg FD.toArray) (.agg FD.toArray) _ rfl rfl (run_eqGuard_agg (P := Try.prog) (w := _) .neq 26 _ _ _ _ eqTypeRf) (HNF.out _) rfl ?_))
    clear DA23
    clear DG23
    clear DK23
    clear BF23
    clear DF23
    clear QA23
    clear QG23
    clear QK23
    have hSZ := And.intro SZX.out (And.intro SZI.out (And.intro SZ4.out (And.intro SZ5.out (And.intro SZ6.out (And.intro SZ7.out (And.intro SZ8.out (And.intro SZ9.out (And.intro SZ10.out (And.intro SZ11.out (And.intro SZ12.out (And.intro SZ13.out (And.intro SZ14.out (And.intro SZ15.out (And.intro SZ16.out (And.intro SZ17.out (And.intro SZ18.out (And.intro SZ19.out (And.intro SZ20.out (And.intro SYBA.out (And.intro SYDA.out (And.intro SYBG.out (And.intro SYDG.out (And.intro SYBK.out (And.intro SYDK.out (And.intro SYBF.out (And.intro SYDF.out (And.intro SZ21.out (And.intro SZ22.out SZ23.out))))))))))))))))))))))))))))
    have SZ := Lib.hid hSZ
    clear hSZ
    clear SZX SZI SZ4 SZ5 SZ6 SZ7 SZ8 SZ9 SZ10 SZ11 SZ12 SZ13 SZ14 SZ15 SZ16 SZ17 SZ18 SZ19 SZ20 SYBA SYDA SYBG SYDG SYBK SYDK SYBF SYDF SZ21 SZ22 SZ23
    go_upto_region 15 with (first
      | ((with_reducible show wpList _ _ _ (Oper.mk (some 110) (.load _ _) _ _ _ _ :: _) _ _); refine wpList_load_mid rfl 29 (.tmp 6) rfl xBA 0 rfl (PA ++ [.slice aA NA qA]) _ BA23.out.range Try.underlying29 rfl (by rw [PAL.out]; exact infoCtC) ?_)
      | (go_at_call 32; (with_reducible refine (HUA.out _ (.slice aA NA qA) _ OA23.out).mono ?_); rintro e w24 ⟨rfl, g24⟩; have W24 := Lib.hid (W23.out.grown g24 W23.out.size (fun g hg => by have q1 := OAB.out g hg; have q := SZ.out; omega)); have X24 := Lib.hid (X23.out.grown g24 (fun e => by have q1 := OAB.out _ e.symm; have q := SZ.out; omega)); have U24 := Lib.hid (World.ownsRow.kept U23.out g24 (own_neT UB.out OAB.out (by have q := SZ.out; omega))); have I24 := Lib.hid (I23.out.grown g24 (fun e => by have q1 := OAB.out _ e.symm; have q := SZ.out; omega)); have OG24 := Lib.hid (World.ownsRow.kept OG23.out g24 (own_neT OGB.out OAB.out (by have q := SZ.out; omega))); have BG24 := Lib.hid (BG23.out.grown g24 (fun e => by have q1 := OAB.out _ e.symm; have q := SZ.out; omega)); have OK24 := Lib.hid (World.ownsRow.kept OK23.out g24 (own_neT OKB.out OAB.out (by have q := SZ.out; omega))); have BK24 := Lib.hid (BK23.out.grown g24 (fun e => by have q1 := OAB.out _ e.symm; have q := SZ.out; omega)); clear g24))
    clear X23 U23 I23 BA23 OG23 BG23 OK23 BK23 OA23 W23
    go_upto_region 16 with (first
      | ((with_reducible show wpList _ _ _ (Oper.mk (some 112) (.load _ _) _ _ _ _ :: _) _ _); refine wpList_load_mid rfl 29 (.tmp 10) rfl xBG 0 rfl (PG ++ [.slice aG NG qG]) _ BG24.out.range Try.underlying29 rfl (by rw [PGL.out]; exact infoCtC) ?_)
      | (go_at_call 32; (with_reducible refine (HUG.out _ (.slice aG NG qG) _ OG24.out).mono ?_); rintro e w25 ⟨rfl, g25⟩; have W25 := Lib.hid (W24.out.grown g25 W24.out.size (fun g hg => by have q1 := OGB.out g hg; have q := SZ.out; omega)); have X25 := Lib.hid (X24.out.grown g25 (fun e => by have q1 := OGB.out _ e.symm; have q := SZ.out; omega)); have U25 := Lib.hid (World.ownsRow.kept U24.out g25 (own_neT UB.out OGB.out (by have q := SZ.out; omega))); have I25 := Lib.hid (I24.out.grown g25 (fun e => by have q1 := OGB.out _ e.symm; have q := SZ.out; omega)); have OK25 := Lib.hid (World.ownsRow.kept OK24.out g25 (own_neT OKB.out OGB.out (by have q := SZ.out; omega))); have BK25 := Lib.hid (BK24.out.grown g25 (fun e => by have q1 := OGB.out _ e.symm; have q := SZ.out; omega)); clear g25))
    clear X24 U24 I24 BG24 OK24 BK24 OG24 W24
    go_upto_region 17 with (first
      | ((with_reducible show wpList _ _ _ (Oper.mk (some 114) (.load _ _) _ _ _ _ :: _) _ _); refine wpList_load_mid rfl 29 (.tmp 14) rfl xBK 0 rfl (PK ++ [.slice aK NK qK]) _ BK25.out.range Try.underlying29 rfl (by rw [PKL.out]; exact infoCtC) ?_)
      | (go_at_call 32; (with_reducible refine (HUK.out _ (.slice aK NK qK) _ OK25.out).mono ?_); rintro e w26 ⟨rfl, g26⟩; have W26 := Lib.hid (W25.out.grown g26 W25.out.size (fun g hg => by have q1 := OKB.out g hg; have q := SZ.out; omega)); have X26 := Lib.hid (X25.out.grown g26 (fun e => by have q1 := OKB.out _ e.symm; have q := SZ.out; omega)); have U26 := Lib.hid (World.ownsRow.kept U25.out g26 (own_neT UB.out OKB.out (by have q := SZ.out; omega))); have I26 := Lib.hid (I25.out.grown g26 (fun e => by have q1 := OKB.out _ e.symm; have q := SZ.out; omega)); clear g26))
    clear X25 U25 I25 BK25 OK25 W25
    have V26 := Lib.hid (VP.out _ W26.out)
    have HNS := HNM.out _ (owned_rd U26.out)
    obtain ⟨NS, hNS⟩ : ∃ x, x = c0.snaps.map Sn.name := ⟨_, rfl⟩
    rw [← hNS] at HNS
    have HNE := Lib.hid hNS
    have HNL := Lib.hid (show NS.length = n by rw [hNS, List.length_map]; exact HNN.out.symm)
    have HNX := Lib.hid HNS
    clear hNS HNS
    go_wp2_with ((fail_if_success (with_reducible show bodyPost _ _ _ _ _ _)); first
      | ((with_reducible show wpList _ _ _ (Oper.mk (some 116) (.load _ _) _ _ _ _ :: _) _ _); refine wpList_load_mid rfl 29 (.tmp 5) rfl bi 0 rfl LI _ I26.out.range Try.underlying29 rfl (by rw [LI34.out]; exact infoCtC) ?_)
      | (go_at_call 33; (with_reducible refine HNX.out.mono ?_); rintro e w27 ⟨uN, rfl, hs6, b27⟩; obtain ⟨na6, nq6, hu6, -⟩ := hs6.shape; rw [HNL.out] at hu6; subst hu6; have S6 := Lib.hid hs6; have X27 := Lib.hid (X26.out.below b27 X26.out.lt); have I27 := Lib.hid (I26.out.below b27 I26.out.lt); have U27 := Lib.hid (owned_below U26.out b27); have V27 := Lib.hid (V26.out.below b27); have W27 := Lib.hid (W26.out.on b27); clear b27 hs6))
    clear X26 I26 U26 V26 W26 HNX HNM
    go_loopw [23] (fun i wr => ∃ m : Nat, m ≤ n ∧ i = .int .i64 (m : Int) ∧ Below w27.heap.size w27 wr) (fun i _ => n - (intOf i).toNat)
    case atStart => exact ⟨0, Nat.zero_le _, rfl, Below.refl _ _⟩
    case round =>
      obtain ⟨m, hm1, rfl, hw7⟩ := hrel
      have hm300 : m ≤ 300 := by have := HN3.out; omega
      have X28 := Lib.hid (X27.out.below hw7 X27.out.lt); have I28 := Lib.hid (I27.out.below hw7 I27.out.lt); have U28 := Lib.hid (owned_below U27.out hw7); have V28 := Lib.hid (V27.out.below hw7); have W28 := Lib.hid (W27.out.on hw7)
      have d1 := X28.out.cell 33 _ HX3.out
      by_cases hlm : m < n
      · have hmn : m < NS.length := by rw [HNL.out]; exact hlm
        have s7 := S6.out.below hw7
        obtain ⟨sb, so, hna, hcm⟩ := s7.spot m hmn
        subst hna
        have hms : m < c0.snaps.length := by rw [← HNN.out]; exact hlm
        obtain ⟨pb, po, rfl, -, hcp, -⟩ := sn_range (l := c0.snaps) (by have v := V28.out; rw [HCS.out] at v; exact v) HPO.out HNN.out hms
        have hnm : NS[m] = c0.snaps[m].name := by have q := HNE.out; subst q; rw [List.getElem_map]
        rw [hnm] at hcm
        obtain ⟨nm, hnm2⟩ : ∃ x, x = c0.snaps[m].name := ⟨_, rfl⟩
        rw [← hnm2] at hcm hcp
        have CM := Lib.hid hcm
        have CP := Lib.hid hcp
        have CX := Lib.hid d1
        have HNQ := Lib.hid (fun W => show (binOp .neq 9 (.string nm) (.string nm)).run Try.prog W = .ok (.bool false) W by rw [run_str_neq]; simp)
        have HM0 := Lib.hid (show (m : Int) < (n : Int) ∧ (0 : Int) ≤ (m : Int) by omega)
        have hlm' : (m : Int) < (n : Int) := HM0.out.1
        have HW8 := Lib.hid hw7
        clear s7 hcm hcp hnm hnm2 hw7 d1
        go_upto_region 21 with fail
        refine wp_region_y (R := KindB 29) (by kernel_rfl) 18 (by decide) (fun i => [124, 125, 126, 127, 128, 129, 130, 131, 132, 133, 134, 135, 136, 137, 138, 139, 140, 141].getD i 0) (by kernel_rfl) (by kernel_rfl) (by kernel_rfl) wr.heap.size (Nat.le_refl _) [.val (.int .i64 (m : Int)), .val (.pointer (some ⟨w.heap.size, 33, none⟩)), .val (.slice (some ⟨pb, po, none⟩) n q0), .val (.int .i64 (n : Int)), .val (.bool false), .val (.bool false), .val (.slice (some ⟨sb, so, none⟩) n nq6), .val (.int .i64 (m : Int)), .val (.pointer (some ⟨sb, so + m, none⟩)), .val (.string nm), .val (.pointer (some ⟨w.heap.size, 33, none⟩)), .val (.slice (some ⟨pb, po, none⟩) n q0), .val (.int .i64 (m : Int)), .val (.pointer (some ⟨pb, po + m * 34, none⟩)), .val (.pointer (some ⟨pb, po + m * 34, none⟩)), .val (.string nm), .val (.bool false), .val (.bool false)] (fun j => if j = 18 then 19 else 18) ?_ ?_
        · refine ⟨?_, ?_, ?_, ?_, ?_, ?_, ?_, ?_, ?_, ?_, ?_, ?_, ?_, ?_, ?_, ?_, ?_, ?_, trivial⟩
          · intro a w' hF hB hd
            have e23 : a.eval (.tmp 23) = .int .i64 (m : Int) := hF 23 (by decide +kernel)
            exact doesY_val rfl (by decide) (ex_move rfl e23) rfl rfl
          · intro a w' hF hB hd
            have e2 : a.eval (.tmp 2) = .pointer (some ⟨w.heap.size, 0, none⟩) := hF 2 (by decide +kernel)
            exact doesY_val (v := .pointer (some ⟨w.heap.size, 33, none⟩)) rfl (by decide) (by unfold execOp; simp only [e2]; go_simp) rfl rfl
          · intro a w' hF hB hd
            have e125 : a.eval (.tmp 125) = .pointer (some ⟨w.heap.size, 33, none⟩) := hd 1 (by decide +kernel) (.inr (by decide))
            have cc := (cell_below CX.out hB)
            exact doesY_val (v := .slice (some ⟨pb, po, none⟩) n q0) rfl (by decide) (by unfold execOp; simp only [e125]; go_simp) rfl rfl
          · intro a w' hF hB hd
            have e126 : a.eval (.tmp 126) = .slice (some ⟨pb, po, none⟩) n q0 := hd 2 (by decide +kernel) (.inr (by decide))
            have f126 : a.tmps[126]?.getD undef = .slice (some ⟨pb, po, none⟩) n q0 := by rw [← Array.getD_eq_getD_getElem?]; exact e126
            exact doesY_val (v := .int .i64 (n : Int)) rfl (by decide) (by unfold execOp; go_simp) rfl rfl
          · intro a w' hF hB hd
            have e124 : a.eval (.tmp 124) = .int .i64 (m : Int) := hd 0 (by decide +kernel) (.inr (by decide))
            have e127 : a.eval (.tmp 127) = .int .i64 (n : Int) := hd 3 (by decide +kernel) (.inr (by decide))
            exact doesY_val rfl (by decide) (ex_binOp rfl e124 e127 (by go_simp) (by have := HM0.out.1; go_simp)) rfl rfl
          · intro a w' hF hB hd
            have e128 : a.eval (.tmp 128) = .bool false := hd 4 (by decide +kernel) (.inr (by decide))
            exact doesY_val rfl (by decide) (ex_move rfl e128) rfl rfl
          · intro a w' hF hB hd
            have e129 : a.eval (.tmp 129) = .bool false := hd 5 (by decide +kernel) (.inr (by decide))
            have e22 : a.eval (.tmp 22) = .slice (some ⟨sb, so, none⟩) n nq6 := hF 22 (by decide +kernel)
            exact doesY_val (wanted_of rfl (yielded_of rfl e129)) (by decide) (ex_move rfl e22) rfl rfl
          · intro a w' hF hB hd
            have e129 : a.eval (.tmp 129) = .bool false := hd 5 (by decide +kernel) (.inr (by decide))
            have e23 : a.eval (.tmp 23) = .int .i64 (m : Int) := hF 23 (by decide +kernel)
            exact doesY_val (wanted_of rfl (yielded_of rfl e129)) (by decide) (ex_move rfl e23) rfl rfl
          · intro a w' hF hB hd
            have e129 : a.eval (.tmp 129) = .bool false := hd 5 (by decide +kernel) (.inr (by decide))
            have e130 : a.eval (.tmp 130) = .slice (some ⟨sb, so, none⟩) n nq6 := hd 6 (by decide +kernel) (.inr (by decide))
            have f130 : a.tmps[130]?.getD undef = .slice (some ⟨sb, so, none⟩) n nq6 := by rw [← Array.getD_eq_getD_getElem?]; exact e130
            have e131 : a.eval (.tmp 131) = .int .i64 (m : Int) := hd 7 (by decide +kernel) (.inr (by decide))
            have f131 : a.tmps[131]?.getD undef = .int .i64 (m : Int) := by rw [← Array.getD_eq_getD_getElem?]; exact e131
            have hkn := HM0.out.1
            have hk0 := HM0.out.2
            exact doesY_val (v := .pointer (some ⟨sb, so + m, none⟩)) (wanted_of rfl (yielded_of rfl e129)) (by decide) (by unfold execOp; simp only [e130, e131]; go_simp) rfl rfl
          · intro a w' hF hB hd
            have e129 : a.eval (.tmp 129) = .bool false := hd 5 (by decide +kernel) (.inr (by decide))
            have e132 : a.eval (.tmp 132) = .pointer (some ⟨sb, so + m, none⟩) := hd 8 (by decide +kernel) (.inr (by decide))
            have cc := (cell_below CM.out hB)
            exact doesY_val (v := .string nm) (wanted_of rfl (yielded_of rfl e129)) (by decide) (by unfold execOp; simp only [e132]; go_simp) rfl rfl
          · intro a w' hF hB hd
            have e129 : a.eval (.tmp 129) = .bool false := hd 5 (by decide +kernel) (.inr (by decide))
            have e2 : a.eval (.tmp 2) = .pointer (some ⟨w.heap.size, 0, none⟩) := hF 2 (by decide +kernel)
            exact doesY_val (v := .pointer (some ⟨w.heap.size, 33, none⟩)) (wanted_of rfl (yielded_of rfl e129)) (by decide) (by unfold execOp; simp only [e2]; go_simp) rfl rfl
          · intro a w' hF hB hd
            have e129 : a.eval (.tmp 129) = .bool false := hd 5 (by decide +kernel) (.inr (by decide))
            have e134 : a.eval (.tmp 134) = .pointer (some ⟨w.heap.size, 33, none⟩) := hd 10 (by decide +kernel) (.inr (by decide))
            have cc := (cell_below CX.out hB)
            exact doesY_val (v := .slice (some ⟨pb, po, none⟩) n q0) (wanted_of rfl (yielded_of rfl e129)) (by decide) (by unfold execOp; simp only [e134]; go_simp) rfl rfl
          · intro a w' hF hB hd
            have e129 : a.eval (.tmp 129) = .bool false := hd 5 (by decide +kernel) (.inr (by decide))
            have e23 : a.eval (.tmp 23) = .int .i64 (m : Int) := hF 23 (by decide +kernel)
            exact doesY_val (wanted_of rfl (yielded_of rfl e129)) (by decide) (ex_move rfl e23) rfl rfl
          · intro a w' hF hB hd
            have e129 : a.eval (.tmp 129) = .bool false := hd 5 (by decide +kernel) (.inr (by decide))
            have e135 : a.eval (.tmp 135) = .slice (some ⟨pb, po, none⟩) n q0 := hd 11 (by decide +kernel) (.inr (by decide))
            have f135 : a.tmps[135]?.getD undef = .slice (some ⟨pb, po, none⟩) n q0 := by rw [← Array.getD_eq_getD_getElem?]; exact e135
            have e136 : a.eval (.tmp 136) = .int .i64 (m : Int) := hd 12 (by decide +kernel) (.inr (by decide))
            have f136 : a.tmps[136]?.getD undef = .int .i64 (m : Int) := by rw [← Array.getD_eq_getD_getElem?]; exact e136
            have hkn := HM0.out.1
            have hk0 := HM0.out.2
            exact doesY_val (v := .pointer (some ⟨pb, po + m * 34, none⟩)) (wanted_of rfl (yielded_of rfl e129)) (by decide) (by unfold execOp; simp only [e135, e136]; go_simp) rfl rfl
          · intro a w' hF hB hd
            have e129 : a.eval (.tmp 129) = .bool false := hd 5 (by decide +kernel) (.inr (by decide))
            have e137 : a.eval (.tmp 137) = .pointer (some ⟨pb, po + m * 34, none⟩) := hd 13 (by decide +kernel) (.inr (by decide))
            have f137 : a.tmps[137]?.getD undef = .pointer (some ⟨pb, po + m * 34, none⟩) := by rw [← Array.getD_eq_getD_getElem?]; exact e137
            exact doesY_val (v := .pointer (some ⟨pb, po + m * 34, none⟩)) (wanted_of rfl (yielded_of rfl e129)) (by decide) (by unfold execOp; simp only [e137]; go_simp) rfl rfl
          · intro a w' hF hB hd
            have e129 : a.eval (.tmp 129) = .bool false := hd 5 (by decide +kernel) (.inr (by decide))
            have e138 : a.eval (.tmp 138) = .pointer (some ⟨pb, po + m * 34, none⟩) := hd 14 (by decide +kernel) (.inr (by decide))
            have cc := (cell_below CP.out hB)
            exact doesY_val (v := .string nm) (wanted_of rfl (yielded_of rfl e129)) (by decide) (by unfold execOp; simp only [e138]; go_simp) rfl rfl
          · intro a w' hF hB hd
            have e129 : a.eval (.tmp 129) = .bool false := hd 5 (by decide +kernel) (.inr (by decide))
            have e133 : a.eval (.tmp 133) = .string nm := hd 9 (by decide +kernel) (.inr (by decide))
            have e139 : a.eval (.tmp 139) = .string nm := hd 15 (by decide +kernel) (.inr (by decide))
            exact doesY_val (wanted_of rfl (yielded_of rfl e129)) (by decide) (ex_binOp rfl e133 e139 (eqG_str _ _ _ _ _ _) (HNQ.out _)) rfl rfl
          · intro a w' hF hB hd
            have e129 : a.eval (.tmp 129) = .bool false := hd 5 (by decide +kernel) (.inr (by decide))
            have e140 : a.eval (.tmp 140) = .bool false := hd 16 (by decide +kernel) (.inr (by decide))
            exact doesY_val rfl (by decide) (ex_pick rfl e129 (by simp [e140])) rfl rfl
        · intro vs w8 hB hS hv _
          have y9 : vs 17 = .bool false := hv 17 (by decide) (by decide)
          simp only [List.take_succ_cons, List.take_zero, List.drop_succ_cons, List.drop_zero, putOps, Act.put, List.setIfInBounds_toArray, List.set_cons_zero, List.set_cons_succ, y9]
          have W9 := Lib.hid (HW8.out.on hB)
          clear hv hB hS y9
          go_wp2_with fail
          exact ⟨⟨m + 1, by omega, by go_num, W9.out⟩, by simp [intOf]; omega⟩
      · have hlm' : ¬ (m : Int) < (n : Int) := by omega
        have hmm : m = n := by omega
        clear hw7
        go_wp2_with ((fail_if_success (with_reducible show bodyPost _ _ _ _ _ _)); first
          | ((with_reducible show wpList _ _ _ (Oper.mk (some 149) (.load _ _) _ _ _ _ :: _) _ _); refine wpList_load_wanted rfl 29 (.tmp 5) rfl bi 0 rfl LI _ I28.out.range Try.underlying29 rfl (by rw [LI34.out]; exact infoCtC) ?_)
          | ((with_reducible show wpList _ _ _ (Oper.mk (some 150) (.load _ _) _ _ _ _ :: _) _ _); refine wpList_load_wanted rfl 29 (.tmp 2) rfl w.heap.size 0 rfl LC _ X28.out.range Try.underlying29 rfl (by rw [LC34.out]; exact infoCtC) ?_)
          | (go_at_call 17; (with_reducible refine (HSM.out _ (owned_rd U28.out) V28.out).mono ?_); rintro e w8 ⟨rfl, b8⟩; have Y8 := Lib.hid (W28.out.on b8); clear b8)
          | (go_at_call 11; (with_reducible refine (HAW.out _).mono ?_); rintro e w9 ⟨rfl, b9⟩; have Y9 := Lib.hid (Y8.out.on b9); clear b9))
        go_ret
        exact ⟨rfl, Y9.out⟩
  · rw [decide_eq_false hfew] at HFW
    clear hLC h0 p0 k0 hfew
    go_enter Try.func6, Try.ntmps6
    go_wp2_with ((fail_if_success (with_reducible show bodyPost _ _ _ _ _ _)); first
      | ((with_reducible show wpList _ _ _ (Oper.mk (some 24) (.load _ _) _ _ _ _ :: _) _ _); refine wpList_load_mid rfl 29 (.tmp 2) rfl w.heap.size 0 rfl LC _ X1.out.range Try.underlying29 rfl (by rw [LC34.out]; exact infoCtC) ?_)
      | (go_at_call 10; (with_reducible refine (HFW.out _).mono ?_); rintro e w2 ⟨rfl, b2⟩; have W2 := Lib.hid (W1.out.on b2); clear b2)
      | (go_at_call 11; (with_reducible refine (HAW.out _).mono ?_); rintro e w3 ⟨rfl, b3⟩; have W3 := Lib.hid (W2.out.on b3); clear b3))
    go_ret
    exact ⟨rfl, W3.out⟩
set_option linter.unusedVariables false in
set_option maxHeartbeats 400000 in
set_option maxRecDepth 100000 in
theorem lifted (os : Os) (started : os.Started) (H : Type) (enc : TypeId × Value → H) :
    ReturnsInHanded {} Try.checked os 6 .any (Rows.catalogActsSpec.pre6 enc Try.prog Try.f6 Rows.catalogActsRow.domain false) (Rows.catalogActsSpec.post enc Try.prog Try.f6 false true false false) := by
  refine returnsInHanded_of_change_sized (C := Try.checked) own started (by kernel_rfl) Try.func6
    (ChangeSpec.witness6 (enc := enc) (C := Try.checked) false ⟨#[], #[.agg (CT.ctc CT.zero (.slice none 0 0)).toArray, .string ByteArray.empty], []⟩ 8 (by kernel_rfl) (by kernel_rfl) (by kernel_rfl) (by kernel_rfl)) ?_
  intro W base args ds gs before hval0 hW _ hsz0 _
  have hsz : (DataW.weightsEach Try.prog (Try.f6.params.toList ++ Rows.catalogActsSpec.plain.varTypes Try.prog) (ds ++ gs)).all (· ≤ reachBytes) = true := hsz0
  clear hsz0
  have hval : ∀ (j : Nat) t v, Try.f6.params[j]? = some t → args[j]? = some v → Value.okWide Try.prog W .any base t v := hval0
  have hW' := hW
  obtain ⟨p, q, hA0, hV, rfl, _, _⟩ := hW
  have hA : DataW.TrodAll enc Try.prog W 0 (fun _ => true) true Try.f6.params.toList args.toList ds p := hA0
  rw [Try.params6] at hA hval hsz
  obtain ⟨v0, vs0, d0, ds0, p0, q0, hargs, rfl, rfl, g0, r0⟩ := trodAll_cons hA
  obtain ⟨v1, vs1, d1, ds1, p1, q1, rfl, rfl, rfl, g1, r1⟩ := trodAll_cons r0
  obtain ⟨rfl, rfl, rfl⟩ := trodAll_nil r1
  obtain rfl : args = #[v0, v1] := by cases args; simp_all
  obtain ⟨rfl, rfl⟩ := trodVars_none hV
  obtain ⟨cc0, uu0, rfl, hh0, pp0, kk0⟩ := open_cat (hval 0 29 v0 rfl rfl) g0 (fun n hn => by simpa using List.all_eq_true.1 hsz n (DataW.weights_mem_each (j := 0) (t := 29) rfl rfl n hn))
  obtain ⟨a1, rfl, rfl, rfl, w1⟩ := Go.ChangeMaps.open_string Try.underlying9 (hval 1 9 v1 rfl rfl) g1
  have k1 : a1.size ≤ 140737488351232 := by have := sized_string hsz (j := 1) (t := 9) rfl rfl; simpa [reachBytes] using this
  clear hA0 hval0
  have hlt := hW'.lt
  refine (walk W cc0 uu0 hh0 pp0 kk0 a1 w1 k1).mono fun e W' ⟨he, hb⟩ => ?_
  subst he
  have hargs : DataW.TrodAll enc Try.prog W' 0 (fun b => decide (b < W.heap.size)) true _ _ _ _ := (trodAll_cons_mk (Below.trod laidOut (by kernel_rfl) (of_decide_eq_true (by kernel_rfl)) g0 hb (fun x hx => hlt x (by simp [hx]))) (trodAll_cons_mk (Go.ChangeMaps.shut_string Try.underlying9 w1) trodAll_mk0))
  simp only [List.append_nil] at hW' hargs
  exact ⟨_, rfl, post_law hW' (trodAll_cons_mk (shut_bool Try.underlying4 _) trodAll_mk0) hargs rfl hb⟩
theorem over : Rows.catalogActsRow.holds Try.pinned (OpenSpec.ofChange Rows.catalogActsSpec) :=
  OpenClaim.holds_of_wide 6 Try.f6 rfl rfl rfl rfl rfl rfl rfl ⟨rfl, rfl, rfl, rfl, rfl⟩ rfl rfl rfl rfl rfl (by kernel_rfl) Try.func6 (by kernel_rfl)
    (of_decide_eq_true (by kernel_rfl)) (by unfold Func.isWrapper; first | (rw [if_pos (by decide +kernel)]; kernel_rfl) | (rw [if_neg (by decide +kernel)]; exact ⟨rfl, rfl⟩))
    (fun os started H enc _ => lifted os started H enc)

/-- The given statement. -/
theorem proved : Rows.CatalogActsSaid := over
end Go.Proofs.Ytkagapgganoomaa.catalogActs
