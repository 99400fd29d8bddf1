/- RootPuts: any root has, with any key, the bytes that the document says, or it is told why not; it stays as it is; and the law's closed case holds. No condition. -/
import Derived.Test.YtenigdbnfepkeaaDoorRows
import Derived.Test.YtenigdbnfepkeaaDoorRtAwake
import Derived.Test.YtenigdbnfepkeaaDoorRtSm
import Derived.Test.YtenigdbnfepkeaaDoorShaD
import Derived.Test.YtenigdbnfepkeaaDoorTie
import Derived.Test.YtenigdbnfepkeaaDoorCards
import Derived.SevenTiedAt
import Derived.Test.YtenigdbnfepkeaaDoorRootArg
import Derived.Test.YtenigdbnfepkeaaDoorMem
import Derived.WalkKit
import Derived.ProofKit
import Derived.OpenShut
import Derived.SizedLaws
import Derived.Carry
import Derived.Deep.DeepHandedRow
import Derived.Deep.DeepWitnessRowRef
namespace Go.Proofs.YtenigdbnfepkeaaDoor.rootPuts
open Go.ChangeShapes Go.WideShapes Go.ChangeAt Go.RowKit
open RT
theorem own : ownKnob Tryd.prog.godebug = none := by kernel_rfl
theorem cells28 : Tryd.prog.cellsOf 28 = 32 := by kernel_rfl
theorem cells5 : Tryd.prog.cellsOf 5 = 1 := by kernel_rfl
set_option linter.unusedVariables false in
set_option maxRecDepth 100000 in
set_option maxHeartbeats 2000000 in
theorem walk (w : World) (ht : Tab w ∧ TabP w) (r0 : RT.Rt) (v0 : Value) (h0 : RT.Ok r0) (p0 : RdT 33 w v0 r0.pages.length (RT.pcs r0.pages)) (k0 : r0.pages.length ≤ 3909374676536) (l1 : List Nat) (h1 : Bytes 32 l1) :
    Calls Tryd.prog 3 #[.agg (RT.rtc r0 v0).toArray, .agg (row8 l1).toArray] w fun e w' => e = .returned (.bool true) ∧ Below w.heap.size w w' := by
  obtain ⟨pa, pq, rfl, _⟩ := p0.shape
  have HT := Lib.hid ht.2
  have HTA := Lib.hid ht.1
  obtain ⟨Z0, hZ0⟩ : ∃ L, L = RT.rtc RT.zero (.slice none 0 0) := ⟨_, rfl⟩
  have hz : ∀ w, (zeroValue 27).run Tryd.prog w = .ok (.agg Z0.toArray) w := by rw [hZ0]; exact zeroRt
  have Z68 := Lib.hid (show Z0.length = 68 by rw [hZ0]; exact RT.rtc_len RT.zero_ok _)
  have HC := Lib.hid (fun W hv => rrcopy_any r0 h0 (.slice pa r0.pages.length pq) W hv k0)
  have HP := Lib.hid (fun W v hv (hW : TabP W) => pput_any r0 h0 v W hv (by omega) l1 h1 hW)
  have HR := Lib.hid (fun W v hv (hW : Tab W) => rrput_any r0 h0 l1 h1 v W hv hW)
  have HSM := Lib.hid (fun W u v hu hv => sameYes (rrsame_any r0 r0 h0 h0 u v W hu hv (by omega)))
  have XL := Lib.hid (fun u => rtc_len h0 u)
  obtain ⟨XR, hXR⟩ : ∃ X, X = rtc r0 := ⟨_, rfl⟩
  have X1c := Lib.hid (fun ao n c => show ((XR (.slice ao n c)).toArray.all (·.oneCell')) = true by rw [hXR]; exact rt_one _ ao n c)
  obtain ⟨KC, hKC⟩ : ∃ X, X = row8 l1 := ⟨_, rfl⟩
  have K32 := Lib.hid (show KC.length = 32 by rw [hKC, row8_len, h1.1])
  obtain ⟨B, hB⟩ : ∃ X, X = put r0 l1 := ⟨_, rfl⟩
  obtain ⟨ER, hER⟩ : ∃ X, X = perr r0 := ⟨_, rfl⟩
  obtain ⟨n, hn⟩ : ∃ n, n = r0.pages.length := ⟨_, rfl⟩
  obtain ⟨S, hS⟩ : ∃ S : ByteArray, S = bstr B := ⟨_, rfl⟩
  have HS := Lib.hid hS
  have HE := Lib.hid (fun W => (show (binOp .eql 9 (.string S) (.string S)).run Tryd.prog W = .ok (.bool true) W by rw [run_eql_str, decide_eq_true rfl]))
  rw [← hXR] at HC HP HR HSM XL
  rw [← hXR]
  rw [← hKC] at HP HR
  rw [← hKC]
  rw [← hB, ← hER] at HP HR
  have HN := Lib.hid hn
  rw [← hn] at HC HP HR HSM p0
  rw [← hn]
  obtain ⟨CS, hCS⟩ : ∃ X, X = pcs r0.pages := ⟨_, rfl⟩
  rw [← hCS] at HC HP HR HSM p0
  obtain ⟨w1, hw1⟩ : ∃ x, x = (w.alloc (.cells (XR (.slice pa n pq)).toArray 27)).alloc (.cells KC.toArray 28) := ⟨_, rfl⟩
  have W1 := Lib.hid (show Below w.heap.size w w1 by rw [hw1]; exact ((Below.refl w.heap.size w).alloc (Nat.le_refl _) _).alloc (by simp) _)
  have X1 := Lib.hid (show Blk w1 w.heap.size 27 (XR (.slice pa n pq)) by rw [hw1]; exact (Blk.new w 27 _ _ rfl).alloc _)
  have K1 := Lib.hid (show Blk w1 (w.heap.size + 1) 28 KC by rw [hw1]; exact Blk.new _ 28 KC _ (by simp))
  have V1 := Lib.hid (p0.below W1.out)
  clear hZ0 hXR hKC hB hER hn hS hCS p0 ht h0 h1
  go_enter Tryd.func3, Tryd.ntmps3
  go_upto_region 1 with fail
  rw [← hw1]
  clear hw1
  go_upto_region 2 with (first
    | ((with_reducible show wpList _ _ _ (Oper.mk _ (.load _ (.tmp 2)) _ _ _ _ :: _) _ _); refine wpList_load_mid rfl 27 (.tmp 2) rfl w.heap.size 0 rfl (XR (.slice pa n pq)) _ X1.out.range Tryd.underlying27 rfl (by rw [XL.out]; exact infoRtC) ?_)
    | (go_at_call 10; (with_reducible refine (HC.out _ V1.out).mono ?_); rintro e w2 ⟨cu, rfl, cu2, b9⟩; have W2 := Lib.hid (W1.out.on b9); have X2 := Lib.hid (X1.out.below b9 X1.out.lt); have K2 := Lib.hid (K1.out.below b9 K1.out.lt); have V2 := Lib.hid (V1.out.below b9); obtain ⟨ca, cq, rfl, _⟩ := (owned_rd cu2).shape; have U2 := Lib.hid (owned_rd cu2); clear cu2; clear b9)
    | ((with_reducible show wpList _ _ _ (Oper.mk _ (.store _ (.tmp 5) (.tmp 11)) _ _ _ _ :: _) _ _); refine wpList_store_blk rfl 27 (.tmp 5) (.tmp 11) rfl w2.heap.size 0 (XR (.slice ca n cq)) rfl rfl 27 Z0 (Blk.new w2 27 Z0 _ rfl) (by have := XL.out (.slice ca n cq); have := Z68.out; omega) (by rw [XL.out (.slice ca n cq)]; exact infoRtC) (X1c.out _ _ _) ?_; intro w3 b' g'; rw [splice_all _ _ (by have := XL.out (.slice ca n cq); have := Z68.out; omega)] at b'; have bb := alloc_turn (Below.refl _ _) g'; have W3 := Lib.hid (W2.out.on bb); have X3 := Lib.hid (X2.out.below bb X2.out.lt); have K3 := Lib.hid (K2.out.below bb K2.out.lt); have V3 := Lib.hid (V2.out.below bb); have U3 := Lib.hid (U2.out.below bb); have C3 := Lib.hid b'; clear b' g' bb))
  obtain ⟨cb, hcb⟩ : ∃ x, x = w2.heap.size := ⟨_, rfl⟩
  rw [← hcb] at C3 ⊢
  clear hcb W1 X1 K1 V1 W2 X2 K2 V2 U2
  go_wp2_with ((fail_if_success (with_reducible show bodyPost _ _ _ _ _ _)); first
    | ((with_reducible show wpList _ _ _ (Oper.mk _ (.load _ (.tmp 5)) _ _ _ _ :: _) _ _); refine wpList_load_mid rfl 27 (.tmp 5) rfl cb 0 rfl (XR (.slice ca n cq)) _ C3.out.range Tryd.underlying27 rfl (by rw [XL.out]; exact infoRtC) ?_)
    | ((with_reducible show wpList _ _ _ (Oper.mk _ (.load _ (.tmp 3)) _ _ _ _ :: _) _ _); refine wpList_load_mid rfl 28 (.tmp 3) rfl (w.heap.size + 1) 0 rfl KC _ K3.out.range Tryd.underlying28 rfl (by rw [K32.out]; exact infoKeyA) ?_)
    | (go_at_call 11; (with_reducible refine (HP.out _ _ U3.out (HT.out.below W3.out)).mono ?_); rintro e w4 ⟨bu, rfl, o9, b9⟩; have W4 := Lib.hid (W3.out.on b9); have X4 := Lib.hid (X3.out.below b9 X3.out.lt); have K4 := Lib.hid (K3.out.below b9 K3.out.lt); have V4 := Lib.hid (V3.out.below b9); have U4 := Lib.hid (U3.out.below b9); have C4 := Lib.hid (C3.out.below b9 C3.out.lt); have R4 := Lib.hid o9.rd; obtain ⟨ba, bc, rfl, _⟩ := o9.rd.shape; clear o9; clear b9)
    | ((with_reducible show wpList _ _ _ (Oper.mk _ (.load _ (.tmp 2)) _ _ _ _ :: _) _ _); refine wpList_load_mid rfl 27 (.tmp 2) rfl w.heap.size 0 rfl (XR (.slice pa n pq)) _ X4.out.range Tryd.underlying27 rfl (by rw [XL.out]; exact infoRtC) ?_)
    | ((with_reducible show wpList _ _ _ (Oper.mk _ (.load _ (.tmp 3)) _ _ _ _ :: _) _ _); refine wpList_load_mid rfl 28 (.tmp 3) rfl (w.heap.size + 1) 0 rfl KC _ K4.out.range Tryd.underlying28 rfl (by rw [K32.out]; exact infoKeyA) ?_)
    | (go_at_call 12; (with_reducible refine (HR.out _ _ V4.out (HTA.out.below W4.out)).mono ?_); rintro e w5 ⟨du, rfl, o9, b9⟩; have W5 := Lib.hid (W4.out.on b9); have X5 := Lib.hid (X4.out.below b9 X4.out.lt); have K5 := Lib.hid (K4.out.below b9 K4.out.lt); have V5 := Lib.hid (V4.out.below b9); have U5 := Lib.hid (U4.out.below b9); have C5 := Lib.hid (C4.out.below b9 C4.out.lt); have R5 := Lib.hid (R4.out.below b9); have Q5 := Lib.hid o9.rd; obtain ⟨da, dc, rfl, _⟩ := o9.rd.shape; clear o9; clear b9)
    | ((with_reducible show wpList _ _ _ (Oper.mk _ (.convert _ _ (.tmp 24)) _ _ _ _ :: _) _ _); refine wpList_wanted rfl (.string S) (ex_convert (x := .tmp 24) rfl rfl (by rw [HS.out]; exact R5.out.str)) ?_)
    | ((with_reducible show wpList _ _ _ (Oper.mk _ (.convert _ _ (.tmp 26)) _ _ _ _ :: _) _ _); refine wpList_wanted rfl (.string S) (ex_convert (x := .tmp 26) rfl rfl (by rw [HS.out]; exact Q5.out.str)) ?_)
    | ((with_reducible show wpList _ _ _ (Oper.mk _ (.binOp _ _ (.tmp 25) (.tmp 27) _) _ _ _ _ :: _) _ _); refine wpList_wanted rfl (.bool true) (ex_binOp (x := .tmp 25) (y := .tmp 27) (b := .eql) (t := 9) rfl rfl rfl (by go_simp) (HE.out _)) ?_)
    | ((with_reducible show wpList _ _ _ (Oper.mk _ (.load _ (.tmp 5)) _ _ _ _ :: _) _ _); refine wpList_loadW 27 (.tmp 5) rfl cb 0 rfl (XR (.slice ca n cq)) _ C5.out.range Tryd.underlying27 rfl (by rw [XL.out]; exact infoRtC) rfl ?_)
    | ((with_reducible show wpList _ _ _ (Oper.mk _ (.load _ (.tmp 2)) _ _ _ _ :: _) _ _); refine wpList_loadW 27 (.tmp 2) rfl w.heap.size 0 rfl (XR (.slice pa n pq)) _ X5.out.range Tryd.underlying27 rfl (by rw [XL.out]; exact infoRtC) rfl ?_)
    | (go_at_call 13; (with_reducible refine ((HSM.out _ _ _ U5.out V5.out)).mono ?_); rintro e w6 ⟨rfl, b9⟩; have W6 := Lib.hid (W5.out.on b9); have X6 := Lib.hid (X5.out.below b9 X5.out.lt); have K6 := Lib.hid (K5.out.below b9 K5.out.lt); have V6 := Lib.hid (V5.out.below b9); have U6 := Lib.hid (U5.out.below b9); have C6 := Lib.hid (C5.out.below b9 C5.out.lt); have R6 := Lib.hid (R5.out.below b9); have Q6 := Lib.hid (Q5.out.below b9); clear b9)
    | (go_at_call 14; (with_reducible refine (rtawake_any _ (HT.out.below W6.out)).mono ?_); rintro e w7 ⟨rfl, b9⟩; have W7 := Lib.hid (W6.out.on b9); have X7 := Lib.hid (X6.out.below b9 X6.out.lt); have K7 := Lib.hid (K6.out.below b9 K6.out.lt); have V7 := Lib.hid (V6.out.below b9); have U7 := Lib.hid (U6.out.below b9); have C7 := Lib.hid (C6.out.below b9 C6.out.lt); have R7 := Lib.hid (R6.out.below b9); have Q7 := Lib.hid (Q6.out.below b9); clear b9))
  go_ret
  exact ⟨rfl, W7.out⟩
set_option maxRecDepth 100000 in
theorem reads (os : Os) {H : Type} (enc : TypeId × Value → H) : ∃ places, DataW.whole enc Tryd.prog ((World.doorLaid Tryd.prog 400 os).forCall (fun _ _ => 0) ⟨#[], #[.agg (RT.rtc RT.zero (.slice none 0 0)).toArray, .agg (row8 (List.replicate 32 0)).toArray], []⟩).memory Tryd.f3.params.toList Rows.rootPutsSpec.vars false (#[.agg (RT.rtc RT.zero (.slice none 0 0)).toArray, .agg (row8 (List.replicate 32 0)).toArray] : Array Value).toList 8 = some ([litRt, lit8 (List.replicate 32 0)], [], places) :=
  ⟨[], by kernel_rfl⟩
set_option maxRecDepth 100000 in
theorem wok (os : Os) : Input.okWideB Tryd.prog ((World.doorLaid Tryd.prog 400 os).forCall (fun _ _ => 0) ⟨#[], #[.agg (RT.rtc RT.zero (.slice none 0 0)).toArray, .agg (row8 (List.replicate 32 0)).toArray], []⟩) 3 ⟨#[], #[.agg (RT.rtc RT.zero (.slice none 0 0)).toArray, .agg (row8 (List.replicate 32 0)).toArray], []⟩ = true := by kernel_rfl
set_option linter.unusedVariables false in
set_option maxHeartbeats 1000000 in
set_option maxRecDepth 100000 in
theorem lifted (os : Os) (started : os.Started) (H : Type) (enc : TypeId × Value → H) (F : Stop.Interp) :
    ReturnsInHanded {} Tryd.checked os 3 .any ((OpenSpec.ofChange Rows.rootPutsSpec).preRow enc Tryd.prog Tryd.f3 Rows.rootPutsRow.domain false laidB) (((OpenSpec.ofChange Rows.rootPutsSpec).at F).post enc Tryd.prog Tryd.f3 false true false false) := by
  obtain ⟨places, hx⟩ := reads os enc
  refine returnsInHanded_of_row (C := Tryd.checked) (s := OpenSpec.ofChange Rows.rootPutsSpec) own started (by kernel_rfl) Tryd.func3
    (witness_row_atRef (enc := enc) (C := Tryd.checked) false (World.doorLaid Tryd.prog 400 os) #[.agg (RT.rtc RT.zero (.slice none 0 0)).toArray, .agg (row8 (List.replicate 32 0)).toArray] rfl (by kernel_rfl) (by kernel_rfl) (wok os)
      (OpenSpec.preRow_of_cond 8 hx (by kernel_rfl) (fun k hk => by cases hk) (by kernel_rfl) (doorB_met os _))) ?_
  intro W base args ds gs before hval0 hW _ hcond hsz0 hL _ _
  have hsz : (DataW.weightsEach Tryd.prog (Tryd.f3.params.toList ++ Rows.rootPutsSpec.plain.varTypes Tryd.prog) (ds ++ gs)).all (· ≤ reachBytes) = true := hsz0
  clear hsz0
  have hval : ∀ (j : Nat) t v, Tryd.f3.params[j]? = some t → args[j]? = some v → Value.okWide Tryd.prog W .any base t v := hval0
  have hW' := hW
  obtain ⟨p, q, hA0, hV, rfl, _, _⟩ := hW
  have hA : DataW.TrodAll enc Tryd.prog W 0 (fun _ => true) true Tryd.f3.params.toList args.toList ds p := hA0
  rw [Tryd.params3] at hA hval hsz
  obtain ⟨v0, vs0, d0, ds0, p0, q0, hargs, rfl, rfl, g0, r0⟩ := trodAll_cons hA
  obtain ⟨v1, vs1, d1, ds1, p1, q1, rfl, rfl, rfl, g1, r1⟩ := trodAll_cons r0
  obtain ⟨rfl, rfl, rfl⟩ := trodAll_nil r1
  obtain rfl : args = #[v0, v1] := by cases args; simp_all
  obtain ⟨rfl, rfl⟩ := trodVars_none hV
  obtain ⟨rr0, uu0, rfl, hh0, pp0, kk0⟩ := open_root (hval 0 27 v0 rfl rfl) g0 (fun n hn => by simpa using List.all_eq_true.1 hsz n (DataW.weights_mem_each (j := 0) (t := 27) rfl rfl n hn))
  obtain ⟨l1, h1, rfl, rfl, rfl⟩ := open_row Tryd.underlying28 Tryd.underlying5 cells5 (hval 1 28 v1 rfl rfl) cells28 g1
  clear hA0 hval0
  have hlt := hW'.lt
  refine (walk W (tabs_of_laid hL) rr0 uu0 hh0 pp0 kk0 l1 h1).mono fun e W' ⟨he, hb⟩ => ?_
  subst he
  have hargs : DataW.TrodAll enc Tryd.prog W' 0 (fun b => decide (b < W.heap.size)) true _ _ _ _ := (trodAll_cons_mk (Below.trod laidOut (by kernel_rfl) (of_decide_eq_true (by kernel_rfl)) g0 hb (fun x hx => hlt x (by simp [hx]))) (trodAll_cons_mk (shut_row Tryd.underlying28 Tryd.underlying5 cells5 cells28 h1) trodAll_mk0))
  simp only [List.append_nil] at hW' hargs
  exact ⟨_, rfl, post_law hW' (trodAll_cons_mk (shut_bool Tryd.underlying4 _) trodAll_mk0) hargs rfl hb⟩
theorem over : Rows.rootPutsRow.holds Tryd.pinned (OpenSpec.ofChange Rows.rootPutsSpec) :=
  OpenClaim.holds_of_cond 3 Tryd.f3 rfl rfl rfl rfl rfl rfl rfl ⟨rfl, rfl, rfl, rfl, rfl⟩ rfl rfl rfl rfl rfl (by kernel_rfl) Tryd.func3 (by kernel_rfl)
    (of_decide_eq_true (by kernel_rfl)) (by unfold Func.isWrapper; first | (rw [if_pos (by decide +kernel)]; kernel_rfl) | (rw [if_neg (by decide +kernel)]; exact ⟨rfl, rfl⟩))
    (fun os started H enc _ F => by rw [OpenClaim.pre_eq_preRow]; exact lifted os started H enc F)

/-- The given statement. -/
theorem proved : Rows.RootPutsCardSaid :=
  Claim7.holds_tied_plain_at .later [] _ _ _ _
    over (fun _ h => by cases h) (by kernel_rfl) (fun _ h => by cases h) rootPuts_row_tie rfl ⟨rfl, rfl⟩ (by kernel_rfl) rfl
    (fun f fn hf hfn => by
      obtain rfl : f = 3 := Option.some.inj ((show Tryd.prog.funcNamed "reliquary/reliquarylaw14.RootPuts" = some 3 by kernel_rfl).symm.trans hf) |>.symm
      obtain rfl : fn = Tryd.f3 := (Option.some.inj (Tryd.func3.symm.trans hfn)).symm
      exact ⟨by kernel_rfl, fun j t ht => by
        rw [Tryd.params3] at ht
        have hm : t ∈ [27, 28] := by simpa using Array.mem_of_getElem? ht
        have hall : ([27, 28].all fun u => !Tryd.prog.wantsStandIn u) = true := by kernel_rfl
        exact (show Tryd.prog.wantsStandIn t = false by simpa using List.all_eq_true.1 hall t hm)⟩)
    (by kernel_rfl)
end Go.Proofs.YtenigdbnfepkeaaDoor.rootPuts
