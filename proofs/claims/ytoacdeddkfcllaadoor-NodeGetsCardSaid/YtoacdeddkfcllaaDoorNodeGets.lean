/- NodeGets: any bytes are the node that the document says, or none; the bytes stay as they are; and the law's closed case holds. No condition. -/
import Derived.Test.YtoacdeddkfcllaaDoorRows
import Derived.Test.YtoacdeddkfcllaaDoorNdAwake
import Derived.Test.YtoacdeddkfcllaaDoorNdGetR
import Derived.Test.YtoacdeddkfcllaaDoorNdEq
import Derived.Test.YtoacdeddkfcllaaDoorShaD
import Derived.Test.YtoacdeddkfcllaaDoorShaC
import Derived.Test.YtoacdeddkfcllaaDoorTie
import Derived.Test.YtoacdeddkfcllaaDoorCards
import Derived.SevenTiedAt
import Derived.Test.YtoacdeddkfcllaaDoorMem
import Derived.WalkKit
import Derived.ProofKit
import Derived.OpenShut
import Derived.SizedLaws
import Derived.Carry
import Derived.Deep.DeepHandedRow
import Derived.Deep.DeepWitnessRowRef
namespace Go.Proofs.YtoacdeddkfcllaaDoor.nodeGets
open Go.ChangeShapes Go.WideShapes Go.ChangeAt Go.RowKit
open RT
theorem own : ownKnob Tryd.prog.godebug = none := by kernel_rfl
set_option linter.unusedVariables false in
set_option maxRecDepth 100000 in
set_option maxHeartbeats 2000000 in
theorem walk (w : World) (ht : TabP w) (v0 : Value) (l0 : List Nat) (h0 : Rd w v0 l0) :
    Calls Tryd.prog 4 #[v0] w fun e w' => e = .returned (.bool true) ∧ Below w.heap.size w w' := by
  obtain ⟨va, vc, rfl, _⟩ := h0.shape
  obtain ⟨bl, hbl⟩ : ∃ n, n = l0.length := ⟨_, rfl⟩
  have HT := Lib.hid ht
  obtain ⟨Z0, hZ0⟩ : ∃ L, L = pcs ND.zn := ⟨_, rfl⟩
  have hz : ∀ w, (zeroValue 28).run Tryd.prog w = .ok (.agg Z0.toArray) w := by rw [hZ0]; exact zeroNdP
  have Z264 := Lib.hid (show Z0.length = 264 by rw [hZ0]; exact ND.pcs_len8 ND.zn_ok)
  have HG := Lib.hid (fun W v (hv : Rd W v l0) => npget_any l0 v W hv)
  have HR := Lib.hid (fun W v (hv : Rd W v l0) => nrget_any l0 v W hv)
  have GOK := ND.got_ok h0.byte
  have HQ := Lib.hid (fun W => (show (binOp .eql 28 (.agg (pcs (ND.got l0)).toArray) (.agg (pcs (ND.got l0)).toArray)).run Tryd.prog W = .ok (.bool true) W by rw [run_eql_node GOK GOK, (ndEq_iff GOK GOK).2 rfl]))
  obtain ⟨L, hL⟩ : ∃ L, L = pcs (ND.got l0) := ⟨_, rfl⟩
  have L264 := Lib.hid (show L.length = 264 by rw [hL]; exact ND.pcs_len8 GOK)
  have L1 := Lib.hid (show L.toArray.all (·.oneCell') = true by rw [hL, List.all_toArray, List.all_eq_true]; exact pcs_one' _)
  obtain ⟨GE, hGE⟩ : ∃ x, x = ND.gerr l0 := ⟨_, rfl⟩
  obtain ⟨S, hS⟩ : ∃ S, S = bstr l0 := ⟨_, rfl⟩
  have HE := Lib.hid (fun W => (show (binOp .eql 9 (.string S) (.string S)).run Tryd.prog W = .ok (.bool true) W by rw [run_eql_str, decide_eq_true rfl]))
  rw [← hL, ← hGE] at HG HR
  rw [← hL] at HQ
  have HV := Lib.hid h0
  have HSTR := Lib.hid (fun (W : World) (v : Value) (hv : Rd W v l0) => hv.str)
  rw [← hS] at HSTR
  have HBL := Lib.hid hbl
  have HE0 := Lib.hid (own_empty w (b := w.heap.size) rfl (base := w.heap.size) (Nat.le_refl _))
  have WE := Lib.hid ((Below.refl w.heap.size w).alloc (Nat.le_refl _) (.cells #[] 5))
  rw [← hbl] at HV ⊢
  clear hL hGE hS hZ0 GOK h0 hbl ht
  go_enter Tryd.func4, Tryd.ntmps4
  go_upto_region 2 with (refine wpList_app rfl (.tmp 8) (.tmp 9) rfl w.heap.size (.slice (some ⟨w.heap.size, 0, none⟩) 0 0) (.slice va bl vc) [] l0 rfl rfl HE0.out (HV.out.below WE.out) (by rw [← HBL.out, List.length_nil, Nat.zero_add]; have := HV.out.fits; rw [← HBL.out] at this; exact this) WE.out.size ?_; intro v1 w1 o1 g1 k1; rw [List.nil_append] at o1; have I1 := Lib.hid o1.rd; have hb1 := Lib.hid (show Below w.heap.size w w1 from WE.out.grown g1 WE.out.size (fun g hg => by have e : w.heap.size = g := Option.some.inj hg; omega)); clear o1 g1 k1)
  obtain ⟨ia, ic, hsh, _⟩ := I1.out.shape
  rw [← HBL.out] at hsh
  subst hsh
  have V1 := Lib.hid (HV.out.below hb1.out)
  have W1 := hb1
  clear hb1 HE0 WE
  go_wp2_with ((fail_if_success (with_reducible show bodyPost _ _ _ _ _ _)); first
    | (go_at_call 13; (with_reducible refine (HG.out _ _ I1.out).mono ?_); rintro e w2 ⟨rfl, b2⟩; have I2 := Lib.hid (I1.out.below b2); have V2 := Lib.hid (V1.out.below b2); have W2 := Lib.hid (W1.out.on b2); clear b2)
    | ((with_reducible show wpList _ _ _ (Oper.mk _ (.store _ (.tmp 4) (.tmp 14)) _ _ _ _ :: _) _ _); refine wpList_store_blk rfl 28 (.tmp 4) (.tmp 14) rfl w2.heap.size 0 L rfl rfl 28 Z0 (Blk.new w2 28 Z0 _ rfl) (by have := L264.out; have := Z264.out; omega) (by rw [L264.out]; exact infoNdP) L1.out ?_; intro w3 b' g'; rw [splice_all _ _ (by have := L264.out; have := Z264.out; omega)] at b'; have bb := alloc_turn (Below.refl _ _) g'; have T3 := Lib.hid b'; have I3 := Lib.hid (I2.out.below bb); have V3 := Lib.hid (V2.out.below bb); have W3 := Lib.hid (W2.out.on bb); clear b' g' bb)
    | (go_at_call 14; (with_reducible refine (HR.out _ _ V3.out).mono ?_); rintro e w4 ⟨rfl, b4⟩; have I4 := Lib.hid (I3.out.below b4); have V4 := Lib.hid (V3.out.below b4); have T4 := Lib.hid (T3.out.below b4 T3.out.lt); have W4 := Lib.hid (W3.out.on b4); clear b4)
    | ((with_reducible show wpList _ _ _ (Oper.mk _ (.store _ (.tmp 6) (.tmp 19)) _ _ _ _ :: _) _ _); refine wpList_store_blk rfl 28 (.tmp 6) (.tmp 19) rfl w4.heap.size 0 L rfl rfl 28 Z0 (Blk.new w4 28 Z0 _ rfl) (by have := L264.out; have := Z264.out; omega) (by rw [L264.out]; exact infoNdP) L1.out ?_; intro w5 b' g'; rw [splice_all _ _ (by have := L264.out; have := Z264.out; omega)] at b'; have bb := alloc_turn (Below.refl _ _) g'; have Q5 := Lib.hid b'; have T5 := Lib.hid (T4.out.below bb T4.out.lt); have I5 := Lib.hid (I4.out.below bb); have V5 := Lib.hid (V4.out.below bb); have W5 := Lib.hid (W4.out.on bb); clear b' g' bb)
    | ((with_reducible show wpList _ _ _ (Oper.mk _ (.load _ (.tmp 4)) _ _ _ _ :: _) _ _); refine wpList_load_mid rfl 28 (.tmp 4) rfl w2.heap.size 0 rfl L _ T5.out.range Tryd.underlying28 rfl (by rw [L264.out]; exact infoNdP) ?_)
    | ((with_reducible show wpList _ _ _ (Oper.mk _ (.load _ (.tmp 6)) _ _ _ _ :: _) _ _); refine wpList_load_mid rfl 28 (.tmp 6) rfl w4.heap.size 0 rfl L _ Q5.out.range Tryd.underlying28 rfl (by rw [L264.out]; exact infoNdP) ?_)
    | ((with_reducible show wpList _ _ _ (Oper.mk _ (.binOp _ _ (.tmp 21) (.tmp 22) _) _ _ _ _ :: _) _ _); refine wpList_wanted rfl (.bool true) (ex_binOp (b := .eql) (t := 28) (x := .tmp 21) (y := .tmp 22) rfl rfl rfl (run_eqGuard_agg _ _ _ _ _ _ _ eqTypeNd) (HQ.out _)) ?_)
    | ((with_reducible show wpList _ _ _ (Oper.mk _ (.convert _ _ (.tmp 30)) _ _ _ _ :: _) _ _); refine wpList_wanted rfl (.string S) (ex_convert (x := .tmp 30) rfl rfl (HSTR.out w5 _ I5.out)) ?_)
    | ((with_reducible show wpList _ _ _ (Oper.mk _ (.convert _ _ (.tmp 32)) _ _ _ _ :: _) _ _); refine wpList_wanted rfl (.string S) (ex_convert (x := .tmp 32) rfl rfl (HSTR.out w5 _ V5.out)) ?_)
    | ((with_reducible show wpList _ _ _ (Oper.mk _ (.binOp _ _ (.tmp 31) (.tmp 33) _) _ _ _ _ :: _) _ _); refine wpList_wanted rfl (.bool true) (ex_binOp (x := .tmp 31) (y := .tmp 33) (b := .eql) (t := 9) rfl rfl rfl (by go_simp) (HE.out _)) ?_)
    | (go_at_call 12; (with_reducible refine (ndawake_any _ (HT.out.below W5.out)).mono ?_); rintro e w6 ⟨rfl, b6⟩; have W6 := Lib.hid (W5.out.on b6); clear b6))
  go_ret
  exact ⟨rfl, W6.out⟩
set_option maxRecDepth 100000 in
theorem reads (os : Os) {H : Type} (enc : TypeId × Value → H) : ∃ places, DataW.whole enc Tryd.prog ((World.doorLaid Tryd.prog 400 os).forCall (fun _ _ => 0) ⟨#[], #[.slice none 0 0], []⟩).memory Tryd.f4.params.toList Rows.nodeGetsSpec.vars false (#[.slice none 0 0] : Array Value).toList 8 = some ([.nil], [], places) :=
  ⟨[], by kernel_rfl⟩
set_option linter.unusedVariables false in
set_option maxHeartbeats 1000000 in
set_option maxRecDepth 100000 in
theorem lifted (os : Os) (started : os.Started) (H : Type) (enc : TypeId × Value → H) (F : Stop.Interp) :
    ReturnsInHanded {} Tryd.checked os 4 .any ((OpenSpec.ofChange Rows.nodeGetsSpec).preRow enc Tryd.prog Tryd.f4 Rows.nodeGetsRow.domain false laidP) (((OpenSpec.ofChange Rows.nodeGetsSpec).at F).post enc Tryd.prog Tryd.f4 false true false false) := by
  obtain ⟨places, hx⟩ := reads os enc
  refine returnsInHanded_of_row (C := Tryd.checked) (s := OpenSpec.ofChange Rows.nodeGetsSpec) own started (by kernel_rfl) Tryd.func4
    (witness_row_atRef (enc := enc) (C := Tryd.checked) false (World.doorLaid Tryd.prog 400 os) #[.slice none 0 0] rfl (by kernel_rfl) (by kernel_rfl) (by kernel_rfl)
      (OpenSpec.preRow_of_cond 8 hx (by kernel_rfl) (fun k hk => by cases hk) (by kernel_rfl) (doorP_met os _))) ?_
  intro W base args ds gs before hval0 hW _ hcond hsz0 hL _ _
  have hsz : (DataW.weightsEach Tryd.prog (Tryd.f4.params.toList ++ Rows.nodeGetsSpec.plain.varTypes Tryd.prog) (ds ++ gs)).all (· ≤ reachBytes) = true := hsz0
  clear hsz0
  have hval : ∀ (j : Nat) t v, Tryd.f4.params[j]? = some t → args[j]? = some v → Value.okWide Tryd.prog W .any base t v := hval0
  have hW' := hW
  obtain ⟨p, q, hA0, hV, rfl, _, _⟩ := hW
  have hA : DataW.TrodAll enc Tryd.prog W 0 (fun _ => true) true Tryd.f4.params.toList args.toList ds p := hA0
  rw [Tryd.params4] at hA hval hsz
  obtain ⟨v0, vs0, d0, ds0, p0, q0, hargs, rfl, rfl, g0, r0⟩ := trodAll_cons hA
  obtain ⟨rfl, rfl, rfl⟩ := trodAll_nil r0
  obtain rfl : args = #[v0] := by cases args; simp_all
  obtain ⟨rfl, rfl⟩ := trodVars_none hV
  obtain ⟨l0, h0⟩ := open_bytes (hval 0 29 v0 rfl rfl) g0 (fun elems spare e => sized_slice hsz (j := 0) (t := 29) (e := 5) rfl (by rw [← e]; rfl) Tryd.underlying29)
  clear hA0 hval0
  have hlt := hW'.lt
  refine (walk W (tabP_of_laid hL) v0 l0 h0).mono fun e W' ⟨he, hb⟩ => ?_
  subst he
  have hargs : DataW.TrodAll enc Tryd.prog W' 0 (fun b => decide (b < W.heap.size)) true _ _ _ _ := (trodAll_cons_mk (Below.trod laidOut (by kernel_rfl) (of_decide_eq_true (by kernel_rfl)) g0 hb (fun x hx => hlt x (by simp [hx]))) trodAll_mk0)
  simp only [List.append_nil] at hW' hargs
  exact ⟨_, rfl, post_law hW' (trodAll_cons_mk (shut_bool Tryd.underlying4 _) trodAll_mk0) hargs rfl hb⟩
theorem over : Rows.nodeGetsRow.holds Tryd.pinned (OpenSpec.ofChange Rows.nodeGetsSpec) :=
  OpenClaim.holds_of_cond 4 Tryd.f4 rfl rfl rfl rfl rfl rfl rfl ⟨rfl, rfl, rfl, rfl, rfl⟩ rfl rfl rfl rfl rfl (by kernel_rfl) Tryd.func4 (by kernel_rfl)
    (of_decide_eq_true (by kernel_rfl)) (by unfold Func.isWrapper; first | (rw [if_pos (by decide +kernel)]; kernel_rfl) | (rw [if_neg (by decide +kernel)]; exact ⟨rfl, rfl⟩))
    (fun os started H enc _ F => by rw [OpenClaim.pre_eq_preRow]; exact lifted os started H enc F)

/-- The given statement. -/
theorem proved : Rows.NodeGetsCardSaid :=
  Claim7.holds_tied_plain_at .later [] _ _ _ _
    over (fun _ h => by cases h) (by kernel_rfl) (fun _ h => by cases h) nodeGets_row_tie rfl ⟨rfl, rfl⟩ (by kernel_rfl) rfl
    (fun f fn hf hfn => by
      obtain rfl : f = 4 := Option.some.inj ((show Tryd.prog.funcNamed "reliquary/reliquarylaw15.NodeGets" = some 4 by kernel_rfl).symm.trans hf) |>.symm
      obtain rfl : fn = Tryd.f4 := (Option.some.inj (Tryd.func4.symm.trans hfn)).symm
      exact ⟨by kernel_rfl, fun j t ht => by
        rw [Tryd.params4] at ht
        have hm : t ∈ [29] := by simpa using Array.mem_of_getElem? ht
        have hall : ([29].all fun u => !Tryd.prog.wantsStandIn u) = true := by kernel_rfl
        exact (show Tryd.prog.wantsStandIn t = false by simpa using List.all_eq_true.1 hall t hm)⟩)
    (by kernel_rfl)
end Go.Proofs.YtoacdeddkfcllaaDoor.nodeGets
