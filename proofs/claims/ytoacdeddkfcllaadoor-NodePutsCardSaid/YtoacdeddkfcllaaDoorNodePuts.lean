/- NodePuts: any node has the bytes that the document says, and is empty or not as it says; and the law's closed case holds. No condition. -/
import Derived.Test.YtoacdeddkfcllaaDoorRows
import Derived.Test.YtoacdeddkfcllaaDoorNdAwake
import Derived.Test.YtoacdeddkfcllaaDoorNdPutR
import Derived.Test.YtoacdeddkfcllaaDoorNdEmpR
import Derived.Test.YtoacdeddkfcllaaDoorFactX
import Derived.Test.YtoacdeddkfcllaaDoorShaD
import Derived.Test.YtoacdeddkfcllaaDoorShaC
import Derived.Test.YtoacdeddkfcllaaDoorTie
import Derived.Test.YtoacdeddkfcllaaDoorCards
import Derived.SevenTiedAt
import Derived.Test.YtoacdeddkfcllaaDoorNdArg
import Derived.WalkKit
import Derived.ProofKit
import Derived.OpenShut
import Derived.SizedLaws
import Derived.Carry
import Derived.Deep.DeepHandedRow
import Derived.Deep.DeepWitnessRowRef
namespace Go.Proofs.YtoacdeddkfcllaaDoor.nodePuts
open Go.ChangeShapes Go.WideShapes Go.ChangeAt Go.RowKit
open RT
theorem own : ownKnob Tryd.prog.godebug = none := by kernel_rfl
set_option linter.unusedVariables false in
set_option maxRecDepth 100000 in
set_option maxHeartbeats 2000000 in
theorem walk (w : World) (ht : TabP w) (n0 : List RT.Pg) (h0 : ND.Nok n0) :
    Calls Tryd.prog 3 #[.agg (RT.pcs n0).toArray] w fun e w' => e = .returned (.bool true) ∧ Below w.heap.size w w' := by
  have HT := Lib.hid ht
  have HP := Lib.hid (fun W => npput_any n0 h0 W)
  have HR := Lib.hid (fun W => nrput_any n0 h0 W)
  have HM := Lib.hid (fun W => npempty_any n0 h0 W)
  have HN := Lib.hid (fun W => nrempty_any n0 h0 W)
  obtain ⟨L, hL⟩ : ∃ L, L = pcs n0 := ⟨_, rfl⟩
  have L264 := Lib.hid (show L.length = 264 by rw [hL]; exact ND.pcs_len8 h0)
  obtain ⟨B, hB⟩ : ∃ B, B = ones n0 := ⟨_, rfl⟩
  obtain ⟨E, hE⟩ : ∃ E, E = ND.empty n0 := ⟨_, rfl⟩
  obtain ⟨S, hS⟩ : ∃ S : ByteArray, S = bstr B := ⟨_, rfl⟩
  have HS := Lib.hid hS
  have HE := Lib.hid (fun W => (show (binOp .eql 9 (.string S) (.string S)).run Tryd.prog W = .ok (.bool true) W by rw [run_eql_str, decide_eq_true rfl]))
  rw [← hL] at HP HR HM HN
  rw [← hB] at HP HR
  rw [← hE] at HM HN
  rw [← hL]
  obtain ⟨w1, hw1⟩ : ∃ x, x = w.alloc (.cells L.toArray 28) := ⟨_, rfl⟩
  have W1 := Lib.hid (show Below w.heap.size w w1 by rw [hw1]; exact (Below.refl w.heap.size w).alloc (Nat.le_refl _) _)
  have X1 := Lib.hid (show Blk w1 w.heap.size 28 L by rw [hw1]; exact Blk.new w 28 L _ rfl)
  clear hL hB hE hS ht h0
  go_enter Tryd.func3, Tryd.ntmps3
  go_upto_region 1 with fail
  rw [← hw1]
  clear hw1
  refine wp_region_l (by kernel_rfl) 17 (by decide) (by kernel_rfl) (by kernel_rfl) (by kernel_rfl) [.val (.agg L.toArray), ⟨fun v W => Rd W v (B), fun h k => h.below k⟩, .val (.string S), .val (.agg L.toArray), ⟨fun v W => Rd W v (B), fun h k => h.below k⟩, .val (.string S), .val (.bool true), .val (.bool true), .val (.agg L.toArray), .val (.bool E), .val (.agg L.toArray), .val (.bool E), .val (.bool true), .val (.bool true), .val (.bool true), .val (.bool true), .val (.bool true)] ?_ ?_
  · refine ⟨?_, ?_, ?_, ?_, ?_, ?_, ?_, ?_, ?_, ?_, ?_, ?_, ?_, ?_, ?_, ?_, ?_, trivial⟩
    · intro a w' hF hB hd
      have e1 : a.eval (.tmp 1) = .pointer (some ⟨w.heap.size, 0, none⟩) := hF 1 (by decide +kernel)
      exact doesL_val rfl (ex_load_part 28 (.tmp 1) rfl w.heap.size 0 e1 L _ ((X1.out.below hB X1.out.lt).range) Tryd.underlying28 rfl (by rw [L264.out]; exact infoNdP)) rfl
    · intro a w' hF hB hd
      have e3 : a.eval (.tmp 3) = .agg L.toArray := hd 0 (by decide +kernel)
      exact doesL_call rfl (ex_call (vs := #[.agg L.toArray]) rfl (by simp only [List.map_toArray, List.map_cons, List.map_nil, e3]) (by go_simp)) ((HP.out w').mono fun e w3 hh => by obtain ⟨v, he, ho, hb⟩ := hh; exact ⟨v, he, ho.rd, hb⟩)
    · intro a w' hF hB hd
      have e4 : Rd w' (a.eval (.tmp 4)) (B) := hd 1 (by decide +kernel)
      exact doesL_val rfl (ex_convert (x := .tmp 4) rfl rfl (by rw [HS.out]; exact (e4).str)) rfl
    · intro a w' hF hB hd
      have e1 : a.eval (.tmp 1) = .pointer (some ⟨w.heap.size, 0, none⟩) := hF 1 (by decide +kernel)
      exact doesL_val rfl (ex_load_part 28 (.tmp 1) rfl w.heap.size 0 e1 L _ ((X1.out.below hB X1.out.lt).range) Tryd.underlying28 rfl (by rw [L264.out]; exact infoNdP)) rfl
    · intro a w' hF hB hd
      have e6 : a.eval (.tmp 6) = .agg L.toArray := hd 3 (by decide +kernel)
      exact doesL_call rfl (ex_call (vs := #[.agg L.toArray]) rfl (by simp only [List.map_toArray, List.map_cons, List.map_nil, e6]) (by go_simp)) ((HR.out w').mono fun e w3 hh => by obtain ⟨v, he, ho, hb⟩ := hh; exact ⟨v, he, ho.rd, hb⟩)
    · intro a w' hF hB hd
      have e7 : Rd w' (a.eval (.tmp 7)) (B) := hd 4 (by decide +kernel)
      exact doesL_val rfl (ex_convert (x := .tmp 7) rfl rfl (by rw [HS.out]; exact (e7).str)) rfl
    · intro a w' hF hB hd
      have e5 : a.eval (.tmp 5) = .string S := hd 2 (by decide +kernel)
      have e8 : a.eval (.tmp 8) = .string S := hd 5 (by decide +kernel)
      exact doesL_val rfl (ex_binOp rfl e5 e8 (by go_simp) (HE.out _)) rfl
    · intro a w' hF hB hd
      have e9 : a.eval (.tmp 9) = .bool true := hd 6 (by decide +kernel)
      exact doesL_val rfl (ex_move rfl e9) rfl
    · intro a w' hF hB hd
      have e10 : a.eval (.tmp 10) = .bool true := hd 7 (by decide +kernel)
      have e1 : a.eval (.tmp 1) = .pointer (some ⟨w.heap.size, 0, none⟩) := hF 1 (by decide +kernel)
      exact doesL_val (wanted_of rfl (yielded_of rfl e10)) (ex_load_part 28 (.tmp 1) rfl w.heap.size 0 e1 L _ ((X1.out.below hB X1.out.lt).range) Tryd.underlying28 rfl (by rw [L264.out]; exact infoNdP)) rfl
    · intro a w' hF hB hd
      have e10 : a.eval (.tmp 10) = .bool true := hd 7 (by decide +kernel)
      have e11 : a.eval (.tmp 11) = .agg L.toArray := hd 8 (by decide +kernel)
      exact doesL_call (wanted_of rfl (yielded_of rfl e10)) (ex_call (vs := #[.agg L.toArray]) rfl (by simp only [List.map_toArray, List.map_cons, List.map_nil, e11]) (by go_simp)) ((HM.out w').mono fun e w3 hh => ⟨_, hh.1, rfl, hh.2⟩)
    · intro a w' hF hB hd
      have e10 : a.eval (.tmp 10) = .bool true := hd 7 (by decide +kernel)
      have e1 : a.eval (.tmp 1) = .pointer (some ⟨w.heap.size, 0, none⟩) := hF 1 (by decide +kernel)
      exact doesL_val (wanted_of rfl (yielded_of rfl e10)) (ex_load_part 28 (.tmp 1) rfl w.heap.size 0 e1 L _ ((X1.out.below hB X1.out.lt).range) Tryd.underlying28 rfl (by rw [L264.out]; exact infoNdP)) rfl
    · intro a w' hF hB hd
      have e10 : a.eval (.tmp 10) = .bool true := hd 7 (by decide +kernel)
      have e13 : a.eval (.tmp 13) = .agg L.toArray := hd 10 (by decide +kernel)
      exact doesL_call (wanted_of rfl (yielded_of rfl e10)) (ex_call (vs := #[.agg L.toArray]) rfl (by simp only [List.map_toArray, List.map_cons, List.map_nil, e13]) (by go_simp)) ((HN.out w').mono fun e w3 hh => ⟨_, hh.1, rfl, hh.2⟩)
    · intro a w' hF hB hd
      have e10 : a.eval (.tmp 10) = .bool true := hd 7 (by decide +kernel)
      have e12 : a.eval (.tmp 12) = .bool E := hd 9 (by decide +kernel)
      have e14 : a.eval (.tmp 14) = .bool E := hd 11 (by decide +kernel)
      exact doesL_val (wanted_of rfl (yielded_of rfl e10)) (ex_binOp rfl e12 e14 (by go_simp) (by go_simp)) rfl
    · intro a w' hF hB hd
      have e10 : a.eval (.tmp 10) = .bool true := hd 7 (by decide +kernel)
      have e15 : a.eval (.tmp 15) = .bool true := hd 12 (by decide +kernel)
      exact doesL_val rfl (ex_pick rfl e10 (by simp [e15])) rfl
    · intro a w' hF hB hd
      have e16 : a.eval (.tmp 16) = .bool true := hd 13 (by decide +kernel)
      exact doesL_val rfl (ex_move rfl e16) rfl
    · intro a w' hF hB hd
      have e17 : a.eval (.tmp 17) = .bool true := hd 14 (by decide +kernel)
      exact doesL_call (wanted_of rfl (yielded_of rfl e17)) (ex_call (vs := #[]) rfl (by simp) (by go_simp)) ((ndawake_any w' (HT.out.below (W1.out.on hB))).mono fun e w3 hh => ⟨_, hh.1, rfl, hh.2⟩)
    · intro a w' hF hB hd
      have e17 : a.eval (.tmp 17) = .bool true := hd 14 (by decide +kernel)
      have e18 : a.eval (.tmp 18) = .bool true := hd 15 (by decide +kernel)
      exact doesL_val rfl (ex_pick rfl e17 (by simp [e18])) rfl
  · intro vs w4 hB hv
    have e9 : vs 16 = .bool true := hv 16 (by decide)
    simp only [List.take_succ_cons, List.take_zero, List.drop_succ_cons, List.drop_zero, putOps, Act.put, List.setIfInBounds_toArray, List.set_cons_zero, List.set_cons_succ, e9]
    have W4 := Lib.hid (W1.out.on hB)
    clear hv e9 hB
    go_wp2_with fail
    go_ret
    exact ⟨rfl, W4.out⟩
set_option maxRecDepth 100000 in
theorem reads (os : Os) {H : Type} (enc : TypeId × Value → H) : ∃ places, DataW.whole enc Tryd.prog ((World.doorLaid Tryd.prog 400 os).forCall (fun _ _ => 0) ⟨#[], #[.agg (RT.pcs ND.zn).toArray], []⟩).memory Tryd.f3.params.toList Rows.nodePutsSpec.vars false (#[.agg (RT.pcs ND.zn).toArray] : Array Value).toList 8 = some ([litNd], [], places) :=
  ⟨[], by kernel_rfl⟩
set_option maxRecDepth 100000 in
theorem wok (os : Os) : Input.okWideB Tryd.prog ((World.doorLaid Tryd.prog 400 os).forCall (fun _ _ => 0) ⟨#[], #[.agg (RT.pcs ND.zn).toArray], []⟩) 3 ⟨#[], #[.agg (RT.pcs ND.zn).toArray], []⟩ = true := by kernel_rfl
set_option linter.unusedVariables false in
set_option maxHeartbeats 1000000 in
set_option maxRecDepth 100000 in
theorem lifted (os : Os) (started : os.Started) (H : Type) (enc : TypeId × Value → H) (F : Stop.Interp) :
    ReturnsInHanded {} Tryd.checked os 3 .any ((OpenSpec.ofChange Rows.nodePutsSpec).preRow enc Tryd.prog Tryd.f3 Rows.nodePutsRow.domain false laidP) (((OpenSpec.ofChange Rows.nodePutsSpec).at F).post enc Tryd.prog Tryd.f3 false true false false) := by
  obtain ⟨places, hx⟩ := reads os enc
  refine returnsInHanded_of_row (C := Tryd.checked) (s := OpenSpec.ofChange Rows.nodePutsSpec) own started (by kernel_rfl) Tryd.func3
    (witness_row_atRef (enc := enc) (C := Tryd.checked) false (World.doorLaid Tryd.prog 400 os) #[.agg (RT.pcs ND.zn).toArray] rfl (by kernel_rfl) (by kernel_rfl) (wok os)
      (OpenSpec.preRow_of_cond 8 hx (by kernel_rfl) (fun k hk => by cases hk) (by kernel_rfl) (doorP_met os _))) ?_
  intro W base args ds gs before hval0 hW _ hcond hsz0 hL _ _
  have hsz : (DataW.weightsEach Tryd.prog (Tryd.f3.params.toList ++ Rows.nodePutsSpec.plain.varTypes Tryd.prog) (ds ++ gs)).all (· ≤ reachBytes) = true := hsz0
  clear hsz0
  have hval : ∀ (j : Nat) t v, Tryd.f3.params[j]? = some t → args[j]? = some v → Value.okWide Tryd.prog W .any base t v := hval0
  have hW' := hW
  obtain ⟨p, q, hA0, hV, rfl, _, _⟩ := hW
  have hA : DataW.TrodAll enc Tryd.prog W 0 (fun _ => true) true Tryd.f3.params.toList args.toList ds p := hA0
  rw [Tryd.params3] at hA hval hsz
  obtain ⟨v0, vs0, d0, ds0, p0, q0, hargs, rfl, rfl, g0, r0⟩ := trodAll_cons hA
  obtain ⟨rfl, rfl, rfl⟩ := trodAll_nil r0
  obtain rfl : args = #[v0] := by cases args; simp_all
  obtain ⟨rfl, rfl⟩ := trodVars_none hV
  obtain ⟨nn0, hh0, rfl⟩ := open_node (hval 0 28 v0 rfl rfl) g0
  clear hA0 hval0
  have hlt := hW'.lt
  refine (walk W (tabP_of_laid hL) nn0 hh0).mono fun e W' ⟨he, hb⟩ => ?_
  subst he
  have hargs : DataW.TrodAll enc Tryd.prog W' 0 (fun b => decide (b < W.heap.size)) true _ _ _ _ := (trodAll_cons_mk (Below.trod laidOut (by kernel_rfl) (of_decide_eq_true (by kernel_rfl)) g0 hb (fun x hx => hlt x (by simp [hx]))) trodAll_mk0)
  simp only [List.append_nil] at hW' hargs
  exact ⟨_, rfl, post_law hW' (trodAll_cons_mk (shut_bool Tryd.underlying4 _) trodAll_mk0) hargs rfl hb⟩
theorem over : Rows.nodePutsRow.holds Tryd.pinned (OpenSpec.ofChange Rows.nodePutsSpec) :=
  OpenClaim.holds_of_cond 3 Tryd.f3 rfl rfl rfl rfl rfl rfl rfl ⟨rfl, rfl, rfl, rfl, rfl⟩ rfl rfl rfl rfl rfl (by kernel_rfl) Tryd.func3 (by kernel_rfl)
    (of_decide_eq_true (by kernel_rfl)) (by unfold Func.isWrapper; first | (rw [if_pos (by decide +kernel)]; kernel_rfl) | (rw [if_neg (by decide +kernel)]; exact ⟨rfl, rfl⟩))
    (fun os started H enc _ F => by rw [OpenClaim.pre_eq_preRow]; exact lifted os started H enc F)

/-- The given statement. -/
theorem proved : Rows.NodePutsCardSaid :=
  Claim7.holds_tied_plain_at .later [] _ _ _ _
    over (fun _ h => by cases h) (by kernel_rfl) (fun _ h => by cases h) nodePuts_row_tie rfl ⟨rfl, rfl⟩ (by kernel_rfl) rfl
    (fun f fn hf hfn => by
      obtain rfl : f = 3 := Option.some.inj ((show Tryd.prog.funcNamed "reliquary/reliquarylaw15.NodePuts" = some 3 by kernel_rfl).symm.trans hf) |>.symm
      obtain rfl : fn = Tryd.f3 := (Option.some.inj (Tryd.func3.symm.trans hfn)).symm
      exact ⟨by kernel_rfl, fun j t ht => by
        rw [Tryd.params3] at ht
        have hm : t ∈ [28] := by simpa using Array.mem_of_getElem? ht
        have hall : ([28].all fun u => !Tryd.prog.wantsStandIn u) = true := by kernel_rfl
        exact (show Tryd.prog.wantsStandIn t = false by simpa using List.all_eq_true.1 hall t hm)⟩)
    (by kernel_rfl)
end Go.Proofs.YtoacdeddkfcllaaDoor.nodePuts
