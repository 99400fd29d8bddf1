/- KdfLabels: any key and label make the key that the document says; and the law's closed case holds. No condition but that the document's table and the program's hold their constants when the call begins. -/
import Derived.Test.YteklchmbeiclcaaDoorRows
import Derived.Test.YteklchmbeiclcaaDoorKdfLaws
import Derived.Test.YteklchmbeiclcaaDoorKdfLabel
import Derived.Test.YteklchmbeiclcaaDoorShaD
import Derived.Test.YteklchmbeiclcaaDoorTie
import Derived.Test.YteklchmbeiclcaaDoorCards
import Derived.SevenTiedAt
import Derived.Test.YteklchmbeiclcaaDoorMem
import Derived.WalkKit
import Derived.ProofKit
import Derived.OpenShut
import Derived.SizedLaws
import Derived.Carry
import Derived.Deep.DeepHandedRow
import Derived.Deep.DeepWitnessRowRef
namespace Go.Proofs.YteklchmbeiclcaaDoor.kdfLabels
open Go.ChangeShapes Go.WideShapes Go.ChangeAt Go.RowKit

theorem own : ownKnob Tryd.prog.godebug = none := by kernel_rfl
theorem cells33 : Tryd.prog.cellsOf 33 = 32 := by kernel_rfl
theorem cells5 : Tryd.prog.cellsOf 5 = 1 := by kernel_rfl
set_option linter.unusedVariables false in
set_option maxHeartbeats 4000000 in
set_option maxRecDepth 100000 in
theorem walk (w : World) (ht : Tab w ∧ TabP w) (l0 : List Nat) (h0 : Bytes 32 l0) (a1 : ByteArray) (w1 : a1.size ≤ maxLen) (k1 : a1.size ≤ 140737488351232) :
    Calls Tryd.prog 4 #[.agg (row8 l0).toArray, .string a1] w fun e w' => e = .returned (.bool true) ∧ Below w.heap.size w w' := by
  obtain ⟨M, hM⟩ : ∃ M, M = SM.klabel l0 (sb a1) := ⟨_, rfl⟩
  have bM : Bytes 32 M := by rw [hM]; exact sha_bytes _
  have hem := fun w => run_eql_key bM bM w
  simp only [decide_true] at hem
  have w1 := (Below.refl w.heap.size w).alloc (Nat.le_refl _) (.cells (row8 l0).toArray 33)
  have N1 := Lib.hid (Blk.new w 33 (row8 l0) _ rfl)
  have K32 := Lib.hid (show (row8 l0).length = 32 by rw [row8_len]; exact h0.1)
  have HT1 := Lib.hid (ht.2.below w1)
  have HPL := Lib.hid (fun W (hW : Below (w.alloc (.cells (row8 l0).toArray 33)).heap.size (w.alloc (.cells (row8 l0).toArray 33)) W) => klabel_any l0 h0 a1 (by omega) W (ht.2.below (w1.on hW)))
  have HRL := Lib.hid (fun W (hW : Below (w.alloc (.cells (row8 l0).toArray 33)).heap.size (w.alloc (.cells (row8 l0).toArray 33)) W) => rlabel_any l0 h0 a1 (by omega) W (ht.1.below (w1.on hW)))
  rw [← hM] at HPL HRL
  have W1 := Lib.hid w1
  clear hM bM w1 ht
  go_enter Tryd.func4, Tryd.ntmps4
  go_upto_region 1 with (fail)
  refine wp_region_g (by kernel_rfl) 11 (by decide) (by kernel_rfl) (by kernel_rfl) (by kernel_rfl) ((w.alloc (.cells (row8 l0).toArray 33)).heap.size) (Nat.le_refl _) [.val (.agg (row8 l0).toArray), .val (.string a1), .val (.agg (row8 M).toArray), .val (.agg (row8 l0).toArray), .val (.string a1), .val (.agg (row8 M).toArray), .val (.bool true), .val (.bool true), .val (.bool true), .val (.bool true), .val (.bool true)] (fun _ => 11) ?_ ?_
  · refine ⟨?_, ?_, ?_, ?_, ?_, ?_, ?_, ?_, ?_, ?_, ?_, trivial⟩
    · intro a w' hF hB hd
      have e2 : a.eval (.tmp 2) = .pointer (some ⟨w.heap.size, 0, none⟩) := hF 2 (by decide +kernel)
      exact doesG_wp rfl rfl fun K' hK' => wp_load_mid 33 (.tmp 2) rfl w.heap.size 0 e2 (row8 l0) _ (N1.out.below hB N1.out.lt).range Tryd.underlying33 rfl (by rw [K32.out]; exact infoK) (hK' _ _ rfl (Below.refl _ _))
    · intro a w' hF hB hd
      have e1 : a.eval (.tmp 1) = .string a1 := hF 1 (by decide +kernel)
      exact doesG_val rfl (ex_move rfl e1) rfl rfl
    · intro a w' hF hB hd
      have e5 : a.eval (.tmp 5) = .agg (row8 l0).toArray := hd 0 (by decide +kernel) (.inr (by decide))
      have e6 : a.eval (.tmp 6) = .string a1 := hd 1 (by decide +kernel) (.inr (by decide))
      exact doesG_call rfl (ex_call (vs := #[.agg (row8 l0).toArray, .string a1]) rfl (by simp only [List.map_toArray, List.map_cons, List.map_nil, e5, e6]) (by go_simp)) rfl ((HPL.out w' hB).mono fun e w2 hh => ⟨_, hh.1, rfl, hh.2⟩)
    · intro a w' hF hB hd
      have e2 : a.eval (.tmp 2) = .pointer (some ⟨w.heap.size, 0, none⟩) := hF 2 (by decide +kernel)
      exact doesG_wp rfl rfl fun K' hK' => wp_load_mid 33 (.tmp 2) rfl w.heap.size 0 e2 (row8 l0) _ (N1.out.below hB N1.out.lt).range Tryd.underlying33 rfl (by rw [K32.out]; exact infoK) (hK' _ _ rfl (Below.refl _ _))
    · intro a w' hF hB hd
      have e1 : a.eval (.tmp 1) = .string a1 := hF 1 (by decide +kernel)
      exact doesG_val rfl (ex_move rfl e1) rfl rfl
    · intro a w' hF hB hd
      have e8 : a.eval (.tmp 8) = .agg (row8 l0).toArray := hd 3 (by decide +kernel) (.inr (by decide))
      have e9 : a.eval (.tmp 9) = .string a1 := hd 4 (by decide +kernel) (.inr (by decide))
      exact doesG_call rfl (ex_call (vs := #[.agg (row8 l0).toArray, .string a1]) rfl (by simp only [List.map_toArray, List.map_cons, List.map_nil, e8, e9]) (by go_simp)) rfl ((HRL.out w' hB).mono fun e w2 hh => ⟨_, hh.1, rfl, hh.2⟩)
    · intro a w' hF hB hd
      have e7 : a.eval (.tmp 7) = .agg (row8 M).toArray := hd 2 (by decide +kernel) (.inr (by decide))
      have e10 : a.eval (.tmp 10) = .agg (row8 M).toArray := hd 5 (by decide +kernel) (.inr (by decide))
      exact doesG_val rfl (ex_binOp rfl e7 e10 (run_eqGuard_agg (P := Tryd.prog) (w := w') .eql 33 _ _ _ _ eqTypeK) (hem w')) rfl rfl
    · intro a w' hF hB hd
      have e11 : a.eval (.tmp 11) = .bool true := hd 6 (by decide +kernel) (.inr (by decide))
      exact doesG_val rfl (ex_move rfl e11) rfl rfl
    · intro a w' hF hB hd
      have e12 : a.eval (.tmp 12) = .bool true := hd 7 (by decide +kernel) (.inr (by decide))
      exact doesG_call (wanted_of rfl (yielded_of rfl e12)) (ex_call (vs := #[]) rfl (by simp) (by go_simp)) rfl ((kawake_any w' (HT1.out.below hB)).mono fun e w2 hh => ⟨_, hh.1, rfl, hh.2⟩)
    · intro a w' hF hB hd
      have e12 : a.eval (.tmp 12) = .bool true := hd 7 (by decide +kernel) (.inr (by decide))
      have e13 : a.eval (.tmp 13) = .bool true := hd 8 (by decide +kernel) (.inr (by decide))
      exact doesG_val rfl (ex_pick rfl e12 (by simp [e13])) rfl rfl
    · intro a w' hF hB hd
      have e14 : a.eval (.tmp 14) = .bool true := hd 9 (by decide +kernel) (.inr (by decide))
      exact doesG_val rfl (ex_assign rfl e14) rfl rfl
  · intro vs w2 hb hv hap
    have e2 : vs 10 = .bool true := hv 10 (by decide) (by decide)
    simp only [List.take_succ_cons, List.take_zero, List.drop_succ_cons, List.drop_zero, putOps, Act.put, List.setIfInBounds_toArray, List.set_cons_zero, List.set_cons_succ, e2]
    have HB := Lib.hid (W1.out.on hb)
    clear hv hap e2 hb
    go_wp2_with fail
    go_ret
    exact ⟨rfl, HB.out⟩
set_option maxRecDepth 100000 in
theorem reads (os : Os) {H : Type} (enc : TypeId × Value → H) : ∃ places, DataW.whole enc Tryd.prog ((World.doorLaid Tryd.prog 400 os).forCall (fun _ _ => 0) ⟨#[], #[.agg (row8 (List.replicate 32 0)).toArray, .string ByteArray.empty], []⟩).memory Tryd.f4.params.toList Rows.kdfLabelsSpec.vars false (#[.agg (row8 (List.replicate 32 0)).toArray, .string ByteArray.empty] : Array Value).toList 8 = some ([lit8 (List.replicate 32 0), .lit (.string [])], [], places) :=
  ⟨[], by kernel_rfl⟩
set_option linter.unusedVariables false in
set_option maxHeartbeats 1000000 in
set_option maxRecDepth 100000 in
theorem lifted (os : Os) (started : os.Started) (H : Type) (enc : TypeId × Value → H) (F : Stop.Interp) :
    ReturnsInHanded {} Tryd.checked os 4 .any ((OpenSpec.ofChange Rows.kdfLabelsSpec).preRow enc Tryd.prog Tryd.f4 Rows.kdfLabelsRow.domain false laidB) (((OpenSpec.ofChange Rows.kdfLabelsSpec).at F).post enc Tryd.prog Tryd.f4 false true false false) := by
  obtain ⟨places, hx⟩ := reads os enc
  refine returnsInHanded_of_row (C := Tryd.checked) (s := OpenSpec.ofChange Rows.kdfLabelsSpec) own started (by kernel_rfl) Tryd.func4
    (witness_row_atRef (enc := enc) (C := Tryd.checked) false (World.doorLaid Tryd.prog 400 os) #[.agg (row8 (List.replicate 32 0)).toArray, .string ByteArray.empty] rfl (by kernel_rfl) (by kernel_rfl) (by kernel_rfl)
      (OpenSpec.preRow_of_cond 8 hx (by kernel_rfl) (fun k hk => by cases hk) (by kernel_rfl) (doorB_met os _))) ?_
  intro W base args ds gs before hval0 hW _ hcond hsz0 hL _ _
  have hsz : (DataW.weightsEach Tryd.prog (Tryd.f4.params.toList ++ Rows.kdfLabelsSpec.plain.varTypes Tryd.prog) (ds ++ gs)).all (· ≤ reachBytes) = true := hsz0
  clear hsz0
  have hval : ∀ (j : Nat) t v, Tryd.f4.params[j]? = some t → args[j]? = some v → Value.okWide Tryd.prog W .any base t v := hval0
  have hW' := hW
  obtain ⟨p, q, hA0, hV, rfl, _, _⟩ := hW
  have hA : DataW.TrodAll enc Tryd.prog W 0 (fun _ => true) true Tryd.f4.params.toList args.toList ds p := hA0
  rw [Tryd.params4] at hA hval hsz
  obtain ⟨v0, vs0, d0, ds0, p0, q0, hargs, rfl, rfl, g0, r0⟩ := trodAll_cons hA
  obtain ⟨v1, vs1, d1, ds1, p1, q1, rfl, rfl, rfl, g1, r1⟩ := trodAll_cons r0
  obtain ⟨rfl, rfl, rfl⟩ := trodAll_nil r1
  obtain rfl : args = #[v0, v1] := by cases args; simp_all
  obtain ⟨rfl, rfl⟩ := trodVars_none hV
  obtain ⟨l0, h0, rfl, rfl, rfl⟩ := open_row Tryd.underlying33 Tryd.underlying5 cells5 (hval 0 33 v0 rfl rfl) cells33 g0
  obtain ⟨a1, rfl, rfl, rfl, w1⟩ := Go.ChangeMaps.open_string Tryd.underlying9 (hval 1 9 v1 rfl rfl) g1
  have k1 : a1.size ≤ 140737488351232 := by have := sized_string hsz (j := 1) (t := 9) rfl rfl; simpa [reachBytes] using this
  clear hA0 hval0
  have hlt := hW'.lt
  refine (walk W (tabs_of_laid hL) l0 h0 a1 w1 k1).mono fun e W' ⟨he, hb⟩ => ?_
  subst he
  have hargs : DataW.TrodAll enc Tryd.prog W' 0 (fun b => decide (b < W.heap.size)) true _ _ _ _ := (trodAll_cons_mk (shut_row Tryd.underlying33 Tryd.underlying5 cells5 cells33 h0) (trodAll_cons_mk (Go.ChangeMaps.shut_string Tryd.underlying9 w1) trodAll_mk0))
  simp only [List.append_nil] at hW' hargs
  exact ⟨_, rfl, post_law hW' (trodAll_cons_mk (shut_bool Tryd.underlying4 _) trodAll_mk0) hargs rfl hb⟩

theorem over : Rows.kdfLabelsRow.holds Tryd.pinned (OpenSpec.ofChange Rows.kdfLabelsSpec) :=
  OpenClaim.holds_of_cond 4 Tryd.f4 rfl rfl rfl rfl rfl rfl rfl ⟨rfl, rfl, rfl, rfl, rfl⟩ rfl rfl rfl rfl rfl (by kernel_rfl) Tryd.func4 (by kernel_rfl)
    (of_decide_eq_true (by kernel_rfl)) (by unfold Func.isWrapper; first | (rw [if_pos (by decide +kernel)]; kernel_rfl) | (rw [if_neg (by decide +kernel)]; exact ⟨rfl, rfl⟩))
    (fun os started H enc _ F => by rw [OpenClaim.pre_eq_preRow]; exact lifted os started H enc F)

/-- The given statement. -/
theorem proved : Rows.KdfLabelsCardSaid :=
  Claim7.holds_tied_plain_at .later [] _ _ _ _
    over (fun _ h => by cases h) (by kernel_rfl) (fun _ h => by cases h) kdfLabels_row_tie rfl ⟨rfl, rfl⟩ (by kernel_rfl) rfl
    (fun f fn hf hfn => by
      obtain rfl : f = 4 := Option.some.inj ((show Tryd.prog.funcNamed "reliquary/reliquarylaw05.KdfLabels" = some 4 by kernel_rfl).symm.trans hf) |>.symm
      obtain rfl : fn = Tryd.f4 := (Option.some.inj (Tryd.func4.symm.trans hfn)).symm
      exact ⟨by kernel_rfl, fun j t ht => by
        rw [Tryd.params4] at ht
        have hm : t ∈ [33, 9] := by simpa using Array.mem_of_getElem? ht
        have hall : ([33, 9].all fun u => !Tryd.prog.wantsStandIn u) = true := by kernel_rfl
        exact (show Tryd.prog.wantsStandIn t = false by simpa using List.all_eq_true.1 hall t hm)⟩)
    (by kernel_rfl)
end Go.Proofs.YteklchmbeiclcaaDoor.kdfLabels
