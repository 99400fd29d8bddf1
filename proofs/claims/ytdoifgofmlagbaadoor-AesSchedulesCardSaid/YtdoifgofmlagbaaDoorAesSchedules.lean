/- AesSchedules: any key has the round keys that the document says; and the law's closed case holds. No condition but that the document's table and the program's hold their constants when the call begins. -/
import Derived.Test.YtdoifgofmlagbaaDoorRows
import Derived.Test.YtdoifgofmlagbaaDoorAesLaws
import Derived.Test.YtdoifgofmlagbaaDoorAesKeysW
import Derived.Test.YtdoifgofmlagbaaDoorDoorAes
import Derived.Test.YtdoifgofmlagbaaDoorTie
import Derived.Test.YtdoifgofmlagbaaDoorCards
import Derived.SevenTiedAt
import Derived.Test.YtdoifgofmlagbaaDoorMem
import Derived.WalkKit
import Derived.ProofKit
import Derived.OpenShut
import Derived.SizedLaws
import Derived.Carry
import Derived.Deep.DeepHandedRow
import Derived.Deep.DeepWitnessRowRef
namespace Go.Proofs.YtdoifgofmlagbaaDoor.aesSchedules
open Go.ChangeShapes Go.WideShapes Go.ChangeAt Go.RowKit
open AM FM
theorem eqTypeG : Tryd.prog.eqGuardType Tryd.prog.depth 29 = false := by kernel_rfl
theorem size16 (w : World) : (sizeOf 28).run Tryd.prog w = .ok 16 w := by kernel_rfl
theorem size1 (w : World) : (sizeOf 5).run Tryd.prog w = .ok 1 w := by kernel_rfl
theorem own : ownKnob Tryd.prog.godebug = none := by kernel_rfl
theorem cells27 : Tryd.prog.cellsOf 27 = 32 := by kernel_rfl
theorem cells5 : Tryd.prog.cellsOf 5 = 1 := by kernel_rfl
set_option linter.unusedVariables false in
set_option maxHeartbeats 4000000 in
set_option maxRecDepth 100000 in
theorem walk (w : World) (ht : TabX w ∧ TabA w) (l0 : List Nat) (h0 : Bytes 32 l0) :
    Calls Tryd.prog 4 #[.agg (row8 l0).toArray] w fun e w' => e = .returned (.bool true) ∧ Below w.heap.size w w' := by
  obtain ⟨S, hS⟩ : ∃ S, S = sched l0 := ⟨_, rfl⟩
  have bS : Bytes 240 S := by rw [hS]; exact sched_bytes h0.2
  have hem := fun w => run_eql_grid (P := Tryd.prog) 29 28 5 15 16 Tryd.underlying29 Tryd.underlying28 Tryd.underlying5 size16 size1 S bS w
  have w1 := (Below.refl w.heap.size w).alloc (Nat.le_refl _) (.cells (row8 l0).toArray 27)
  have N1 := Lib.hid (Blk.new w 27 (row8 l0) _ rfl)
  have K32 := Lib.hid (show (row8 l0).length = 32 by rw [row8_len]; exact h0.1)
  have HP := Lib.hid (fun W (hW : Below w.heap.size w W) => psched_any l0 h0 W (ht.1.below hW))
  have HR := Lib.hid (fun W (hW : Below w.heap.size w W) => asched_any l0 h0 W (ht.2.below hW))
  rw [← hS] at HP HR
  have HX := Lib.hid ht.1
  have B0 := Lib.hid w1
  clear hS bS w1 ht
  go_enter Tryd.func4, Tryd.ntmps4
  go_upto_region 1 with (fail)
  refine wp_region_g (by kernel_rfl) 9 (by decide) (by kernel_rfl) (by kernel_rfl) (by kernel_rfl) ((w.alloc (.cells (row8 l0).toArray 27)).heap.size) (Nat.le_refl _) [.val (.agg (row8 l0).toArray), .val (.agg (row8 S).toArray), .val (.agg (row8 l0).toArray), .val (.agg (row8 S).toArray), .val (.bool true), .val (.bool true), .val (.bool true), .val (.bool true), .val (.bool true)] (fun _ => 9) ?_ ?_
  · refine ⟨?_, ?_, ?_, ?_, ?_, ?_, ?_, ?_, ?_, trivial⟩
    · intro a w' hF hB hd
      have e1 : a.eval (.tmp 1) = .pointer (some ⟨w.heap.size, 0, none⟩) := hF 1 (by decide +kernel)
      exact doesG_wp rfl rfl fun K' hK' => wp_load_mid 27 (.tmp 1) rfl w.heap.size 0 e1 (row8 l0) _ (N1.out.below hB N1.out.lt).range Tryd.underlying27 rfl (by rw [K32.out]; exact infoKey6) (hK' _ _ rfl (Below.refl _ _))
    · intro a w' hF hB hd
      have e3 : a.eval (.tmp 3) = .agg (row8 l0).toArray := hd 0 (by decide +kernel) (.inr (by decide))
      exact doesG_call rfl (ex_call (vs := #[.agg (row8 l0).toArray]) rfl (by simp only [List.map_toArray, List.map_cons, List.map_nil, e3]) (by go_simp)) rfl ((HP.out w' (B0.out.on hB)).mono fun e w2 hh => ⟨_, hh.1, rfl, hh.2⟩)
    · intro a w' hF hB hd
      have e1 : a.eval (.tmp 1) = .pointer (some ⟨w.heap.size, 0, none⟩) := hF 1 (by decide +kernel)
      exact doesG_wp rfl rfl fun K' hK' => wp_load_mid 27 (.tmp 1) rfl w.heap.size 0 e1 (row8 l0) _ (N1.out.below hB N1.out.lt).range Tryd.underlying27 rfl (by rw [K32.out]; exact infoKey6) (hK' _ _ rfl (Below.refl _ _))
    · intro a w' hF hB hd
      have e5 : a.eval (.tmp 5) = .agg (row8 l0).toArray := hd 2 (by decide +kernel) (.inr (by decide))
      exact doesG_call rfl (ex_call (vs := #[.agg (row8 l0).toArray]) rfl (by simp only [List.map_toArray, List.map_cons, List.map_nil, e5]) (by go_simp)) rfl ((HR.out w' (B0.out.on hB)).mono fun e w2 hh => ⟨_, hh.1, rfl, hh.2⟩)
    · intro a w' hF hB hd
      have e4 : a.eval (.tmp 4) = .agg (row8 S).toArray := hd 1 (by decide +kernel) (.inr (by decide))
      have e6 : a.eval (.tmp 6) = .agg (row8 S).toArray := hd 3 (by decide +kernel) (.inr (by decide))
      exact doesG_val rfl (ex_binOp rfl e4 e6 (run_eqGuard_agg (P := Tryd.prog) (w := w') .eql 29 _ _ _ _ eqTypeG) (hem w')) rfl rfl
    · intro a w' hF hB hd
      have e7 : a.eval (.tmp 7) = .bool true := hd 4 (by decide +kernel) (.inr (by decide))
      exact doesG_val rfl (ex_move rfl e7) rfl rfl
    · intro a w' hF hB hd
      have e8 : a.eval (.tmp 8) = .bool true := hd 5 (by decide +kernel) (.inr (by decide))
      exact doesG_call (wanted_of rfl (yielded_of rfl e8)) (ex_call (vs := #[]) rfl (by simp) (by go_simp)) rfl ((aawake_any w' (HX.out.below (B0.out.on hB))).mono fun e w2 hh => ⟨_, hh.1, rfl, hh.2⟩)
    · intro a w' hF hB hd
      have e8 : a.eval (.tmp 8) = .bool true := hd 5 (by decide +kernel) (.inr (by decide))
      have e9 : a.eval (.tmp 9) = .bool true := hd 6 (by decide +kernel) (.inr (by decide))
      exact doesG_val rfl (ex_pick rfl e8 (by simp [e9])) rfl rfl
    · intro a w' hF hB hd
      have e10 : a.eval (.tmp 10) = .bool true := hd 7 (by decide +kernel) (.inr (by decide))
      exact doesG_val rfl (ex_assign rfl e10) rfl rfl
  · intro vs w2 hb hv hap
    have e2 : vs 8 = .bool true := hv 8 (by decide) (by decide)
    simp only [List.take_succ_cons, List.take_zero, List.drop_succ_cons, List.drop_zero, putOps, Act.put, List.setIfInBounds_toArray, List.set_cons_zero, List.set_cons_succ, e2]
    have HB := Lib.hid (B0.out.on hb)
    clear hv hap e2 hb
    go_wp2_with fail
    go_ret
    exact ⟨rfl, HB.out⟩
set_option maxRecDepth 100000 in
theorem reads (os : Os) {H : Type} (enc : TypeId × Value → H) : ∃ places, DataW.whole enc Tryd.prog ((World.doorLaid Tryd.prog 400 os).forCall (fun _ _ => 0) ⟨#[], #[.agg (row8 (List.replicate 32 0)).toArray], []⟩).memory Tryd.f4.params.toList Rows.aesSchedulesSpec.vars false (#[.agg (row8 (List.replicate 32 0)).toArray] : Array Value).toList 8 = some ([lit8 (List.replicate 32 0)], [], places) :=
  ⟨[], by kernel_rfl⟩
set_option linter.unusedVariables false in
set_option maxHeartbeats 1000000 in
set_option maxRecDepth 100000 in
theorem lifted (os : Os) (started : os.Started) (H : Type) (enc : TypeId × Value → H) (F : Stop.Interp) :
    ReturnsInHanded {} Tryd.checked os 4 .any ((OpenSpec.ofChange Rows.aesSchedulesSpec).preRow enc Tryd.prog Tryd.f4 Rows.aesSchedulesRow.domain false laidXA) (((OpenSpec.ofChange Rows.aesSchedulesSpec).at F).post enc Tryd.prog Tryd.f4 false true false false) := by
  obtain ⟨places, hx⟩ := reads os enc
  refine returnsInHanded_of_row (C := Tryd.checked) (s := OpenSpec.ofChange Rows.aesSchedulesSpec) own started (by kernel_rfl) Tryd.func4
    (witness_row_atRef (enc := enc) (C := Tryd.checked) false (World.doorLaid Tryd.prog 400 os) #[.agg (row8 (List.replicate 32 0)).toArray] rfl (by kernel_rfl) (by kernel_rfl) (by kernel_rfl)
      (OpenSpec.preRow_of_cond 8 hx (by kernel_rfl) (fun k hk => by cases hk) (by kernel_rfl) (doorXA_met os _))) ?_
  intro W base args ds gs before hval0 hW _ hcond hsz0 hL _ _
  have hsz : (DataW.weightsEach Tryd.prog (Tryd.f4.params.toList ++ Rows.aesSchedulesSpec.plain.varTypes Tryd.prog) (ds ++ gs)).all (· ≤ reachBytes) = true := hsz0
  clear hsz0
  have hval : ∀ (j : Nat) t v, Tryd.f4.params[j]? = some t → args[j]? = some v → Value.okWide Tryd.prog W .any base t v := hval0
  have hW' := hW
  obtain ⟨p, q, hA0, hV, rfl, _, _⟩ := hW
  have hA : DataW.TrodAll enc Tryd.prog W 0 (fun _ => true) true Tryd.f4.params.toList args.toList ds p := hA0
  rw [Tryd.params4] at hA hval hsz
  obtain ⟨v0, vs0, d0, ds0, p0, q0, hargs, rfl, rfl, g0, r0⟩ := trodAll_cons hA
  obtain ⟨rfl, rfl, rfl⟩ := trodAll_nil r0
  obtain rfl : args = #[v0] := by cases args; simp_all
  obtain ⟨rfl, rfl⟩ := trodVars_none hV
  obtain ⟨l0, h0, rfl, rfl, rfl⟩ := open_row Tryd.underlying27 Tryd.underlying5 cells5 (hval 0 27 v0 rfl rfl) cells27 g0
  clear hA0 hval0
  have hlt := hW'.lt
  refine (walk W (tabsXA_of_laid hL) l0 h0).mono fun e W' ⟨he, hb⟩ => ?_
  subst he
  have hargs : DataW.TrodAll enc Tryd.prog W' 0 (fun b => decide (b < W.heap.size)) true _ _ _ _ := (trodAll_cons_mk (shut_row Tryd.underlying27 Tryd.underlying5 cells5 cells27 h0) trodAll_mk0)
  simp only [List.append_nil] at hW' hargs
  exact ⟨_, rfl, post_law hW' (trodAll_cons_mk (shut_bool Tryd.underlying4 _) trodAll_mk0) hargs rfl hb⟩

theorem over : Rows.aesSchedulesRow.holds Tryd.pinned (OpenSpec.ofChange Rows.aesSchedulesSpec) :=
  OpenClaim.holds_of_cond 4 Tryd.f4 rfl rfl rfl rfl rfl rfl rfl ⟨rfl, rfl, rfl, rfl, rfl⟩ rfl rfl rfl rfl rfl (by kernel_rfl) Tryd.func4 (by kernel_rfl)
    (of_decide_eq_true (by kernel_rfl)) (by unfold Func.isWrapper; first | (rw [if_pos (by decide +kernel)]; kernel_rfl) | (rw [if_neg (by decide +kernel)]; exact ⟨rfl, rfl⟩))
    (fun os started H enc _ F => by rw [OpenClaim.pre_eq_preRow]; exact lifted os started H enc F)

/-- The given statement. -/
theorem proved : Rows.AesSchedulesCardSaid :=
  Claim7.holds_tied_plain_at .later [] _ _ _ _
    over (fun _ h => by cases h) (by kernel_rfl) (fun _ h => by cases h) aesSchedules_row_tie rfl ⟨rfl, rfl⟩ (by kernel_rfl) rfl
    (fun f fn hf hfn => by
      obtain rfl : f = 4 := Option.some.inj ((show Tryd.prog.funcNamed "reliquary/reliquarylaw06.AesSchedules" = some 4 by kernel_rfl).symm.trans hf) |>.symm
      obtain rfl : fn = Tryd.f4 := (Option.some.inj (Tryd.func4.symm.trans hfn)).symm
      exact ⟨by kernel_rfl, fun j t ht => by
        rw [Tryd.params4] at ht
        have hm : t ∈ [27] := by simpa using Array.mem_of_getElem? ht
        have hall : ([27].all fun u => !Tryd.prog.wantsStandIn u) = true := by kernel_rfl
        exact (show Tryd.prog.wantsStandIn t = false by simpa using List.all_eq_true.1 hall t hm)⟩)
    (by kernel_rfl)
end Go.Proofs.YtdoifgofmlagbaaDoor.aesSchedules
