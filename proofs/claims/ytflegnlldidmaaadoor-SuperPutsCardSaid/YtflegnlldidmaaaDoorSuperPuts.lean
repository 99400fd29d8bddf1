/- SuperPuts: any geometry has the bytes and the sum that the document says, or it is told why not; and the law's closed case holds. No condition but that the listed tables hold their constants when the call begins. -/
import Derived.Test.YtflegnlldidmaaaDoorRows
import Derived.Test.YtflegnlldidmaaaDoorSuAwake
import Derived.Test.YtflegnlldidmaaaDoorSuSum
import Derived.Test.YtflegnlldidmaaaDoorShaD
import Derived.Test.YtflegnlldidmaaaDoorTie
import Derived.Test.YtflegnlldidmaaaDoorCards
import Derived.SevenTiedAt
import Derived.Test.YtflegnlldidmaaaDoorGeoArg
import Derived.WalkKit
import Derived.ProofKit
import Derived.OpenShut
import Derived.SizedLaws
import Derived.Carry
import Derived.Deep.DeepHandedRow
import Derived.Deep.DeepWitnessRowRef
namespace Go.Proofs.YtflegnlldidmaaaDoor.superPuts
open Go.ChangeShapes Go.WideShapes Go.ChangeAt Go.RowKit
open SM SU
theorem own : ownKnob Tryd.prog.godebug = none := by kernel_rfl
set_option linter.unusedVariables false in
set_option maxHeartbeats 4000000 in
set_option maxRecDepth 100000 in
theorem walk (w : World) (ht : Tab w ∧ TabP w) (a0 b0 : Int) (w0 : (Lit.int .i64 a0).wf = true) (x0 : (Lit.int .i64 b0).wf = true) :
    Calls Tryd.prog 3 #[.agg #[.int .i64 a0, .int .i64 b0]] w fun e w' => e = .returned (.bool true) ∧ Below w.heap.size w w' := by
  obtain ⟨TK, TP⟩ := ht
  obtain ⟨PT, hPT⟩ : ∃ P, P = put a0 b0 := ⟨_, rfl⟩
  obtain ⟨SM, hSM⟩ : ∃ P, P = sum a0 b0 := ⟨_, rfl⟩
  obtain ⟨E, hE⟩ : ∃ P, P = perr a0 b0 := ⟨_, rfl⟩
  have bSM : Bytes 32 SM := by
    rw [hSM]; unfold sum
    split
    · exact sha_bytes _
    · exact bytes_zero 32
  have hss := fun w => run_eql_sum bSM bSM w
  simp only [decide_true] at hss
  have HP := Lib.hid (fun W => suput_any a0 b0 W)
  have HQ := Lib.hid (fun W => rsuput_any a0 b0 W)
  have HU := Lib.hid (fun W (hW : Below w.heap.size w W) => susum_any a0 b0 W (TP.below hW))
  have HR := Lib.hid (fun W (hW : Below w.heap.size w W) => rsusum_any a0 b0 W (TK.below hW))
  rw [← hPT, ← hE] at HP HQ
  rw [← hSM] at HU HR
  obtain ⟨S, hS⟩ : ∃ S, S = bstr PT := ⟨_, rfl⟩
  have HS := Lib.hid hS
  obtain ⟨pl, hpl⟩ : ∃ n, n = PT.length := ⟨_, rfl⟩
  have HPL := Lib.hid hpl
  have X1 := Lib.hid (Blk.new w 23 [.int .i64 a0, .int .i64 b0] _ rfl)
  have W1 := Lib.hid ((Below.refl w.heap.size w).alloc (Nat.le_refl _) (.cells [Value.int .i64 a0, .int .i64 b0].toArray 23))
  clear hPT hSM hE bSM TK TP w0 x0 hS hpl
  go_enter Tryd.func3, Tryd.ntmps3
  go_upto_region 3 with (first
    | (refine wpList_load_mid rfl 23 (.tmp 1) rfl w.heap.size 0 rfl [.int .i64 a0, .int .i64 b0] _ X1.out.range Tryd.underlying23 rfl infoGeo ?_)
    | (go_at_call 6; (with_reducible refine (HP.out _).mono ?_); rintro e w2 ⟨v3, rfl, o2, b2⟩; have W2 := Lib.hid (W1.out.on b2); have X2 := Lib.hid (X1.out.below b2 X1.out.lt); obtain ⟨ia, ic, rfl, _⟩ := o2.rd.shape; rw [← HPL.out] at o2 ⊢; have V2 := Lib.hid o2.rd; clear o2 b2)
    | (refine wpList_load_mid rfl 23 (.tmp 1) rfl w.heap.size 0 rfl [.int .i64 a0, .int .i64 b0] _ X2.out.range Tryd.underlying23 rfl infoGeo ?_)
    | (go_at_call 7; (with_reducible refine (HQ.out _).mono ?_); rintro e wz ⟨v5, rfl, o3, b3⟩; have WB := Lib.hid (W2.out.on b3); have XG := Lib.hid (X2.out.below b3 X2.out.lt); have V3 := Lib.hid (V2.out.below b3); obtain ⟨ja, jc, rfl, _⟩ := o3.rd.shape; rw [← HPL.out] at o3 ⊢; have V5 := Lib.hid o3.rd; clear o3 b3))
  refine wp_region_g (by kernel_rfl) 21 (by decide) (by kernel_rfl) (by kernel_rfl) (by kernel_rfl) (wz.heap.size) (Nat.le_refl _) [.val (.slice ia pl ic), .val (.string S), .val (.slice ja pl jc), .val (.string S), .val (.bool true), .val (.bool true), .val (.int .i64 E), .val (.int .i64 E), .val (.bool true), .val (.bool true), .val (.bool true), .val (.agg #[.int .i64 a0, .int .i64 b0]), .val (.agg (row8 SM).toArray), .val (.agg #[.int .i64 a0, .int .i64 b0]), .val (.agg (row8 SM).toArray), .val (.bool true), .val (.bool true), .val (.bool true), .val (.bool true), .val (.bool true), .val (.bool true)] (fun _ => 21) ?_ ?_
  · refine ⟨?_, ?_, ?_, ?_, ?_, ?_, ?_, ?_, ?_, ?_, ?_, ?_, ?_, ?_, ?_, ?_, ?_, ?_, ?_, ?_, ?_, trivial⟩
    · intro a w' hF hB hd
      have e3 : a.eval (.tmp 3) = .slice ia pl ic := hF 3 (by decide +kernel)
      exact doesG_val rfl (ex_move rfl e3) rfl rfl
    · intro a w' hF hB hd
      have e17 : a.eval (.tmp 17) = .slice ia pl ic := hd 0 (by decide +kernel) (.inr (by decide))
      exact doesG_val rfl (ex_convert rfl e17 ((by rw [HS.out]; exact (V3.out.below hB).str))) rfl rfl
    · intro a w' hF hB hd
      have e5 : a.eval (.tmp 5) = .slice ja pl jc := hF 5 (by decide +kernel)
      exact doesG_val rfl (ex_move rfl e5) rfl rfl
    · intro a w' hF hB hd
      have e19 : a.eval (.tmp 19) = .slice ja pl jc := hd 2 (by decide +kernel) (.inr (by decide))
      exact doesG_val rfl (ex_convert rfl e19 ((by rw [HS.out]; exact (V5.out.below hB).str))) rfl rfl
    · intro a w' hF hB hd
      have e18 : a.eval (.tmp 18) = .string S := hd 1 (by decide +kernel) (.inr (by decide))
      have e20 : a.eval (.tmp 20) = .string S := hd 3 (by decide +kernel) (.inr (by decide))
      exact doesG_val rfl (ex_binOp rfl e18 e20 (by go_simp) (by rw [run_eql_str]; simp)) rfl rfl
    · intro a w' hF hB hd
      have e21 : a.eval (.tmp 21) = .bool true := hd 4 (by decide +kernel) (.inr (by decide))
      exact doesG_val rfl (ex_move rfl e21) rfl rfl
    · intro a w' hF hB hd
      have e22 : a.eval (.tmp 22) = .bool true := hd 5 (by decide +kernel) (.inr (by decide))
      have e4 : a.eval (.tmp 4) = .int .i64 E := hF 4 (by decide +kernel)
      exact doesG_val (wanted_of rfl (yielded_of rfl e22)) (ex_move rfl e4) rfl rfl
    · intro a w' hF hB hd
      have e22 : a.eval (.tmp 22) = .bool true := hd 5 (by decide +kernel) (.inr (by decide))
      have e6 : a.eval (.tmp 6) = .int .i64 E := hF 6 (by decide +kernel)
      exact doesG_val (wanted_of rfl (yielded_of rfl e22)) (ex_move rfl e6) rfl rfl
    · intro a w' hF hB hd
      have e22 : a.eval (.tmp 22) = .bool true := hd 5 (by decide +kernel) (.inr (by decide))
      have e23 : a.eval (.tmp 23) = .int .i64 E := hd 6 (by decide +kernel) (.inr (by decide))
      have e24 : a.eval (.tmp 24) = .int .i64 E := hd 7 (by decide +kernel) (.inr (by decide))
      exact doesG_val (wanted_of rfl (yielded_of rfl e22)) (ex_binOp rfl e23 e24 (by go_simp) (by go_simp)) rfl rfl
    · intro a w' hF hB hd
      have e22 : a.eval (.tmp 22) = .bool true := hd 5 (by decide +kernel) (.inr (by decide))
      have e25 : a.eval (.tmp 25) = .bool true := hd 8 (by decide +kernel) (.inr (by decide))
      exact doesG_val rfl (ex_pick rfl e22 (by simp [e25])) rfl rfl
    · intro a w' hF hB hd
      have e26 : a.eval (.tmp 26) = .bool true := hd 9 (by decide +kernel) (.inr (by decide))
      exact doesG_val rfl (ex_move rfl e26) rfl rfl
    · intro a w' hF hB hd
      have e27 : a.eval (.tmp 27) = .bool true := hd 10 (by decide +kernel) (.inr (by decide))
      have e1 : a.eval (.tmp 1) = .pointer (some ⟨w.heap.size, 0, none⟩) := hF 1 (by decide +kernel)
      exact doesG_val (wanted_of rfl (yielded_of rfl e27)) (ex_geo rfl e1 (XG.out.below hB XG.out.lt)) rfl rfl
    · intro a w' hF hB hd
      have e27 : a.eval (.tmp 27) = .bool true := hd 10 (by decide +kernel) (.inr (by decide))
      have e28 : a.eval (.tmp 28) = .agg #[.int .i64 a0, .int .i64 b0] := hd 11 (by decide +kernel) (.inr (by decide))
      exact doesG_call (wanted_of rfl (yielded_of rfl e27)) (ex_call (vs := #[.agg #[.int .i64 a0, .int .i64 b0]]) rfl (by simp only [List.map_toArray, List.map_cons, List.map_nil, e28]) (by go_simp)) rfl ((HU.out w' (WB.out.on hB)).mono fun e w2 hh => ⟨_, hh.1, rfl, hh.2⟩)
    · intro a w' hF hB hd
      have e27 : a.eval (.tmp 27) = .bool true := hd 10 (by decide +kernel) (.inr (by decide))
      have e1 : a.eval (.tmp 1) = .pointer (some ⟨w.heap.size, 0, none⟩) := hF 1 (by decide +kernel)
      exact doesG_val (wanted_of rfl (yielded_of rfl e27)) (ex_geo rfl e1 (XG.out.below hB XG.out.lt)) rfl rfl
    · intro a w' hF hB hd
      have e27 : a.eval (.tmp 27) = .bool true := hd 10 (by decide +kernel) (.inr (by decide))
      have e30 : a.eval (.tmp 30) = .agg #[.int .i64 a0, .int .i64 b0] := hd 13 (by decide +kernel) (.inr (by decide))
      exact doesG_call (wanted_of rfl (yielded_of rfl e27)) (ex_call (vs := #[.agg #[.int .i64 a0, .int .i64 b0]]) rfl (by simp only [List.map_toArray, List.map_cons, List.map_nil, e30]) (by go_simp)) rfl ((HR.out w' (WB.out.on hB)).mono fun e w2 hh => ⟨_, hh.1, rfl, hh.2⟩)
    · intro a w' hF hB hd
      have e27 : a.eval (.tmp 27) = .bool true := hd 10 (by decide +kernel) (.inr (by decide))
      have e29 : a.eval (.tmp 29) = .agg (row8 SM).toArray := hd 12 (by decide +kernel) (.inr (by decide))
      have e31 : a.eval (.tmp 31) = .agg (row8 SM).toArray := hd 14 (by decide +kernel) (.inr (by decide))
      exact doesG_val (wanted_of rfl (yielded_of rfl e27)) (ex_binOp rfl e29 e31 (run_eqGuard_agg (P := Tryd.prog) (w := w') .eql 31 _ _ _ _ eqTypeS) (hss w')) rfl rfl
    · intro a w' hF hB hd
      have e27 : a.eval (.tmp 27) = .bool true := hd 10 (by decide +kernel) (.inr (by decide))
      have e32 : a.eval (.tmp 32) = .bool true := hd 15 (by decide +kernel) (.inr (by decide))
      exact doesG_val rfl (ex_pick rfl e27 (by simp [e32])) rfl rfl
    · intro a w' hF hB hd
      have e33 : a.eval (.tmp 33) = .bool true := hd 16 (by decide +kernel) (.inr (by decide))
      exact doesG_val rfl (ex_move rfl e33) rfl rfl
    · intro a w' hF hB hd
      have e34 : a.eval (.tmp 34) = .bool true := hd 17 (by decide +kernel) (.inr (by decide))
      exact doesG_call (wanted_of rfl (yielded_of rfl e34)) (ex_call (vs := #[]) rfl (by simp) (by go_simp)) rfl ((suawake_any w').mono fun e w2 hh => ⟨_, hh.1, rfl, hh.2⟩)
    · intro a w' hF hB hd
      have e34 : a.eval (.tmp 34) = .bool true := hd 17 (by decide +kernel) (.inr (by decide))
      have e35 : a.eval (.tmp 35) = .bool true := hd 18 (by decide +kernel) (.inr (by decide))
      exact doesG_val rfl (ex_pick rfl e34 (by simp [e35])) rfl rfl
    · intro a w' hF hB hd
      have e36 : a.eval (.tmp 36) = .bool true := hd 19 (by decide +kernel) (.inr (by decide))
      exact doesG_val rfl (ex_assign rfl e36) rfl rfl
  · intro vs w2 hb hv hap
    have e2 : vs 20 = .bool true := hv 20 (by decide) (by decide)
    simp only [List.take_succ_cons, List.take_zero, List.drop_succ_cons, List.drop_zero, putOps, Act.put, List.setIfInBounds_toArray, List.set_cons_zero, List.set_cons_succ, e2]
    have HB := Lib.hid (WB.out.on hb)
    clear hv hap e2 hb
    go_wp2_with fail
    go_ret
    exact ⟨rfl, HB.out⟩
set_option maxRecDepth 100000 in
theorem reads (os : Os) {H : Type} (enc : TypeId × Value → H) : ∃ places, DataW.whole enc Tryd.prog ((World.doorLaid Tryd.prog 400 os).forCall (fun _ _ => 0) ⟨#[], #[.agg #[.int .i64 0, .int .i64 0]], []⟩).memory Tryd.f3.params.toList Rows.superPutsSpec.vars false (#[.agg #[.int .i64 0, .int .i64 0]] : Array Value).toList 8 = some ([.agg [.lit (.int .i64 0), .lit (.int .i64 0)]], [], places) :=
  ⟨[], by kernel_rfl⟩
set_option linter.unusedVariables false in
set_option maxHeartbeats 1000000 in
set_option maxRecDepth 100000 in
theorem lifted (os : Os) (started : os.Started) (H : Type) (enc : TypeId × Value → H) (F : Stop.Interp) :
    ReturnsInHanded {} Tryd.checked os 3 .any ((OpenSpec.ofChange Rows.superPutsSpec).preRow enc Tryd.prog Tryd.f3 Rows.superPutsRow.domain false laidB) (((OpenSpec.ofChange Rows.superPutsSpec).at F).post enc Tryd.prog Tryd.f3 false true false false) := by
  obtain ⟨places, hx⟩ := reads os enc
  refine returnsInHanded_of_row (C := Tryd.checked) (s := OpenSpec.ofChange Rows.superPutsSpec) own started (by kernel_rfl) Tryd.func3
    (witness_row_atRef (enc := enc) (C := Tryd.checked) false (World.doorLaid Tryd.prog 400 os) #[.agg #[.int .i64 0, .int .i64 0]] rfl (by kernel_rfl) (by kernel_rfl) (by kernel_rfl)
      (OpenSpec.preRow_of_cond 8 hx (by kernel_rfl) (fun k hk => by cases hk) (by kernel_rfl) (doorB_met os _))) ?_
  intro W base args ds gs before hval0 hW _ hcond hsz0 hL _ _
  have hsz : (DataW.weightsEach Tryd.prog (Tryd.f3.params.toList ++ Rows.superPutsSpec.plain.varTypes Tryd.prog) (ds ++ gs)).all (· ≤ reachBytes) = true := hsz0
  clear hsz0
  have hval : ∀ (j : Nat) t v, Tryd.f3.params[j]? = some t → args[j]? = some v → Value.okWide Tryd.prog W .any base t v := hval0
  have hW' := hW
  obtain ⟨p, q, hA0, hV, rfl, _, _⟩ := hW
  have hA : DataW.TrodAll enc Tryd.prog W 0 (fun _ => true) true Tryd.f3.params.toList args.toList ds p := hA0
  rw [Tryd.params3] at hA hval hsz
  obtain ⟨v0, vs0, d0, ds0, p0, q0, hargs, rfl, rfl, g0, r0⟩ := trodAll_cons hA
  obtain ⟨rfl, rfl, rfl⟩ := trodAll_nil r0
  obtain rfl : args = #[v0] := by cases args; simp_all
  obtain ⟨rfl, rfl⟩ := trodVars_none hV
  obtain ⟨a0, b0, w0, x0, rfl, rfl, rfl⟩ := open_geo (hval 0 23 v0 rfl rfl) g0
  clear hA0 hval0
  have hlt := hW'.lt
  refine (walk W (tabs_of_laid hL) a0 b0 w0 x0).mono fun e W' ⟨he, hb⟩ => ?_
  subst he
  have hargs : DataW.TrodAll enc Tryd.prog W' 0 (fun b => decide (b < W.heap.size)) true _ _ _ _ := (trodAll_cons_mk (shut_geo w0 x0) trodAll_mk0)
  simp only [List.append_nil] at hW' hargs
  exact ⟨_, rfl, post_law hW' (trodAll_cons_mk (shut_bool Tryd.underlying4 _) trodAll_mk0) hargs rfl hb⟩
theorem over : Rows.superPutsRow.holds Tryd.pinned (OpenSpec.ofChange Rows.superPutsSpec) :=
  OpenClaim.holds_of_cond 3 Tryd.f3 rfl rfl rfl rfl rfl rfl rfl ⟨rfl, rfl, rfl, rfl, rfl⟩ rfl rfl rfl rfl rfl (by kernel_rfl) Tryd.func3 (by kernel_rfl)
    (of_decide_eq_true (by kernel_rfl)) (by unfold Func.isWrapper; first | (rw [if_pos (by decide +kernel)]; kernel_rfl) | (rw [if_neg (by decide +kernel)]; exact ⟨rfl, rfl⟩))
    (fun os started H enc _ F => by rw [OpenClaim.pre_eq_preRow]; exact lifted os started H enc F)

/-- The given statement. -/
theorem proved : Rows.SuperPutsCardSaid :=
  Claim7.holds_tied_plain_at .later [] _ _ _ _
    over (fun _ h => by cases h) (by kernel_rfl) (fun _ h => by cases h) superPuts_row_tie rfl ⟨rfl, rfl⟩ (by kernel_rfl) rfl
    (fun f fn hf hfn => by
      obtain rfl : f = 3 := Option.some.inj ((show Tryd.prog.funcNamed "reliquary/reliquarylaw13.SuperPuts" = some 3 by kernel_rfl).symm.trans hf) |>.symm
      obtain rfl : fn = Tryd.f3 := (Option.some.inj (Tryd.func3.symm.trans hfn)).symm
      exact ⟨by kernel_rfl, fun j t ht => by
        rw [Tryd.params3] at ht
        have hm : t ∈ [23] := by simpa using Array.mem_of_getElem? ht
        have hall : ([23].all fun u => !Tryd.prog.wantsStandIn u) = true := by kernel_rfl
        exact (show Tryd.prog.wantsStandIn t = false by simpa using List.all_eq_true.1 hall t hm)⟩)
    (by kernel_rfl)
end Go.Proofs.YtflegnlldidmaaaDoor.superPuts
