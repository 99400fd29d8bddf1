/- SlotsPuts: any table has the bytes and the sum that the document says, and as many slots used; and the law's closed case holds. No condition but that the listed tables hold their constants when the call begins. -/
import Derived.Test.YtbepchikngoknaaDoorRows
import Derived.Test.YtbepchikngoknaaDoorSlAwake
import Derived.Test.YtbepchikngoknaaDoorSlSumR
import Derived.Test.YtbepchikngoknaaDoorSlDY
import Derived.Test.YtbepchikngoknaaDoorSlPPut
import Derived.Test.YtbepchikngoknaaDoorWrapLaws
import Derived.Test.YtbepchikngoknaaDoorDoorSlots
import Derived.Test.YtbepchikngoknaaDoorTie
import Derived.Test.YtbepchikngoknaaDoorCards
import Derived.SevenTiedAt
import Derived.Test.YtbepchikngoknaaDoorTabArg
import Derived.WalkKit
import Derived.ProofKit
import Derived.OpenShut
import Derived.SizedLaws
import Derived.Carry
import Derived.Deep.DeepHandedRow
import Derived.Deep.DeepWitnessRowRef
namespace Go.Proofs.YtbepchikngoknaaDoor.slotsPuts
open Go.ChangeShapes Go.WideShapes Go.ChangeAt Go.RowKit
open SM WM SL
theorem run_eql_i64 (a b : Int) (w : World) : (binOp .eql 3 (.int .i64 a) (.int .i64 b)).run Tryd.prog w = .ok (.bool (decide (a = b))) w := by
  go_simp
  rw [Bool.eq_iff_iff]; simp
theorem own : ownKnob Tryd.prog.godebug = none := by kernel_rfl
set_option linter.unusedVariables false in
set_option maxRecDepth 100000 in
set_option maxHeartbeats 2000000 in
theorem walk (w : World) (ht : TabX w ∧ Tab w ∧ TabP w) (l0 : List SL.Slot) (h0 : SL.Tok l0) :
    Calls Tryd.prog 3 #[.agg (tbc l0).toArray] w fun e w' => e = .returned (.bool true) ∧ Below w.heap.size w w' := by
  obtain ⟨TX, TK, TP⟩ := ht
  obtain ⟨L, hL⟩ : ∃ L, L = tbc l0 := ⟨_, rfl⟩
  obtain ⟨PT, hPT⟩ : ∃ P, P = put l0 := ⟨_, rfl⟩
  obtain ⟨SM, hSM⟩ : ∃ P, P = sha (put l0) := ⟨_, rfl⟩
  obtain ⟨U, hU⟩ : ∃ U, U = used l0 := ⟨_, rfl⟩
  have bSM : Bytes 32 SM := by rw [hSM]; exact sha_bytes _
  have hss := fun w => run_eql_sum bSM bSM w
  simp only [decide_true] at hss
  have L656 := Lib.hid (show L.length = 656 by rw [hL]; exact tbc_len h0)
  have HP := Lib.hid (fun W => sput_any l0 h0 W)
  have HR := Lib.hid (fun W => rtput_any l0 h0 W)
  have HS := Lib.hid (fun W (hW : Below w.heap.size w W) => ssum_any l0 h0 W (TP.below hW))
  have HT := Lib.hid (fun W (hW : Below w.heap.size w W) => rtsum_any l0 h0 W (TK.below hW))
  have HU := Lib.hid (fun W => sused_any l0 h0 W)
  have HV := Lib.hid (fun W => rused_any l0 h0 W)
  have HAW := Lib.hid (fun W (hW : Below w.heap.size w W) => sawake_any W (TX.below hW) (TP.below hW))
  rw [← hL, ← hPT] at HP HR
  rw [← hL, ← hSM] at HS HT
  rw [← hL, ← hU] at HU HV
  rw [← hL]
  clear hL hPT hSM hU bSM TX TK TP h0
  go_enter Tryd.func3, Tryd.ntmps3
  go_upto_region 1 with fail
  obtain ⟨w1, hw1⟩ : ∃ x, x = w.alloc (.cells L.toArray 30) := ⟨_, rfl⟩
  have T1 := Lib.hid (show Blk w1 w.heap.size 30 L by rw [hw1]; exact Blk.new w _ L _ rfl)
  have W1 := Lib.hid (show Below w.heap.size w w1 by rw [hw1]; exact (Below.refl _ _).alloc (Nat.le_refl _) _)
  rw [← hw1]
  clear hw1
  refine wp_region_g (by kernel_rfl) 25 (by decide) (by kernel_rfl) (by kernel_rfl) (by kernel_rfl) (w1.heap.size) (Nat.le_refl _) [.val (.agg L.toArray), .own (PT), .val (.string (bstr PT)), .val (.agg L.toArray), .own (PT), .val (.string (bstr PT)), .val (.bool true), .val (.bool true), .val (.agg L.toArray), .val (.agg (row8 SM).toArray), .val (.agg L.toArray), .val (.agg (row8 SM).toArray), .val (.bool true), .val (.bool true), .val (.bool true), .val (.agg L.toArray), .val (.int .i64 (U : Int)), .val (.agg L.toArray), .val (.int .i64 (U : Int)), .val (.bool true), .val (.bool true), .val (.bool true), .val (.bool true), .val (.bool true), .val (.bool true)] (fun _ => 25) ?_ ?_
  · refine ⟨?_, ?_, ?_, ?_, ?_, ?_, ?_, ?_, ?_, ?_, ?_, ?_, ?_, ?_, ?_, ?_, ?_, ?_, ?_, ?_, ?_, ?_, ?_, ?_, ?_, trivial⟩
    · intro a w' hF hB hd
      have e1 : a.eval (.tmp 1) = .pointer (some ⟨w.heap.size, 0, none⟩) := hF 1 (by decide +kernel)
      exact doesG_wp rfl rfl fun K' hK' => wp_load_mid 30 (.tmp 1) rfl w.heap.size 0 e1 L _ (T1.out.below hB T1.out.lt).range Tryd.underlying30 rfl (by rw [L656.out]; exact infoTb) (hK' _ _ rfl (Below.refl _ _))
    · intro a w' hF hB hd
      have e3 : a.eval (.tmp 3) = .agg L.toArray := hd 0 (by decide +kernel) (.inr (by decide))
      exact doesG_made rfl (ex_call (vs := #[.agg L.toArray]) rfl (by simp only [List.map_toArray, List.map_cons, List.map_nil, e3]) (by go_simp)) ((HP.out w').mono fun e w2 hh => by obtain ⟨v, he, ho, hb⟩ := hh; exact ⟨v, he, ho.lower hB.size, hb, fun g hg => ho.from g (own_held' ho.rd hg)⟩)
    · intro a w' hF hB hd
      have e4 : Own w' w1.heap.size (a.eval (.tmp 4)) (PT) := hd 1 (by decide +kernel) (.inr (by decide))
      exact doesG_val rfl (ex_convert rfl rfl e4.rd.str) rfl rfl
    · intro a w' hF hB hd
      have e1 : a.eval (.tmp 1) = .pointer (some ⟨w.heap.size, 0, none⟩) := hF 1 (by decide +kernel)
      exact doesG_wp rfl rfl fun K' hK' => wp_load_mid 30 (.tmp 1) rfl w.heap.size 0 e1 L _ (T1.out.below hB T1.out.lt).range Tryd.underlying30 rfl (by rw [L656.out]; exact infoTb) (hK' _ _ rfl (Below.refl _ _))
    · intro a w' hF hB hd
      have e6 : a.eval (.tmp 6) = .agg L.toArray := hd 3 (by decide +kernel) (.inr (by decide))
      exact doesG_made rfl (ex_call (vs := #[.agg L.toArray]) rfl (by simp only [List.map_toArray, List.map_cons, List.map_nil, e6]) (by go_simp)) ((HR.out w').mono fun e w2 hh => by obtain ⟨v, he, ho, hb⟩ := hh; exact ⟨v, he, ho.lower hB.size, hb, fun g hg => ho.from g (own_held' ho.rd hg)⟩)
    · intro a w' hF hB hd
      have e7 : Own w' w1.heap.size (a.eval (.tmp 7)) (PT) := hd 4 (by decide +kernel) (.inr (by decide))
      exact doesG_val rfl (ex_convert rfl rfl e7.rd.str) rfl rfl
    · intro a w' hF hB hd
      have e5 : a.eval (.tmp 5) = .string (bstr PT) := hd 2 (by decide +kernel) (.inr (by decide))
      have e8 : a.eval (.tmp 8) = .string (bstr PT) := hd 5 (by decide +kernel) (.inr (by decide))
      exact doesG_val rfl (ex_binOp rfl e5 e8 (by go_simp) (by rw [run_eql_str, decide_eq_true rfl])) rfl rfl
    · intro a w' hF hB hd
      have e9 : a.eval (.tmp 9) = .bool true := hd 6 (by decide +kernel) (.inr (by decide))
      exact doesG_val rfl (ex_move rfl e9) rfl rfl
    · intro a w' hF hB hd
      have e10 : a.eval (.tmp 10) = .bool true := hd 7 (by decide +kernel) (.inr (by decide))
      have e1 : a.eval (.tmp 1) = .pointer (some ⟨w.heap.size, 0, none⟩) := hF 1 (by decide +kernel)
      exact doesG_wp (wanted_of rfl (yielded_of rfl e10)) rfl fun K' hK' => wp_load_mid 30 (.tmp 1) rfl w.heap.size 0 e1 L _ (T1.out.below hB T1.out.lt).range Tryd.underlying30 rfl (by rw [L656.out]; exact infoTb) (hK' _ _ rfl (Below.refl _ _))
    · intro a w' hF hB hd
      have e10 : a.eval (.tmp 10) = .bool true := hd 7 (by decide +kernel) (.inr (by decide))
      have e11 : a.eval (.tmp 11) = .agg L.toArray := hd 8 (by decide +kernel) (.inr (by decide))
      exact doesG_call (wanted_of rfl (yielded_of rfl e10)) (ex_call (vs := #[.agg L.toArray]) rfl (by simp only [List.map_toArray, List.map_cons, List.map_nil, e11]) (by go_simp)) rfl ((HS.out w' (W1.out.on hB)).mono fun e w2 hh => ⟨_, hh.1, rfl, hh.2⟩)
    · intro a w' hF hB hd
      have e10 : a.eval (.tmp 10) = .bool true := hd 7 (by decide +kernel) (.inr (by decide))
      have e1 : a.eval (.tmp 1) = .pointer (some ⟨w.heap.size, 0, none⟩) := hF 1 (by decide +kernel)
      exact doesG_wp (wanted_of rfl (yielded_of rfl e10)) rfl fun K' hK' => wp_load_mid 30 (.tmp 1) rfl w.heap.size 0 e1 L _ (T1.out.below hB T1.out.lt).range Tryd.underlying30 rfl (by rw [L656.out]; exact infoTb) (hK' _ _ rfl (Below.refl _ _))
    · intro a w' hF hB hd
      have e10 : a.eval (.tmp 10) = .bool true := hd 7 (by decide +kernel) (.inr (by decide))
      have e13 : a.eval (.tmp 13) = .agg L.toArray := hd 10 (by decide +kernel) (.inr (by decide))
      exact doesG_call (wanted_of rfl (yielded_of rfl e10)) (ex_call (vs := #[.agg L.toArray]) rfl (by simp only [List.map_toArray, List.map_cons, List.map_nil, e13]) (by go_simp)) rfl ((HT.out w' (W1.out.on hB)).mono fun e w2 hh => ⟨_, hh.1, rfl, hh.2⟩)
    · intro a w' hF hB hd
      have e10 : a.eval (.tmp 10) = .bool true := hd 7 (by decide +kernel) (.inr (by decide))
      have e12 : a.eval (.tmp 12) = .agg (row8 SM).toArray := hd 9 (by decide +kernel) (.inr (by decide))
      have e14 : a.eval (.tmp 14) = .agg (row8 SM).toArray := hd 11 (by decide +kernel) (.inr (by decide))
      exact doesG_val (wanted_of rfl (yielded_of rfl e10)) (ex_binOp rfl e12 e14 (run_eqGuard_agg (P := Tryd.prog) (w := w') .eql 26 _ _ _ _ eqTypeSW) (hss w')) rfl rfl
    · intro a w' hF hB hd
      have e10 : a.eval (.tmp 10) = .bool true := hd 7 (by decide +kernel) (.inr (by decide))
      have e15 : a.eval (.tmp 15) = .bool true := hd 12 (by decide +kernel) (.inr (by decide))
      exact doesG_val rfl (ex_pick rfl e10 (by simp [e15])) rfl rfl
    · intro a w' hF hB hd
      have e16 : a.eval (.tmp 16) = .bool true := hd 13 (by decide +kernel) (.inr (by decide))
      exact doesG_val rfl (ex_move rfl e16) rfl rfl
    · intro a w' hF hB hd
      have e17 : a.eval (.tmp 17) = .bool true := hd 14 (by decide +kernel) (.inr (by decide))
      have e1 : a.eval (.tmp 1) = .pointer (some ⟨w.heap.size, 0, none⟩) := hF 1 (by decide +kernel)
      exact doesG_wp (wanted_of rfl (yielded_of rfl e17)) rfl fun K' hK' => wp_load_mid 30 (.tmp 1) rfl w.heap.size 0 e1 L _ (T1.out.below hB T1.out.lt).range Tryd.underlying30 rfl (by rw [L656.out]; exact infoTb) (hK' _ _ rfl (Below.refl _ _))
    · intro a w' hF hB hd
      have e17 : a.eval (.tmp 17) = .bool true := hd 14 (by decide +kernel) (.inr (by decide))
      have e18 : a.eval (.tmp 18) = .agg L.toArray := hd 15 (by decide +kernel) (.inr (by decide))
      exact doesG_call (wanted_of rfl (yielded_of rfl e17)) (ex_call (vs := #[.agg L.toArray]) rfl (by simp only [List.map_toArray, List.map_cons, List.map_nil, e18]) (by go_simp)) rfl ((HU.out w').mono fun e w2 hh => ⟨_, hh.1, rfl, hh.2⟩)
    · intro a w' hF hB hd
      have e17 : a.eval (.tmp 17) = .bool true := hd 14 (by decide +kernel) (.inr (by decide))
      have e1 : a.eval (.tmp 1) = .pointer (some ⟨w.heap.size, 0, none⟩) := hF 1 (by decide +kernel)
      exact doesG_wp (wanted_of rfl (yielded_of rfl e17)) rfl fun K' hK' => wp_load_mid 30 (.tmp 1) rfl w.heap.size 0 e1 L _ (T1.out.below hB T1.out.lt).range Tryd.underlying30 rfl (by rw [L656.out]; exact infoTb) (hK' _ _ rfl (Below.refl _ _))
    · intro a w' hF hB hd
      have e17 : a.eval (.tmp 17) = .bool true := hd 14 (by decide +kernel) (.inr (by decide))
      have e20 : a.eval (.tmp 20) = .agg L.toArray := hd 17 (by decide +kernel) (.inr (by decide))
      exact doesG_call (wanted_of rfl (yielded_of rfl e17)) (ex_call (vs := #[.agg L.toArray]) rfl (by simp only [List.map_toArray, List.map_cons, List.map_nil, e20]) (by go_simp)) rfl ((HV.out w').mono fun e w2 hh => ⟨_, hh.1, rfl, hh.2⟩)
    · intro a w' hF hB hd
      have e17 : a.eval (.tmp 17) = .bool true := hd 14 (by decide +kernel) (.inr (by decide))
      have e19 : a.eval (.tmp 19) = .int .i64 (U : Int) := hd 16 (by decide +kernel) (.inr (by decide))
      have e21 : a.eval (.tmp 21) = .int .i64 (U : Int) := hd 18 (by decide +kernel) (.inr (by decide))
      exact doesG_val (wanted_of rfl (yielded_of rfl e17)) (ex_binOp rfl e19 e21 (by go_simp) (by rw [run_eql_i64, decide_eq_true rfl])) rfl rfl
    · intro a w' hF hB hd
      have e17 : a.eval (.tmp 17) = .bool true := hd 14 (by decide +kernel) (.inr (by decide))
      have e22 : a.eval (.tmp 22) = .bool true := hd 19 (by decide +kernel) (.inr (by decide))
      exact doesG_val rfl (ex_pick rfl e17 (by simp [e22])) rfl rfl
    · intro a w' hF hB hd
      have e23 : a.eval (.tmp 23) = .bool true := hd 20 (by decide +kernel) (.inr (by decide))
      exact doesG_val rfl (ex_move rfl e23) rfl rfl
    · intro a w' hF hB hd
      have e24 : a.eval (.tmp 24) = .bool true := hd 21 (by decide +kernel) (.inr (by decide))
      exact doesG_call (wanted_of rfl (yielded_of rfl e24)) (ex_call (vs := #[]) rfl (by simp) (by go_simp)) rfl ((HAW.out w' (W1.out.on hB)).mono fun e w2 hh => ⟨_, hh.1, rfl, hh.2⟩)
    · intro a w' hF hB hd
      have e24 : a.eval (.tmp 24) = .bool true := hd 21 (by decide +kernel) (.inr (by decide))
      have e25 : a.eval (.tmp 25) = .bool true := hd 22 (by decide +kernel) (.inr (by decide))
      exact doesG_val rfl (ex_pick rfl e24 (by simp [e25])) rfl rfl
    · intro a w' hF hB hd
      have e26 : a.eval (.tmp 26) = .bool true := hd 23 (by decide +kernel) (.inr (by decide))
      exact doesG_val rfl (ex_assign rfl e26) rfl rfl
  · intro vs wz hb hv hap
    have ee : vs 24 = .bool true := hv 24 (by decide) (by decide)
    simp only [List.take_succ_cons, List.take_zero, List.drop_succ_cons, List.drop_zero, putOps, Act.put, List.setIfInBounds_toArray, List.set_cons_zero, List.set_cons_succ, ee]
    have WZ := Lib.hid (W1.out.on hb)
    clear hv hap ee hb
    go_wp2_with fail
    go_ret
    exact ⟨rfl, WZ.out⟩
set_option maxRecDepth 100000 in
theorem reads (os : Os) {H : Type} (enc : TypeId × Value → H) : ∃ places, DataW.whole enc Tryd.prog ((World.doorLaid Tryd.prog 400 os).forCall (fun _ _ => 0) ⟨#[], #[.agg (tbc SL.zero).toArray], []⟩).memory Tryd.f3.params.toList Rows.slotsPutsSpec.vars false (#[.agg (tbc SL.zero).toArray] : Array Value).toList 8 = some ([litT SL.zero], [], places) :=
  ⟨[], by kernel_rfl⟩
set_option maxRecDepth 100000 in
theorem wok (os : Os) : Input.okWideB Tryd.prog ((World.doorLaid Tryd.prog 400 os).forCall (fun _ _ => 0) ⟨#[], #[.agg (tbc SL.zero).toArray], []⟩) 3 ⟨#[], #[.agg (tbc SL.zero).toArray], []⟩ = true := by kernel_rfl
set_option linter.unusedVariables false in
set_option maxHeartbeats 1000000 in
set_option maxRecDepth 100000 in
theorem lifted (os : Os) (started : os.Started) (H : Type) (enc : TypeId × Value → H) (F : Stop.Interp) :
    ReturnsInHanded {} Tryd.checked os 3 .any ((OpenSpec.ofChange Rows.slotsPutsSpec).preRow enc Tryd.prog Tryd.f3 Rows.slotsPutsRow.domain false laidXKPs) (((OpenSpec.ofChange Rows.slotsPutsSpec).at F).post enc Tryd.prog Tryd.f3 false true false false) := by
  obtain ⟨places, hx⟩ := reads os enc
  refine returnsInHanded_of_row (C := Tryd.checked) (s := OpenSpec.ofChange Rows.slotsPutsSpec) own started (by kernel_rfl) Tryd.func3
    (witness_row_atRef (enc := enc) (C := Tryd.checked) false (World.doorLaid Tryd.prog 400 os) #[.agg (tbc SL.zero).toArray] rfl (by kernel_rfl) (by kernel_rfl) (wok os)
      (OpenSpec.preRow_of_cond 8 hx (by kernel_rfl) (fun k hk => by cases hk) (by kernel_rfl) (doorXKPs_met os _))) ?_
  intro W base args ds gs before hval0 hW _ hcond hsz0 hL _ _
  have hsz : (DataW.weightsEach Tryd.prog (Tryd.f3.params.toList ++ Rows.slotsPutsSpec.plain.varTypes Tryd.prog) (ds ++ gs)).all (· ≤ reachBytes) = true := hsz0
  clear hsz0
  have hval : ∀ (j : Nat) t v, Tryd.f3.params[j]? = some t → args[j]? = some v → Value.okWide Tryd.prog W .any base t v := hval0
  have hW' := hW
  obtain ⟨p, q, hA0, hV, rfl, _, _⟩ := hW
  have hA : DataW.TrodAll enc Tryd.prog W 0 (fun _ => true) true Tryd.f3.params.toList args.toList ds p := hA0
  rw [Tryd.params3] at hA hval hsz
  obtain ⟨v0, vs0, d0, ds0, p0, q0, hargs, rfl, rfl, g0, r0⟩ := trodAll_cons hA
  obtain ⟨rfl, rfl, rfl⟩ := trodAll_nil r0
  obtain rfl : args = #[v0] := by cases args; simp_all
  obtain ⟨rfl, rfl⟩ := trodVars_none hV
  obtain ⟨l0, h0, rfl, rfl, rfl⟩ := open_table (hval 0 30 v0 rfl rfl) g0
  clear hA0 hval0
  have hlt := hW'.lt
  refine (walk W (tabsXKPs_of_laid hL) l0 h0).mono fun e W' ⟨he, hb⟩ => ?_
  subst he
  have hargs : DataW.TrodAll enc Tryd.prog W' 0 (fun b => decide (b < W.heap.size)) true _ _ _ _ := (trodAll_cons_mk (shut_table h0) trodAll_mk0)
  simp only [List.append_nil] at hW' hargs
  exact ⟨_, rfl, post_law hW' (trodAll_cons_mk (shut_bool Tryd.underlying4 _) trodAll_mk0) hargs rfl hb⟩
theorem over : Rows.slotsPutsRow.holds Tryd.pinned (OpenSpec.ofChange Rows.slotsPutsSpec) :=
  OpenClaim.holds_of_cond 3 Tryd.f3 rfl rfl rfl rfl rfl rfl rfl ⟨rfl, rfl, rfl, rfl, rfl⟩ rfl rfl rfl rfl rfl (by kernel_rfl) Tryd.func3 (by kernel_rfl)
    (of_decide_eq_true (by kernel_rfl)) (by unfold Func.isWrapper; first | (rw [if_pos (by decide +kernel)]; kernel_rfl) | (rw [if_neg (by decide +kernel)]; exact ⟨rfl, rfl⟩))
    (fun os started H enc _ F => by rw [OpenClaim.pre_eq_preRow]; exact lifted os started H enc F)

/-- The given statement. -/
theorem proved : Rows.SlotsPutsCardSaid :=
  Claim7.holds_tied_plain_at .later [] _ _ _ _
    over (fun _ h => by cases h) (by kernel_rfl) (fun _ h => by cases h) slotsPuts_row_tie rfl ⟨rfl, rfl⟩ (by kernel_rfl) rfl
    (fun f fn hf hfn => by
      obtain rfl : f = 3 := Option.some.inj ((show Tryd.prog.funcNamed "reliquary/reliquarylaw12.SlotsPuts" = some 3 by kernel_rfl).symm.trans hf) |>.symm
      obtain rfl : fn = Tryd.f3 := (Option.some.inj (Tryd.func3.symm.trans hfn)).symm
      exact ⟨by kernel_rfl, fun j t ht => by
        rw [Tryd.params3] at ht
        have hm : t ∈ [30] := by simpa using Array.mem_of_getElem? ht
        have hall : ([30].all fun u => !Tryd.prog.wantsStandIn u) = true := by kernel_rfl
        exact (show Tryd.prog.wantsStandIn t = false by simpa using List.all_eq_true.1 hall t hm)⟩)
    (by kernel_rfl)
end Go.Proofs.YtbepchikngoknaaDoor.slotsPuts
