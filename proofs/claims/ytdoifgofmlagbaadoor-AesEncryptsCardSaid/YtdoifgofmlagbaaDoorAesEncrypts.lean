/- AesEncrypts: any sixteen bytes are encrypted with any key as the document says; and the law's closed case holds. No condition but that the document's table and the program's hold their constants when the call begins. -/
import Derived.Test.YtdoifgofmlagbaaDoorRows
import Derived.Test.YtdoifgofmlagbaaDoorAesLaws
import Derived.Test.YtdoifgofmlagbaaDoorAesKeysW
import Derived.Test.YtdoifgofmlagbaaDoorDoorAes
import Derived.Test.YtdoifgofmlagbaaDoorTie
import Derived.Test.YtdoifgofmlagbaaDoorCards
import Derived.SevenTiedAt
import Derived.Test.YtdoifgofmlagbaaDoorMem
import Derived.WalkKit
import Derived.ProofKit
import Derived.OpenShut
import Derived.SizedLaws
import Derived.Carry
import Derived.Deep.DeepHandedRow
import Derived.Deep.DeepWitnessRowRef
namespace Go.Proofs.YtdoifgofmlagbaaDoor.aesEncrypts
open Go.ChangeShapes Go.WideShapes Go.ChangeAt Go.RowKit
open AM FM
theorem eqType16 : Tryd.prog.eqGuardType Tryd.prog.depth 28 = false := by kernel_rfl
theorem size1 (w : World) : (sizeOf 5).run Tryd.prog w = .ok 1 w := by kernel_rfl
theorem own : ownKnob Tryd.prog.godebug = none := by kernel_rfl
theorem cells27 : Tryd.prog.cellsOf 27 = 32 := by kernel_rfl
theorem cells28 : Tryd.prog.cellsOf 28 = 16 := by kernel_rfl
theorem cells5 : Tryd.prog.cellsOf 5 = 1 := by kernel_rfl
set_option linter.unusedVariables false in
set_option maxHeartbeats 4000000 in
set_option maxRecDepth 100000 in
theorem walk (w : World) (ht : TabX w ∧ TabA w) (l0 : List Nat) (h0 : Bytes 32 l0) (l1 : List Nat) (h1 : Bytes 16 l1) :
    Calls Tryd.prog 5 #[.agg (row8 l0).toArray, .agg (row8 l1).toArray] w fun e w' => e = .returned (.bool true) ∧ Below w.heap.size w w' := by
  obtain ⟨S, hS⟩ : ∃ S, S = sched l0 := ⟨_, rfl⟩
  have bS : Bytes 240 S := by rw [hS]; exact sched_bytes h0.2
  obtain ⟨E, hE⟩ : ∃ E, E = enc (rk S) l1 := ⟨_, rfl⟩
  have bE : Bytes 16 E := by rw [hE]; exact enc_bytes (fun n => rk_bytes bS.2 n) _
  have hem := fun w => run_eql_row (P := Tryd.prog) 28 5 16 Tryd.underlying28 Tryd.underlying5 size1 E E bE bE w
  simp only [decide_true] at hem
  have w1 := (Below.refl w.heap.size w).alloc (Nat.le_refl _) (.cells (row8 l0).toArray 27)
  have w2 := w1.alloc w1.size (.cells (row8 l1).toArray 28)
  have N1 := Lib.hid ((Blk.new w 27 (row8 l0) _ rfl).alloc (.cells (row8 l1).toArray 28))
  have M1 := Lib.hid (Blk.new (w.alloc (.cells (row8 l0).toArray 27)) 28 (row8 l1) (w.heap.size + 1) (by simp))
  have K32 := Lib.hid (show (row8 l0).length = 32 by rw [row8_len]; exact h0.1)
  have R16 := Lib.hid (show (row8 l1).length = 16 by rw [row8_len]; exact h1.1)
  have HNW := Lib.hid (cph_new l0 h0 _ (ht.1.below w2))
  have H0 := Lib.hid h0
  have H1 := Lib.hid h1
  have HX := Lib.hid ht.1
  have HA := Lib.hid ht.2
  have W2 := Lib.hid w2
  have HSS := Lib.hid hS
  have HEE := Lib.hid hE
  have HBS := Lib.hid bS
  clear hS bS hE bE w1 w2 ht
  go_enter Tryd.func5, Tryd.ntmps5
  go_upto_region 2 with (first
    | (refine wpList_load_mid rfl 27 (.tmp 2) rfl w.heap.size 0 rfl (row8 l0) _ N1.out.range Tryd.underlying27 rfl (by rw [K32.out]; exact infoKey6) ?_)
    | (go_at_call 18; (with_reducible refine HNW.out.mono ?_); rintro e w4 ⟨c, hc, rfl, c4, b4⟩; have C4 := Lib.hid c4; have B0 := Lib.hid (W2.out.on b4); have N4 := Lib.hid (N1.out.below b4 N1.out.lt); have M4 := Lib.hid (M1.out.below b4 M1.out.lt); clear b4 c4 hc))
  have HX4 := Lib.hid (HX.out.below B0.out)
  have HP := Lib.hid (fun W (hW : Below w4.heap.size w4 W) => cph_enc l0 c l1 H1.out W (C4.out.below hW) (HX4.out.below hW))
  have HS := Lib.hid (fun W (hW : Below w4.heap.size w4 W) => asched_any l0 H0.out W (HA.out.below (B0.out.on hW)))
  have HE := Lib.hid (fun W (hW : Below w4.heap.size w4 W) => aenc_any S HBS.out l1 H1.out W (HA.out.below (B0.out.on hW)))
  rw [← HSS.out] at HP HS
  rw [← HEE.out] at HP HE
  refine wp_region_g (by kernel_rfl) 16 (by decide) (by kernel_rfl) (by kernel_rfl) (by kernel_rfl) (w4.heap.size) (Nat.le_refl _) [.val (.pointer (some ⟨c, 0, none⟩)), .val (.bool true), .val (.bool true), .val (.pointer (some ⟨c, 0, none⟩)), .val (.agg (row8 l1).toArray), .val (.agg (row8 E).toArray), .val (.agg (row8 l0).toArray), .val (.agg (row8 S).toArray), .val (.agg (row8 l1).toArray), .val (.agg (row8 E).toArray), .val (.bool true), .val (.bool true), .val (.bool true), .val (.bool true), .val (.bool true), .val (.bool true)] (fun _ => 16) ?_ ?_
  · refine ⟨?_, ?_, ?_, ?_, ?_, ?_, ?_, ?_, ?_, ?_, ?_, ?_, ?_, ?_, ?_, ?_, trivial⟩
    · intro a w' hF hB hd
      have e5 : a.eval (.tmp 5) = .pointer (some ⟨c, 0, none⟩) := hF 5 (by decide +kernel)
      exact doesG_val rfl (ex_move rfl e5) rfl rfl
    · intro a w' hF hB hd
      have e8 : a.eval (.tmp 8) = .pointer (some ⟨c, 0, none⟩) := hd 0 (by decide +kernel) (.inr (by decide))
      exact doesG_val rfl (ex_binOp rfl e8 rfl (by go_simp) (by go_simp)) rfl rfl
    · intro a w' hF hB hd
      have e9 : a.eval (.tmp 9) = .bool true := hd 1 (by decide +kernel) (.inr (by decide))
      exact doesG_val rfl (ex_move rfl e9) rfl rfl
    · intro a w' hF hB hd
      have e10 : a.eval (.tmp 10) = .bool true := hd 2 (by decide +kernel) (.inr (by decide))
      have e5 : a.eval (.tmp 5) = .pointer (some ⟨c, 0, none⟩) := hF 5 (by decide +kernel)
      exact doesG_val (wanted_of rfl (yielded_of rfl e10)) (ex_move rfl e5) rfl rfl
    · intro a w' hF hB hd
      have e10 : a.eval (.tmp 10) = .bool true := hd 2 (by decide +kernel) (.inr (by decide))
      have e3 : a.eval (.tmp 3) = .pointer (some ⟨w.heap.size + 1, 0, none⟩) := hF 3 (by decide +kernel)
      exact doesG_wp (wanted_of rfl (yielded_of rfl e10)) rfl fun K' hK' => wp_load_mid 28 (.tmp 3) rfl (w.heap.size + 1) 0 e3 (row8 l1) _ (M4.out.below hB M4.out.lt).range Tryd.underlying28 rfl (by rw [R16.out]; exact info16) (hK' _ _ rfl (Below.refl _ _))
    · intro a w' hF hB hd
      have e10 : a.eval (.tmp 10) = .bool true := hd 2 (by decide +kernel) (.inr (by decide))
      have e11 : a.eval (.tmp 11) = .pointer (some ⟨c, 0, none⟩) := hd 3 (by decide +kernel) (.inr (by decide))
      have e12 : a.eval (.tmp 12) = .agg (row8 l1).toArray := hd 4 (by decide +kernel) (.inr (by decide))
      exact doesG_call (wanted_of rfl (yielded_of rfl e10)) (ex_call (vs := #[.pointer (some ⟨c, 0, none⟩), .agg (row8 l1).toArray]) rfl (by simp only [List.map_toArray, List.map_cons, List.map_nil, e11, e12]) (by go_simp)) rfl ((HP.out w' hB).mono fun e w2 hh => ⟨_, hh.1, rfl, hh.2⟩)
    · intro a w' hF hB hd
      have e10 : a.eval (.tmp 10) = .bool true := hd 2 (by decide +kernel) (.inr (by decide))
      have e2 : a.eval (.tmp 2) = .pointer (some ⟨w.heap.size, 0, none⟩) := hF 2 (by decide +kernel)
      exact doesG_wp (wanted_of rfl (yielded_of rfl e10)) rfl fun K' hK' => wp_load_mid 27 (.tmp 2) rfl w.heap.size 0 e2 (row8 l0) _ (N4.out.below hB N4.out.lt).range Tryd.underlying27 rfl (by rw [K32.out]; exact infoKey6) (hK' _ _ rfl (Below.refl _ _))
    · intro a w' hF hB hd
      have e10 : a.eval (.tmp 10) = .bool true := hd 2 (by decide +kernel) (.inr (by decide))
      have e14 : a.eval (.tmp 14) = .agg (row8 l0).toArray := hd 6 (by decide +kernel) (.inr (by decide))
      exact doesG_call (wanted_of rfl (yielded_of rfl e10)) (ex_call (vs := #[.agg (row8 l0).toArray]) rfl (by simp only [List.map_toArray, List.map_cons, List.map_nil, e14]) (by go_simp)) rfl ((HS.out w' hB).mono fun e w2 hh => ⟨_, hh.1, rfl, hh.2⟩)
    · intro a w' hF hB hd
      have e10 : a.eval (.tmp 10) = .bool true := hd 2 (by decide +kernel) (.inr (by decide))
      have e3 : a.eval (.tmp 3) = .pointer (some ⟨w.heap.size + 1, 0, none⟩) := hF 3 (by decide +kernel)
      exact doesG_wp (wanted_of rfl (yielded_of rfl e10)) rfl fun K' hK' => wp_load_mid 28 (.tmp 3) rfl (w.heap.size + 1) 0 e3 (row8 l1) _ (M4.out.below hB M4.out.lt).range Tryd.underlying28 rfl (by rw [R16.out]; exact info16) (hK' _ _ rfl (Below.refl _ _))
    · intro a w' hF hB hd
      have e10 : a.eval (.tmp 10) = .bool true := hd 2 (by decide +kernel) (.inr (by decide))
      have e15 : a.eval (.tmp 15) = .agg (row8 S).toArray := hd 7 (by decide +kernel) (.inr (by decide))
      have e16 : a.eval (.tmp 16) = .agg (row8 l1).toArray := hd 8 (by decide +kernel) (.inr (by decide))
      exact doesG_call (wanted_of rfl (yielded_of rfl e10)) (ex_call (vs := #[.agg (row8 S).toArray, .agg (row8 l1).toArray]) rfl (by simp only [List.map_toArray, List.map_cons, List.map_nil, e15, e16]) (by go_simp)) rfl ((HE.out w' hB).mono fun e w2 hh => ⟨_, hh.1, rfl, hh.2⟩)
    · intro a w' hF hB hd
      have e10 : a.eval (.tmp 10) = .bool true := hd 2 (by decide +kernel) (.inr (by decide))
      have e13 : a.eval (.tmp 13) = .agg (row8 E).toArray := hd 5 (by decide +kernel) (.inr (by decide))
      have e17 : a.eval (.tmp 17) = .agg (row8 E).toArray := hd 9 (by decide +kernel) (.inr (by decide))
      exact doesG_val (wanted_of rfl (yielded_of rfl e10)) (ex_binOp rfl e13 e17 (run_eqGuard_agg (P := Tryd.prog) (w := w') .eql 28 _ _ _ _ eqType16) (hem w')) rfl rfl
    · intro a w' hF hB hd
      have e10 : a.eval (.tmp 10) = .bool true := hd 2 (by decide +kernel) (.inr (by decide))
      have e18 : a.eval (.tmp 18) = .bool true := hd 10 (by decide +kernel) (.inr (by decide))
      exact doesG_val rfl (ex_pick rfl e10 (by simp [e18])) rfl rfl
    · intro a w' hF hB hd
      have e19 : a.eval (.tmp 19) = .bool true := hd 11 (by decide +kernel) (.inr (by decide))
      exact doesG_val rfl (ex_move rfl e19) rfl rfl
    · intro a w' hF hB hd
      have e20 : a.eval (.tmp 20) = .bool true := hd 12 (by decide +kernel) (.inr (by decide))
      exact doesG_call (wanted_of rfl (yielded_of rfl e20)) (ex_call (vs := #[]) rfl (by simp) (by go_simp)) rfl ((aawake_any w' (HX4.out.below hB)).mono fun e w2 hh => ⟨_, hh.1, rfl, hh.2⟩)
    · intro a w' hF hB hd
      have e20 : a.eval (.tmp 20) = .bool true := hd 12 (by decide +kernel) (.inr (by decide))
      have e21 : a.eval (.tmp 21) = .bool true := hd 13 (by decide +kernel) (.inr (by decide))
      exact doesG_val rfl (ex_pick rfl e20 (by simp [e21])) rfl rfl
    · intro a w' hF hB hd
      have e22 : a.eval (.tmp 22) = .bool true := hd 14 (by decide +kernel) (.inr (by decide))
      exact doesG_val rfl (ex_assign rfl e22) rfl rfl
  · intro vs w2 hb hv hap
    have e2 : vs 15 = .bool true := hv 15 (by decide) (by decide)
    simp only [List.take_succ_cons, List.take_zero, List.drop_succ_cons, List.drop_zero, putOps, Act.put, List.setIfInBounds_toArray, List.set_cons_zero, List.set_cons_succ, e2]
    have HB := Lib.hid (B0.out.on hb)
    clear hv hap e2 hb
    go_wp2_with fail
    go_ret
    exact ⟨rfl, HB.out⟩
set_option maxRecDepth 100000 in
theorem reads (os : Os) {H : Type} (enc : TypeId × Value → H) : ∃ places, DataW.whole enc Tryd.prog ((World.doorLaid Tryd.prog 400 os).forCall (fun _ _ => 0) ⟨#[], #[.agg (row8 (List.replicate 32 0)).toArray, .agg (row8 (List.replicate 16 0)).toArray], []⟩).memory Tryd.f5.params.toList Rows.aesEncryptsSpec.vars false (#[.agg (row8 (List.replicate 32 0)).toArray, .agg (row8 (List.replicate 16 0)).toArray] : Array Value).toList 8 = some ([lit8 (List.replicate 32 0), lit8 (List.replicate 16 0)], [], places) :=
  ⟨[], by kernel_rfl⟩
set_option linter.unusedVariables false in
set_option maxHeartbeats 1000000 in
set_option maxRecDepth 100000 in
theorem lifted (os : Os) (started : os.Started) (H : Type) (enc : TypeId × Value → H) (F : Stop.Interp) :
    ReturnsInHanded {} Tryd.checked os 5 .any ((OpenSpec.ofChange Rows.aesEncryptsSpec).preRow enc Tryd.prog Tryd.f5 Rows.aesEncryptsRow.domain false laidXA) (((OpenSpec.ofChange Rows.aesEncryptsSpec).at F).post enc Tryd.prog Tryd.f5 false true false false) := by
  obtain ⟨places, hx⟩ := reads os enc
  refine returnsInHanded_of_row (C := Tryd.checked) (s := OpenSpec.ofChange Rows.aesEncryptsSpec) own started (by kernel_rfl) Tryd.func5
    (witness_row_atRef (enc := enc) (C := Tryd.checked) false (World.doorLaid Tryd.prog 400 os) #[.agg (row8 (List.replicate 32 0)).toArray, .agg (row8 (List.replicate 16 0)).toArray] rfl (by kernel_rfl) (by kernel_rfl) (by kernel_rfl)
      (OpenSpec.preRow_of_cond 8 hx (by kernel_rfl) (fun k hk => by cases hk) (by kernel_rfl) (doorXA_met os _))) ?_
  intro W base args ds gs before hval0 hW _ hcond hsz0 hL _ _
  have hsz : (DataW.weightsEach Tryd.prog (Tryd.f5.params.toList ++ Rows.aesEncryptsSpec.plain.varTypes Tryd.prog) (ds ++ gs)).all (· ≤ reachBytes) = true := hsz0
  clear hsz0
  have hval : ∀ (j : Nat) t v, Tryd.f5.params[j]? = some t → args[j]? = some v → Value.okWide Tryd.prog W .any base t v := hval0
  have hW' := hW
  obtain ⟨p, q, hA0, hV, rfl, _, _⟩ := hW
  have hA : DataW.TrodAll enc Tryd.prog W 0 (fun _ => true) true Tryd.f5.params.toList args.toList ds p := hA0
  rw [Tryd.params5] at hA hval hsz
  obtain ⟨v0, vs0, d0, ds0, p0, q0, hargs, rfl, rfl, g0, r0⟩ := trodAll_cons hA
  obtain ⟨v1, vs1, d1, ds1, p1, q1, rfl, rfl, rfl, g1, r1⟩ := trodAll_cons r0
  obtain ⟨rfl, rfl, rfl⟩ := trodAll_nil r1
  obtain rfl : args = #[v0, v1] := by cases args; simp_all
  obtain ⟨rfl, rfl⟩ := trodVars_none hV
  obtain ⟨l0, h0, rfl, rfl, rfl⟩ := open_row Tryd.underlying27 Tryd.underlying5 cells5 (hval 0 27 v0 rfl rfl) cells27 g0
  obtain ⟨l1, h1, rfl, rfl, rfl⟩ := open_row Tryd.underlying28 Tryd.underlying5 cells5 (hval 1 28 v1 rfl rfl) cells28 g1
  clear hA0 hval0
  have hlt := hW'.lt
  refine (walk W (tabsXA_of_laid hL) l0 h0 l1 h1).mono fun e W' ⟨he, hb⟩ => ?_
  subst he
  have hargs : DataW.TrodAll enc Tryd.prog W' 0 (fun b => decide (b < W.heap.size)) true _ _ _ _ := (trodAll_cons_mk (shut_row Tryd.underlying27 Tryd.underlying5 cells5 cells27 h0) (trodAll_cons_mk (shut_row Tryd.underlying28 Tryd.underlying5 cells5 cells28 h1) trodAll_mk0))
  simp only [List.append_nil] at hW' hargs
  exact ⟨_, rfl, post_law hW' (trodAll_cons_mk (shut_bool Tryd.underlying4 _) trodAll_mk0) hargs rfl hb⟩

theorem over : Rows.aesEncryptsRow.holds Tryd.pinned (OpenSpec.ofChange Rows.aesEncryptsSpec) :=
  OpenClaim.holds_of_cond 5 Tryd.f5 rfl rfl rfl rfl rfl rfl rfl ⟨rfl, rfl, rfl, rfl, rfl⟩ rfl rfl rfl rfl rfl (by kernel_rfl) Tryd.func5 (by kernel_rfl)
    (of_decide_eq_true (by kernel_rfl)) (by unfold Func.isWrapper; first | (rw [if_pos (by decide +kernel)]; kernel_rfl) | (rw [if_neg (by decide +kernel)]; exact ⟨rfl, rfl⟩))
    (fun os started H enc _ F => by rw [OpenClaim.pre_eq_preRow]; exact lifted os started H enc F)

/-- The given statement. -/
theorem proved : Rows.AesEncryptsCardSaid :=
  Claim7.holds_tied_plain_at .later [] _ _ _ _
    over (fun _ h => by cases h) (by kernel_rfl) (fun _ h => by cases h) aesEncrypts_row_tie rfl ⟨rfl, rfl⟩ (by kernel_rfl) rfl
    (fun f fn hf hfn => by
      obtain rfl : f = 5 := Option.some.inj ((show Tryd.prog.funcNamed "reliquary/reliquarylaw06.AesEncrypts" = some 5 by kernel_rfl).symm.trans hf) |>.symm
      obtain rfl : fn = Tryd.f5 := (Option.some.inj (Tryd.func5.symm.trans hfn)).symm
      exact ⟨by kernel_rfl, fun j t ht => by
        rw [Tryd.params5] at ht
        have hm : t ∈ [27, 28] := by simpa using Array.mem_of_getElem? ht
        have hall : ([27, 28].all fun u => !Tryd.prog.wantsStandIn u) = true := by kernel_rfl
        exact (show Tryd.prog.wantsStandIn t = false by simpa using List.all_eq_true.1 hall t hm)⟩)
    (by kernel_rfl)
end Go.Proofs.YtdoifgofmlagbaaDoor.aesEncrypts
