/- SlotsGets: any bytes are the table that the document says, or none; the bytes stay as they are; and the law's closed case holds. No condition but that the listed tables hold their constants when the call begins. -/
import Derived.Test.YtbepchikngoknaaDoorRows
import Derived.Test.YtbepchikngoknaaDoorSlAwake
import Derived.Test.YtbepchikngoknaaDoorSlGX
import Derived.Test.YtbepchikngoknaaDoorSlGetR
import Derived.Test.YtbepchikngoknaaDoorWrapLaws
import Derived.Test.YtbepchikngoknaaDoorDoorWrap
import Derived.Test.YtbepchikngoknaaDoorTie
import Derived.Test.YtbepchikngoknaaDoorCards
import Derived.SevenTiedAt
import Derived.Test.YtbepchikngoknaaDoorMem
import Derived.WalkKit
import Derived.ProofKit
import Derived.OpenShut
import Derived.SizedLaws
import Derived.Carry
import Derived.Deep.DeepHandedRow
import Derived.Deep.DeepWitnessRowRef
namespace Go.Proofs.YtbepchikngoknaaDoor.slotsGets
open Go.ChangeShapes Go.WideShapes Go.ChangeAt Go.RowKit
open SM WM SL
theorem own : ownKnob Tryd.prog.godebug = none := by kernel_rfl
set_option linter.unusedVariables false in
set_option maxRecDepth 100000 in
set_option maxHeartbeats 2000000 in
theorem walk (w : World) (ht : TabX w ∧ TabP w) (v0 : Value) (l0 : List Nat) (h0 : Rd w v0 l0) :
    Calls Tryd.prog 4 #[v0] w fun e w' => e = .returned (.bool true) ∧ Below w.heap.size w w' := by
  obtain ⟨TX, TP⟩ := ht
  obtain ⟨va, vc, rfl, _⟩ := h0.shape
  obtain ⟨bl, hbl⟩ : ∃ n, n = l0.length := ⟨_, rfl⟩
  obtain ⟨G, hG⟩ : ∃ G, G = tbc (gotT l0) := ⟨_, rfl⟩
  obtain ⟨GE, hGE⟩ : ∃ x, x = gerr l0 := ⟨_, rfl⟩
  obtain ⟨Z0, hZ0⟩ : ∃ D, D = tbc zero := ⟨_, rfl⟩
  obtain ⟨S, hS⟩ : ∃ S, S = bstr l0 := ⟨_, rfl⟩
  have hz : ∀ w, (zeroValue 30).run Tryd.prog w = .ok (.agg Z0.toArray) w := by rw [hZ0]; exact zeroTb
  have hz2 : ∀ w, (zeroValue 34).run Tryd.prog w = .ok (.agg Z0.toArray) w := by rw [hZ0]; exact zeroTr
  have hz656 : Z0.length = 656 := by rw [hZ0]; exact tbc_len zero_ok
  have hTG : SL.Tok (gotT l0) := by
    by_cases h : isPut l0
    · rw [(got_is h).1]; exact reads_ok h.1 h0.byte
    · rw [(got_not h).1]; exact zero_ok
  have G656 := Lib.hid (show G.length = 656 by rw [hG]; exact tbc_len hTG)
  have GONE := Lib.hid (show G.toArray.all (·.oneCell') = true by rw [hG]; exact tbc_all _)
  have hgg := fun w => run_eql_table 34 Tryd.underlying34 hTG hTG w
  simp only [decide_true] at hgg
  rw [← hG] at hgg
  have hss : ∀ w, (binOp .eql 9 (.string S) (.string S)).run Tryd.prog w = .ok (.bool true) w := fun w => by rw [run_eql_str, decide_eq_true rfl]
  have HV := Lib.hid h0
  have HG := Lib.hid (fun W v (hv : Rd W v l0) => sget_any l0 v W hv)
  have HR := Lib.hid (fun W v (hv : Rd W v l0) => rtget_any l0 v W hv)
  rw [← hG, ← hGE] at HG HR
  have HSTR := Lib.hid (fun (W : World) (v : Value) (hv : Rd W v l0) => hv.str)
  rw [← hS] at HSTR
  have HAW := Lib.hid (fun W (hW : Below w.heap.size w W) => sawake_any W (TX.below hW) (TP.below hW))
  have HBL := Lib.hid hbl
  have HE := Lib.hid (own_empty w (b := w.heap.size) rfl (base := w.heap.size) (Nat.le_refl _))
  have WE := Lib.hid ((Below.refl w.heap.size w).alloc (Nat.le_refl _) (.cells #[] 5))
  rw [← hbl] at HV ⊢
  clear hG hGE hZ0 hS hTG TX TP h0 hbl
  go_enter Tryd.func4, Tryd.ntmps4
  go_upto_region 2 with (refine wpList_app rfl (.tmp 8) (.tmp 9) rfl w.heap.size (.slice (some ⟨w.heap.size, 0, none⟩) 0 0) (.slice va bl vc) [] l0 rfl rfl HE.out (HV.out.below WE.out) (by rw [← HBL.out, List.length_nil, Nat.zero_add]; have := HV.out.fits; rw [← HBL.out] at this; exact this) WE.out.size ?_; intro v1 w1 o1 g1 k1; rw [List.nil_append] at o1; have I1 := Lib.hid o1.rd; have hb1 := Lib.hid (show Below w.heap.size w w1 from WE.out.grown g1 WE.out.size (fun g hg => by have e : w.heap.size = g := Option.some.inj hg; omega)); clear o1 g1 k1)
  obtain ⟨ia, ic, hsh, _⟩ := I1.out.shape
  rw [← HBL.out] at hsh
  subst hsh
  have V1 := Lib.hid (HV.out.below hb1.out)
  have W1 := hb1
  clear hb1
  have HG1 := Lib.hid (HG.out w1 _ I1.out)
  go_wp2_with ((fail_if_success (with_reducible show bodyPost _ _ _ _ _ _)); first
    | (go_at_call 16; (with_reducible refine HG1.out.mono ?_); rintro e w2 ⟨rfl, b2⟩; have I2 := Lib.hid (I1.out.below b2); have V2 := Lib.hid (V1.out.below b2); have W2 := Lib.hid (W1.out.on b2); clear b2)
    | (refine wpList_store_blk rfl 30 (.tmp 4) (.tmp 14) rfl w2.heap.size 0 G rfl rfl 30 Z0 (Blk.new w2 30 Z0 _ rfl) (by rw [G656.out, hz656]; exact Nat.le_refl _) (by rw [G656.out]; exact infoTb) GONE.out ?_; intro w3 b3 g3; rw [splice_all _ _ (by rw [G656.out, hz656])] at b3; have hb3 := Lib.hid (alloc_turn (Below.refl _ _) g3); have T3 := Lib.hid b3; have I3 := Lib.hid (I2.out.below hb3.out); have V3 := Lib.hid (V2.out.below hb3.out); have W3 := Lib.hid (W2.out.on hb3.out); have HR3 := Lib.hid (HR.out w3 _ V3.out); clear b3 g3 hb3)
    | (go_at_call 17; (with_reducible refine HR3.out.mono ?_); rintro e w4 ⟨rfl, b4⟩; have I4 := Lib.hid (I3.out.below b4); have V4 := Lib.hid (V3.out.below b4); have T4 := Lib.hid (T3.out.below b4 T3.out.lt); have W4 := Lib.hid (W3.out.on b4); clear b4)
    | (refine wpList_store_blk rfl 34 (.tmp 6) (.tmp 19) rfl w4.heap.size 0 G rfl rfl 34 Z0 (Blk.new w4 34 Z0 _ rfl) (by rw [G656.out, hz656]; exact Nat.le_refl _) (by rw [G656.out]; exact infoTr) GONE.out ?_; intro w5 b5 g5; rw [splice_all _ _ (by rw [G656.out, hz656])] at b5; have hb5 := Lib.hid (alloc_turn (Below.refl _ _) g5); have Q5 := Lib.hid b5; have T5 := Lib.hid (T4.out.below hb5.out T4.out.lt); have I5 := Lib.hid (I4.out.below hb5.out); have V5 := Lib.hid (V4.out.below hb5.out); have W5 := Lib.hid (W4.out.on hb5.out); have HA5 := Lib.hid (HAW.out w5 W5.out); clear b5 g5 hb5)
    | (refine wpList_load_mid rfl 30 (.tmp 4) rfl w2.heap.size 0 rfl G _ T5.out.range Tryd.underlying30 rfl (by rw [G656.out]; exact infoTb) ?_)
    | (refine wpList_load_mid rfl 34 (.tmp 6) rfl w4.heap.size 0 rfl G _ Q5.out.range Tryd.underlying34 rfl (by rw [G656.out]; exact infoTr) ?_)
    | (refine wpList_bin rfl (b := .eql) (t := 34) (x := .tmp 21) (y := .tmp 22) rfl (.bool true) rfl rfl (run_eqGuard_agg _ _ _ _ _ _ _ eqTypeTr) (hgg _) ?_)
    | (refine wpList_wanted rfl (.string S) (ex_convert (x := .tmp 30) rfl rfl (HSTR.out w5 _ I5.out)) ?_)
    | (refine wpList_wanted rfl (.string S) (ex_convert (x := .tmp 32) rfl rfl (HSTR.out w5 _ V5.out)) ?_)
    | (refine wpList_wanted rfl (.bool true) (ex_binOp (x := .tmp 31) (y := .tmp 33) (b := .eql) (t := 9) rfl rfl rfl (by go_simp) (hss _)) ?_)
    | (go_at_call 15; (with_reducible refine HA5.out.mono ?_); rintro e w6 ⟨rfl, b6⟩; have W6 := Lib.hid (W5.out.on b6); clear b6))
  go_ret
  exact ⟨rfl, W6.out⟩
set_option maxRecDepth 100000 in
theorem reads (os : Os) {H : Type} (enc : TypeId × Value → H) : ∃ places, DataW.whole enc Tryd.prog ((World.doorLaid Tryd.prog 400 os).forCall (fun _ _ => 0) ⟨#[], #[.slice none 0 0], []⟩).memory Tryd.f4.params.toList Rows.slotsGetsSpec.vars false (#[.slice none 0 0] : Array Value).toList 8 = some ([.nil], [], places) :=
  ⟨[], by kernel_rfl⟩
set_option linter.unusedVariables false in
set_option maxHeartbeats 1000000 in
set_option maxRecDepth 100000 in
theorem lifted (os : Os) (started : os.Started) (H : Type) (enc : TypeId × Value → H) (F : Stop.Interp) :
    ReturnsInHanded {} Tryd.checked os 4 .any ((OpenSpec.ofChange Rows.slotsGetsSpec).preRow enc Tryd.prog Tryd.f4 Rows.slotsGetsRow.domain false laidXPs) (((OpenSpec.ofChange Rows.slotsGetsSpec).at F).post enc Tryd.prog Tryd.f4 false true false false) := by
  obtain ⟨places, hx⟩ := reads os enc
  refine returnsInHanded_of_row (C := Tryd.checked) (s := OpenSpec.ofChange Rows.slotsGetsSpec) own started (by kernel_rfl) Tryd.func4
    (witness_row_atRef (enc := enc) (C := Tryd.checked) false (World.doorLaid Tryd.prog 400 os) #[.slice none 0 0] rfl (by kernel_rfl) (by kernel_rfl) (by kernel_rfl)
      (OpenSpec.preRow_of_cond 8 hx (by kernel_rfl) (fun k hk => by cases hk) (by kernel_rfl) (doorXPs_met os _))) ?_
  intro W base args ds gs before hval0 hW _ hcond hsz0 hL _ _
  have hsz : (DataW.weightsEach Tryd.prog (Tryd.f4.params.toList ++ Rows.slotsGetsSpec.plain.varTypes Tryd.prog) (ds ++ gs)).all (· ≤ reachBytes) = true := hsz0
  clear hsz0
  have hval : ∀ (j : Nat) t v, Tryd.f4.params[j]? = some t → args[j]? = some v → Value.okWide Tryd.prog W .any base t v := hval0
  have hW' := hW
  obtain ⟨p, q, hA0, hV, rfl, _, _⟩ := hW
  have hA : DataW.TrodAll enc Tryd.prog W 0 (fun _ => true) true Tryd.f4.params.toList args.toList ds p := hA0
  rw [Tryd.params4] at hA hval hsz
  obtain ⟨v0, vs0, d0, ds0, p0, q0, hargs, rfl, rfl, g0, r0⟩ := trodAll_cons hA
  obtain ⟨rfl, rfl, rfl⟩ := trodAll_nil r0
  obtain rfl : args = #[v0] := by cases args; simp_all
  obtain ⟨rfl, rfl⟩ := trodVars_none hV
  obtain ⟨l0, h0⟩ := open_bytes (hval 0 31 v0 rfl rfl) g0 (fun elems spare e => sized_slice hsz (j := 0) (t := 31) (e := 5) rfl (by rw [← e]; rfl) Tryd.underlying31)
  clear hA0 hval0
  have hlt := hW'.lt
  refine (walk W (tabsXPs_of_laid hL) v0 l0 h0).mono fun e W' ⟨he, hb⟩ => ?_
  subst he
  have hargs : DataW.TrodAll enc Tryd.prog W' 0 (fun b => decide (b < W.heap.size)) true _ _ _ _ := (trodAll_cons_mk (Below.trod laidOut (by kernel_rfl) (of_decide_eq_true (by kernel_rfl)) g0 hb (fun x hx => hlt x (by simp [hx]))) trodAll_mk0)
  simp only [List.append_nil] at hW' hargs
  exact ⟨_, rfl, post_law hW' (trodAll_cons_mk (shut_bool Tryd.underlying4 _) trodAll_mk0) hargs rfl hb⟩
theorem over : Rows.slotsGetsRow.holds Tryd.pinned (OpenSpec.ofChange Rows.slotsGetsSpec) :=
  OpenClaim.holds_of_cond 4 Tryd.f4 rfl rfl rfl rfl rfl rfl rfl ⟨rfl, rfl, rfl, rfl, rfl⟩ rfl rfl rfl rfl rfl (by kernel_rfl) Tryd.func4 (by kernel_rfl)
    (of_decide_eq_true (by kernel_rfl)) (by unfold Func.isWrapper; first | (rw [if_pos (by decide +kernel)]; kernel_rfl) | (rw [if_neg (by decide +kernel)]; exact ⟨rfl, rfl⟩))
    (fun os started H enc _ F => by rw [OpenClaim.pre_eq_preRow]; exact lifted os started H enc F)

/-- The given statement. -/
theorem proved : Rows.SlotsGetsCardSaid :=
  Claim7.holds_tied_plain_at .later [] _ _ _ _
    over (fun _ h => by cases h) (by kernel_rfl) (fun _ h => by cases h) slotsGets_row_tie rfl ⟨rfl, rfl⟩ (by kernel_rfl) rfl
    (fun f fn hf hfn => by
      obtain rfl : f = 4 := Option.some.inj ((show Tryd.prog.funcNamed "reliquary/reliquarylaw12.SlotsGets" = some 4 by kernel_rfl).symm.trans hf) |>.symm
      obtain rfl : fn = Tryd.f4 := (Option.some.inj (Tryd.func4.symm.trans hfn)).symm
      exact ⟨by kernel_rfl, fun j t ht => by
        rw [Tryd.params4] at ht
        have hm : t ∈ [31] := by simpa using Array.mem_of_getElem? ht
        have hall : ([31].all fun u => !Tryd.prog.wantsStandIn u) = true := by kernel_rfl
        exact (show Tryd.prog.wantsStandIn t = false by simpa using List.all_eq_true.1 hall t hm)⟩)
    (by kernel_rfl)
end Go.Proofs.YtbepchikngoknaaDoor.slotsGets
