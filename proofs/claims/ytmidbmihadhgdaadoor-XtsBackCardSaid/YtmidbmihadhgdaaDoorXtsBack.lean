/- XtsBack: sectors sealed with any keys are opened to what they were, and the other way round; and the law's closed case holds. No condition but that the program's two tables hold their constants when the call begins. -/
import Derived.Test.YtmidbmihadhgdaaDoorRows
import Derived.Test.YtmidbmihadhgdaaDoorXtsLaws
import Derived.Deep.DeepCutAuto
import Derived.Test.YtmidbmihadhgdaaDoorDoorAes
import Derived.Test.YtmidbmihadhgdaaDoorTie
import Derived.Test.YtmidbmihadhgdaaDoorCards
import Derived.SevenTiedAt
import Derived.Test.YtmidbmihadhgdaaDoorMem
import Derived.Test.YtmidbmihadhgdaaDoorGridArg
import Derived.WalkKit
import Derived.ProofKit
import Derived.OpenShut
import Derived.SizedLaws
import Derived.Carry
import Derived.Deep.DeepHandedRow
import Derived.Deep.DeepWitnessRowRef
namespace Go.Proofs.YtmidbmihadhgdaaDoor.xtsBack
open Go.ChangeShapes Go.WideShapes Go.ChangeAt Go.RowKit
open AM FM XM
theorem infoKeyX : (Tryd.prog.info? 23).map (·.size) = some 32 := by kernel_rfl
theorem row_part {L : List Nat} {m : Nat} (hL : L.length = m * 32) (i : Nat) (hi : i < m) (j : Nat) (v : Value) (h : (row8 (rowAt L 32 i))[j]? = some v) : (row8 L)[i * 32 + j]? = some v := by
  rw [row8_rowAt, List.getElem?_take] at h
  split at h
  · rw [List.getElem?_drop] at h; exact h
  · cases h
theorem own : ownKnob Tryd.prog.godebug = none := by kernel_rfl
theorem cells23 : Tryd.prog.cellsOf 23 = 32 := by kernel_rfl
theorem cells24 : Tryd.prog.cellsOf 24 = 64 := by kernel_rfl
theorem cells5 : Tryd.prog.cellsOf 5 = 1 := by kernel_rfl
set_option linter.unusedVariables false in
set_option maxHeartbeats 4000000 in
set_option maxRecDepth 100000 in
theorem walk (w : World) (ht : TabX w ∧ TabU w) (l0 : List Nat) (h0 : Bytes (2 * 32) l0) (a1 : Int) (w1 : (Lit.int .u64 a1).wf = true) (v2 : Value) (l2 : List Nat) (h2 : Rd w v2 l2) :
    Calls Tryd.prog 5 #[.agg (row8 l0).toArray, .int .u64 a1, v2] w fun e w' => e = .returned (.bool true) ∧ Below w.heap.size w w' := by
  obtain ⟨n, hn, rfl⟩ : ∃ n : Nat, n < 2 ^ 64 ∧ a1 = (n : Int) := by
    have k : 0 ≤ a1 ∧ a1 ≤ 18446744073709551615 := by simpa [Lit.wf, IntKind.min, IntKind.max, IntKind.signed, IntKind.bits] using w1
    exact ⟨a1.toNat, by omega, by omega⟩
  obtain ⟨a2, c2, rfl, hc2⟩ := h2.shape
  obtain ⟨m, hm⟩ : ∃ m, m = min l2.length 2048 / 512 * 512 := ⟨_, rfl⟩
  have hml : m ≤ l2.length := by omega
  have r2 := h2.take m hml
  obtain ⟨b, hb⟩ : ∃ b, b = l2.take m := ⟨_, rfl⟩
  rw [← hb] at r2
  have hbl : b.length = m := by rw [hb, List.length_take]; omega
  have hxe : xerr m = 0 := by unfold xerr; rw [if_neg (by omega)]
  have hbb := r2.byte
  obtain ⟨K, hK⟩ : ∃ K, K = rowAt l0 32 0 := ⟨_, rfl⟩
  obtain ⟨L, hL⟩ : ∃ L, L = rowAt l0 32 1 := ⟨_, rfl⟩
  have bK : Bytes 32 K := by rw [hK]; exact rowAt_bytes h0 0 (by omega)
  have bL : Bytes 32 L := by rw [hL]; exact rowAt_bytes h0 1 (by omega)
  obtain ⟨C, hC⟩ : ∃ C, C = xseal (keys K) (keys L) n b := ⟨_, rfl⟩
  obtain ⟨G, hG⟩ : ∃ G, G = xopen (keys K) (keys L) n b := ⟨_, rfl⟩
  have hm16 : b.length % 16 = 0 := by omega
  have hCl : C.length = m := by rw [hC]; unfold xseal; rw [sealTo_len (keys_bytes bK) (keys_bytes bL)]; omega
  have hGl : G.length = m := by rw [hG]; unfold xopen; rw [openTo_len (keys_bytes bK) (keys_bytes bL) n hbb _ (by omega)]; omega
  have hDo : xopen (keys K) (keys L) n C = b := by rw [hC]; exact xopen_xseal (keys_bytes bK) (keys_bytes bL) n hbb hm16
  have hGs : xseal (keys K) (keys L) n G = b := by rw [hG]; exact xseal_xopen (keys_bytes bK) (keys_bytes bL) n hbb hm16
  have w1 := (Below.refl w.heap.size w).alloc (Nat.le_refl _) (.cells (row8 l0).toArray 24)
  have n1 := Blk.new w 24 (row8 l0) _ rfl
  have P0 := Lib.hid (range_part n1 0 (row8 K) (fun j v hv => by rw [hK] at hv; have := row_part h0.1 0 (by omega) j v hv; simpa using this))
  have P1 := Lib.hid (range_part n1 32 (row8 L) (fun j v hv => by rw [hL] at hv; have := row_part h0.1 1 (by omega) j v hv; simpa using this))
  have K32 := Lib.hid (show (row8 K).length = 32 by rw [row8_len]; exact bK.1)
  have L32 := Lib.hid (show (row8 L).length = 32 by rw [row8_len]; exact bL.1)
  have HNW := Lib.hid (xt_new K L bK bL _ (ht.1.below w1))
  have HX := Lib.hid ht.1
  have HU := Lib.hid ht.2
  have W1 := Lib.hid w1
  have R1 := Lib.hid (r2.alloc (.cells (row8 l0).toArray 24))
  have HN := Lib.hid hn
  have HBL := Lib.hid hbl
  have HXE := Lib.hid hxe
  have HC := Lib.hid hC
  have HG := Lib.hid hG
  have HCL := Lib.hid hCl
  have HGL := Lib.hid hGl
  have HDO := Lib.hid hDo
  have HGS := Lib.hid hGs
  have hmc : m ≤ c2 := by omega
  have HM := Lib.hid hm
  clear r2 hb hbl hxe hbb hK hL bK bL hC hG hm16 hCl hGl hDo hGs w1 n1 ht h2 hm
  go_enter Tryd.func5, Tryd.ntmps5
  go_upto_region 1 with (fail)
  go_cut [2] (fun s2 wx => s2 = .slice a2 m c2 ∧ wx = w.alloc (.cells (row8 l0).toArray 24))
  case first =>
    by_cases hs : l2.length ≤ 2048
    · have hsI : (l2.length : Int) ≤ 2048 := by omega
      have hmI : (l2.length : Int) / 512 * 512 = (m : Int) := by have := HM.out; omega
      have h0m : (m : Int) ≤ (c2 : Int) := by omega
      go_wp2_with fail
      go_meet
      exact ⟨rfl, rfl⟩
    · have hsI : ¬ (l2.length : Int) ≤ 2048 := by omega
      go_wp2_with fail
      go_meet
      exact ⟨by rw [show m = 2048 by have := HM.out; omega], rfl⟩
  case rest =>
    obtain ⟨rfl, rfl⟩ := hcut
    clear hml hmc hc2
    go_upto_region 7 with (first
      | (refine wpList_load_mid rfl 23 (.tmp 23) rfl w.heap.size 0 rfl (row8 K) _ P0.out Tryd.underlying23 rfl (by rw [K32.out]; exact infoKeyX) ?_)
      | (refine wpList_load_mid rfl 23 (.tmp 25) rfl w.heap.size 32 rfl (row8 L) _ P1.out Tryd.underlying23 rfl (by rw [L32.out]; exact infoKeyX) ?_)
      | (go_at_call 10; (with_reducible refine HNW.out.mono ?_); rintro e w3 ⟨x, hxw, rfl, x3, b3⟩; have X3 := Lib.hid x3; have B3 := Lib.hid (W1.out.on b3); have R3 := Lib.hid (R1.out.below b3); have s3 := xt_seal x K L n HN.out _ _ w3 R3.out x3 (HX.out.below B3.out); rw [HBL.out, HXE.out, if_pos rfl, ← HC.out] at s3; have S3 := Lib.hid s3; clear hxw x3 b3 s3)
      | (go_at_call 11; (with_reducible refine S3.out.mono ?_); rintro e w4 ⟨y4, rfl, r4, b4⟩; obtain ⟨a4, c4, rfl, _⟩ := r4.shape; rw [HCL.out] at r4 ⊢; have X4 := Lib.hid (X3.out.below b4); have B4 := Lib.hid (B3.out.on b4); have R4 := Lib.hid (R3.out.below b4); have C4 := Lib.hid r4; have s4 := xt_open x K L n HN.out _ _ w4 r4 X4.out (HX.out.below B4.out) (HU.out.below B4.out); rw [HCL.out, HXE.out, if_pos rfl, HDO.out] at s4; have S4 := Lib.hid s4; clear r4 b4 s4)
      | (go_at_call 14; (with_reducible refine S4.out.mono ?_); rintro e w5 ⟨y5, rfl, r5, b5⟩; obtain ⟨a5, c5, rfl, _⟩ := r5.shape; rw [HBL.out] at r5 ⊢; have X5 := Lib.hid (X4.out.below b5); have B5 := Lib.hid (B4.out.on b5); have R5 := Lib.hid (R4.out.below b5); have C5 := Lib.hid (C4.out.below b5); have D5 := Lib.hid r5; have s5 := xt_open x K L n HN.out _ _ w5 R5.out X5.out (HX.out.below B5.out) (HU.out.below B5.out); rw [HBL.out, HXE.out, if_pos rfl, ← HG.out] at s5; have S5 := Lib.hid s5; clear r5 b5 s5)
      | (go_at_call 14; (with_reducible refine S5.out.mono ?_); rintro e w6 ⟨y6, rfl, r6, b6⟩; obtain ⟨a6, c6, rfl, _⟩ := r6.shape; rw [HGL.out] at r6 ⊢; have X6 := Lib.hid (X5.out.below b6); have B6 := Lib.hid (B5.out.on b6); have R6 := Lib.hid (R5.out.below b6); have C6 := Lib.hid (C5.out.below b6); have D6 := Lib.hid (D5.out.below b6); have s6 := xt_seal x K L n HN.out _ _ w6 r6 X6.out (HX.out.below B6.out); rw [HGL.out, HXE.out, if_pos rfl, HGS.out] at s6; have S6 := Lib.hid s6; clear r6 b6 s6)
      | (go_at_call 11; (with_reducible refine S6.out.mono ?_); rintro e w7 ⟨y7, rfl, r7, b7⟩; obtain ⟨a7, c7, rfl, _⟩ := r7.shape; rw [HBL.out] at r7 ⊢; have B7 := Lib.hid (B6.out.on b7); have R7 := Lib.hid (R6.out.below b7); have D7 := Lib.hid (D6.out.below b7); have J7 := Lib.hid r7; clear r7 b7))
    have hs1 := R7.out.str
    have hs2 := D7.out.str
    have hs3 := J7.out.str
    go_wp2_with (go_at_call 9; (with_reducible refine (xawake_any _ (HX.out.below B7.out) (HU.out.below B7.out)).mono ?_); rintro e w8 ⟨rfl, b8⟩; have B8 := Lib.hid (B7.out.on b8); clear b8)
    go_ret
    exact ⟨rfl, B8.out⟩
set_option maxRecDepth 100000 in
theorem reads (os : Os) {H : Type} (enc : TypeId × Value → H) : ∃ places, DataW.whole enc Tryd.prog ((World.doorLaid Tryd.prog 400 os).forCall (fun _ _ => 0) ⟨#[], #[.agg (row8 (List.replicate 64 0)).toArray, .int .u64 0, .slice none 0 0], []⟩).memory Tryd.f5.params.toList Rows.xtsBackSpec.vars false (#[.agg (row8 (List.replicate 64 0)).toArray, .int .u64 0, .slice none 0 0] : Array Value).toList 8 = some ([litG 2 32 (List.replicate 64 0), .lit (.int .u64 0), .nil], [], places) :=
  ⟨[], by kernel_rfl⟩
set_option linter.unusedVariables false in
set_option maxHeartbeats 1000000 in
set_option maxRecDepth 100000 in
theorem lifted (os : Os) (started : os.Started) (H : Type) (enc : TypeId × Value → H) (F : Stop.Interp) :
    ReturnsInHanded {} Tryd.checked os 5 .any ((OpenSpec.ofChange Rows.xtsBackSpec).preRow enc Tryd.prog Tryd.f5 Rows.xtsBackRow.domain false laidXU) (((OpenSpec.ofChange Rows.xtsBackSpec).at F).post enc Tryd.prog Tryd.f5 false true false false) := by
  obtain ⟨places, hx⟩ := reads os enc
  refine returnsInHanded_of_row (C := Tryd.checked) (s := OpenSpec.ofChange Rows.xtsBackSpec) own started (by kernel_rfl) Tryd.func5
    (witness_row_atRef (enc := enc) (C := Tryd.checked) false (World.doorLaid Tryd.prog 400 os) #[.agg (row8 (List.replicate 64 0)).toArray, .int .u64 0, .slice none 0 0] rfl (by kernel_rfl) (by kernel_rfl) (by kernel_rfl)
      (OpenSpec.preRow_of_cond 8 hx (by kernel_rfl) (fun k hk => by cases hk) (by kernel_rfl) (doorXU_met os _))) ?_
  intro W base args ds gs before hval0 hW _ hcond hsz0 hL _ _
  have hsz : (DataW.weightsEach Tryd.prog (Tryd.f5.params.toList ++ Rows.xtsBackSpec.plain.varTypes Tryd.prog) (ds ++ gs)).all (· ≤ reachBytes) = true := hsz0
  clear hsz0
  have hval : ∀ (j : Nat) t v, Tryd.f5.params[j]? = some t → args[j]? = some v → Value.okWide Tryd.prog W .any base t v := hval0
  have hW' := hW
  obtain ⟨p, q, hA0, hV, rfl, _, _⟩ := hW
  have hA : DataW.TrodAll enc Tryd.prog W 0 (fun _ => true) true Tryd.f5.params.toList args.toList ds p := hA0
  rw [Tryd.params5] at hA hval hsz
  obtain ⟨v0, vs0, d0, ds0, p0, q0, hargs, rfl, rfl, g0, r0⟩ := trodAll_cons hA
  obtain ⟨v1, vs1, d1, ds1, p1, q1, rfl, rfl, rfl, g1, r1⟩ := trodAll_cons r0
  obtain ⟨v2, vs2, d2, ds2, p2, q2, rfl, rfl, rfl, g2, r2⟩ := trodAll_cons r1
  obtain ⟨rfl, rfl, rfl⟩ := trodAll_nil r2
  obtain rfl : args = #[v0, v1, v2] := by cases args; simp_all
  obtain ⟨rfl, rfl⟩ := trodVars_none hV
  obtain ⟨l0, h0, rfl, rfl, rfl⟩ := open_grid Tryd.underlying24 Tryd.underlying23 Tryd.underlying5 cells5 cells23 (hval 0 24 v0 rfl rfl) cells24 g0
  obtain ⟨a1, rfl, rfl, rfl, w1⟩ := open_int Tryd.underlying25 (hval 1 25 v1 rfl rfl) g1
  obtain ⟨l2, h2⟩ := open_bytes (hval 2 26 v2 rfl rfl) g2 (fun elems spare e => sized_slice hsz (j := 2) (t := 26) (e := 5) rfl (by rw [← e]; rfl) Tryd.underlying26)
  clear hA0 hval0
  have hlt := hW'.lt
  refine (walk W (tabsXU_of_laid hL) l0 h0 a1 w1 v2 l2 h2).mono fun e W' ⟨he, hb⟩ => ?_
  subst he
  have hargs : DataW.TrodAll enc Tryd.prog W' 0 (fun b => decide (b < W.heap.size)) true _ _ _ _ := (trodAll_cons_mk (shut_grid Tryd.underlying24 Tryd.underlying23 Tryd.underlying5 cells5 cells23 cells24 h0) (trodAll_cons_mk (shut_int Tryd.underlying25 w1) (trodAll_cons_mk (Below.trod laidOut (by kernel_rfl) (of_decide_eq_true (by kernel_rfl)) g2 hb (fun x hx => hlt x (by simp [hx]))) trodAll_mk0)))
  simp only [List.append_nil] at hW' hargs
  exact ⟨_, rfl, post_law hW' (trodAll_cons_mk (shut_bool Tryd.underlying4 _) trodAll_mk0) hargs rfl hb⟩

theorem over : Rows.xtsBackRow.holds Tryd.pinned (OpenSpec.ofChange Rows.xtsBackSpec) :=
  OpenClaim.holds_of_cond 5 Tryd.f5 rfl rfl rfl rfl rfl rfl rfl ⟨rfl, rfl, rfl, rfl, rfl⟩ rfl rfl rfl rfl rfl (by kernel_rfl) Tryd.func5 (by kernel_rfl)
    (of_decide_eq_true (by kernel_rfl)) (by unfold Func.isWrapper; first | (rw [if_pos (by decide +kernel)]; kernel_rfl) | (rw [if_neg (by decide +kernel)]; exact ⟨rfl, rfl⟩))
    (fun os started H enc _ F => by rw [OpenClaim.pre_eq_preRow]; exact lifted os started H enc F)

/-- The given statement. -/
theorem proved : Rows.XtsBackCardSaid :=
  Claim7.holds_tied_plain_at .later [] _ _ _ _
    over (fun _ h => by cases h) (by kernel_rfl) (fun _ h => by cases h) xtsBack_row_tie rfl ⟨rfl, rfl⟩ (by kernel_rfl) rfl
    (fun f fn hf hfn => by
      obtain rfl : f = 5 := Option.some.inj ((show Tryd.prog.funcNamed "reliquary/reliquarylaw07.XtsBack" = some 5 by kernel_rfl).symm.trans hf) |>.symm
      obtain rfl : fn = Tryd.f5 := (Option.some.inj (Tryd.func5.symm.trans hfn)).symm
      exact ⟨by kernel_rfl, fun j t ht => by
        rw [Tryd.params5] at ht
        have hm : t ∈ [24, 25, 26] := by simpa using Array.mem_of_getElem? ht
        have hall : ([24, 25, 26].all fun u => !Tryd.prog.wantsStandIn u) = true := by kernel_rfl
        exact (show Tryd.prog.wantsStandIn t = false by simpa using List.all_eq_true.1 hall t hm)⟩)
    (by kernel_rfl)
end Go.Proofs.YtmidbmihadhgdaaDoor.xtsBack
