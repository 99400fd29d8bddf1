/- SlotsOpens: which key any passphrase opens in any table of few turns, and by which slot, is told as the document says; and the law's closed case holds. No condition but that the listed tables hold their constants when the call begins. -/
import Derived.Test.YtbepchikngoknaaDoorRows
import Derived.Test.YtbepchikngoknaaDoorSlAwake
import Derived.Test.YtbepchikngoknaaDoorSlDX
import Derived.Test.YtbepchikngoknaaDoorSlLight
import Derived.Test.YtbepchikngoknaaDoorWrapLaws
import Derived.Test.YtbepchikngoknaaDoorDoorWrap
import Derived.Test.YtbepchikngoknaaDoorTie
import Derived.Test.YtbepchikngoknaaDoorCards
import Derived.SevenTiedAt
import Derived.Test.YtbepchikngoknaaDoorMem
import Derived.Test.YtbepchikngoknaaDoorTabArg
import Derived.WalkKit
import Derived.ProofKit
import Derived.OpenShut
import Derived.SizedLaws
import Derived.Carry
import Derived.Deep.DeepHandedRow
import Derived.Deep.DeepWitnessRowRef
namespace Go.Proofs.YtbepchikngoknaaDoor.slotsOpens
open Go.ChangeShapes Go.WideShapes Go.ChangeAt Go.RowKit
open SM WM SL
theorem own : ownKnob Tryd.prog.godebug = none := by kernel_rfl
set_option linter.unusedVariables false in
set_option maxRecDepth 100000 in
set_option maxHeartbeats 2000000 in
theorem walk (w : World) (ht : TabX w ∧ Tab w ∧ TabA w ∧ TabP w) (l0 : List SL.Slot) (h0 : SL.Tok l0) (v1 : Value) (l1 : List Nat) (h1 : Rd w v1 l1) :
    Calls Tryd.prog 5 #[.agg (tbc l0).toArray, v1] w fun e w' => e = .returned (.bool true) ∧ Below w.heap.size w w' := by
  obtain ⟨TX, TK, TA, TP⟩ := ht
  obtain ⟨va, vc, rfl, _⟩ := h1.shape
  obtain ⟨bl, hbl⟩ : ∃ n, n = l1.length := ⟨_, rfl⟩
  obtain ⟨L, hL⟩ : ∃ L, L = tbc l0 := ⟨_, rfl⟩
  obtain ⟨RK, hRK⟩ : ∃ x, x = okey l0 l1 := ⟨_, rfl⟩
  obtain ⟨RI, hRI⟩ : ∃ x, x = oidx l0 l1 := ⟨_, rfl⟩
  obtain ⟨RE, hRE⟩ : ∃ x, x = oerr l0 l1 := ⟨_, rfl⟩
  obtain ⟨D0, hD0⟩ : ∃ D, D = row8 (List.replicate 32 0) := ⟨_, rfl⟩
  have hz : ∀ w, (zeroValue 25).run Tryd.prog w = .ok (.agg D0.toArray) w := by rw [hD0]; exact zeroK2
  have hd0 : D0.length = 32 := by rw [hD0, row8_len, List.length_replicate]
  have bK : Bytes 32 RK := by rw [hRK]; exact okey_bytes h0 l1
  have hkk := fun w => run_eql_keyW bK bK w
  simp only [decide_true] at hkk
  have K32 := Lib.hid (show (row8 RK).length = 32 by rw [row8_len]; exact bK.1)
  have L656 := Lib.hid (show L.length = 656 by rw [hL]; exact tbc_len h0)
  have W1 := Lib.hid ((Below.refl w.heap.size w).alloc (Nat.le_refl _) (.cells L.toArray 30))
  have T1 := Lib.hid (Blk.new w 30 L _ rfl)
  have HL := Lib.hid (fun W => light_any l0 h0 W)
  rw [← hL] at HL
  have HO := Lib.hid (fun W (hW : Below w.heap.size w W) => sopen_any l0 h0 l1 _ W (h1.below hW) (TX.below hW) (TP.below hW))
  have HR := Lib.hid (fun W (hW : Below w.heap.size w W) => ropen_any l0 h0 l1 _ W (h1.below hW) (TA.below hW) (TK.below hW))
  rw [← hL, ← hRK, ← hRI, ← hRE, ← hbl] at HO HR
  have HAW := Lib.hid (fun W (hW : Below w.heap.size w W) => sawake_any W (TX.below hW) (TP.below hW))
  rw [← hL, ← hbl]
  clear hL hRK hRI hRE hbl hD0 bK TX TK TA TP h0 h1
  go_enter Tryd.func5, Tryd.ntmps5
  go_upto_region 1 with fail
  obtain ⟨w1, hw1⟩ : ∃ x, x = w.alloc (.cells L.toArray 30) := ⟨_, rfl⟩
  rw [← hw1] at W1 T1 ⊢
  clear hw1
  have HL1 := Lib.hid (HL.out w1)
  go_wp2_with ((fail_if_success (with_reducible show bodyPost _ _ _ _ _ _)); first
    | (refine wpList_load_mid rfl 30 (.tmp 2) rfl w.heap.size 0 rfl L _ T1.out.range Tryd.underlying30 rfl (by rw [L656.out]; exact infoTb) ?_)
    | (go_at_call 18; (with_reducible refine HL1.out.mono ?_); rintro e w2 ⟨⟨bv, rfl⟩, b2⟩; have W2 := Lib.hid (W1.out.on b2); have T2 := Lib.hid (T1.out.below b2 T1.out.lt); have HA2 := Lib.hid (HAW.out w2 W2.out); have HO2 := Lib.hid (HO.out w2 W2.out); clear b2)
    | (refine wpList_load_mid rfl 30 (.tmp 2) rfl w.heap.size 0 rfl L _ T2.out.range Tryd.underlying30 rfl (by rw [L656.out]; exact infoTb) ?_)
    | (go_at_call 19; (with_reducible refine HO2.out.mono ?_); rintro e w3 ⟨rfl, b3⟩; have W3 := Lib.hid (W2.out.on b3); have T3 := Lib.hid (T2.out.below b3 T2.out.lt); clear b3)
    | (refine wpList_store_blk rfl 25 (.tmp 5) (.tmp 19) rfl w3.heap.size 0 (row8 RK) rfl rfl 25 D0 (Blk.new w3 25 D0 _ rfl) (by rw [K32.out, hd0]; exact Nat.le_refl _) (by rw [K32.out]; exact infoK2) (row8_one _) ?_; intro w4 b4 g4; rw [splice_all _ _ (by rw [K32.out, hd0])] at b4; have hb4 := Lib.hid (alloc_turn (Below.refl _ _) g4); have K4 := Lib.hid b4; have T4 := Lib.hid (T3.out.below hb4.out T3.out.lt); have W4 := Lib.hid (W3.out.on hb4.out); have HR4 := Lib.hid (HR.out w4 W4.out); clear b4 g4 hb4)
    | (refine wpList_load_mid rfl 30 (.tmp 2) rfl w.heap.size 0 rfl L _ T4.out.range Tryd.underlying30 rfl (by rw [L656.out]; exact infoTb) ?_)
    | (go_at_call 20; (with_reducible refine HR4.out.mono ?_); rintro e w5 ⟨rfl, b5⟩; have W5 := Lib.hid (W4.out.on b5); have K5 := Lib.hid (K4.out.below b5 K4.out.lt); clear b5)
    | (refine wpList_store_blk rfl 25 (.tmp 8) (.tmp 26) rfl w5.heap.size 0 (row8 RK) rfl rfl 25 D0 (Blk.new w5 25 D0 _ rfl) (by rw [K32.out, hd0]; exact Nat.le_refl _) (by rw [K32.out]; exact infoK2) (row8_one _) ?_; intro w6 b6 g6; rw [splice_all _ _ (by rw [K32.out, hd0])] at b6; have hb6 := Lib.hid (alloc_turn (Below.refl _ _) g6); have Q6 := Lib.hid b6; have K6 := Lib.hid (K5.out.below hb6.out K5.out.lt); have W6 := Lib.hid (W5.out.on hb6.out); have HA6 := Lib.hid (HAW.out w6 W6.out); clear b6 g6 hb6)
    | (refine wpList_load_mid rfl 25 (.tmp 5) rfl w3.heap.size 0 rfl (row8 RK) _ K6.out.range Tryd.underlying25 rfl (by rw [K32.out]; exact infoK2) ?_)
    | (refine wpList_load_mid rfl 25 (.tmp 8) rfl w5.heap.size 0 rfl (row8 RK) _ Q6.out.range Tryd.underlying25 rfl (by rw [K32.out]; exact infoK2) ?_)
    | (refine wpList_bin rfl (b := .eql) (t := 25) (x := .tmp 29) (y := .tmp 30) rfl (.bool true) rfl rfl (run_eqGuard_agg _ _ _ _ _ _ _ eqTypeKW) (hkk _) ?_)
    | (go_at_call 15; (with_reducible refine HA6.out.mono ?_); rintro e w7 ⟨rfl, b7⟩; have W7 := Lib.hid (W6.out.on b7); clear b7)
    | (go_at_call 15; (with_reducible refine HA2.out.mono ?_); rintro e w7 ⟨rfl, b7⟩; have W7 := Lib.hid (W2.out.on b7); clear b7))
  all_goals
    go_ret
    exact ⟨rfl, W7.out⟩
set_option maxRecDepth 100000 in
theorem reads (os : Os) {H : Type} (enc : TypeId × Value → H) : ∃ places, DataW.whole enc Tryd.prog ((World.doorLaid Tryd.prog 400 os).forCall (fun _ _ => 0) ⟨#[], #[.agg (tbc SL.zero).toArray, .slice none 0 0], []⟩).memory Tryd.f5.params.toList Rows.slotsOpensSpec.vars false (#[.agg (tbc SL.zero).toArray, .slice none 0 0] : Array Value).toList 8 = some ([litT SL.zero, .nil], [], places) :=
  ⟨[], by kernel_rfl⟩
set_option maxRecDepth 100000 in
theorem wok (os : Os) : Input.okWideB Tryd.prog ((World.doorLaid Tryd.prog 400 os).forCall (fun _ _ => 0) ⟨#[], #[.agg (tbc SL.zero).toArray, .slice none 0 0], []⟩) 5 ⟨#[], #[.agg (tbc SL.zero).toArray, .slice none 0 0], []⟩ = true := by kernel_rfl
set_option linter.unusedVariables false in
set_option maxHeartbeats 1000000 in
set_option maxRecDepth 100000 in
theorem lifted (os : Os) (started : os.Started) (H : Type) (enc : TypeId × Value → H) (F : Stop.Interp) :
    ReturnsInHanded {} Tryd.checked os 5 .any ((OpenSpec.ofChange Rows.slotsOpensSpec).preRow enc Tryd.prog Tryd.f5 Rows.slotsOpensRow.domain false laidXKAPs) (((OpenSpec.ofChange Rows.slotsOpensSpec).at F).post enc Tryd.prog Tryd.f5 false true false false) := by
  obtain ⟨places, hx⟩ := reads os enc
  refine returnsInHanded_of_row (C := Tryd.checked) (s := OpenSpec.ofChange Rows.slotsOpensSpec) own started (by kernel_rfl) Tryd.func5
    (witness_row_atRef (enc := enc) (C := Tryd.checked) false (World.doorLaid Tryd.prog 400 os) #[.agg (tbc SL.zero).toArray, .slice none 0 0] rfl (by kernel_rfl) (by kernel_rfl) (wok os)
      (OpenSpec.preRow_of_cond 8 hx (by kernel_rfl) (fun k hk => by cases hk) (by kernel_rfl) (doorXKAPs_met os _))) ?_
  intro W base args ds gs before hval0 hW _ hcond hsz0 hL _ _
  have hsz : (DataW.weightsEach Tryd.prog (Tryd.f5.params.toList ++ Rows.slotsOpensSpec.plain.varTypes Tryd.prog) (ds ++ gs)).all (· ≤ reachBytes) = true := hsz0
  clear hsz0
  have hval : ∀ (j : Nat) t v, Tryd.f5.params[j]? = some t → args[j]? = some v → Value.okWide Tryd.prog W .any base t v := hval0
  have hW' := hW
  obtain ⟨p, q, hA0, hV, rfl, _, _⟩ := hW
  have hA : DataW.TrodAll enc Tryd.prog W 0 (fun _ => true) true Tryd.f5.params.toList args.toList ds p := hA0
  rw [Tryd.params5] at hA hval hsz
  obtain ⟨v0, vs0, d0, ds0, p0, q0, hargs, rfl, rfl, g0, r0⟩ := trodAll_cons hA
  obtain ⟨v1, vs1, d1, ds1, p1, q1, rfl, rfl, rfl, g1, r1⟩ := trodAll_cons r0
  obtain ⟨rfl, rfl, rfl⟩ := trodAll_nil r1
  obtain rfl : args = #[v0, v1] := by cases args; simp_all
  obtain ⟨rfl, rfl⟩ := trodVars_none hV
  obtain ⟨l0, h0, rfl, rfl, rfl⟩ := open_table (hval 0 30 v0 rfl rfl) g0
  obtain ⟨l1, h1⟩ := open_bytes (hval 1 31 v1 rfl rfl) g1 (fun elems spare e => sized_slice hsz (j := 1) (t := 31) (e := 5) rfl (by rw [← e]; rfl) Tryd.underlying31)
  clear hA0 hval0
  have hlt := hW'.lt
  refine (walk W (tabsXKAPs_of_laid hL) l0 h0 v1 l1 h1).mono fun e W' ⟨he, hb⟩ => ?_
  subst he
  have hargs : DataW.TrodAll enc Tryd.prog W' 0 (fun b => decide (b < W.heap.size)) true _ _ _ _ := (trodAll_cons_mk (shut_table h0) (trodAll_cons_mk (Below.trod laidOut (by kernel_rfl) (of_decide_eq_true (by kernel_rfl)) g1 hb (fun x hx => hlt x (by simp [hx]))) trodAll_mk0))
  simp only [List.append_nil] at hW' hargs
  exact ⟨_, rfl, post_law hW' (trodAll_cons_mk (shut_bool Tryd.underlying4 _) trodAll_mk0) hargs rfl hb⟩
theorem over : Rows.slotsOpensRow.holds Tryd.pinned (OpenSpec.ofChange Rows.slotsOpensSpec) :=
  OpenClaim.holds_of_cond 5 Tryd.f5 rfl rfl rfl rfl rfl rfl rfl ⟨rfl, rfl, rfl, rfl, rfl⟩ rfl rfl rfl rfl rfl (by kernel_rfl) Tryd.func5 (by kernel_rfl)
    (of_decide_eq_true (by kernel_rfl)) (by unfold Func.isWrapper; first | (rw [if_pos (by decide +kernel)]; kernel_rfl) | (rw [if_neg (by decide +kernel)]; exact ⟨rfl, rfl⟩))
    (fun os started H enc _ F => by rw [OpenClaim.pre_eq_preRow]; exact lifted os started H enc F)

/-- The given statement. -/
theorem proved : Rows.SlotsOpensCardSaid :=
  Claim7.holds_tied_plain_at .later [] _ _ _ _
    over (fun _ h => by cases h) (by kernel_rfl) (fun _ h => by cases h) slotsOpens_row_tie rfl ⟨rfl, rfl⟩ (by kernel_rfl) rfl
    (fun f fn hf hfn => by
      obtain rfl : f = 5 := Option.some.inj ((show Tryd.prog.funcNamed "reliquary/reliquarylaw12.SlotsOpens" = some 5 by kernel_rfl).symm.trans hf) |>.symm
      obtain rfl : fn = Tryd.f5 := (Option.some.inj (Tryd.func5.symm.trans hfn)).symm
      exact ⟨by kernel_rfl, fun j t ht => by
        rw [Tryd.params5] at ht
        have hm : t ∈ [30, 31] := by simpa using Array.mem_of_getElem? ht
        have hall : ([30, 31].all fun u => !Tryd.prog.wantsStandIn u) = true := by kernel_rfl
        exact (show Tryd.prog.wantsStandIn t = false by simpa using List.all_eq_true.1 hall t hm)⟩)
    (by kernel_rfl)
end Go.Proofs.YtbepchikngoknaaDoor.slotsOpens
