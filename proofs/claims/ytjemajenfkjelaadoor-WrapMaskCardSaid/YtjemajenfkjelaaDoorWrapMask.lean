/- WrapMask: what two keys are sealed to differs by one key just where they differ themselves; and the law's closed case holds. No condition but that the program's two tables hold their constants when the call begins. -/
import Derived.Test.YtjemajenfkjelaaDoorRows
import Derived.Test.YtjemajenfkjelaaDoorWrapLaws
import Derived.BigQuiet
import Derived.Test.YtjemajenfkjelaaDoorDoorWrap
import Derived.Test.YtjemajenfkjelaaDoorTie
import Derived.Test.YtjemajenfkjelaaDoorCards
import Derived.SevenTiedAt
import Derived.Test.YtjemajenfkjelaaDoorMem
import Derived.WalkKit
import Derived.ProofKit
import Derived.OpenShut
import Derived.SizedLaws
import Derived.Carry
import Derived.Deep.DeepHandedRow
import Derived.Deep.DeepWitnessRowRef
namespace Go.Proofs.YtjemajenfkjelaaDoor.wrapMask
open Go.ChangeShapes Go.WideShapes Go.ChangeAt Go.RowKit
open SM AM WM
theorem own : ownKnob Tryd.prog.godebug = none := by kernel_rfl
theorem cells23 : Tryd.prog.cellsOf 23 = 32 := by kernel_rfl
theorem cells5 : Tryd.prog.cellsOf 5 = 1 := by kernel_rfl
set_option linter.unusedVariables false in
set_option maxHeartbeats 4000000 in
set_option maxRecDepth 100000 in
theorem walk (w : World) (ht : TabX w ∧ TabP w) (l0 : List Nat) (h0 : Bytes 32 l0) (l1 : List Nat) (h1 : Bytes 32 l1) (l2 : List Nat) (h2 : Bytes 32 l2) :
    Calls Tryd.prog 7 #[.agg (row8 l0).toArray, .agg (row8 l1).toArray, .agg (row8 l2).toArray] w fun e w' => e = .returned (.bool true) ∧ Below w.heap.size w w' := by
  obtain ⟨TX, TP⟩ := ht
  obtain ⟨Z, hZ⟩ : ∃ Z, Z = wseal l0 l1 := ⟨_, rfl⟩
  have bZ : Bytes 32 Z := by rw [hZ]; exact wseal_bytes l0 h1
  obtain ⟨V, hV⟩ : ∃ V, V = wcheck l0 Z := ⟨_, rfl⟩
  have bV : Bytes 32 V := by rw [hV]; exact wcheck_bytes l0 Z
  obtain ⟨Y, hY⟩ : ∃ Y, Y = wseal l0 l2 := ⟨_, rfl⟩
  have bY : Bytes 32 Y := by rw [hY]; exact wseal_bytes l0 h2
  obtain ⟨U, hU⟩ : ∃ U, U = wcheck l0 Y := ⟨_, rfl⟩
  have bU : Bytes 32 U := by rw [hU]; exact wcheck_bytes l0 Y
  have HMS := Lib.hid (fun j (hj : j < 32) => (show gb Z j ^^^ gb Y j = gb l1 j ^^^ gb l2 j by rw [hZ, hY]; exact wseal_mask l0 l1 l2 j hj))
  obtain ⟨D0, hD0⟩ : ∃ D0, D0 = row8 (List.replicate 32 0) := ⟨_, rfl⟩
  have hz : ∀ w, (zeroValue 23).run Tryd.prog w = .ok (.agg D0.toArray) w := by rw [hD0]; exact zeroKeyW
  have hz2 : ∀ w, (zeroValue 24).run Tryd.prog w = .ok (.agg D0.toArray) w := by rw [hD0]; exact zeroSumW
  have hd0 : D0.length = 32 := by rw [hD0, row8_len, List.length_replicate]
  have Z32 := Lib.hid (show (row8 Z).length = 32 by rw [row8_len]; exact bZ.1)
  have V32 := Lib.hid (show (row8 V).length = 32 by rw [row8_len]; exact bV.1)
  have Y32 := Lib.hid (show (row8 Y).length = 32 by rw [row8_len]; exact bY.1)
  have U32 := Lib.hid (show (row8 U).length = 32 by rw [row8_len]; exact bU.1)
  have l032 := Lib.hid (show (row8 l0).length = 32 by rw [row8_len]; exact h0.1)
  have l132 := Lib.hid (show (row8 l1).length = 32 by rw [row8_len]; exact h1.1)
  have l232 := Lib.hid (show (row8 l2).length = 32 by rw [row8_len]; exact h2.1)
  have HS := Lib.hid (fun W (hW : Below w.heap.size w W) => pseal_any l0 l1 h0 h1 W (TX.below hW) (TP.below hW))
  rw [← hZ, ← hV] at HS
  have HSB := Lib.hid (fun W (hW : Below w.heap.size w W) => pseal_any l0 l2 h0 h2 W (TX.below hW) (TP.below hW))
  rw [← hY, ← hU] at HSB
  have HZB := Lib.hid bZ
  have HYB := Lib.hid bY
  have HL1 := Lib.hid h1
  have HL2 := Lib.hid h2
  have HAW := Lib.hid (fun W (hW : Below w.heap.size w W) => wawake_any W (TX.below hW) (TP.below hW))
  have v1 := (Below.refl w.heap.size w).alloc (Nat.le_refl _) (.cells (row8 l0).toArray 23)
  have v2 := v1.alloc v1.size (.cells (row8 l1).toArray 23)
  have v3 := v2.alloc v2.size (.cells (row8 l2).toArray 23)
  obtain ⟨w0, hw0⟩ : ∃ W, W = (((w.alloc (.cells (row8 l0).toArray 23)).alloc (.cells (row8 l1).toArray 23)).alloc (.cells (row8 l2).toArray 23)) := ⟨_, rfl⟩
  have x0 := ((Blk.new w 23 (row8 l0) (w.heap.size) rfl).alloc (.cells (row8 l1).toArray 23)).alloc (.cells (row8 l2).toArray 23)
  have x1 := (Blk.new (w.alloc (.cells (row8 l0).toArray 23)) 23 (row8 l1) (w.heap.size + 1) (by simp)).alloc (.cells (row8 l2).toArray 23)
  have x2 := Blk.new ((w.alloc (.cells (row8 l0).toArray 23)).alloc (.cells (row8 l1).toArray 23)) 23 (row8 l2) (w.heap.size + 1 + 1) (by simp)
  rw [← hw0] at v3 x0 x1 x2
  have X00 := Lib.hid x0
  have X10 := Lib.hid x1
  have X20 := Lib.hid x2
  have W0 := Lib.hid v3
  have HW0 := Lib.hid hw0
  clear hw0 v1 v2 v3 x0 x1 x2
  have HS0 := Lib.hid (HS.out w0 W0.out)
  clear hZ bZ hV bV hY bY hU bU hD0 TX TP
  go_enter Tryd.func7, Tryd.ntmps7
  go_upto_region 1 with (fail)
  rw [← HW0.out]
  go_wp2_with (first
    | (refine wpList_load_mid rfl 23 (.tmp 3) rfl w.heap.size 0 rfl (row8 l0) _ X00.out.range Tryd.underlying23 rfl (by rw [l032.out]; exact infoKeyL) ?_)
    | (refine wpList_load_mid rfl 23 (.tmp 4) rfl (w.heap.size + 1) 0 rfl (row8 l1) _ X10.out.range Tryd.underlying23 rfl (by rw [l132.out]; exact infoKeyL) ?_)
    | (go_at_call 8; (with_reducible refine HS0.out.mono ?_); rintro e w1 ⟨rfl, b⟩; have W1 := Lib.hid (W0.out.on b); have X01 := Lib.hid (X00.out.below b X00.out.lt); have X11 := Lib.hid (X10.out.below b X10.out.lt); have X21 := Lib.hid (X20.out.below b X20.out.lt);  clear b)
    | (refine wpList_store_blk rfl 23 (.tmp 7) (.tmp 16) rfl w1.heap.size 0 (row8 Z) rfl rfl 23 D0 ((Blk.new w1 23 D0 _ rfl).alloc (.cells D0.toArray 24)) (by rw [Z32.out, hd0]; exact Nat.le_refl _) (by rw [Z32.out]; exact infoKeyL) (row8_one _) ?_; intro w2 b g; rw [splice_all _ _ (by rw [Z32.out, hd0])] at b; have P2 := Lib.hid (two_a g); have Y2 := Lib.hid (two_blk g); have S2 := Lib.hid b; clear b g)
    | (refine wpList_store_blk rfl 24 (.tmp 8) (.tmp 17) rfl (w1.heap.size + 1) 0 (row8 V) rfl rfl 24 D0 Y2.out (by rw [V32.out, hd0]; exact Nat.le_refl _) (by rw [V32.out]; exact infoS) (row8_one _) ?_; intro w3 b g; rw [splice_all _ _ (by rw [V32.out, hd0])] at b; have hbw : Below w1.heap.size w1 w3 := P2.out.grown g P2.out.size (fun k hk => by have e : w1.heap.size + 1 = k := Option.some.inj hk; omega); have S3 := Lib.hid (S2.out.grown g (fun q => by have e : w1.heap.size = w1.heap.size + 1 := Option.some.inj q; omega)); have C3 := Lib.hid b; have W3 := Lib.hid (W1.out.on hbw); have X03 := Lib.hid (X01.out.below hbw X01.out.lt); have X13 := Lib.hid (X11.out.below hbw X11.out.lt); have X23 := Lib.hid (X21.out.below hbw X21.out.lt); have HB3 := Lib.hid (HSB.out w3 W3.out); clear b g hbw)
    | (refine wpList_load_mid rfl 23 (.tmp 3) rfl w.heap.size 0 rfl (row8 l0) _ X03.out.range Tryd.underlying23 rfl (by rw [l032.out]; exact infoKeyL) ?_)
    | (refine wpList_load_mid rfl 23 (.tmp 5) rfl (w.heap.size + 1 + 1) 0 rfl (row8 l2) _ X23.out.range Tryd.underlying23 rfl (by rw [l232.out]; exact infoKeyL) ?_)
    | (go_at_call 8; (with_reducible refine HB3.out.mono ?_); rintro e w4 ⟨rfl, b⟩; have W4 := Lib.hid (W3.out.on b); have X04 := Lib.hid (X03.out.below b X03.out.lt); have X14 := Lib.hid (X13.out.below b X13.out.lt); have X24 := Lib.hid (X23.out.below b X23.out.lt); have S4 := Lib.hid (S3.out.below b S3.out.lt); have C4 := Lib.hid (C3.out.below b C3.out.lt);  clear b)
    | (refine wpList_store_blk rfl 23 (.tmp 9) (.tmp 22) rfl w4.heap.size 0 (row8 Y) rfl rfl 23 D0 ((Blk.new w4 23 D0 _ rfl).alloc (.cells D0.toArray 24)) (by rw [Y32.out, hd0]; exact Nat.le_refl _) (by rw [Y32.out]; exact infoKeyL) (row8_one _) ?_; intro w5 b g; rw [splice_all _ _ (by rw [Y32.out, hd0])] at b; have P5 := Lib.hid (two_a g); have Y5 := Lib.hid (two_blk g); have T5 := Lib.hid b; clear b g)
    | (refine wpList_store_blk rfl 24 (.tmp 10) (.tmp 23) rfl (w4.heap.size + 1) 0 (row8 U) rfl rfl 24 D0 Y5.out (by rw [U32.out, hd0]; exact Nat.le_refl _) (by rw [U32.out]; exact infoS) (row8_one _) ?_; intro w6 b g; rw [splice_all _ _ (by rw [U32.out, hd0])] at b; have hbw : Below w4.heap.size w4 w6 := P5.out.grown g P5.out.size (fun k hk => by have e : w4.heap.size + 1 = k := Option.some.inj hk; omega); have T6 := Lib.hid (T5.out.grown g (fun q => by have e : w4.heap.size = w4.heap.size + 1 := Option.some.inj q; omega)); have D6 := Lib.hid b; have W6 := Lib.hid (W4.out.on hbw); have X06 := Lib.hid (X04.out.below hbw X04.out.lt); have X16 := Lib.hid (X14.out.below hbw X14.out.lt); have X26 := Lib.hid (X24.out.below hbw X24.out.lt); have S6 := Lib.hid (S4.out.below hbw S4.out.lt); have C6 := Lib.hid (C4.out.below hbw C4.out.lt);  clear b g hbw))
  go_loopw [11] (fun q wr => ∃ k : Nat, k ≤ 32 ∧ q = .int .i64 (k : Int) ∧ Blk wr w1.heap.size 23 (row8 Z) ∧ Blk wr w4.heap.size 23 (row8 Y) ∧ Blk wr (w.heap.size + 1) 23 (row8 l1) ∧ Blk wr (w.heap.size + 1 + 1) 23 (row8 l2) ∧ Below w.heap.size w wr) (fun q _ => 32 - (intOf q).toNat)
  case atStart => exact ⟨0, by omega, rfl, S6.out, T6.out, X16.out, X26.out, W6.out⟩
  case round =>
    clear S6 T6 X16 X26 W6 HS HSB HS0 HB3 W0 W1 W3 W4
    obtain ⟨k, hk, rfl, r0, r1, r2, r3, r4⟩ := hrel
    by_cases hlt : k < 32
    · have c0 := r0.cell k _ (row8_val Z k (by rw [HZB.out.1]; exact hlt))
      have c1 := r1.cell k _ (row8_val Y k (by rw [HYB.out.1]; exact hlt))
      have c2 := r2.cell k _ (row8_val l1 k (by rw [HL1.out.1]; exact hlt))
      have c3 := r3.cell k _ (row8_val l2 k (by rw [HL2.out.1]; exact hlt))
      have x0 := u8_xor_nat (gb Z k) (gb Y k) (HZB.out.2 k) (HYB.out.2 k)
      have x1 := u8_xor_nat (gb l1 k) (gb l2 k) (HL1.out.2 k) (HL2.out.2 k)
      rw [HMS.out k hlt] at x0
      have q1 : (k : Int) < 32 := by omega
      have R0 := Lib.hid r0
      have R1 := Lib.hid r1
      have R2 := Lib.hid r2
      have R3 := Lib.hid r3
      have R4 := Lib.hid r4
      clear r0 r1 r2 r3 r4
      go_upto_region 6 with (fail)
      go_region
      go_wp2_with fail
      exact ⟨⟨k + 1, by omega, by go_num, R0.out.drew, R1.out.drew, R2.out.drew, R3.out.drew, R4.out.drew⟩, by simp [intOf]; omega⟩
    · obtain rfl : k = 32 := by omega
      have R4 := Lib.hid r4
      have HA4 := Lib.hid (HAW.out wr r4)
      clear r0 r1 r2 r3 r4
      go_wp2_with (go_at_call 12; (with_reducible refine HA4.out.mono ?_); rintro e w5 ⟨rfl, b5⟩; have R5 := Lib.hid (R4.out.on b5); clear b5)
      go_ret
      exact ⟨rfl, R5.out⟩
set_option maxRecDepth 100000 in
theorem reads (os : Os) {H : Type} (enc : TypeId × Value → H) : ∃ places, DataW.whole enc Tryd.prog ((World.doorLaid Tryd.prog 400 os).forCall (fun _ _ => 0) ⟨#[], #[.agg (row8 (List.replicate 32 0)).toArray, .agg (row8 (List.replicate 32 0)).toArray, .agg (row8 (List.replicate 32 0)).toArray], []⟩).memory Tryd.f7.params.toList Rows.wrapMaskSpec.vars false (#[.agg (row8 (List.replicate 32 0)).toArray, .agg (row8 (List.replicate 32 0)).toArray, .agg (row8 (List.replicate 32 0)).toArray] : Array Value).toList 8 = some ([lit8 (List.replicate 32 0), lit8 (List.replicate 32 0), lit8 (List.replicate 32 0)], [], places) :=
  ⟨[], by kernel_rfl⟩
set_option linter.unusedVariables false in
set_option maxHeartbeats 1000000 in
set_option maxRecDepth 100000 in
theorem lifted (os : Os) (started : os.Started) (H : Type) (enc : TypeId × Value → H) (F : Stop.Interp) :
    ReturnsInHanded {} Tryd.checked os 7 .any ((OpenSpec.ofChange Rows.wrapMaskSpec).preRow enc Tryd.prog Tryd.f7 Rows.wrapMaskRow.domain false laidXPs) (((OpenSpec.ofChange Rows.wrapMaskSpec).at F).post enc Tryd.prog Tryd.f7 false true false false) := by
  obtain ⟨places, hx⟩ := reads os enc
  refine returnsInHanded_of_row (C := Tryd.checked) (s := OpenSpec.ofChange Rows.wrapMaskSpec) own started (by kernel_rfl) Tryd.func7
    (witness_row_atRef (enc := enc) (C := Tryd.checked) false (World.doorLaid Tryd.prog 400 os) #[.agg (row8 (List.replicate 32 0)).toArray, .agg (row8 (List.replicate 32 0)).toArray, .agg (row8 (List.replicate 32 0)).toArray] rfl (by kernel_rfl) (by kernel_rfl) (by kernel_rfl)
      (OpenSpec.preRow_of_cond 8 hx (by kernel_rfl) (fun k hk => by cases hk) (by kernel_rfl) (doorXPs_met os _))) ?_
  intro W base args ds gs before hval0 hW _ hcond hsz0 hL _ _
  have hsz : (DataW.weightsEach Tryd.prog (Tryd.f7.params.toList ++ Rows.wrapMaskSpec.plain.varTypes Tryd.prog) (ds ++ gs)).all (· ≤ reachBytes) = true := hsz0
  clear hsz0
  have hval : ∀ (j : Nat) t v, Tryd.f7.params[j]? = some t → args[j]? = some v → Value.okWide Tryd.prog W .any base t v := hval0
  have hW' := hW
  obtain ⟨p, q, hA0, hV, rfl, _, _⟩ := hW
  have hA : DataW.TrodAll enc Tryd.prog W 0 (fun _ => true) true Tryd.f7.params.toList args.toList ds p := hA0
  rw [Tryd.params7] at hA hval hsz
  obtain ⟨v0, vs0, d0, ds0, p0, q0, hargs, rfl, rfl, g0, r0⟩ := trodAll_cons hA
  obtain ⟨v1, vs1, d1, ds1, p1, q1, rfl, rfl, rfl, g1, r1⟩ := trodAll_cons r0
  obtain ⟨v2, vs2, d2, ds2, p2, q2, rfl, rfl, rfl, g2, r2⟩ := trodAll_cons r1
  obtain ⟨rfl, rfl, rfl⟩ := trodAll_nil r2
  obtain rfl : args = #[v0, v1, v2] := by cases args; simp_all
  obtain ⟨rfl, rfl⟩ := trodVars_none hV
  obtain ⟨l0, h0, rfl, rfl, rfl⟩ := open_row Tryd.underlying23 Tryd.underlying5 cells5 (hval 0 23 v0 rfl rfl) cells23 g0
  obtain ⟨l1, h1, rfl, rfl, rfl⟩ := open_row Tryd.underlying23 Tryd.underlying5 cells5 (hval 1 23 v1 rfl rfl) cells23 g1
  obtain ⟨l2, h2, rfl, rfl, rfl⟩ := open_row Tryd.underlying23 Tryd.underlying5 cells5 (hval 2 23 v2 rfl rfl) cells23 g2
  clear hA0 hval0
  have hlt := hW'.lt
  refine (walk W (tabsXPs_of_laid hL) l0 h0 l1 h1 l2 h2).mono fun e W' ⟨he, hb⟩ => ?_
  subst he
  have hargs : DataW.TrodAll enc Tryd.prog W' 0 (fun b => decide (b < W.heap.size)) true _ _ _ _ := (trodAll_cons_mk (shut_row Tryd.underlying23 Tryd.underlying5 cells5 cells23 h0) (trodAll_cons_mk (shut_row Tryd.underlying23 Tryd.underlying5 cells5 cells23 h1) (trodAll_cons_mk (shut_row Tryd.underlying23 Tryd.underlying5 cells5 cells23 h2) trodAll_mk0)))
  simp only [List.append_nil] at hW' hargs
  exact ⟨_, rfl, post_law hW' (trodAll_cons_mk (shut_bool Tryd.underlying4 _) trodAll_mk0) hargs rfl hb⟩

theorem over : Rows.wrapMaskRow.holds Tryd.pinned (OpenSpec.ofChange Rows.wrapMaskSpec) :=
  OpenClaim.holds_of_cond 7 Tryd.f7 rfl rfl rfl rfl rfl rfl rfl ⟨rfl, rfl, rfl, rfl, rfl⟩ rfl rfl rfl rfl rfl (by kernel_rfl) Tryd.func7 (by kernel_rfl)
    (of_decide_eq_true (by kernel_rfl)) (by unfold Func.isWrapper; first | (rw [if_pos (by decide +kernel)]; kernel_rfl) | (rw [if_neg (by decide +kernel)]; exact ⟨rfl, rfl⟩))
    (fun os started H enc _ F => by rw [OpenClaim.pre_eq_preRow]; exact lifted os started H enc F)

/-- The given statement. -/
theorem proved : Rows.WrapMaskCardSaid :=
  Claim7.holds_tied_plain_at .later [] _ _ _ _
    over (fun _ h => by cases h) (by kernel_rfl) (fun _ h => by cases h) wrapMask_row_tie rfl ⟨rfl, rfl⟩ (by kernel_rfl) rfl
    (fun f fn hf hfn => by
      obtain rfl : f = 7 := Option.some.inj ((show Tryd.prog.funcNamed "reliquary/reliquarylaw08.WrapMask" = some 7 by kernel_rfl).symm.trans hf) |>.symm
      obtain rfl : fn = Tryd.f7 := (Option.some.inj (Tryd.func7.symm.trans hfn)).symm
      exact ⟨by kernel_rfl, fun j t ht => by
        rw [Tryd.params7] at ht
        have hm : t ∈ [23, 23, 23] := by simpa using Array.mem_of_getElem? ht
        have hall : ([23, 23, 23].all fun u => !Tryd.prog.wantsStandIn u) = true := by kernel_rfl
        exact (show Tryd.prog.wantsStandIn t = false by simpa using List.all_eq_true.1 hall t hm)⟩)
    (by kernel_rfl)
end Go.Proofs.YtjemajenfkjelaaDoor.wrapMask
