/- ShaBack: for any thirty-two bytes, a sum's digits are read as it was; for any text, what is read has just these digits, and what is not is refused with ErrForm and noughts; and the law's closed case holds. No condition but that the program's table holds its constants when the call begins. -/
import Derived.Test.YtaephclooajabaaDoorRows
import Derived.Test.YtaephclooajabaaDoorShaBackMath
import Derived.Test.YtaephclooajabaaDoorDoorP
import Derived.Test.YtaephclooajabaaDoorTie
import Derived.Test.YtaephclooajabaaDoorCards
import Derived.SevenTiedAt
import Derived.WalkKit
import Derived.ProofKit
import Derived.OpenShut
import Derived.SizedLaws
import Derived.Carry
import Derived.Deep.DeepHandedRow
import Derived.Deep.DeepWitnessRowRef
namespace Go.Proofs.YtaephclooajabaaDoor.shaBack
open Go.ChangeShapes Go.WideShapes Go.ChangeAt Go.RowKit

theorem own : ownKnob Tryd.prog.godebug = none := by kernel_rfl
theorem cells26 : Tryd.prog.cellsOf 26 = 32 := by kernel_rfl
theorem cells5 : Tryd.prog.cellsOf 5 = 1 := by kernel_rfl
set_option linter.unusedVariables false in
set_option maxHeartbeats 2000000 in
theorem walk (w : World) (ht : TabP w) (l0 : List Nat) (h0 : Bytes 32 l0) (a1 : ByteArray) (w1 : a1.size ≤ maxLen) :
    Calls Tryd.prog 9 #[.agg (row8 l0).toArray, .string a1] w fun e w' => e = .returned (.bool true) ∧ Below w.heap.size w w' := by
  have HT := Lib.hid ht
  have HB := Lib.hid h0
  obtain ⟨HXS, hHXS⟩ : ∃ s, s = bstr (SM.hex l0) := ⟨_, rfl⟩
  have HP1 := Lib.hid (show ∀ W, Calls Tryd.prog 20 #[.string HXS] W fun e w' => e = .returned (.tuple #[.agg (row8 l0).toArray, .int .i64 0]) ∧ Below W.heap.size W w' from fun W => by
    have h := parse_told HXS W
    rw [hHXS, told_hex l0 h0] at h
    rw [hHXS]; exact h)
  have hbx := fun (W : World) (g : Nat) (l : List Nat) (hl : Bytes 32 l) (hW : Blk W g 26 (row8 l)) => hex_any l (by rw [hl.1]; omega) (.slice (some ⟨g, 0, none⟩) 32 32) W (by
    have hr := blk_rd hW hl.2 (n := 32) (cap := 32) (by rw [hl.1]; omega) (by omega) (by rw [hl.1]; omega)
    rw [List.take_of_length_le (by rw [hl.1]; omega)] at hr; exact hr)
  have HX1 := Lib.hid (show ∀ W g, Blk W g 26 (row8 l0) → Calls Tryd.prog 18 #[.slice (some ⟨g, 0, none⟩) 32 32] W fun e w' => e = .returned (.string HXS) ∧ Below W.heap.size W w' from fun W g hW => by
    rw [hHXS]; exact hbx W g l0 h0 hW)
  have hz := told_bytes (sb a1)
  obtain ⟨Z, hZ⟩ : ∃ Z, Z = (told (sb a1)).1 := ⟨_, rfl⟩
  obtain ⟨F, hF⟩ : ∃ F, F = (told (sb a1)).2 := ⟨_, rfl⟩
  have HP2 := Lib.hid (show ∀ W, Calls Tryd.prog 20 #[.string a1] W fun e w' => e = .returned (.tuple #[.agg (row8 Z).toArray, .int .i64 F]) ∧ Below W.heap.size W w' from fun W => by
    rw [hZ, hF]; exact parse_told a1 W)
  rw [← hZ] at hz
  have he := fun w => run_eql_sum h0 h0 w
  simp only [decide_true] at he
  have H32 := Lib.hid (show (row8 l0).length = 32 by rw [row8_len]; exact h0.1)
  have Z32 := Lib.hid (show (row8 Z).length = 32 by rw [row8_len]; exact hz.1)
  have b0 := Blk.new w 26 (row8 l0) _ rfl
  have B0 := Lib.hid b0
  have BB0 := Lib.hid ((Below.refl w.heap.size w).alloc (Nat.le_refl _) (.cells (row8 l0).toArray 26))
  by_cases hd : SM.Digits64 (sb a1)
  · have hF0 : F = 0 := by rw [hF]; unfold told; rw [if_pos hd]
    have HX2 := Lib.hid (show ∀ W g, Blk W g 26 (row8 Z) → Calls Tryd.prog 18 #[.slice (some ⟨g, 0, none⟩) 32 32] W fun e w' => e = .returned (.string a1) ∧ Below W.heap.size W w' from fun W g hW => by
      have h := hbx W g Z hz hW
      have e : bstr (SM.hex Z) = a1 := by rw [hZ]; unfold told; rw [if_pos hd]; exact bstr_hex a1 hd
      rw [e] at h; exact h)
    subst hF0
    clear hbx hHXS hZ hF hd ht h0 hz b0
    go_enter Tryd.func9, Tryd.ntmps9
    go_wp2_with (first
      | (go_at_call 18; with_reducible refine (HX1.out _ _ B0.out).mono ?_; rintro e w1 ⟨rfl, k1⟩; have C1 := Lib.hid (B0.out.below k1 B0.out.lt); have B1 := Lib.hid (BB0.out.on k1); clear k1)
      | (go_at_call 20; with_reducible refine (HP1.out _).mono ?_; rintro e w2 ⟨rfl, k2⟩; have C2 := Lib.hid (C1.out.below k2 C1.out.lt); have B2 := Lib.hid (B1.out.on k2); clear k2)
      | (refine wpList_store_blk rfl 26 (.tmp 5) (.tmp 13) rfl w2.heap.size 0 (row8 l0) rfl rfl 26 (row8 (List.replicate 32 0)) (Blk.new w2 26 (row8 (List.replicate 32 0)) _ rfl) (by rw [H32.out]; exact Nat.le_refl _) (by rw [H32.out]; exact infoS) (row8_one _) ?_; intro w3 b3 g3; rw [splice_all _ _ (by rw [H32.out]; rfl)] at b3; have Y3 := Lib.hid b3; have C3 := Lib.hid ((C2.out.alloc (.cells (row8 (List.replicate 32 0)).toArray 26)).grown g3 (fun q => by have := C2.out.lt; have := Option.some.inj q; omega)); have B3 := Lib.hid (own_turn B2.out g3); clear b3 g3)
      | (go_at_call 20; with_reducible refine (HP2.out _).mono ?_; rintro e w4 ⟨rfl, k4⟩; have C4 := Lib.hid (C3.out.below k4 C3.out.lt); have Y4 := Lib.hid (Y3.out.below k4 Y3.out.lt); have B4 := Lib.hid (B3.out.on k4); clear k4)
      | (refine wpList_store_blk rfl 26 (.tmp 7) (.tmp 18) rfl w4.heap.size 0 (row8 Z) rfl rfl 26 (row8 (List.replicate 32 0)) (Blk.new w4 26 (row8 (List.replicate 32 0)) _ rfl) (by rw [Z32.out]; exact Nat.le_refl _) (by rw [Z32.out]; exact infoS) (row8_one _) ?_; intro w5 b5 g5; rw [splice_all _ _ (by rw [Z32.out]; rfl)] at b5; have Z5 := Lib.hid b5; have C5 := Lib.hid ((C4.out.alloc (.cells (row8 (List.replicate 32 0)).toArray 26)).grown g5 (fun q => by have := C4.out.lt; have := Option.some.inj q; omega)); have Y5 := Lib.hid ((Y4.out.alloc (.cells (row8 (List.replicate 32 0)).toArray 26)).grown g5 (fun q => by have := Y4.out.lt; have := Option.some.inj q; omega)); have B5 := Lib.hid (own_turn B4.out g5); clear b5 g5)
      | (refine wpList_load_mid rfl 26 (.tmp 5) rfl w2.heap.size 0 rfl (row8 l0) _ Y5.out.range Tryd.underlying26 rfl (by rw [H32.out]; exact infoS) ?_)
      | (refine wpList_load_mid rfl 26 (.tmp 2) rfl w.heap.size 0 rfl (row8 l0) _ C5.out.range Tryd.underlying26 rfl (by rw [H32.out]; exact infoS) ?_)
      | (go_at_call 18; with_reducible refine (HX2.out _ _ Z5.out).mono ?_; rintro e w6 ⟨rfl, k6⟩; have B6 := Lib.hid (B5.out.on k6); clear k6)
      | (go_at_call 13; refine (awake_any _ (HT.out.below B6.out)).mono ?_; rintro e w7 ⟨rfl, k7⟩; have B7 := Lib.hid (B6.out.on k7); clear k7))
    go_ret
    exact ⟨rfl, B7.out⟩
  · have hF4 : F = 4 := by rw [hF]; unfold told; rw [if_neg hd]
    have hZ0 : Z = List.replicate 32 0 := by rw [hZ]; unfold told; rw [if_neg hd]
    have he2 : ∀ w, (binOp .eql 26 (.agg (row8 Z).toArray) (.agg #[.int .u8 0, .int .u8 0, .int .u8 0, .int .u8 0, .int .u8 0, .int .u8 0, .int .u8 0, .int .u8 0, .int .u8 0, .int .u8 0, .int .u8 0, .int .u8 0, .int .u8 0, .int .u8 0, .int .u8 0, .int .u8 0, .int .u8 0, .int .u8 0, .int .u8 0, .int .u8 0, .int .u8 0, .int .u8 0, .int .u8 0, .int .u8 0, .int .u8 0, .int .u8 0, .int .u8 0, .int .u8 0, .int .u8 0, .int .u8 0, .int .u8 0, .int .u8 0])).run Tryd.prog w = .ok (.bool true) w := fun w => by
      have h := run_eql_sum hz hz w
      simp only [decide_true] at h
      have e : (row8 Z).toArray = #[.int .u8 0, .int .u8 0, .int .u8 0, .int .u8 0, .int .u8 0, .int .u8 0, .int .u8 0, .int .u8 0, .int .u8 0, .int .u8 0, .int .u8 0, .int .u8 0, .int .u8 0, .int .u8 0, .int .u8 0, .int .u8 0, .int .u8 0, .int .u8 0, .int .u8 0, .int .u8 0, .int .u8 0, .int .u8 0, .int .u8 0, .int .u8 0, .int .u8 0, .int .u8 0, .int .u8 0, .int .u8 0, .int .u8 0, .int .u8 0, .int .u8 0, .int .u8 0] := by rw [hZ0]; rfl
      rw [← e]; exact h
    subst hF4
    clear hbx hHXS hZ hF hd ht h0 hz b0 hZ0
    go_enter Tryd.func9, Tryd.ntmps9
    go_wp2_with (first
      | (go_at_call 18; with_reducible refine (HX1.out _ _ B0.out).mono ?_; rintro e w1 ⟨rfl, k1⟩; have C1 := Lib.hid (B0.out.below k1 B0.out.lt); have B1 := Lib.hid (BB0.out.on k1); clear k1)
      | (go_at_call 20; with_reducible refine (HP1.out _).mono ?_; rintro e w2 ⟨rfl, k2⟩; have C2 := Lib.hid (C1.out.below k2 C1.out.lt); have B2 := Lib.hid (B1.out.on k2); clear k2)
      | (refine wpList_store_blk rfl 26 (.tmp 5) (.tmp 13) rfl w2.heap.size 0 (row8 l0) rfl rfl 26 (row8 (List.replicate 32 0)) (Blk.new w2 26 (row8 (List.replicate 32 0)) _ rfl) (by rw [H32.out]; exact Nat.le_refl _) (by rw [H32.out]; exact infoS) (row8_one _) ?_; intro w3 b3 g3; rw [splice_all _ _ (by rw [H32.out]; rfl)] at b3; have Y3 := Lib.hid b3; have C3 := Lib.hid ((C2.out.alloc (.cells (row8 (List.replicate 32 0)).toArray 26)).grown g3 (fun q => by have := C2.out.lt; have := Option.some.inj q; omega)); have B3 := Lib.hid (own_turn B2.out g3); clear b3 g3)
      | (go_at_call 20; with_reducible refine (HP2.out _).mono ?_; rintro e w4 ⟨rfl, k4⟩; have C4 := Lib.hid (C3.out.below k4 C3.out.lt); have Y4 := Lib.hid (Y3.out.below k4 Y3.out.lt); have B4 := Lib.hid (B3.out.on k4); clear k4)
      | (refine wpList_store_blk rfl 26 (.tmp 7) (.tmp 18) rfl w4.heap.size 0 (row8 Z) rfl rfl 26 (row8 (List.replicate 32 0)) (Blk.new w4 26 (row8 (List.replicate 32 0)) _ rfl) (by rw [Z32.out]; exact Nat.le_refl _) (by rw [Z32.out]; exact infoS) (row8_one _) ?_; intro w5 b5 g5; rw [splice_all _ _ (by rw [Z32.out]; rfl)] at b5; have Z5 := Lib.hid b5; have C5 := Lib.hid ((C4.out.alloc (.cells (row8 (List.replicate 32 0)).toArray 26)).grown g5 (fun q => by have := C4.out.lt; have := Option.some.inj q; omega)); have Y5 := Lib.hid ((Y4.out.alloc (.cells (row8 (List.replicate 32 0)).toArray 26)).grown g5 (fun q => by have := Y4.out.lt; have := Option.some.inj q; omega)); have B5 := Lib.hid (own_turn B4.out g5); clear b5 g5)
      | (refine wpList_load_mid rfl 26 (.tmp 5) rfl w2.heap.size 0 rfl (row8 l0) _ Y5.out.range Tryd.underlying26 rfl (by rw [H32.out]; exact infoS) ?_)
      | (refine wpList_load_mid rfl 26 (.tmp 2) rfl w.heap.size 0 rfl (row8 l0) _ C5.out.range Tryd.underlying26 rfl (by rw [H32.out]; exact infoS) ?_)
      | (refine wpList_load_wanted rfl 26 (.tmp 7) rfl w4.heap.size 0 rfl (row8 Z) _ Z5.out.range Tryd.underlying26 rfl (by rw [Z32.out]; exact infoS) ?_)
      | (go_at_call 13; refine (awake_any _ (HT.out.below B5.out)).mono ?_; rintro e w7 ⟨rfl, k7⟩; have B7 := Lib.hid (B5.out.on k7); clear k7))
    go_ret
    exact ⟨rfl, B7.out⟩
set_option maxRecDepth 100000 in
theorem reads (os : Os) {H : Type} (enc : TypeId × Value → H) : ∃ places, DataW.whole enc Tryd.prog ((World.doorLaid Tryd.prog 400 os).forCall (fun _ _ => 0) ⟨#[], #[.agg #[.int .u8 0, .int .u8 0, .int .u8 0, .int .u8 0, .int .u8 0, .int .u8 0, .int .u8 0, .int .u8 0, .int .u8 0, .int .u8 0, .int .u8 0, .int .u8 0, .int .u8 0, .int .u8 0, .int .u8 0, .int .u8 0, .int .u8 0, .int .u8 0, .int .u8 0, .int .u8 0, .int .u8 0, .int .u8 0, .int .u8 0, .int .u8 0, .int .u8 0, .int .u8 0, .int .u8 0, .int .u8 0, .int .u8 0, .int .u8 0, .int .u8 0, .int .u8 0], .string ByteArray.empty], []⟩).memory Tryd.f9.params.toList Rows.shaBackSpec.vars false (#[.agg #[.int .u8 0, .int .u8 0, .int .u8 0, .int .u8 0, .int .u8 0, .int .u8 0, .int .u8 0, .int .u8 0, .int .u8 0, .int .u8 0, .int .u8 0, .int .u8 0, .int .u8 0, .int .u8 0, .int .u8 0, .int .u8 0, .int .u8 0, .int .u8 0, .int .u8 0, .int .u8 0, .int .u8 0, .int .u8 0, .int .u8 0, .int .u8 0, .int .u8 0, .int .u8 0, .int .u8 0, .int .u8 0, .int .u8 0, .int .u8 0, .int .u8 0, .int .u8 0], .string ByteArray.empty] : Array Value).toList 8 = some ([.agg [.lit (.int .u8 0), .lit (.int .u8 0), .lit (.int .u8 0), .lit (.int .u8 0), .lit (.int .u8 0), .lit (.int .u8 0), .lit (.int .u8 0), .lit (.int .u8 0), .lit (.int .u8 0), .lit (.int .u8 0), .lit (.int .u8 0), .lit (.int .u8 0), .lit (.int .u8 0), .lit (.int .u8 0), .lit (.int .u8 0), .lit (.int .u8 0), .lit (.int .u8 0), .lit (.int .u8 0), .lit (.int .u8 0), .lit (.int .u8 0), .lit (.int .u8 0), .lit (.int .u8 0), .lit (.int .u8 0), .lit (.int .u8 0), .lit (.int .u8 0), .lit (.int .u8 0), .lit (.int .u8 0), .lit (.int .u8 0), .lit (.int .u8 0), .lit (.int .u8 0), .lit (.int .u8 0), .lit (.int .u8 0)], .lit (.string [])], [], places) :=
  ⟨[], by kernel_rfl⟩
set_option linter.unusedVariables false in
set_option maxHeartbeats 1000000 in
set_option maxRecDepth 100000 in
theorem lifted (os : Os) (started : os.Started) (H : Type) (enc : TypeId × Value → H) (F : Stop.Interp) :
    ReturnsInHanded {} Tryd.checked os 9 .any ((OpenSpec.ofChange Rows.shaBackSpec).preRow enc Tryd.prog Tryd.f9 Rows.shaBackRow.domain false laidP) (((OpenSpec.ofChange Rows.shaBackSpec).at F).post enc Tryd.prog Tryd.f9 false true false false) := by
  obtain ⟨places, hx⟩ := reads os enc
  refine returnsInHanded_of_row (C := Tryd.checked) (s := OpenSpec.ofChange Rows.shaBackSpec) own started (by kernel_rfl) Tryd.func9
    (witness_row_atRef (enc := enc) (C := Tryd.checked) false (World.doorLaid Tryd.prog 400 os) #[.agg #[.int .u8 0, .int .u8 0, .int .u8 0, .int .u8 0, .int .u8 0, .int .u8 0, .int .u8 0, .int .u8 0, .int .u8 0, .int .u8 0, .int .u8 0, .int .u8 0, .int .u8 0, .int .u8 0, .int .u8 0, .int .u8 0, .int .u8 0, .int .u8 0, .int .u8 0, .int .u8 0, .int .u8 0, .int .u8 0, .int .u8 0, .int .u8 0, .int .u8 0, .int .u8 0, .int .u8 0, .int .u8 0, .int .u8 0, .int .u8 0, .int .u8 0, .int .u8 0], .string ByteArray.empty] rfl (by kernel_rfl) (by kernel_rfl) (by kernel_rfl)
      (OpenSpec.preRow_of_cond 8 hx (by kernel_rfl) (fun k hk => by cases hk) (by kernel_rfl) (doorP_met os _))) ?_
  intro W base args ds gs before hval0 hW _ hcond hsz0 hL _ _
  have hsz : (DataW.weightsEach Tryd.prog (Tryd.f9.params.toList ++ Rows.shaBackSpec.plain.varTypes Tryd.prog) (ds ++ gs)).all (· ≤ reachBytes) = true := hsz0
  clear hsz0
  have hval : ∀ (j : Nat) t v, Tryd.f9.params[j]? = some t → args[j]? = some v → Value.okWide Tryd.prog W .any base t v := hval0
  have hW' := hW
  obtain ⟨p, q, hA0, hV, rfl, _, _⟩ := hW
  have hA : DataW.TrodAll enc Tryd.prog W 0 (fun _ => true) true Tryd.f9.params.toList args.toList ds p := hA0
  rw [Tryd.params9] at hA hval hsz
  obtain ⟨v0, vs0, d0, ds0, p0, q0, hargs, rfl, rfl, g0, r0⟩ := trodAll_cons hA
  obtain ⟨v1, vs1, d1, ds1, p1, q1, rfl, rfl, rfl, g1, r1⟩ := trodAll_cons r0
  obtain ⟨rfl, rfl, rfl⟩ := trodAll_nil r1
  obtain rfl : args = #[v0, v1] := by cases args; simp_all
  obtain ⟨rfl, rfl⟩ := trodVars_none hV
  obtain ⟨l0, h0, rfl, rfl, rfl⟩ := open_row Tryd.underlying26 Tryd.underlying5 cells5 (hval 0 26 v0 rfl rfl) cells26 g0
  obtain ⟨a1, rfl, rfl, rfl, w1⟩ := Go.ChangeMaps.open_string Tryd.underlying9 (hval 1 9 v1 rfl rfl) g1
  clear hA0 hval0
  have hlt := hW'.lt
  refine (walk W (tabP_of_laid hL) l0 h0 a1 w1).mono fun e W' ⟨he, hb⟩ => ?_
  subst he
  have hargs : DataW.TrodAll enc Tryd.prog W' 0 (fun b => decide (b < W.heap.size)) true _ _ _ _ := (trodAll_cons_mk (shut_row Tryd.underlying26 Tryd.underlying5 cells5 cells26 h0) (trodAll_cons_mk (Go.ChangeMaps.shut_string Tryd.underlying9 w1) trodAll_mk0))
  simp only [List.append_nil] at hW' hargs
  exact ⟨_, rfl, post_law hW' (trodAll_cons_mk (shut_bool Tryd.underlying4 _) trodAll_mk0) hargs rfl hb⟩

theorem over : Rows.shaBackRow.holds Tryd.pinned (OpenSpec.ofChange Rows.shaBackSpec) :=
  OpenClaim.holds_of_cond 9 Tryd.f9 rfl rfl rfl rfl rfl rfl rfl ⟨rfl, rfl, rfl, rfl, rfl⟩ rfl rfl rfl rfl rfl (by kernel_rfl) Tryd.func9 (by kernel_rfl)
    (of_decide_eq_true (by kernel_rfl)) (by unfold Func.isWrapper; first | (rw [if_pos (by decide +kernel)]; kernel_rfl) | (rw [if_neg (by decide +kernel)]; exact ⟨rfl, rfl⟩))
    (fun os started H enc _ F => by rw [OpenClaim.pre_eq_preRow]; exact lifted os started H enc F)

/-- The given statement. -/
theorem proved : Rows.ShaBackCardSaid :=
  Claim7.holds_tied_plain_at .later [] _ _ _ _
    over (fun _ h => by cases h) (by kernel_rfl) (fun _ h => by cases h) shaBack_row_tie rfl ⟨rfl, rfl⟩ (by kernel_rfl) rfl
    (fun f fn hf hfn => by
      obtain rfl : f = 9 := Option.some.inj ((show Tryd.prog.funcNamed "reliquary/reliquarylaw03.ShaBack" = some 9 by kernel_rfl).symm.trans hf) |>.symm
      obtain rfl : fn = Tryd.f9 := (Option.some.inj (Tryd.func9.symm.trans hfn)).symm
      exact ⟨by kernel_rfl, fun j t ht => by
        rw [Tryd.params9] at ht
        have hm : t ∈ [26, 9] := by simpa using Array.mem_of_getElem? ht
        have hall : ([26, 9].all fun u => !Tryd.prog.wantsStandIn u) = true := by kernel_rfl
        exact (show Tryd.prog.wantsStandIn t = false by simpa using List.all_eq_true.1 hall t hm)⟩)
    (by kernel_rfl)
end Go.Proofs.YtaephclooajabaaDoor.shaBack
