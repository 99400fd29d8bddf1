/- ShaParses: for any text, just one of sixty-four digits is a sum's, and is told as the document says, any other one is refused with ErrForm and noughts; and the law's closed case holds. No condition but that the program's table holds its constants when the call begins. -/
import Derived.Test.YtaephclooajabaaDoorRows
import Derived.Test.YtaephclooajabaaDoorShaLaws
import Derived.Test.YtaephclooajabaaDoorDoorP
import Derived.Test.YtaephclooajabaaDoorTie
import Derived.Test.YtaephclooajabaaDoorCards
import Derived.SevenTiedAt
import Derived.WalkKit
import Derived.ProofKit
import Derived.OpenShut
import Derived.SizedLaws
import Derived.Carry
import Derived.Deep.DeepHandedRow
import Derived.Deep.DeepWitnessRowRef
namespace Go.Proofs.YtaephclooajabaaDoor.shaParses
open Go.ChangeShapes Go.WideShapes Go.ChangeAt Go.RowKit

theorem own : ownKnob Tryd.prog.godebug = none := by kernel_rfl
set_option linter.unusedVariables false in
set_option maxHeartbeats 1000000 in
theorem walk (w : World) (ht : TabP w) (a0 : ByteArray) (w0 : a0.size ≤ maxLen) :
    Calls Tryd.prog 6 #[.string a0] w fun e w' => e = .returned (.bool true) ∧ Below w.heap.size w w' := by
  have HP := Lib.hid (fun W => parse_told a0 W)
  have HR := Lib.hid (fun W => rparse_told a0 W)
  have hb := told_bytes (sb a0)
  obtain ⟨R, hR⟩ : ∃ R, R = (told (sb a0)).1 := ⟨_, rfl⟩
  obtain ⟨E, hE⟩ : ∃ E, E = (told (sb a0)).2 := ⟨_, rfl⟩
  rw [← hR] at hb
  rw [← hR, ← hE] at HP HR
  have he := fun w => run_eql_sum hb hb w
  simp only [decide_true] at he
  have H32 := Lib.hid (show (row8 R).length = 32 by rw [row8_len]; exact hb.1)
  have HT := Lib.hid ht
  clear hb hR hE ht
  go_enter Tryd.func6, Tryd.ntmps6
  go_wp2_with (first
    | (go_at_call 20; refine (HP.out _).mono ?_; rintro e w1 ⟨rfl, b1⟩; have B1 := Lib.hid b1; clear b1)
    | (refine wpList_store_blk rfl 26 (.tmp 3) (.tmp 10) rfl w1.heap.size 0 (row8 R) rfl rfl 26 (row8 (List.replicate 32 0)) (Blk.new w1 26 (row8 (List.replicate 32 0)) _ rfl) (by rw [H32.out]; exact Nat.le_refl _) (by rw [H32.out]; exact infoS) (row8_one _) ?_; intro w2 b2 g2; rw [splice_all _ _ (by rw [H32.out]; rfl)] at b2; have R2 := Lib.hid b2; have B2 := Lib.hid (own_turn B1.out g2); clear b2 g2)
    | (go_at_call 21; refine (HR.out _).mono ?_; rintro e w3 ⟨rfl, b3⟩; have R3 := Lib.hid (R2.out.below b3 R2.out.lt); have B3 := Lib.hid (B2.out.on b3); clear b3)
    | (refine wpList_store_blk rfl 26 (.tmp 5) (.tmp 15) rfl w3.heap.size 0 (row8 R) rfl rfl 26 (row8 (List.replicate 32 0)) (Blk.new w3 26 (row8 (List.replicate 32 0)) _ rfl) (by rw [H32.out]; exact Nat.le_refl _) (by rw [H32.out]; exact infoS) (row8_one _) ?_; intro w4 b4 g4; rw [splice_all _ _ (by rw [H32.out]; rfl)] at b4; have S4 := Lib.hid b4; have R4 := Lib.hid ((R3.out.alloc (.cells (row8 (List.replicate 32 0)).toArray 26)).grown g4 (fun q => by have := R3.out.lt; have := Option.some.inj q; omega)); have B4 := Lib.hid (own_turn B3.out g4); clear b4 g4)
    | (refine wpList_load_mid rfl 26 (.tmp 3) rfl w1.heap.size 0 rfl (row8 R) _ R4.out.range Tryd.underlying26 rfl (by rw [H32.out]; exact infoS) ?_)
    | (refine wpList_load_mid rfl 26 (.tmp 5) rfl w3.heap.size 0 rfl (row8 R) _ S4.out.range Tryd.underlying26 rfl (by rw [H32.out]; exact infoS) ?_)
    | (go_at_call 13; refine (awake_any _ (HT.out.below B4.out)).mono ?_; rintro e w5 ⟨rfl, b5⟩; have B5 := Lib.hid (B4.out.on b5); clear b5))
  go_ret
  exact ⟨rfl, B5.out⟩
set_option maxRecDepth 100000 in
theorem reads (os : Os) {H : Type} (enc : TypeId × Value → H) : ∃ places, DataW.whole enc Tryd.prog ((World.doorLaid Tryd.prog 400 os).forCall (fun _ _ => 0) ⟨#[], #[.string ByteArray.empty], []⟩).memory Tryd.f6.params.toList Rows.shaParsesSpec.vars false (#[.string ByteArray.empty] : Array Value).toList 8 = some ([.lit (.string [])], [], places) :=
  ⟨[], by kernel_rfl⟩
set_option linter.unusedVariables false in
set_option maxHeartbeats 1000000 in
set_option maxRecDepth 100000 in
theorem lifted (os : Os) (started : os.Started) (H : Type) (enc : TypeId × Value → H) (F : Stop.Interp) :
    ReturnsInHanded {} Tryd.checked os 6 .any ((OpenSpec.ofChange Rows.shaParsesSpec).preRow enc Tryd.prog Tryd.f6 Rows.shaParsesRow.domain false laidP) (((OpenSpec.ofChange Rows.shaParsesSpec).at F).post enc Tryd.prog Tryd.f6 false true false false) := by
  obtain ⟨places, hx⟩ := reads os enc
  refine returnsInHanded_of_row (C := Tryd.checked) (s := OpenSpec.ofChange Rows.shaParsesSpec) own started (by kernel_rfl) Tryd.func6
    (witness_row_atRef (enc := enc) (C := Tryd.checked) false (World.doorLaid Tryd.prog 400 os) #[.string ByteArray.empty] rfl (by kernel_rfl) (by kernel_rfl) (by kernel_rfl)
      (OpenSpec.preRow_of_cond 8 hx (by kernel_rfl) (fun k hk => by cases hk) (by kernel_rfl) (doorP_met os _))) ?_
  intro W base args ds gs before hval0 hW _ hcond hsz0 hL _ _
  have hsz : (DataW.weightsEach Tryd.prog (Tryd.f6.params.toList ++ Rows.shaParsesSpec.plain.varTypes Tryd.prog) (ds ++ gs)).all (· ≤ reachBytes) = true := hsz0
  clear hsz0
  have hval : ∀ (j : Nat) t v, Tryd.f6.params[j]? = some t → args[j]? = some v → Value.okWide Tryd.prog W .any base t v := hval0
  have hW' := hW
  obtain ⟨p, q, hA0, hV, rfl, _, _⟩ := hW
  have hA : DataW.TrodAll enc Tryd.prog W 0 (fun _ => true) true Tryd.f6.params.toList args.toList ds p := hA0
  rw [Tryd.params6] at hA hval hsz
  obtain ⟨v0, vs0, d0, ds0, p0, q0, hargs, rfl, rfl, g0, r0⟩ := trodAll_cons hA
  obtain ⟨rfl, rfl, rfl⟩ := trodAll_nil r0
  obtain rfl : args = #[v0] := by cases args; simp_all
  obtain ⟨rfl, rfl⟩ := trodVars_none hV
  obtain ⟨a0, rfl, rfl, rfl, w0⟩ := Go.ChangeMaps.open_string Tryd.underlying9 (hval 0 9 v0 rfl rfl) g0
  clear hA0 hval0
  have hlt := hW'.lt
  refine (walk W (tabP_of_laid hL) a0 w0).mono fun e W' ⟨he, hb⟩ => ?_
  subst he
  have hargs : DataW.TrodAll enc Tryd.prog W' 0 (fun b => decide (b < W.heap.size)) true _ _ _ _ := (trodAll_cons_mk (Go.ChangeMaps.shut_string Tryd.underlying9 w0) trodAll_mk0)
  simp only [List.append_nil] at hW' hargs
  exact ⟨_, rfl, post_law hW' (trodAll_cons_mk (shut_bool Tryd.underlying4 _) trodAll_mk0) hargs rfl hb⟩

theorem over : Rows.shaParsesRow.holds Tryd.pinned (OpenSpec.ofChange Rows.shaParsesSpec) :=
  OpenClaim.holds_of_cond 6 Tryd.f6 rfl rfl rfl rfl rfl rfl rfl ⟨rfl, rfl, rfl, rfl, rfl⟩ rfl rfl rfl rfl rfl (by kernel_rfl) Tryd.func6 (by kernel_rfl)
    (of_decide_eq_true (by kernel_rfl)) (by unfold Func.isWrapper; first | (rw [if_pos (by decide +kernel)]; kernel_rfl) | (rw [if_neg (by decide +kernel)]; exact ⟨rfl, rfl⟩))
    (fun os started H enc _ F => by rw [OpenClaim.pre_eq_preRow]; exact lifted os started H enc F)

/-- The given statement. -/
theorem proved : Rows.ShaParsesCardSaid :=
  Claim7.holds_tied_plain_at .later [] _ _ _ _
    over (fun _ h => by cases h) (by kernel_rfl) (fun _ h => by cases h) shaParses_row_tie rfl ⟨rfl, rfl⟩ (by kernel_rfl) rfl
    (fun f fn hf hfn => by
      obtain rfl : f = 6 := Option.some.inj ((show Tryd.prog.funcNamed "reliquary/reliquarylaw03.ShaParses" = some 6 by kernel_rfl).symm.trans hf) |>.symm
      obtain rfl : fn = Tryd.f6 := (Option.some.inj (Tryd.func6.symm.trans hfn)).symm
      exact ⟨by kernel_rfl, fun j t ht => by
        rw [Tryd.params6] at ht
        have hm : t ∈ [9] := by simpa using Array.mem_of_getElem? ht
        have hall : ([9].all fun u => !Tryd.prog.wantsStandIn u) = true := by kernel_rfl
        exact (show Tryd.prog.wantsStandIn t = false by simpa using List.all_eq_true.1 hall t hm)⟩)
    (by kernel_rfl)
end Go.Proofs.YtaephclooajabaaDoor.shaParses
