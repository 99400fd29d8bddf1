/- ShaForks: for any bytes a, b, c: a fork goes on from what was written, what is written to one changes nothing of the other, and what is not there has nothing; and the law's closed case holds. No condition but that the program's table holds its constants when the call begins. -/
import Derived.Test.YtaephclooajabaaDoorRows
import Derived.Test.YtaephclooajabaaDoorShaTwo
import Derived.Test.YtaephclooajabaaDoorDoorP
import Derived.Test.YtaephclooajabaaDoorTie
import Derived.Test.YtaephclooajabaaDoorCards
import Derived.SevenTiedAt
import Derived.Test.YtaephclooajabaaDoorArgs
import Derived.WalkKit
import Derived.ProofKit
import Derived.OpenShut
import Derived.SizedLaws
import Derived.Carry
import Derived.Deep.DeepHandedRow
import Derived.Deep.DeepWitnessRowRef
namespace Go.Proofs.YtaephclooajabaaDoor.shaForks
open Go.ChangeShapes Go.WideShapes Go.ChangeAt Go.RowKit

theorem own : ownKnob Tryd.prog.godebug = none := by kernel_rfl
set_option linter.unusedVariables false in
set_option maxHeartbeats 2000000 in
set_option maxRecDepth 100000 in
theorem walk (w : World) (ht : TabP w) (v0 : Value) (l0 : List Nat) (h0 : Rd w v0 l0) (v1 : Value) (l1 : List Nat) (h1 : Rd w v1 l1) (v2 : Value) (l2 : List Nat) (h2 : Rd w v2 l2) :
    Calls Tryd.prog 8 #[v0, v1, v2] w fun e w' => e = .returned (.bool true) ∧ Below w.heap.size w w' := by
  obtain ⟨a0, c0, rfl, _⟩ := h0.shape
  obtain ⟨a1, c1, rfl, _⟩ := h1.shape
  obtain ⟨a2, c2, rfl, _⟩ := h2.shape
  have q0 := h0.fits
  have q1 := h1.fits
  have q2 := h2.fits
  have HV0 := Lib.hid h0
  have HV1 := Lib.hid h1
  have HV2 := Lib.hid h2
  have HT := Lib.hid ht
  have HK := Lib.hid ht.lt
  obtain ⟨SA, hSA⟩ : ∃ S, S = SM.sha (l0 ++ l1) := ⟨_, rfl⟩
  obtain ⟨SB, hSB⟩ : ∃ S, S = SM.sha (l0 ++ l2) := ⟨_, rfl⟩
  have ba : Bytes 32 SA := by rw [hSA]; exact sha_bytes _
  have bb : Bytes 32 SB := by rw [hSB]; exact sha_bytes _
  have hea := fun w => run_eql_sum ba ba w
  have heb := fun w => run_eql_sum bb bb w
  simp only [decide_true] at hea heb
  obtain ⟨Z, hZ⟩ : ∃ Z, Z = List.replicate 32 0 := ⟨_, rfl⟩
  have bz : Bytes 32 Z := by rw [hZ]; exact bytes_zero 32
  have hez : ∀ w, (binOp .eql 26 (.agg (row8 Z).toArray) (.agg #[.int .u8 0, .int .u8 0, .int .u8 0, .int .u8 0, .int .u8 0, .int .u8 0, .int .u8 0, .int .u8 0, .int .u8 0, .int .u8 0, .int .u8 0, .int .u8 0, .int .u8 0, .int .u8 0, .int .u8 0, .int .u8 0, .int .u8 0, .int .u8 0, .int .u8 0, .int .u8 0, .int .u8 0, .int .u8 0, .int .u8 0, .int .u8 0, .int .u8 0, .int .u8 0, .int .u8 0, .int .u8 0, .int .u8 0, .int .u8 0, .int .u8 0, .int .u8 0])).run Tryd.prog w = .ok (.bool true) w := fun w => by
    have h := run_eql_sum bz bz w
    simp only [decide_true] at h
    have e : (row8 Z).toArray = #[.int .u8 0, .int .u8 0, .int .u8 0, .int .u8 0, .int .u8 0, .int .u8 0, .int .u8 0, .int .u8 0, .int .u8 0, .int .u8 0, .int .u8 0, .int .u8 0, .int .u8 0, .int .u8 0, .int .u8 0, .int .u8 0, .int .u8 0, .int .u8 0, .int .u8 0, .int .u8 0, .int .u8 0, .int .u8 0, .int .u8 0, .int .u8 0, .int .u8 0, .int .u8 0, .int .u8 0, .int .u8 0, .int .u8 0, .int .u8 0, .int .u8 0, .int .u8 0] := by rw [hZ]; rfl
    rw [← e]; exact h
  have HSA := Lib.hid hSA
  have HSB := Lib.hid hSB
  have HSN := Lib.hid (show ∀ W, Calls Tryd.prog 17 #[.pointer none] W fun e w' => e = .returned (.agg (row8 Z).toArray) ∧ Below W.heap.size W w' from fun W => by rw [hZ]; exact sum_nil W)
  have HWN := Lib.hid (fun W => write_nil (.slice a0 l0.length c0) W)
  clear h0 h1 h2 ht hSA hSB ba bb bz hZ
  go_enter Tryd.func8, Tryd.ntmps8
  go_wp2_with (first
    | (go_at_call 14; refine (new_ex _).mono ?_; rintro e w1 ⟨h, hh, rfl, h1, b1⟩; have HH := Lib.hid hh; have B1 := Lib.hid b1; have W1 := Lib.hid (write_any h [] l0 (.slice a0 l0.length c0) w1 (HV0.out.below b1) (fun hl => HV0.out.old hl h (by omega)) h1 (HT.out.below b1) (by have := HK.out; omega) (by simp; omega)); clear h1 b1 hh)
    | (go_at_call 15; (with_reducible refine W1.out.mono ?_); rintro e w2 ⟨rfl, h2, g2⟩; rw [List.nil_append] at h2; have B2 := Lib.hid (B1.out.grown g2 B1.out.size (fun k hk => by have := Option.some.inj hk; have := HH.out; omega)); have F2 := Lib.hid (fork_ex h l0 w2 h2); have H2 := Lib.hid h2; clear h2 g2)
    | (go_at_call 22; (with_reducible refine F2.out.mono ?_); rintro e w3 ⟨f, hf, rfl, h3, b3⟩; have HF := Lib.hid hf; have NE := Lib.hid (show f ≠ h by have := H2.out.lt; omega); have B3 := Lib.hid (B2.out.on b3); have H3 := Lib.hid (H2.out.below b3 H2.out.lt); have W3 := Lib.hid (write_any f l0 l1 (.slice a1 l1.length c1) w3 (HV1.out.below B3.out) (fun hl => HV1.out.old hl f (by have := B2.out.size; omega)) h3 (HT.out.below B3.out) (by have := HK.out; have := B2.out.size; omega) (by omega)); clear h3 b3 hf)
    | (go_at_call 15; (with_reducible refine W3.out.mono ?_); rintro e w4 ⟨rfl, h4, g4⟩; have B4 := Lib.hid (B3.out.grown g4 B3.out.size (fun k hk => by have := Option.some.inj hk; have := HF.out; have := B2.out.size; omega)); have FF4 := Lib.hid h4; have W4 := Lib.hid (write_any h l0 l2 (.slice a2 l2.length c2) w4 (HV2.out.below B4.out) (fun hl => HV2.out.old hl h (by have := HH.out; omega)) (H3.out.grown g4 (fun q => NE.out (Option.some.inj q).symm)) (HT.out.below B4.out) (by have := HK.out; have := HH.out; omega) (by omega)); clear h4 g4)
    | (go_at_call 15; (with_reducible refine W4.out.mono ?_); rintro e w5 ⟨rfl, h5, g5⟩; have B5 := Lib.hid (B4.out.grown g5 B4.out.size (fun k hk => by have := Option.some.inj hk; have := HH.out; omega)); have FF5 := Lib.hid (FF4.out.grown g5 (fun q => NE.out (Option.some.inj q))); have H5 := Lib.hid h5; have S5 := Lib.hid (sum_of FF5.out (HT.out.below B5.out) (by rw [List.length_append]; omega) HSA.out); clear h5 g5)
    | (go_at_call 17; (with_reducible refine S5.out.mono ?_); rintro e w6 ⟨rfl, b6⟩; have B6 := Lib.hid (B5.out.on b6); have FF6 := Lib.hid (FF5.out.below b6 FF5.out.lt); have H6 := Lib.hid (H5.out.below b6 H5.out.lt); have O6 := Lib.hid (of_two (HV0.out.below B6.out) (HV1.out.below B6.out) (HT.out.below B6.out) (by omega) HSA.out); clear b6)
    | (go_at_call 11; (with_reducible refine O6.out.mono ?_); rintro e w7 ⟨rfl, b7⟩; have B7 := Lib.hid (B6.out.on b7); have FF7 := Lib.hid (FF6.out.below b7 FF6.out.lt); have S7 := Lib.hid (sum_of (H6.out.below b7 H6.out.lt) (HT.out.below B7.out) (by rw [List.length_append]; omega) HSB.out); clear b7)
    | (go_at_call 17; (with_reducible refine S7.out.mono ?_); rintro e w8 ⟨rfl, b8⟩; have B8 := Lib.hid (B7.out.on b8); have FF8 := Lib.hid (FF7.out.below b8 FF7.out.lt); have O8 := Lib.hid (of_two (HV0.out.below B8.out) (HV2.out.below B8.out) (HT.out.below B8.out) (by omega) HSB.out); clear b8)
    | (go_at_call 11; (with_reducible refine O8.out.mono ?_); rintro e w9 ⟨rfl, b9⟩; have B9 := Lib.hid (B8.out.on b9); have L9 := Lib.hid (len_any f _ w9 (FF8.out.below b9 FF8.out.lt)); rw [show (((l0 ++ l1).length : Nat) : Int) = (l0.length : Int) + (l1.length : Int) by rw [List.length_append]; omega] at L9; clear b9)
    | (go_at_call 16; (with_reducible refine L9.out.mono ?_); rintro e w10 ⟨rfl, rfl⟩)
    | (go_at_call 15; (with_reducible refine (HWN.out _).mono ?_); rintro e w11 ⟨rfl, rfl⟩)
    | (go_at_call 17; (with_reducible refine (HSN.out _).mono ?_); rintro e w12 ⟨rfl, b12⟩; have B12 := Lib.hid (B9.out.on b12); clear b12)
    | (go_at_call 16; (with_reducible refine (len_nil _).mono ?_); rintro e w13 ⟨rfl, rfl⟩)
    | (go_at_call 22; (with_reducible refine (fork_nil _).mono ?_); rintro e w14 ⟨rfl, rfl⟩)
    | (go_at_call 13; refine (awake_any _ (HT.out.below B12.out)).mono ?_; rintro e w15 ⟨rfl, b15⟩; have B15 := Lib.hid (B12.out.on b15); clear b15))
  go_ret
  exact ⟨rfl, B15.out⟩
set_option maxRecDepth 100000 in
theorem reads (os : Os) {H : Type} (enc : TypeId × Value → H) : ∃ places, DataW.whole enc Tryd.prog ((World.doorLaid Tryd.prog 400 os).forCall (fun _ _ => 0) ⟨#[], #[.slice none 0 0, .slice none 0 0, .slice none 0 0], []⟩).memory Tryd.f8.params.toList Rows.shaForksSpec.vars false (#[.slice none 0 0, .slice none 0 0, .slice none 0 0] : Array Value).toList 8 = some ([.nil, .nil, .nil], [], places) :=
  ⟨[], by kernel_rfl⟩
set_option linter.unusedVariables false in
set_option maxHeartbeats 1000000 in
set_option maxRecDepth 100000 in
theorem lifted (os : Os) (started : os.Started) (H : Type) (enc : TypeId × Value → H) (F : Stop.Interp) :
    ReturnsInHanded {} Tryd.checked os 8 .any ((OpenSpec.ofChange Rows.shaForksSpec).preRow enc Tryd.prog Tryd.f8 Rows.shaForksRow.domain false laidP) (((OpenSpec.ofChange Rows.shaForksSpec).at F).post enc Tryd.prog Tryd.f8 false true false false) := by
  obtain ⟨places, hx⟩ := reads os enc
  refine returnsInHanded_of_row (C := Tryd.checked) (s := OpenSpec.ofChange Rows.shaForksSpec) own started (by kernel_rfl) Tryd.func8
    (witness_row_atRef (enc := enc) (C := Tryd.checked) false (World.doorLaid Tryd.prog 400 os) #[.slice none 0 0, .slice none 0 0, .slice none 0 0] rfl (by kernel_rfl) (by kernel_rfl) (by kernel_rfl)
      (OpenSpec.preRow_of_cond 8 hx (by kernel_rfl) (fun k hk => by cases hk) (by kernel_rfl) (doorP_met os _))) ?_
  intro W base args ds gs before hval0 hW _ hcond hsz0 hL _ _
  have hsz : (DataW.weightsEach Tryd.prog (Tryd.f8.params.toList ++ Rows.shaForksSpec.plain.varTypes Tryd.prog) (ds ++ gs)).all (· ≤ reachBytes) = true := hsz0
  clear hsz0
  have hval : ∀ (j : Nat) t v, Tryd.f8.params[j]? = some t → args[j]? = some v → Value.okWide Tryd.prog W .any base t v := hval0
  have hW' := hW
  obtain ⟨p, q, hA0, hV, rfl, _, _⟩ := hW
  have hA : DataW.TrodAll enc Tryd.prog W 0 (fun _ => true) true Tryd.f8.params.toList args.toList ds p := hA0
  rw [Tryd.params8] at hA hval hsz
  obtain ⟨v0, vs0, d0, ds0, p0, q0, hargs, rfl, rfl, g0, r0⟩ := trodAll_cons hA
  obtain ⟨v1, vs1, d1, ds1, p1, q1, rfl, rfl, rfl, g1, r1⟩ := trodAll_cons r0
  obtain ⟨v2, vs2, d2, ds2, p2, q2, rfl, rfl, rfl, g2, r2⟩ := trodAll_cons r1
  obtain ⟨rfl, rfl, rfl⟩ := trodAll_nil r2
  obtain rfl : args = #[v0, v1, v2] := by cases args; simp_all
  obtain ⟨rfl, rfl⟩ := trodVars_none hV
  obtain ⟨l0, h0⟩ := open_bytes (hval 0 23 v0 rfl rfl) g0 (fun elems spare e => sized_slice hsz (j := 0) (t := 23) (e := 5) rfl (by rw [← e]; rfl) Tryd.underlying23)
  obtain ⟨l1, h1⟩ := open_bytes (hval 1 23 v1 rfl rfl) g1 (fun elems spare e => sized_slice hsz (j := 1) (t := 23) (e := 5) rfl (by rw [← e]; rfl) Tryd.underlying23)
  obtain ⟨l2, h2⟩ := open_bytes (hval 2 23 v2 rfl rfl) g2 (fun elems spare e => sized_slice hsz (j := 2) (t := 23) (e := 5) rfl (by rw [← e]; rfl) Tryd.underlying23)
  clear hA0 hval0
  have hlt := hW'.lt
  refine (walk W (tabP_of_laid hL) v0 l0 h0 v1 l1 h1 v2 l2 h2).mono fun e W' ⟨he, hb⟩ => ?_
  subst he
  have hargs : DataW.TrodAll enc Tryd.prog W' 0 (fun b => decide (b < W.heap.size)) true _ _ _ _ := (trodAll_cons_mk (Below.trod laidOut (by kernel_rfl) (of_decide_eq_true (by kernel_rfl)) g0 hb (fun x hx => hlt x (by simp [hx]))) (trodAll_cons_mk (Below.trod laidOut (by kernel_rfl) (of_decide_eq_true (by kernel_rfl)) g1 hb (fun x hx => hlt x (by simp [hx]))) (trodAll_cons_mk (Below.trod laidOut (by kernel_rfl) (of_decide_eq_true (by kernel_rfl)) g2 hb (fun x hx => hlt x (by simp [hx]))) trodAll_mk0)))
  simp only [List.append_nil] at hW' hargs
  exact ⟨_, rfl, post_law hW' (trodAll_cons_mk (shut_bool Tryd.underlying4 _) trodAll_mk0) hargs rfl hb⟩

theorem over : Rows.shaForksRow.holds Tryd.pinned (OpenSpec.ofChange Rows.shaForksSpec) :=
  OpenClaim.holds_of_cond 8 Tryd.f8 rfl rfl rfl rfl rfl rfl rfl ⟨rfl, rfl, rfl, rfl, rfl⟩ rfl rfl rfl rfl rfl (by kernel_rfl) Tryd.func8 (by kernel_rfl)
    (of_decide_eq_true (by kernel_rfl)) (by unfold Func.isWrapper; first | (rw [if_pos (by decide +kernel)]; kernel_rfl) | (rw [if_neg (by decide +kernel)]; exact ⟨rfl, rfl⟩))
    (fun os started H enc _ F => by rw [OpenClaim.pre_eq_preRow]; exact lifted os started H enc F)

/-- The given statement. -/
theorem proved : Rows.ShaForksCardSaid :=
  Claim7.holds_tied_plain_at .later [] _ _ _ _
    over (fun _ h => by cases h) (by kernel_rfl) (fun _ h => by cases h) shaForks_row_tie rfl ⟨rfl, rfl⟩ (by kernel_rfl) rfl
    (fun f fn hf hfn => by
      obtain rfl : f = 8 := Option.some.inj ((show Tryd.prog.funcNamed "reliquary/reliquarylaw03.ShaForks" = some 8 by kernel_rfl).symm.trans hf) |>.symm
      obtain rfl : fn = Tryd.f8 := (Option.some.inj (Tryd.func8.symm.trans hfn)).symm
      exact ⟨by kernel_rfl, fun j t ht => by
        rw [Tryd.params8] at ht
        have hm : t ∈ [23, 23, 23] := by simpa using Array.mem_of_getElem? ht
        have hall : ([23, 23, 23].all fun u => !Tryd.prog.wantsStandIn u) = true := by kernel_rfl
        exact (show Tryd.prog.wantsStandIn t = false by simpa using List.all_eq_true.1 hall t hm)⟩)
    (by kernel_rfl)
end Go.Proofs.YtaephclooajabaaDoor.shaForks
