/- CellForks: a fork is as the cell is, and each one rises alone; at its greatest value a cell stays; of a cell that is not there nothing is told. No condition. -/
import Derived.Test.YtglhlhflbomkoaaRows
import Derived.Test.YtglhlhflbomkoaaCellR
import Derived.Test.YtglhlhflbomkoaaU64
import Derived.WalkKit
import Derived.ProofKit
import Derived.OpenShut
import Derived.SizedLaws
import Derived.Carry
import Derived.Deep.DeepHandedRow
import Derived.Deep.DeepWitnessRowRef
namespace Go.Proofs.Ytglhlhflbomkoaa.cellForks
open Go.ChangeShapes Go.WideShapes Go.ChangeAt Go.RowKit

theorem own : ownKnob Try.prog.godebug = none := by kernel_rfl
set_option linter.unusedVariables false in
set_option maxHeartbeats 4000000 in
set_option maxRecDepth 100000 in
theorem walk (w : World) (a0 : Int) (w0 : (Lit.int .u64 a0).wf = true) :
    Calls Try.prog 5 #[.int .u64 a0] w fun e w' => e = .returned (.bool true) ∧ Below w.heap.size w w' := by
  obtain ⟨n, hn, rfl⟩ := u64_nat w0
  by_cases hf : n = 18446744073709551615
  · subst hf
    rw [show (((18446744073709551615 : Nat)) : Int) = 18446744073709551615 from rfl]
    have HN := Lib.hid (show Calls Try.prog 6 #[.int .u64 (18446744073709551615)] w _ from cnew_ex 18446744073709551615 w)
    go_enter Try.func5, Try.ntmps5
    go_upto_region 6 with (first
      | (go_at_call 6; refine HN.out.mono ?_; rintro e w2 ⟨b, hb, rfl, h2, b2⟩; have HB := Lib.hid hb; have C2 := Lib.hid h2; have B2 := Lib.hid b2; have HK := Lib.hid (cfork_any b _ 0 w2 h2); clear hb h2 b2)
      | (go_at_call 12; (with_reducible refine HK.out.mono ?_); rintro e w3 ⟨f, hf, rfl, h3, b3⟩; have HF := Lib.hid (show w.heap.size ≤ f by have := B2.out.size; omega); have HBF := Lib.hid (show b < f by have := C2.out.lt; omega); have C3 := Lib.hid (C2.out.below b3); have F3 := Lib.hid h3; have B3 := Lib.hid (B2.out.on b3); clear hf h3 b3 HK; have HV := Lib.hid (show Calls Try.prog 9 #[.pointer (some ⟨f, 0, none⟩)] w3 fun e w' => e = .returned (.int .u64 (18446744073709551615)) ∧ w' = w3 from cvalue_any f 18446744073709551615 0 w3 F3.out); have HV0 := Lib.hid (cvalue_nil w3); have HR0 := Lib.hid (craised_nil w3); have HK0 := Lib.hid (cfork_nil w3); have HE0 := Lib.hid (show Calls Try.prog 7 #[.pointer none, .int .u64 1] w3 _ from craise_nil 1 w3))
      | (go_at_call 9; (with_reducible refine HV.out.mono ?_); rintro e wz ⟨rfl, hq⟩; rw [hq]; clear hq wz HV)
      | (go_at_call 9; (with_reducible refine HV0.out.mono ?_); rintro e wz ⟨rfl, hq⟩; rw [hq]; clear hq wz HV0)
      | (go_at_call 10; (with_reducible refine HR0.out.mono ?_); rintro e wz ⟨rfl, hq⟩; rw [hq]; clear hq wz HR0)
      | (go_at_call 12; (with_reducible refine HK0.out.mono ?_); rintro e wz ⟨rfl, hq⟩; rw [hq]; clear hq wz HK0)
      | (go_at_call 7; (with_reducible refine HE0.out.mono ?_); rintro e wz ⟨rfl, hq⟩; rw [hq]; clear hq wz HE0))
    have HE := Lib.hid (show Calls Try.prog 7 #[.pointer (some ⟨f, 0, none⟩), .int .u64 0] w3 _ from craise_full f 18446744073709551615 0 0 w3 F3.out rfl)
    have HE2 := Lib.hid (show Calls Try.prog 7 #[.pointer (some ⟨f, 0, none⟩), .int .u64 18446744073709551615] w3 _ from craise_full f 18446744073709551615 0 18446744073709551615 w3 F3.out rfl)
    have HV1 := Lib.hid (show Calls Try.prog 9 #[.pointer (some ⟨f, 0, none⟩)] w3 fun e w' => e = .returned (.int .u64 (18446744073709551615)) ∧ w' = w3 from cvalue_any f 18446744073709551615 0 w3 F3.out)
    have HA := Lib.hid (cawake_any w3)
    go_wp2_with (first
      | (go_at_call 7; (with_reducible refine HE.out.mono ?_); rintro e wz ⟨rfl, hq⟩; rw [hq]; clear hq wz HE)
      | (go_at_call 7; (with_reducible refine HE2.out.mono ?_); rintro e wz ⟨rfl, hq⟩; rw [hq]; clear hq wz HE2)
      | (go_at_call 9; (with_reducible refine HV1.out.mono ?_); rintro e wz ⟨rfl, hq⟩; rw [hq]; clear hq wz HV1)
      | (go_at_call 11; (with_reducible refine HA.out.mono ?_); rintro e w9 ⟨rfl, b9⟩; have B9 := Lib.hid (B3.out.on b9); clear b9 HA))
    go_ret
    exact ⟨rfl, B9.out⟩
  · obtain ⟨t, ht⟩ : ∃ t, t = n + 1 := ⟨_, rfl⟩
    have hw : IntKind.u64.wrap ((n : Int) + 1) = (t : Int) := by rw [IntKind.wrap_u64]; omega
    have hN : ¬ (n : Int) = 18446744073709551615 := by omega
    have HL := Lib.hid (show n < 18446744073709551615 by omega)
    have HT := Lib.hid ht
    clear ht hf hn
    have HN := Lib.hid (show Calls Try.prog 6 #[.int .u64 (n : Int)] w _ from cnew_ex n w)
    go_enter Try.func5, Try.ntmps5
    go_upto_region 6 with (first
      | (go_at_call 6; refine HN.out.mono ?_; rintro e w2 ⟨b, hb, rfl, h2, b2⟩; have HB := Lib.hid hb; have C2 := Lib.hid h2; have B2 := Lib.hid b2; have HK := Lib.hid (cfork_any b _ 0 w2 h2); clear hb h2 b2)
      | (go_at_call 12; (with_reducible refine HK.out.mono ?_); rintro e w3 ⟨f, hf, rfl, h3, b3⟩; have HF := Lib.hid (show w.heap.size ≤ f by have := B2.out.size; omega); have HBF := Lib.hid (show b < f by have := C2.out.lt; omega); have C3 := Lib.hid (C2.out.below b3); have F3 := Lib.hid h3; have B3 := Lib.hid (B2.out.on b3); clear hf h3 b3 HK; have HV := Lib.hid (show Calls Try.prog 9 #[.pointer (some ⟨f, 0, none⟩)] w3 fun e w' => e = .returned (.int .u64 (n : Int)) ∧ w' = w3 from cvalue_any f n 0 w3 F3.out); have HV0 := Lib.hid (cvalue_nil w3); have HR0 := Lib.hid (craised_nil w3); have HK0 := Lib.hid (cfork_nil w3); have HE0 := Lib.hid (show Calls Try.prog 7 #[.pointer none, .int .u64 1] w3 _ from craise_nil 1 w3))
      | (go_at_call 9; (with_reducible refine HV.out.mono ?_); rintro e wz ⟨rfl, hq⟩; rw [hq]; clear hq wz HV)
      | (go_at_call 9; (with_reducible refine HV0.out.mono ?_); rintro e wz ⟨rfl, hq⟩; rw [hq]; clear hq wz HV0)
      | (go_at_call 10; (with_reducible refine HR0.out.mono ?_); rintro e wz ⟨rfl, hq⟩; rw [hq]; clear hq wz HR0)
      | (go_at_call 12; (with_reducible refine HK0.out.mono ?_); rintro e wz ⟨rfl, hq⟩; rw [hq]; clear hq wz HK0)
      | (go_at_call 7; (with_reducible refine HE0.out.mono ?_); rintro e wz ⟨rfl, hq⟩; rw [hq]; clear hq wz HE0))
    have HE := Lib.hid (craise_own t F3.out HL.out (by omega) HT.out B3.out HF.out)
    go_wp2_with (first
      | (go_at_call 7; (with_reducible refine HE.out.mono ?_); rintro e w4 ⟨rfl, h4, g4, b4⟩; have F4 := Lib.hid h4; have C4 := Lib.hid (C3.out.grown g4 (fun e => by have := Option.some.inj e; have := HBF.out; omega)); have B4 := Lib.hid b4; clear h4 g4 b4 HE; have HV1 := Lib.hid (cvalue_any f t 1 w4 F4.out); have HR1 := Lib.hid (show Calls Try.prog 10 #[.pointer (some ⟨f, 0, none⟩)] w4 fun e w' => e = .returned (.int .i64 1) ∧ w' = w4 from craised_any f t 1 w4 F4.out); have HV2 := Lib.hid (cvalue_any b n 0 w4 C4.out); have HR2 := Lib.hid (show Calls Try.prog 10 #[.pointer (some ⟨b, 0, none⟩)] w4 fun e w' => e = .returned (.int .i64 0) ∧ w' = w4 from craised_any b n 0 w4 C4.out); have HA := Lib.hid (cawake_any w4))
      | (go_at_call 9; (with_reducible refine HV1.out.mono ?_); rintro e wz ⟨rfl, hq⟩; rw [hq]; clear hq wz HV1)
      | (go_at_call 10; (with_reducible refine HR1.out.mono ?_); rintro e wz ⟨rfl, hq⟩; rw [hq]; clear hq wz HR1)
      | (go_at_call 9; (with_reducible refine HV2.out.mono ?_); rintro e wz ⟨rfl, hq⟩; rw [hq]; clear hq wz HV2)
      | (go_at_call 10; (with_reducible refine HR2.out.mono ?_); rintro e wz ⟨rfl, hq⟩; rw [hq]; clear hq wz HR2)
      | (go_at_call 11; (with_reducible refine HA.out.mono ?_); rintro e w9 ⟨rfl, b9⟩; have B9 := Lib.hid (B4.out.on b9); clear b9 HA))
    go_ret
    exact ⟨rfl, B9.out⟩
set_option linter.unusedVariables false in
set_option maxHeartbeats 400000 in
set_option maxRecDepth 100000 in
theorem lifted (os : Os) (started : os.Started) (H : Type) (enc : TypeId × Value → H) :
    ReturnsInHanded {} Try.checked os 5 .any (Rows.cellForksSpec.pre6 enc Try.prog Try.f5 Rows.cellForksRow.domain false) (Rows.cellForksSpec.post enc Try.prog Try.f5 false true false false) := by
  refine returnsInHanded_of_change_sized (C := Try.checked) own started (by kernel_rfl) Try.func5
    (ChangeSpec.witness6 (enc := enc) (C := Try.checked) false ⟨#[], #[.int .u64 0], []⟩ 8 (by kernel_rfl) (by kernel_rfl) (by kernel_rfl) (by kernel_rfl)) ?_
  intro W base args ds gs before hval0 hW _ hsz0 _
  have hsz : (DataW.weightsEach Try.prog (Try.f5.params.toList ++ Rows.cellForksSpec.plain.varTypes Try.prog) (ds ++ gs)).all (· ≤ reachBytes) = true := hsz0
  clear hsz0
  have hval : ∀ (j : Nat) t v, Try.f5.params[j]? = some t → args[j]? = some v → Value.okWide Try.prog W .any base t v := hval0
  have hW' := hW
  obtain ⟨p, q, hA0, hV, rfl, _, _⟩ := hW
  have hA : DataW.TrodAll enc Try.prog W 0 (fun _ => true) true Try.f5.params.toList args.toList ds p := hA0
  rw [Try.params5] at hA hval hsz
  obtain ⟨v0, vs0, d0, ds0, p0, q0, hargs, rfl, rfl, g0, r0⟩ := trodAll_cons hA
  obtain ⟨rfl, rfl, rfl⟩ := trodAll_nil r0
  obtain rfl : args = #[v0] := by cases args; simp_all
  obtain ⟨rfl, rfl⟩ := trodVars_none hV
  obtain ⟨a0, rfl, rfl, rfl, w0⟩ := open_int Try.underlying22 (hval 0 22 v0 rfl rfl) g0
  clear hA0 hval0
  have hlt := hW'.lt
  refine (walk W a0 w0).mono fun e W' ⟨he, hb⟩ => ?_
  subst he
  have hargs : DataW.TrodAll enc Try.prog W' 0 (fun b => decide (b < W.heap.size)) true _ _ _ _ := (trodAll_cons_mk (shut_int Try.underlying22 w0) trodAll_mk0)
  simp only [List.append_nil] at hW' hargs
  exact ⟨_, rfl, post_law hW' (trodAll_cons_mk (shut_bool Try.underlying4 _) trodAll_mk0) hargs rfl hb⟩
theorem over : Rows.cellForksRow.holds Try.pinned (OpenSpec.ofChange Rows.cellForksSpec) :=
  OpenClaim.holds_of_wide 5 Try.f5 rfl rfl rfl rfl rfl rfl rfl ⟨rfl, rfl, rfl, rfl, rfl⟩ rfl rfl rfl rfl rfl (by kernel_rfl) Try.func5 (by kernel_rfl)
    (of_decide_eq_true (by kernel_rfl)) (by unfold Func.isWrapper; first | (rw [if_pos (by decide +kernel)]; kernel_rfl) | (rw [if_neg (by decide +kernel)]; exact ⟨rfl, rfl⟩))
    (fun os started H enc _ => lifted os started H enc)

/-- The given statement. -/
theorem proved : Rows.CellForksSaid := over
end Go.Proofs.Ytglhlhflbomkoaa.cellForks
