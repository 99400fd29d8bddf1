/- DeviceNobody: a device that is not there takes nothing and has nothing. No condition. -/
import Derived.Test.YtipdcocliefppaaRows
import Derived.Test.YtipdcocliefppaaDevAwake
import Derived.Test.YtipdcocliefppaaMem
import Derived.WalkKit
import Derived.ProofKit
import Derived.OpenShut
import Derived.SizedLaws
import Derived.Carry
import Derived.Deep.DeepHandedRow
import Derived.Deep.DeepWitnessRowRef
namespace Go.Proofs.Ytipdcocliefppaa.deviceNobody
open Go.ChangeShapes Go.WideShapes Go.ChangeAt Go.RowKit

theorem own : ownKnob Try.prog.godebug = none := by kernel_rfl
set_option linter.unusedVariables false in
set_option maxHeartbeats 4000000 in
set_option maxRecDepth 100000 in
theorem walk (w : World) (a0 : Int) (w0 : (Lit.int .i64 a0).wf = true) (v1 : Value) (l1 : List Nat) (h1 : Rd w v1 l1) :
    Calls Try.prog 4 #[.int .i64 a0, v1] w fun e w' => e = .returned (.bool true) ∧ Below w.heap.size w w' := by
  obtain ⟨va, vc, rfl, _⟩ := h1.shape
  clear h1
  go_enter Try.func4, Try.ntmps4
  go_wp2_with (first
    | (go_at_call 15; (with_reducible refine (dstart_nil _ _).mono ?_); rintro e wz ⟨rfl, hq⟩; rw [hq]; clear hq wz)
    | (go_at_call 16; (with_reducible refine (dedit_nil _ _ _).mono ?_); rintro e wz ⟨rfl, hq⟩; rw [hq]; clear hq wz)
    | (go_at_call 17; (with_reducible refine (dload_nil _ _).mono ?_); rintro e wz ⟨rfl, hq⟩; rw [hq]; clear hq wz)
    | (go_at_call 18; (with_reducible refine (dread_nil _ _ _).mono ?_); rintro e w6 ⟨y, rfl, r6, b6⟩; obtain ⟨ya, yc, rfl, _⟩ := r6.shape; have B6 := Lib.hid b6; clear r6 b6)
    | (go_at_call 19; (with_reducible refine (dwrite_nil _ _ _ _ _).mono ?_); rintro e w65 ⟨rfl, b65⟩; have B65 := Lib.hid (B6.out.on b65); clear b65)
    | (go_at_call 20; (with_reducible refine (dsync_nil _).mono ?_); rintro e wz ⟨rfl, hq⟩; rw [hq]; clear hq wz)
    | (go_at_call 21; (with_reducible refine (dbeat_nil _).mono ?_); rintro e wz ⟨rfl, hq⟩; rw [hq]; clear hq wz)
    | (go_at_call 22; (with_reducible refine (dsize_nil _).mono ?_); rintro e wz ⟨rfl, hq⟩; rw [hq]; clear hq wz)
    | (go_at_call 23; (with_reducible refine (dmost_nil _).mono ?_); rintro e wz ⟨rfl, hq⟩; rw [hq]; clear hq wz)
    | (go_at_call 24; (with_reducible refine (dsteps_nil _).mono ?_); rintro e wz ⟨rfl, hq⟩; rw [hq]; clear hq wz)
    | (go_at_call 25; (with_reducible refine (ddown_nil _).mono ?_); rintro e wz ⟨rfl, hq⟩; rw [hq]; clear hq wz)
    | (go_at_call 26; (with_reducible refine (dloose_nil _).mono ?_); rintro e wz ⟨rfl, hq⟩; rw [hq]; clear hq wz)
    | (go_at_call 27; (with_reducible refine (dfail_nil _ _ _).mono ?_); rintro e wz ⟨rfl, hq⟩; rw [hq]; clear hq wz)
    | (go_at_call 28; (with_reducible refine (dbytes_nil w65).mono ?_); rintro e w7 ⟨y, rfl, r7, b7⟩; obtain ⟨za, zc, rfl, _⟩ := r7.shape; have B7 := Lib.hid (B65.out.on b7); clear r7 b7)
    | (go_at_call 13; (with_reducible refine (dclone_nil _).mono ?_); rintro e wz ⟨rfl, hq⟩; rw [hq]; clear hq wz)
    | (go_at_call 9; (with_reducible refine (dawake_any w7).mono ?_); rintro e w8 ⟨rfl, b8⟩; have B8 := Lib.hid (B7.out.on b8); clear b8))
  go_ret
  exact ⟨rfl, B8.out⟩
set_option linter.unusedVariables false in
set_option maxHeartbeats 400000 in
set_option maxRecDepth 100000 in
theorem lifted (os : Os) (started : os.Started) (H : Type) (enc : TypeId × Value → H) :
    ReturnsInHanded {} Try.checked os 4 .any (Rows.deviceNobodySpec.pre6 enc Try.prog Try.f4 Rows.deviceNobodyRow.domain false) (Rows.deviceNobodySpec.post enc Try.prog Try.f4 false true false false) := by
  refine returnsInHanded_of_change_sized (C := Try.checked) own started (by kernel_rfl) Try.func4
    (ChangeSpec.witness6 (enc := enc) (C := Try.checked) false ⟨#[], #[.int .i64 0, .slice none 0 0], []⟩ 8 (by kernel_rfl) (by kernel_rfl) (by kernel_rfl) (by kernel_rfl)) ?_
  intro W base args ds gs before hval0 hW _ hsz0 _
  have hsz : (DataW.weightsEach Try.prog (Try.f4.params.toList ++ Rows.deviceNobodySpec.plain.varTypes Try.prog) (ds ++ gs)).all (· ≤ reachBytes) = true := hsz0
  clear hsz0
  have hval : ∀ (j : Nat) t v, Try.f4.params[j]? = some t → args[j]? = some v → Value.okWide Try.prog W .any base t v := hval0
  have hW' := hW
  obtain ⟨p, q, hA0, hV, rfl, _, _⟩ := hW
  have hA : DataW.TrodAll enc Try.prog W 0 (fun _ => true) true Try.f4.params.toList args.toList ds p := hA0
  rw [Try.params4] at hA hval hsz
  obtain ⟨v0, vs0, d0, ds0, p0, q0, hargs, rfl, rfl, g0, r0⟩ := trodAll_cons hA
  obtain ⟨v1, vs1, d1, ds1, p1, q1, rfl, rfl, rfl, g1, r1⟩ := trodAll_cons r0
  obtain ⟨rfl, rfl, rfl⟩ := trodAll_nil r1
  obtain rfl : args = #[v0, v1] := by cases args; simp_all
  obtain ⟨rfl, rfl⟩ := trodVars_none hV
  obtain ⟨a0, rfl, rfl, rfl, w0⟩ := open_int Try.underlying3 (hval 0 3 v0 rfl rfl) g0
  obtain ⟨l1, h1⟩ := open_bytes (hval 1 33 v1 rfl rfl) g1 (fun elems spare e => sized_slice hsz (j := 1) (t := 33) (e := 5) rfl (by rw [← e]; rfl) Try.underlying33)
  clear hA0 hval0
  have hlt := hW'.lt
  refine (walk W a0 w0 v1 l1 h1).mono fun e W' ⟨he, hb⟩ => ?_
  subst he
  have hargs : DataW.TrodAll enc Try.prog W' 0 (fun b => decide (b < W.heap.size)) true _ _ _ _ := (trodAll_cons_mk (shut_int Try.underlying3 w0) (trodAll_cons_mk (Below.trod laidOut (by kernel_rfl) (of_decide_eq_true (by kernel_rfl)) g1 hb (fun x hx => hlt x (by simp [hx]))) trodAll_mk0))
  simp only [List.append_nil] at hW' hargs
  exact ⟨_, rfl, post_law hW' (trodAll_cons_mk (shut_bool Try.underlying4 _) trodAll_mk0) hargs rfl hb⟩
theorem over : Rows.deviceNobodyRow.holds Try.pinned (OpenSpec.ofChange Rows.deviceNobodySpec) :=
  OpenClaim.holds_of_wide 4 Try.f4 rfl rfl rfl rfl rfl rfl rfl ⟨rfl, rfl, rfl, rfl, rfl⟩ rfl rfl rfl rfl rfl (by kernel_rfl) Try.func4 (by kernel_rfl)
    (of_decide_eq_true (by kernel_rfl)) (by unfold Func.isWrapper; first | (rw [if_pos (by decide +kernel)]; kernel_rfl) | (rw [if_neg (by decide +kernel)]; exact ⟨rfl, rfl⟩))
    (fun os started H enc _ => lifted os started H enc)

/-- The given statement. -/
theorem proved : Rows.DeviceNobodySaid := over
end Go.Proofs.Ytipdcocliefppaa.deviceNobody
