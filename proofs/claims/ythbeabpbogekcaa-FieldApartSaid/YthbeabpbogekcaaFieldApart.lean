/- FieldApart: no two bytes have one Affine, no two rows of sixteen bytes one double, what is doubled goes through sums, and the law's closed case holds; for any two bytes and any two rows. No condition. -/
import Derived.Test.YthbeabpbogekcaaRows
import Derived.Test.YthbeabpbogekcaaApartCalls
import Derived.Test.YthbeabpbogekcaaRowArg
import Derived.WalkKit
import Derived.ProofKit
import Derived.OpenShut
namespace Go.Proofs.Ythbeabpbogekcaa.fieldApart
open Go.ChangeShapes Go.WideShapes Go.ChangeAt Go.RowKit

theorem own : ownKnob Try.prog.godebug = none := by kernel_rfl
set_option linter.unusedVariables false in
theorem walk (l0 : List Nat) (h0 : Bytes 2 l0) (l1 : List Nat) (h1 : Bytes 16 l1) (l2 : List Nat) (h2 : Bytes 16 l2) (w : World) :
    Calls Try.prog 11 #[.agg (row8 l0).toArray, .agg (row8 l1).toArray, .agg (row8 l2).toArray] w fun e w' => e = .returned (.bool true) ∧ Below w.heap.size w w' := by
  exact apart_any l0 l1 l2 h0 h1 h2 w
theorem cells29 : Try.prog.cellsOf 29 = 16 := by kernel_rfl
theorem cells36 : Try.prog.cellsOf 36 = 2 := by kernel_rfl
theorem cells5 : Try.prog.cellsOf 5 = 1 := by kernel_rfl
set_option maxHeartbeats 400000 in
set_option maxRecDepth 100000 in
theorem lifted (os : Os) (started : os.Started) (H : Type) (enc : TypeId × Value → H) :
    ReturnsInHanded {} Try.checked os 11 .any (Rows.fieldApartSpec.pre6 enc Try.prog Try.f11 Rows.fieldApartRow.domain false) (Rows.fieldApartSpec.post enc Try.prog Try.f11 false true false false) := by
  refine returnsInHanded_of_change (C := Try.checked) own started (by kernel_rfl) Try.func11
    (ChangeSpec.witness6 (enc := enc) (C := Try.checked) false ⟨#[], #[.agg #[.int .u8 0, .int .u8 0], .agg #[.int .u8 0, .int .u8 0, .int .u8 0, .int .u8 0, .int .u8 0, .int .u8 0, .int .u8 0, .int .u8 0, .int .u8 0, .int .u8 0, .int .u8 0, .int .u8 0, .int .u8 0, .int .u8 0, .int .u8 0, .int .u8 0], .agg #[.int .u8 0, .int .u8 0, .int .u8 0, .int .u8 0, .int .u8 0, .int .u8 0, .int .u8 0, .int .u8 0, .int .u8 0, .int .u8 0, .int .u8 0, .int .u8 0, .int .u8 0, .int .u8 0, .int .u8 0, .int .u8 0]], []⟩ 8 (by kernel_rfl) (by kernel_rfl) (by kernel_rfl) (by kernel_rfl)) ?_
  intro W base args ds gs before hval0 hW _ _
  have hval : ∀ (j : Nat) t v, Try.f11.params[j]? = some t → args[j]? = some v → Value.okWide Try.prog W .any base t v := hval0
  have hW' := hW
  obtain ⟨p, q, hA0, hV, rfl, _, _⟩ := hW
  have hA : DataW.TrodAll enc Try.prog W 0 (fun _ => true) true Try.f11.params.toList args.toList ds p := hA0
  rw [Try.params11] at hA hval
  obtain ⟨v0, vs0, d0, ds0, p0, q0, hargs, rfl, rfl, g0, r0⟩ := trodAll_cons hA
  obtain ⟨v1, vs1, d1, ds1, p1, q1, rfl, rfl, rfl, g1, r1⟩ := trodAll_cons r0
  obtain ⟨v2, vs2, d2, ds2, p2, q2, rfl, rfl, rfl, g2, r2⟩ := trodAll_cons r1
  obtain ⟨rfl, rfl, rfl⟩ := trodAll_nil r2
  obtain rfl : args = #[v0, v1, v2] := by cases args; simp_all
  obtain ⟨rfl, rfl⟩ := trodVars_none hV
  obtain ⟨l0, h0, rfl, rfl, rfl⟩ := open_row Try.underlying36 Try.underlying5 cells5 (hval 0 36 v0 rfl rfl) cells36 g0
  obtain ⟨l1, h1, rfl, rfl, rfl⟩ := open_row Try.underlying29 Try.underlying5 cells5 (hval 1 29 v1 rfl rfl) cells29 g1
  obtain ⟨l2, h2, rfl, rfl, rfl⟩ := open_row Try.underlying29 Try.underlying5 cells5 (hval 2 29 v2 rfl rfl) cells29 g2
  clear hA0 hval0
  simp only [List.append_nil] at hW'
  refine (walk l0 h0 l1 h1 l2 h2 W).mono fun e W' ⟨he, hb⟩ => ?_
  subst he
  exact ⟨_, rfl, post_law hW' (trodAll_cons_mk (shut_bool Try.underlying4 _) trodAll_mk0) (trodAll_cons_mk (shut_row Try.underlying36 Try.underlying5 cells5 cells36 h0) (trodAll_cons_mk (shut_row Try.underlying29 Try.underlying5 cells5 cells29 h1) (trodAll_cons_mk (shut_row Try.underlying29 Try.underlying5 cells5 cells29 h2) trodAll_mk0))) rfl hb⟩

theorem over : Rows.fieldApartRow.holds Try.pinned (OpenSpec.ofChange Rows.fieldApartSpec) :=
  OpenClaim.holds_of_wide 11 Try.f11 rfl rfl rfl rfl rfl rfl rfl ⟨rfl, rfl, rfl, rfl, rfl⟩ rfl rfl rfl rfl rfl (by kernel_rfl) Try.func11 (by kernel_rfl)
    (of_decide_eq_true (by kernel_rfl)) (by unfold Func.isWrapper; first | (rw [if_pos (by decide +kernel)]; kernel_rfl) | (rw [if_neg (by decide +kernel)]; exact ⟨rfl, rfl⟩))
    (fun os started H enc _ => lifted os started H enc)

/-- The given statement. -/
theorem proved : Rows.FieldApartSaid :=
  over
end Go.Proofs.Ythbeabpbogekcaa.fieldApart
