/- OctetTexts: for any text the program tells the bytes, or the error, that the document's answer tells, and the law's closed case holds. No condition. -/
import Derived.Test.YtngflmdlgaeokaaRows
import Derived.Test.YtngflmdlgaeokaaTextCalls
import Derived.Test.YtngflmdlgaeokaaOctAwake
import Derived.Test.YtngflmdlgaeokaaArgs
import Derived.WalkKit
import Derived.ProofKit
import Derived.OpenShut
import Derived.SizedLaws
import Derived.Carry
namespace Go.Proofs.Ytngflmdlgaeokaa.octetTexts
open Go.ChangeShapes Go.WideShapes Go.ChangeAt Go.RowKit

theorem own : ownKnob Try.prog.godebug = none := by kernel_rfl
set_option linter.unusedVariables false in
set_option maxHeartbeats 400000 in
theorem walk (w : World) (a0 : ByteArray) (w0 : a0.size ≤ maxLen) :
    Calls Try.prog 4 #[.string a0] w fun e w' => e = .returned (.bool true) ∧ Below w.heap.size w w' := by
  by_cases h0 : 255 < a0.size
  · have sn : ∀ w : World, (convert 25 9 (.slice none 0 0)).run Try.prog w = .ok (.string (bstr [])) w := fun w => (Rd.none_ w).str
    go_enter Try.func4, Try.ntmps4
    go_wp2_with (first
      | (go_at_call 15; refine (text_long a0 h0 _).mono ?_; rintro ev w1 ⟨rfl, k2⟩; have B1 := Lib.hid k2; clear k2)
      | (go_at_call 16; refine (rtext_long a0 h0 _).mono ?_; rintro ev w1 ⟨rfl, k2⟩; have B2 := Lib.hid k2; clear k2)
      | (go_at_call 14; refine (awake_any _).mono ?_; rintro ev w1 ⟨rfl, k2⟩; have B3 := Lib.hid k2; clear k2))
    go_ret
    exact ⟨rfl, B1.out.on (B2.out.on B3.out)⟩
  · have h1 : a0.size ≤ 255 := by omega
    go_enter Try.func4, Try.ntmps4
    go_wp2_with (first
      | (go_at_call 15; refine (text_short a0 h1 _).mono ?_; rintro ev w1 ⟨v1, rfl, k1, k2⟩; have B1 := Lib.hid k2; have K1 := Lib.hid k1.rd; clear k1 k2)
      | (go_at_call 16; refine (rtext_short a0 h1 _).mono ?_; rintro ev w2 ⟨v2, rfl, k1, k2⟩; have s1 := (K1.out.below k2).str; have s2 := k1.rd.str; have B2 := Lib.hid k2; clear k1 k2)
      | (go_at_call 14; refine (awake_any _).mono ?_; rintro ev w3 ⟨rfl, k2⟩; have B3 := Lib.hid k2; clear k2))
    go_ret
    exact ⟨rfl, B1.out.on (B2.out.on B3.out)⟩
set_option linter.unusedVariables false in
set_option maxHeartbeats 400000 in
set_option maxRecDepth 100000 in
theorem lifted (os : Os) (started : os.Started) (H : Type) (enc : TypeId × Value → H) :
    ReturnsInHanded {} Try.checked os 4 .any (Rows.octetTextsSpec.pre6 enc Try.prog Try.f4 Rows.octetTextsRow.domain false) (Rows.octetTextsSpec.post enc Try.prog Try.f4 false true false false) := by
  refine returnsInHanded_of_change_sized (C := Try.checked) own started (by kernel_rfl) Try.func4
    (ChangeSpec.witness6 (enc := enc) (C := Try.checked) false ⟨#[], #[.string ByteArray.empty], []⟩ 8 (by kernel_rfl) (by kernel_rfl) (by kernel_rfl) (by kernel_rfl)) ?_
  intro W base args ds gs before hval0 hW _ hsz0 _
  have hsz : (DataW.weightsEach Try.prog (Try.f4.params.toList ++ Rows.octetTextsSpec.plain.varTypes Try.prog) (ds ++ gs)).all (· ≤ reachBytes) = true := hsz0
  clear hsz0
  have hval : ∀ (j : Nat) t v, Try.f4.params[j]? = some t → args[j]? = some v → Value.okWide Try.prog W .any base t v := hval0
  have hW' := hW
  obtain ⟨p, q, hA0, hV, rfl, _, _⟩ := hW
  have hA : DataW.TrodAll enc Try.prog W 0 (fun _ => true) true Try.f4.params.toList args.toList ds p := hA0
  rw [Try.params4] at hA hval hsz
  obtain ⟨v0, vs0, d0, ds0, p0, q0, hargs, rfl, rfl, g0, r0⟩ := trodAll_cons hA
  obtain ⟨rfl, rfl, rfl⟩ := trodAll_nil r0
  obtain rfl : args = #[v0] := by cases args; simp_all
  obtain ⟨rfl, rfl⟩ := trodVars_none hV
  obtain ⟨a0, rfl, rfl, rfl, w0⟩ := Go.ChangeMaps.open_string Try.underlying9 (hval 0 9 v0 rfl rfl) g0
  clear hA0 hval0
  have hlt := hW'.lt
  refine (walk W a0 w0).mono fun e W' ⟨he, hb⟩ => ?_
  subst he
  have hargs : DataW.TrodAll enc Try.prog W' 0 (fun b => decide (b < W.heap.size)) true _ _ _ _ := (trodAll_cons_mk (Go.ChangeMaps.shut_string Try.underlying9 w0) trodAll_mk0)
  simp only [List.append_nil] at hW' hargs
  exact ⟨_, rfl, post_law hW' (trodAll_cons_mk (shut_bool Try.underlying4 _) trodAll_mk0) hargs rfl hb⟩

theorem over : Rows.octetTextsRow.holds Try.pinned (OpenSpec.ofChange Rows.octetTextsSpec) :=
  OpenClaim.holds_of_wide 4 Try.f4 rfl rfl rfl rfl rfl rfl rfl ⟨rfl, rfl, rfl, rfl, rfl⟩ rfl rfl rfl rfl rfl (by kernel_rfl) Try.func4 (by kernel_rfl)
    (of_decide_eq_true (by kernel_rfl)) (by unfold Func.isWrapper; first | (rw [if_pos (by decide +kernel)]; kernel_rfl) | (rw [if_neg (by decide +kernel)]; exact ⟨rfl, rfl⟩))
    (fun os started H enc _ => lifted os started H enc)

/-- The given statement. -/
theorem proved : Rows.OctetTextsSaid :=
  over
end Go.Proofs.Ytngflmdlgaeokaa.octetTexts
