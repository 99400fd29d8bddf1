/- OctetPuts: for any numbers the program lays the bytes that the document's answer lays, and the law's closed case holds. No condition. -/
import Derived.Test.YtngflmdlgaeokaaRows
import Derived.Test.YtngflmdlgaeokaaOctAwake
import Derived.Test.YtngflmdlgaeokaaFacts
import Derived.Test.YtngflmdlgaeokaaArgs
import Derived.WalkKit
import Derived.ProofKit
import Derived.OpenShut
import Derived.SizedLaws
import Derived.Carry
namespace Go.Proofs.Ytngflmdlgaeokaa.octetPuts
open Go.ChangeShapes Go.WideShapes Go.ChangeAt Go.RowKit

theorem own : ownKnob Try.prog.godebug = none := by kernel_rfl
set_option linter.unusedVariables false in
set_option maxHeartbeats 2000000 in
set_option maxRecDepth 100000 in
theorem walk (w : World) (a0 : Int) (w0 : (Lit.int .u16 a0).wf = true) (a1 : Int) (w1 : (Lit.int .u32 a1).wf = true) (a2 : Int) (w2 : (Lit.int .u64 a2).wf = true) :
    Calls Try.prog 3 #[.int .u16 a0, .int .u32 a1, .int .u64 a2] w fun e w' => e = .returned (.bool true) ∧ Below w.heap.size w w' := by
  obtain ⟨n0, h0, rfl⟩ := u16_of w0
  obtain ⟨n1, h1, rfl⟩ := u32_of w1
  obtain ⟨n2, h2, rfl⟩ := u64_of w2
  clear w0 w1 w2
  go_enter Try.func3, Try.ntmps3
  go_wp2_with fail
  refine wp_region_facts (by kernel_rfl) (by kernel_rfl) [.val (.int .u16 (n0 : Nat)), .rd (be n0 2), .val (.string (bstr (be n0 2))), .val (.int .u16 (n0 : Nat)), .val (.int .u64 (n0 : Nat)), .rd (be n0 2), .val (.string (bstr (be n0 2))), .val (.bool true), .val (.bool true), .val (.int .u32 (n1 : Nat)), .rd (be n1 4), .val (.string (bstr (be n1 4))), .val (.int .u32 (n1 : Nat)), .val (.int .u64 (n1 : Nat)), .rd (be n1 4), .val (.string (bstr (be n1 4))), .val (.bool true), .val (.bool true), .val (.bool true), .val (.int .u64 (n2 : Nat)), .rd (be n2 8), .val (.string (bstr (be n2 8))), .val (.int .u64 (n2 : Nat)), .rd (be n2 8), .val (.string (bstr (be n2 8))), .val (.bool true), .val (.bool true), .val (.bool true), .val (.bool true), .val (.bool true), .val (.bool true)] ?_ ?_
  · refine ⟨?_, ?_, ?_, ?_, ?_, ?_, ?_, ?_, ?_, ?_, ?_, ?_, ?_, ?_, ?_, ?_, ?_, ?_, ?_, ?_, ?_, ?_, ?_, ?_, ?_, ?_, ?_, ?_, ?_, ?_, ?_, trivial⟩
    · intro a w' hF hB hd
      have e0 : a.eval (.tmp 0) = .int .u16 (n0 : Nat) := hF 0 (by decide +kernel)
      exact does_val rfl (ex_move rfl e0) rfl
    · intro a w' hF hB hd
      have e7 : a.eval (.tmp 7) = .int .u16 (n0 : Nat) := hd 0 (by decide +kernel)
      exact does_call rfl (ex_call (vs := #[.int .u16 (n0 : Nat)]) rfl (by simp only [List.map_toArray, List.map_cons, List.map_nil, e7] <;> rfl) (by go_simp)) (((put16_any n0 h0 w').mono fun e w2 hh => by obtain ⟨v, h1, h2, h3⟩ := hh; exact ⟨v, h1, h2.rd, h3⟩))
    · intro a w' hF hB hd
      have e8 : Rd w' (a.eval (.tmp 8)) (be n0 2) := hd 1 (by decide +kernel)
      exact does_val rfl (ex_convert rfl rfl e8.str) rfl
    · intro a w' hF hB hd
      have e0 : a.eval (.tmp 0) = .int .u16 (n0 : Nat) := hF 0 (by decide +kernel)
      exact does_val rfl (ex_move rfl e0) rfl
    · intro a w' hF hB hd
      have e10 : a.eval (.tmp 10) = .int .u16 (n0 : Nat) := hd 3 (by decide +kernel)
      exact does_val rfl (ex_convert rfl e10 (by go_simp; rw [IntKind.wrap_u64]; omega)) rfl
    · intro a w' hF hB hd
      have e11 : a.eval (.tmp 11) = .int .u64 (n0 : Nat) := hd 4 (by decide +kernel)
      exact does_call rfl (ex_call (vs := #[.int .u64 (n0 : Nat), .int .i64 (2 : Nat)]) rfl (by simp only [List.map_toArray, List.map_cons, List.map_nil, e11] <;> rfl) (by go_simp)) (((rput_any n0 2 (by omega) (by omega) w').mono fun e w2 hh => by obtain ⟨v, h1, h2, h3⟩ := hh; exact ⟨v, h1, h2.rd, h3⟩))
    · intro a w' hF hB hd
      have e12 : Rd w' (a.eval (.tmp 12)) (be n0 2) := hd 5 (by decide +kernel)
      exact does_val rfl (ex_convert rfl rfl e12.str) rfl
    · intro a w' hF hB hd
      have e9 : a.eval (.tmp 9) = .string (bstr (be n0 2)) := hd 2 (by decide +kernel)
      have e13 : a.eval (.tmp 13) = .string (bstr (be n0 2)) := hd 6 (by decide +kernel)
      exact does_val rfl (ex_binOp rfl e9 e13 (by go_simp) (by go_simp)) rfl
    · intro a w' hF hB hd
      have e14 : a.eval (.tmp 14) = .bool true := hd 7 (by decide +kernel)
      exact does_val rfl (ex_move rfl e14) rfl
    · intro a w' hF hB hd
      have e15 : a.eval (.tmp 15) = .bool true := hd 8 (by decide +kernel)
      have e1 : a.eval (.tmp 1) = .int .u32 (n1 : Nat) := hF 1 (by decide +kernel)
      exact does_val (wanted_of rfl (yielded_of rfl e15)) (ex_move rfl e1) rfl
    · intro a w' hF hB hd
      have e15 : a.eval (.tmp 15) = .bool true := hd 8 (by decide +kernel)
      have e16 : a.eval (.tmp 16) = .int .u32 (n1 : Nat) := hd 9 (by decide +kernel)
      exact does_call (wanted_of rfl (yielded_of rfl e15)) (ex_call (vs := #[.int .u32 (n1 : Nat)]) rfl (by simp only [List.map_toArray, List.map_cons, List.map_nil, e16] <;> rfl) (by go_simp)) (((put32_any n1 h1 w').mono fun e w2 hh => by obtain ⟨v, h1, h2, h3⟩ := hh; exact ⟨v, h1, h2.rd, h3⟩))
    · intro a w' hF hB hd
      have e15 : a.eval (.tmp 15) = .bool true := hd 8 (by decide +kernel)
      have e17 : Rd w' (a.eval (.tmp 17)) (be n1 4) := hd 10 (by decide +kernel)
      exact does_val (wanted_of rfl (yielded_of rfl e15)) (ex_convert rfl rfl e17.str) rfl
    · intro a w' hF hB hd
      have e15 : a.eval (.tmp 15) = .bool true := hd 8 (by decide +kernel)
      have e1 : a.eval (.tmp 1) = .int .u32 (n1 : Nat) := hF 1 (by decide +kernel)
      exact does_val (wanted_of rfl (yielded_of rfl e15)) (ex_move rfl e1) rfl
    · intro a w' hF hB hd
      have e15 : a.eval (.tmp 15) = .bool true := hd 8 (by decide +kernel)
      have e19 : a.eval (.tmp 19) = .int .u32 (n1 : Nat) := hd 12 (by decide +kernel)
      exact does_val (wanted_of rfl (yielded_of rfl e15)) (ex_convert rfl e19 (by go_simp; rw [IntKind.wrap_u64]; omega)) rfl
    · intro a w' hF hB hd
      have e15 : a.eval (.tmp 15) = .bool true := hd 8 (by decide +kernel)
      have e20 : a.eval (.tmp 20) = .int .u64 (n1 : Nat) := hd 13 (by decide +kernel)
      exact does_call (wanted_of rfl (yielded_of rfl e15)) (ex_call (vs := #[.int .u64 (n1 : Nat), .int .i64 (4 : Nat)]) rfl (by simp only [List.map_toArray, List.map_cons, List.map_nil, e20] <;> rfl) (by go_simp)) (((rput_any n1 4 (by omega) (by omega) w').mono fun e w2 hh => by obtain ⟨v, h1, h2, h3⟩ := hh; exact ⟨v, h1, h2.rd, h3⟩))
    · intro a w' hF hB hd
      have e15 : a.eval (.tmp 15) = .bool true := hd 8 (by decide +kernel)
      have e21 : Rd w' (a.eval (.tmp 21)) (be n1 4) := hd 14 (by decide +kernel)
      exact does_val (wanted_of rfl (yielded_of rfl e15)) (ex_convert rfl rfl e21.str) rfl
    · intro a w' hF hB hd
      have e15 : a.eval (.tmp 15) = .bool true := hd 8 (by decide +kernel)
      have e18 : a.eval (.tmp 18) = .string (bstr (be n1 4)) := hd 11 (by decide +kernel)
      have e22 : a.eval (.tmp 22) = .string (bstr (be n1 4)) := hd 15 (by decide +kernel)
      exact does_val (wanted_of rfl (yielded_of rfl e15)) (ex_binOp rfl e18 e22 (by go_simp) (by go_simp)) rfl
    · intro a w' hF hB hd
      have e15 : a.eval (.tmp 15) = .bool true := hd 8 (by decide +kernel)
      have e23 : a.eval (.tmp 23) = .bool true := hd 16 (by decide +kernel)
      exact does_val rfl (ex_pick rfl e15 (by simp [e23])) rfl
    · intro a w' hF hB hd
      have e24 : a.eval (.tmp 24) = .bool true := hd 17 (by decide +kernel)
      exact does_val rfl (ex_move rfl e24) rfl
    · intro a w' hF hB hd
      have e25 : a.eval (.tmp 25) = .bool true := hd 18 (by decide +kernel)
      have e2 : a.eval (.tmp 2) = .int .u64 (n2 : Nat) := hF 2 (by decide +kernel)
      exact does_val (wanted_of rfl (yielded_of rfl e25)) (ex_move rfl e2) rfl
    · intro a w' hF hB hd
      have e25 : a.eval (.tmp 25) = .bool true := hd 18 (by decide +kernel)
      have e26 : a.eval (.tmp 26) = .int .u64 (n2 : Nat) := hd 19 (by decide +kernel)
      exact does_call (wanted_of rfl (yielded_of rfl e25)) (ex_call (vs := #[.int .u64 (n2 : Nat)]) rfl (by simp only [List.map_toArray, List.map_cons, List.map_nil, e26] <;> rfl) (by go_simp)) (((put64_any n2 h2 w').mono fun e w2 hh => by obtain ⟨v, h1, h2, h3⟩ := hh; exact ⟨v, h1, h2.rd, h3⟩))
    · intro a w' hF hB hd
      have e25 : a.eval (.tmp 25) = .bool true := hd 18 (by decide +kernel)
      have e27 : Rd w' (a.eval (.tmp 27)) (be n2 8) := hd 20 (by decide +kernel)
      exact does_val (wanted_of rfl (yielded_of rfl e25)) (ex_convert rfl rfl e27.str) rfl
    · intro a w' hF hB hd
      have e25 : a.eval (.tmp 25) = .bool true := hd 18 (by decide +kernel)
      have e2 : a.eval (.tmp 2) = .int .u64 (n2 : Nat) := hF 2 (by decide +kernel)
      exact does_val (wanted_of rfl (yielded_of rfl e25)) (ex_move rfl e2) rfl
    · intro a w' hF hB hd
      have e25 : a.eval (.tmp 25) = .bool true := hd 18 (by decide +kernel)
      have e29 : a.eval (.tmp 29) = .int .u64 (n2 : Nat) := hd 22 (by decide +kernel)
      exact does_call (wanted_of rfl (yielded_of rfl e25)) (ex_call (vs := #[.int .u64 (n2 : Nat), .int .i64 (8 : Nat)]) rfl (by simp only [List.map_toArray, List.map_cons, List.map_nil, e29] <;> rfl) (by go_simp)) (((rput_any n2 8 (by omega) (by omega) w').mono fun e w2 hh => by obtain ⟨v, h1, h2, h3⟩ := hh; exact ⟨v, h1, h2.rd, h3⟩))
    · intro a w' hF hB hd
      have e25 : a.eval (.tmp 25) = .bool true := hd 18 (by decide +kernel)
      have e30 : Rd w' (a.eval (.tmp 30)) (be n2 8) := hd 23 (by decide +kernel)
      exact does_val (wanted_of rfl (yielded_of rfl e25)) (ex_convert rfl rfl e30.str) rfl
    · intro a w' hF hB hd
      have e25 : a.eval (.tmp 25) = .bool true := hd 18 (by decide +kernel)
      have e28 : a.eval (.tmp 28) = .string (bstr (be n2 8)) := hd 21 (by decide +kernel)
      have e31 : a.eval (.tmp 31) = .string (bstr (be n2 8)) := hd 24 (by decide +kernel)
      exact does_val (wanted_of rfl (yielded_of rfl e25)) (ex_binOp rfl e28 e31 (by go_simp) (by go_simp)) rfl
    · intro a w' hF hB hd
      have e25 : a.eval (.tmp 25) = .bool true := hd 18 (by decide +kernel)
      have e32 : a.eval (.tmp 32) = .bool true := hd 25 (by decide +kernel)
      exact does_val rfl (ex_pick rfl e25 (by simp [e32])) rfl
    · intro a w' hF hB hd
      have e33 : a.eval (.tmp 33) = .bool true := hd 26 (by decide +kernel)
      exact does_val rfl (ex_move rfl e33) rfl
    · intro a w' hF hB hd
      have e34 : a.eval (.tmp 34) = .bool true := hd 27 (by decide +kernel)
      exact does_call (wanted_of rfl (yielded_of rfl e34)) (ex_call (vs := #[]) rfl (by simp) (by go_simp)) ((awake_any w').mono fun e w2 hh => ⟨_, hh.1, rfl, hh.2⟩)
    · intro a w' hF hB hd
      have e34 : a.eval (.tmp 34) = .bool true := hd 27 (by decide +kernel)
      have e35 : a.eval (.tmp 35) = .bool true := hd 28 (by decide +kernel)
      exact does_val rfl (ex_pick rfl e34 (by simp [e35])) rfl
    · intro a w' hF hB hd
      have e36 : a.eval (.tmp 36) = .bool true := hd 29 (by decide +kernel)
      exact does_val rfl (ex_assign rfl e36) rfl
  · intro vs w2 hb hv
    have e := hv 30 (by decide)
    have e6 : vs 30 = .bool true := e
    simp only [putOps, Act.put, List.setIfInBounds_toArray, List.set_cons_zero, List.set_cons_succ, e6]
    clear e e6 hv
    go_wp2_with fail
    go_ret
    exact ⟨rfl, hb⟩
set_option linter.unusedVariables false in
set_option maxHeartbeats 400000 in
set_option maxRecDepth 100000 in
theorem lifted (os : Os) (started : os.Started) (H : Type) (enc : TypeId × Value → H) :
    ReturnsInHanded {} Try.checked os 3 .any (Rows.octetPutsSpec.pre6 enc Try.prog Try.f3 Rows.octetPutsRow.domain false) (Rows.octetPutsSpec.post enc Try.prog Try.f3 false true false false) := by
  refine returnsInHanded_of_change_sized (C := Try.checked) own started (by kernel_rfl) Try.func3
    (ChangeSpec.witness6 (enc := enc) (C := Try.checked) false ⟨#[], #[.int .u16 0, .int .u32 0, .int .u64 0], []⟩ 8 (by kernel_rfl) (by kernel_rfl) (by kernel_rfl) (by kernel_rfl)) ?_
  intro W base args ds gs before hval0 hW _ hsz0 _
  have hsz : (DataW.weightsEach Try.prog (Try.f3.params.toList ++ Rows.octetPutsSpec.plain.varTypes Try.prog) (ds ++ gs)).all (· ≤ reachBytes) = true := hsz0
  clear hsz0
  have hval : ∀ (j : Nat) t v, Try.f3.params[j]? = some t → args[j]? = some v → Value.okWide Try.prog W .any base t v := hval0
  have hW' := hW
  obtain ⟨p, q, hA0, hV, rfl, _, _⟩ := hW
  have hA : DataW.TrodAll enc Try.prog W 0 (fun _ => true) true Try.f3.params.toList args.toList ds p := hA0
  rw [Try.params3] at hA hval hsz
  obtain ⟨v0, vs0, d0, ds0, p0, q0, hargs, rfl, rfl, g0, r0⟩ := trodAll_cons hA
  obtain ⟨v1, vs1, d1, ds1, p1, q1, rfl, rfl, rfl, g1, r1⟩ := trodAll_cons r0
  obtain ⟨v2, vs2, d2, ds2, p2, q2, rfl, rfl, rfl, g2, r2⟩ := trodAll_cons r1
  obtain ⟨rfl, rfl, rfl⟩ := trodAll_nil r2
  obtain rfl : args = #[v0, v1, v2] := by cases args; simp_all
  obtain ⟨rfl, rfl⟩ := trodVars_none hV
  obtain ⟨a0, rfl, rfl, rfl, w0⟩ := open_int Try.underlying22 (hval 0 22 v0 rfl rfl) g0
  obtain ⟨a1, rfl, rfl, rfl, w1⟩ := open_int Try.underlying23 (hval 1 23 v1 rfl rfl) g1
  obtain ⟨a2, rfl, rfl, rfl, w2⟩ := open_int Try.underlying24 (hval 2 24 v2 rfl rfl) g2
  clear hA0 hval0
  have hlt := hW'.lt
  refine (walk W a0 w0 a1 w1 a2 w2).mono fun e W' ⟨he, hb⟩ => ?_
  subst he
  have hargs : DataW.TrodAll enc Try.prog W' 0 (fun b => decide (b < W.heap.size)) true _ _ _ _ := (trodAll_cons_mk (shut_int Try.underlying22 w0) (trodAll_cons_mk (shut_int Try.underlying23 w1) (trodAll_cons_mk (shut_int Try.underlying24 w2) trodAll_mk0)))
  simp only [List.append_nil] at hW' hargs
  exact ⟨_, rfl, post_law hW' (trodAll_cons_mk (shut_bool Try.underlying4 _) trodAll_mk0) hargs rfl hb⟩

theorem over : Rows.octetPutsRow.holds Try.pinned (OpenSpec.ofChange Rows.octetPutsSpec) :=
  OpenClaim.holds_of_wide 3 Try.f3 rfl rfl rfl rfl rfl rfl rfl ⟨rfl, rfl, rfl, rfl, rfl⟩ rfl rfl rfl rfl rfl (by kernel_rfl) Try.func3 (by kernel_rfl)
    (of_decide_eq_true (by kernel_rfl)) (by unfold Func.isWrapper; first | (rw [if_pos (by decide +kernel)]; kernel_rfl) | (rw [if_neg (by decide +kernel)]; exact ⟨rfl, rfl⟩))
    (fun os started H enc _ => lifted os started H enc)

/-- The given statement. -/
theorem proved : Rows.OctetPutsSaid :=
  over
end Go.Proofs.Ytngflmdlgaeokaa.octetPuts
