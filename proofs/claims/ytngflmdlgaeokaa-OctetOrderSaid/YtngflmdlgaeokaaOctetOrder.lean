/- OctetOrder: for any two numbers what the program lays of them is in their order, the eight bytes of each and the four bytes of their ends; and the law's closed case holds. No condition. -/
import Derived.Test.YtngflmdlgaeokaaRows
import Derived.Test.YtngflmdlgaeokaaOctAwake
import Derived.Test.YtngflmdlgaeokaaFacts
import Derived.Test.YtngflmdlgaeokaaBeOrder
import Derived.Test.YtngflmdlgaeokaaArgs
import Derived.WalkLawsBesides
import Derived.WalkKit
import Derived.ProofKit
import Derived.OpenShut
import Derived.SizedLaws
import Derived.Carry
namespace Go.Proofs.Ytngflmdlgaeokaa.octetOrder
open Go.ChangeShapes Go.WideShapes Go.ChangeAt Go.RowKit

theorem own : ownKnob Try.prog.godebug = none := by kernel_rfl
set_option linter.unusedVariables false in
set_option maxHeartbeats 2000000 in
set_option maxRecDepth 100000 in
theorem walk (w : World) (a0 : Int) (w0 : (Lit.int .u64 a0).wf = true) (a1 : Int) (w1 : (Lit.int .u64 a1).wf = true) :
    Calls Try.prog 8 #[.int .u64 a0, .int .u64 a1] w fun e w' => e = .returned (.bool true) ∧ Below w.heap.size w w' := by
  obtain ⟨n0, h0, rfl⟩ := u64_of w0
  obtain ⟨n1, h1, rfl⟩ := u64_of w1
  clear w0 w1
  have hl8 : Op.bytesLess (bstr (be n0 8)).toList (bstr (be n1 8)).toList = decide ((n0 : Int) < (n1 : Int)) := by
    rw [less_bstr 8 n0 n1 h0 h1, decide_eq_decide]; omega
  have hl4 : Op.bytesLess (bstr (be (n0 % 4294967296) 4)).toList (bstr (be (n1 % 4294967296) 4)).toList = decide ((n0 : Int) % 4294967296 < (n1 : Int) % 4294967296) := by
    rw [less_bstr 4 _ _ (by omega) (by omega), decide_eq_decide]; omega
  have hz8 : (bstr (be n0 8)).size = 8 := by rw [bstr_size, be_len]
  have hz4 : (bstr (be (n0 % 4294967296) 4)).size = 4 := by rw [bstr_size, be_len]
  have he8 := eq_bstr 8 n0 n1 (by omega) h0 h1
  have p4 : ∀ (n : Nat) (W : World), Calls Try.prog 12 #[.int .u32 ((n : Int) % 4294967296)] W fun e w' => ∃ v, e = .returned v ∧ Rd w' v (be (n % 4294967296) 4) ∧ Below W.heap.size W w' := fun n W => by
    have e : (n : Int) % 4294967296 = ((n % 4294967296 : Nat) : Int) := by omega
    rw [e]
    exact (put32_any (n % 4294967296) (by omega) W).mono fun e w2 hh => by obtain ⟨v, h1, h2, h3⟩ := hh; exact ⟨v, h1, h2.rd, h3⟩
  have P4 := Lib.hid p4
  have L8 := Lib.hid hl8
  have L4 := Lib.hid hl4
  have Z8 := Lib.hid hz8
  have Z4 := Lib.hid hz4
  have E8 := Lib.hid he8
  clear p4 hl8 hl4 hz8 hz4 he8
  go_enter Try.func8, Try.ntmps8
  go_wp2_with fail
  refine wp_region_facts (by kernel_rfl) (by kernel_rfl) [.val (.int .u64 (n0 : Nat)), .rd (be n0 8), .val (.string (bstr (be n0 8))), .val (.int .u64 (n1 : Nat)), .rd (be n1 8), .val (.string (bstr (be n1 8))), .val (.string (bstr (be n0 8))), .val (.string (bstr (be n1 8)))] ?_ ?_
  · refine ⟨?_, ?_, ?_, ?_, ?_, ?_, ?_, ?_, trivial⟩
    · intro a w' hF hB hd
      have e0 : a.eval (.tmp 0) = .int .u64 (n0 : Nat) := hF 0 (by decide +kernel)
      exact does_val rfl (ex_move rfl e0) rfl
    · intro a w' hF hB hd
      have e9 : a.eval (.tmp 9) = .int .u64 (n0 : Nat) := hd 0 (by decide +kernel)
      exact does_call rfl (ex_call (vs := #[.int .u64 (n0 : Nat)]) rfl (by simp only [List.map_toArray, List.map_cons, List.map_nil, e9] <;> rfl) (by go_simp)) (((put64_any n0 h0 w').mono fun e w2 hh => by obtain ⟨v, h1, h2, h3⟩ := hh; exact ⟨v, h1, h2.rd, h3⟩))
    · intro a w' hF hB hd
      have e10 : Rd w' (a.eval (.tmp 10)) (be n0 8) := hd 1 (by decide +kernel)
      exact does_val rfl (ex_convert rfl rfl e10.str) rfl
    · intro a w' hF hB hd
      have e1 : a.eval (.tmp 1) = .int .u64 (n1 : Nat) := hF 1 (by decide +kernel)
      exact does_val rfl (ex_move rfl e1) rfl
    · intro a w' hF hB hd
      have e12 : a.eval (.tmp 12) = .int .u64 (n1 : Nat) := hd 3 (by decide +kernel)
      exact does_call rfl (ex_call (vs := #[.int .u64 (n1 : Nat)]) rfl (by simp only [List.map_toArray, List.map_cons, List.map_nil, e12] <;> rfl) (by go_simp)) (((put64_any n1 h1 w').mono fun e w2 hh => by obtain ⟨v, h1, h2, h3⟩ := hh; exact ⟨v, h1, h2.rd, h3⟩))
    · intro a w' hF hB hd
      have e13 : Rd w' (a.eval (.tmp 13)) (be n1 8) := hd 4 (by decide +kernel)
      exact does_val rfl (ex_convert rfl rfl e13.str) rfl
    · intro a w' hF hB hd
      have e11 : a.eval (.tmp 11) = .string (bstr (be n0 8)) := hd 2 (by decide +kernel)
      exact does_val rfl (ex_assign rfl e11) rfl
    · intro a w' hF hB hd
      have e14 : a.eval (.tmp 14) = .string (bstr (be n1 8)) := hd 5 (by decide +kernel)
      exact does_val rfl (ex_assign rfl e14) rfl
  · intro vsa w2 hb hv
    have a0 : vsa 0 = .int .u64 (n0 : Nat) := hv 0 (by decide)
    have a2 : vsa 2 = .string (bstr (be n0 8)) := hv 2 (by decide)
    have a3 : vsa 3 = .int .u64 (n1 : Nat) := hv 3 (by decide)
    have a5 : vsa 5 = .string (bstr (be n1 8)) := hv 5 (by decide)
    have a6 : vsa 6 = .string (bstr (be n0 8)) := hv 6 (by decide)
    have a7 : vsa 7 = .string (bstr (be n1 8)) := hv 7 (by decide)
    simp only [putOps, Act.put, List.setIfInBounds_toArray, List.set_cons_zero, List.set_cons_succ, a0, a2, a3, a5, a6, a7]
    have B2 := Lib.hid hb
    clear hv hb a0 a2 a3 a5 a6 a7
    go_wp2_with fail
    refine wp_region_facts (by kernel_rfl) (by kernel_rfl) [.val (.int .u64 (n0 : Nat)), .val (.int .u32 ((n0 : Int) % 4294967296)), .rd (be (n0 % 4294967296) 4), .val (.string (bstr (be (n0 % 4294967296) 4))), .val (.int .u64 (n1 : Nat)), .val (.int .u32 ((n1 : Int) % 4294967296)), .rd (be (n1 % 4294967296) 4), .val (.string (bstr (be (n1 % 4294967296) 4))), .val (.string (bstr (be (n0 % 4294967296) 4))), .val (.string (bstr (be (n1 % 4294967296) 4)))] ?_ ?_
    · refine ⟨?_, ?_, ?_, ?_, ?_, ?_, ?_, ?_, ?_, ?_, trivial⟩
      · intro a w' hF hB hd
        have e0 : a.eval (.tmp 0) = .int .u64 (n0 : Nat) := hF 0 (by decide +kernel)
        exact does_val rfl (ex_move rfl e0) rfl
      · intro a w' hF hB hd
        have e15 : a.eval (.tmp 15) = .int .u64 (n0 : Nat) := hd 0 (by decide +kernel)
        exact does_val rfl (ex_convert rfl e15 (by go_simp; simp [IntKind.wrap, IntKind.bits, IntKind.signed])) rfl
      · intro a w' hF hB hd
        have e16 : a.eval (.tmp 16) = .int .u32 ((n0 : Int) % 4294967296) := hd 1 (by decide +kernel)
        exact does_call rfl (ex_call (vs := #[.int .u32 ((n0 : Int) % 4294967296)]) rfl (by simp only [List.map_toArray, List.map_cons, List.map_nil, e16] <;> rfl) (by go_simp)) ((P4.out n0 w'))
      · intro a w' hF hB hd
        have e17 : Rd w' (a.eval (.tmp 17)) (be (n0 % 4294967296) 4) := hd 2 (by decide +kernel)
        exact does_val rfl (ex_convert rfl rfl e17.str) rfl
      · intro a w' hF hB hd
        have e1 : a.eval (.tmp 1) = .int .u64 (n1 : Nat) := hF 1 (by decide +kernel)
        exact does_val rfl (ex_move rfl e1) rfl
      · intro a w' hF hB hd
        have e19 : a.eval (.tmp 19) = .int .u64 (n1 : Nat) := hd 4 (by decide +kernel)
        exact does_val rfl (ex_convert rfl e19 (by go_simp; simp [IntKind.wrap, IntKind.bits, IntKind.signed])) rfl
      · intro a w' hF hB hd
        have e20 : a.eval (.tmp 20) = .int .u32 ((n1 : Int) % 4294967296) := hd 5 (by decide +kernel)
        exact does_call rfl (ex_call (vs := #[.int .u32 ((n1 : Int) % 4294967296)]) rfl (by simp only [List.map_toArray, List.map_cons, List.map_nil, e20] <;> rfl) (by go_simp)) ((P4.out n1 w'))
      · intro a w' hF hB hd
        have e21 : Rd w' (a.eval (.tmp 21)) (be (n1 % 4294967296) 4) := hd 6 (by decide +kernel)
        exact does_val rfl (ex_convert rfl rfl e21.str) rfl
      · intro a w' hF hB hd
        have e18 : a.eval (.tmp 18) = .string (bstr (be (n0 % 4294967296) 4)) := hd 3 (by decide +kernel)
        exact does_val rfl (ex_assign rfl e18) rfl
      · intro a w' hF hB hd
        have e22 : a.eval (.tmp 22) = .string (bstr (be (n1 % 4294967296) 4)) := hd 7 (by decide +kernel)
        exact does_val rfl (ex_assign rfl e22) rfl
    · intro vsb w3 hb hv
      have b0 : vsb 0 = .int .u64 (n0 : Nat) := hv 0 (by decide)
      have b1 : vsb 1 = .int .u32 ((n0 : Int) % 4294967296) := hv 1 (by decide)
      have b3 : vsb 3 = .string (bstr (be (n0 % 4294967296) 4)) := hv 3 (by decide)
      have b4 : vsb 4 = .int .u64 (n1 : Nat) := hv 4 (by decide)
      have b5 : vsb 5 = .int .u32 ((n1 : Int) % 4294967296) := hv 5 (by decide)
      have b7 : vsb 7 = .string (bstr (be (n1 % 4294967296) 4)) := hv 7 (by decide)
      have b8 : vsb 8 = .string (bstr (be (n0 % 4294967296) 4)) := hv 8 (by decide)
      have b9 : vsb 9 = .string (bstr (be (n1 % 4294967296) 4)) := hv 9 (by decide)
      simp only [putOps, Act.put, List.setIfInBounds_toArray, List.set_cons_zero, List.set_cons_succ, b0, b1, b3, b4, b5, b7, b8, b9]
      have B3 := Lib.hid hb
      clear hv hb b0 b1 b3 b4 b5 b7 b8 b9
      have hl8 := L8.out
      have hl4 := L4.out
      have hz8 := Z8.out
      have hz4 := Z4.out
      by_cases hn : n0 = n1
      · subst hn
        go_wp2_with (go_at_call 14; refine (awake_any _).mono ?_; rintro ev w4 ⟨rfl, k2⟩; have B7 := Lib.hid k2; clear k2)
        go_ret
        exact ⟨rfl, B2.out.on (B3.out.on B7.out)⟩
      · have hq1 : ((n0 : Int) == (n1 : Int)) = false := by simp; omega
        have hq2 : ((bstr (be n0 8)).toList == (bstr (be n1 8)).toList) = false := by
          rw [beq_eq_false_iff_ne]
          intro q
          refine hn (E8.out.1 ?_)
          rw [bstr_toList, bstr_toList] at q
          rw [U_inj (be_byte n0 8) (be_byte n1 8) q]
        go_wp2_with (go_at_call 14; refine (awake_any _).mono ?_; rintro ev w4 ⟨rfl, k2⟩; have B7 := Lib.hid k2; clear k2)
        go_ret
        exact ⟨rfl, B2.out.on (B3.out.on B7.out)⟩
set_option linter.unusedVariables false in
set_option maxHeartbeats 400000 in
set_option maxRecDepth 100000 in
theorem lifted (os : Os) (started : os.Started) (H : Type) (enc : TypeId × Value → H) :
    ReturnsInHanded {} Try.checked os 8 .any (Rows.octetOrderSpec.pre6 enc Try.prog Try.f8 Rows.octetOrderRow.domain false) (Rows.octetOrderSpec.post enc Try.prog Try.f8 false true false false) := by
  refine returnsInHanded_of_change_sized (C := Try.checked) own started (by kernel_rfl) Try.func8
    (ChangeSpec.witness6 (enc := enc) (C := Try.checked) false ⟨#[], #[.int .u64 0, .int .u64 0], []⟩ 8 (by kernel_rfl) (by kernel_rfl) (by kernel_rfl) (by kernel_rfl)) ?_
  intro W base args ds gs before hval0 hW _ hsz0 _
  have hsz : (DataW.weightsEach Try.prog (Try.f8.params.toList ++ Rows.octetOrderSpec.plain.varTypes Try.prog) (ds ++ gs)).all (· ≤ reachBytes) = true := hsz0
  clear hsz0
  have hval : ∀ (j : Nat) t v, Try.f8.params[j]? = some t → args[j]? = some v → Value.okWide Try.prog W .any base t v := hval0
  have hW' := hW
  obtain ⟨p, q, hA0, hV, rfl, _, _⟩ := hW
  have hA : DataW.TrodAll enc Try.prog W 0 (fun _ => true) true Try.f8.params.toList args.toList ds p := hA0
  rw [Try.params8] at hA hval hsz
  obtain ⟨v0, vs0, d0, ds0, p0, q0, hargs, rfl, rfl, g0, r0⟩ := trodAll_cons hA
  obtain ⟨v1, vs1, d1, ds1, p1, q1, rfl, rfl, rfl, g1, r1⟩ := trodAll_cons r0
  obtain ⟨rfl, rfl, rfl⟩ := trodAll_nil r1
  obtain rfl : args = #[v0, v1] := by cases args; simp_all
  obtain ⟨rfl, rfl⟩ := trodVars_none hV
  obtain ⟨a0, rfl, rfl, rfl, w0⟩ := open_int Try.underlying24 (hval 0 24 v0 rfl rfl) g0
  obtain ⟨a1, rfl, rfl, rfl, w1⟩ := open_int Try.underlying24 (hval 1 24 v1 rfl rfl) g1
  clear hA0 hval0
  have hlt := hW'.lt
  refine (walk W a0 w0 a1 w1).mono fun e W' ⟨he, hb⟩ => ?_
  subst he
  have hargs : DataW.TrodAll enc Try.prog W' 0 (fun b => decide (b < W.heap.size)) true _ _ _ _ := (trodAll_cons_mk (shut_int Try.underlying24 w0) (trodAll_cons_mk (shut_int Try.underlying24 w1) trodAll_mk0))
  simp only [List.append_nil] at hW' hargs
  exact ⟨_, rfl, post_law hW' (trodAll_cons_mk (shut_bool Try.underlying4 _) trodAll_mk0) hargs rfl hb⟩

theorem over : Rows.octetOrderRow.holds Try.pinned (OpenSpec.ofChange Rows.octetOrderSpec) :=
  OpenClaim.holds_of_wide 8 Try.f8 rfl rfl rfl rfl rfl rfl rfl ⟨rfl, rfl, rfl, rfl, rfl⟩ rfl rfl rfl rfl rfl (by kernel_rfl) Try.func8 (by kernel_rfl)
    (of_decide_eq_true (by kernel_rfl)) (by unfold Func.isWrapper; first | (rw [if_pos (by decide +kernel)]; kernel_rfl) | (rw [if_neg (by decide +kernel)]; exact ⟨rfl, rfl⟩))
    (fun os started H enc _ => lifted os started H enc)

/-- The given statement. -/
theorem proved : Rows.OctetOrderSaid :=
  over
end Go.Proofs.Ytngflmdlgaeokaa.octetOrder
