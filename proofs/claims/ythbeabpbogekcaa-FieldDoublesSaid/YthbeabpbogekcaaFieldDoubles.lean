/- FieldDoubles: for any sixteen bytes and any int the program doubles them, once and as often as the int says, as the document's answer does, and the law's closed case holds. No condition. -/
import Derived.Test.YthbeabpbogekcaaRows
import Derived.Test.YthbeabpbogekcaaTimesCallsR
import Derived.Test.YthbeabpbogekcaaEqRow
import Derived.Test.YthbeabpbogekcaaRowArg
import Derived.WalkKit
import Derived.ProofKit
import Derived.OpenShut
namespace Go.Proofs.Ythbeabpbogekcaa.fieldDoubles
open Go.ChangeShapes Go.WideShapes Go.ChangeAt Go.RowKit
open FM
theorem size8 : ∀ w, (sizeOf 5).run Try.prog w = .ok 1 w := fun _ => by kernel_rfl
theorem guard16 : Try.prog.eqGuardType Try.prog.depth 29 = false := by kernel_rfl
theorem same_row (x : List Nat) (hx : Bytes 16 x) (w : World) : (binOp .eql 29 (.agg (row8 x).toArray) (.agg (row8 x).toArray)).run Try.prog w = .ok (.bool true) w := by
  rw [run_eql_row 29 5 16 Try.underlying29 Try.underlying5 size8 x x hx hx w]; simp
theorem own : ownKnob Try.prog.godebug = none := by kernel_rfl
set_option linter.unusedVariables false in
set_option maxRecDepth 100000 in
set_option maxHeartbeats 1000000 in
theorem walk (l0 : List Nat) (h0 : Bytes 16 l0) (a1 : Int) (w1 : (Lit.int .i64 a1).wf = true) (w : World) :
    Calls Try.prog 7 #[.agg (row8 l0).toArray, .int .i64 a1] w fun e w' => e = .returned (.bool true) ∧ Below w.heap.size w w' := by
  have HL := Lib.hid h0
  have hi : (Try.prog.info? 29).map (·.size) = some (row8 l0).length := by rw [row8_len, h0.1]; exact info16
  have HI := Lib.hid hi
  have HT := Lib.hid (tw_bytes l0 h0.2)
  have HS := Lib.hid (tms_bytes l0 h0 (cnt a1))
  clear h0 hi
  go_enter Try.func7, Try.ntmps7
  go_wp2_with fail
  have b0 := Lib.hid (Blk.new w 29 (row8 l0) _ rfl)
  have bb := Lib.hid ((Below.refl w.heap.size w).alloc (Nat.le_refl _) (.cells (row8 l0).toArray 29))
  refine wp_region_later (by kernel_rfl) (by kernel_rfl) ?_
  repeat (first | (refine quiet_row rfl 29 (.tmp 2) rfl w.heap.size rfl (row8 l0) _ b0.out _ Try.underlying29 rfl HI.out ?_; simp only [Act.put, List.setIfInBounds_toArray, List.set_cons_zero, List.set_cons_succ]) | (refine quiet_eql rfl 29 29 (.tmp 6) (.tmp 8) rfl (row8 (tw l0)).toArray (row8 (tw l0)).toArray rfl rfl guard16 true (same_row _ HT.out) ?_; simp only [Act.put, List.setIfInBounds_toArray, List.set_cons_zero, List.set_cons_succ]) | (refine quiet_eql rfl 29 29 (.tmp 13) (.tmp 16) rfl (row8 (times l0 a1)).toArray (row8 (times l0 a1)).toArray rfl rfl guard16 true (same_row _ HS.out) ?_; simp only [Act.put, List.setIfInBounds_toArray, List.set_cons_zero, List.set_cons_succ]) | go_big_quiet_step (first | (go_at_call 22; exact later_of (twice_any _ HL.out _)) | (go_at_call 23; exact later_of (rtwice_any _ HL.out _)) | (go_at_call 24; exact later_of (times_any _ HL.out _ _)) | (go_at_call 25; exact later_of (rtimes_any _ HL.out _ _)) | (go_at_call 15; exact later_same (awake_any _))))
  refine wpQuiet_nil ?_
  intro s
  have hs := s.below
  have BB := Lib.hid (bb.out.trans (hs.mono (by simp)))
  generalize s.val = w2 at *
  clear hs
  go_wp2_with fail
  go_ret
  exact ⟨rfl, BB.out⟩
theorem cells29 : Try.prog.cellsOf 29 = 16 := by kernel_rfl
theorem cells5 : Try.prog.cellsOf 5 = 1 := by kernel_rfl
set_option maxHeartbeats 400000 in
set_option maxRecDepth 100000 in
theorem lifted (os : Os) (started : os.Started) (H : Type) (enc : TypeId × Value → H) :
    ReturnsInHanded {} Try.checked os 7 .any (Rows.fieldDoublesSpec.pre6 enc Try.prog Try.f7 Rows.fieldDoublesRow.domain false) (Rows.fieldDoublesSpec.post enc Try.prog Try.f7 false true false false) := by
  refine returnsInHanded_of_change (C := Try.checked) own started (by kernel_rfl) Try.func7
    (ChangeSpec.witness6 (enc := enc) (C := Try.checked) false ⟨#[], #[.agg #[.int .u8 0, .int .u8 0, .int .u8 0, .int .u8 0, .int .u8 0, .int .u8 0, .int .u8 0, .int .u8 0, .int .u8 0, .int .u8 0, .int .u8 0, .int .u8 0, .int .u8 0, .int .u8 0, .int .u8 0, .int .u8 0], .int .i64 0], []⟩ 8 (by kernel_rfl) (by kernel_rfl) (by kernel_rfl) (by kernel_rfl)) ?_
  intro W base args ds gs before hval0 hW _ _
  have hval : ∀ (j : Nat) t v, Try.f7.params[j]? = some t → args[j]? = some v → Value.okWide Try.prog W .any base t v := hval0
  have hW' := hW
  obtain ⟨p, q, hA0, hV, rfl, _, _⟩ := hW
  have hA : DataW.TrodAll enc Try.prog W 0 (fun _ => true) true Try.f7.params.toList args.toList ds p := hA0
  rw [Try.params7] at hA hval
  obtain ⟨v0, vs0, d0, ds0, p0, q0, hargs, rfl, rfl, g0, r0⟩ := trodAll_cons hA
  obtain ⟨v1, vs1, d1, ds1, p1, q1, rfl, rfl, rfl, g1, r1⟩ := trodAll_cons r0
  obtain ⟨rfl, rfl, rfl⟩ := trodAll_nil r1
  obtain rfl : args = #[v0, v1] := by cases args; simp_all
  obtain ⟨rfl, rfl⟩ := trodVars_none hV
  obtain ⟨l0, h0, rfl, rfl, rfl⟩ := open_row Try.underlying29 Try.underlying5 cells5 (hval 0 29 v0 rfl rfl) cells29 g0
  obtain ⟨a1, rfl, rfl, rfl, w1⟩ := open_int Try.underlying3 (hval 1 3 v1 rfl rfl) g1
  clear hA0 hval0
  simp only [List.append_nil] at hW'
  refine (walk l0 h0 a1 w1 W).mono fun e W' ⟨he, hb⟩ => ?_
  subst he
  exact ⟨_, rfl, post_law hW' (trodAll_cons_mk (shut_bool Try.underlying4 _) trodAll_mk0) (trodAll_cons_mk (shut_row Try.underlying29 Try.underlying5 cells5 cells29 h0) (trodAll_cons_mk (shut_int Try.underlying3 w1) trodAll_mk0)) rfl hb⟩

theorem over : Rows.fieldDoublesRow.holds Try.pinned (OpenSpec.ofChange Rows.fieldDoublesSpec) :=
  OpenClaim.holds_of_wide 7 Try.f7 rfl rfl rfl rfl rfl rfl rfl ⟨rfl, rfl, rfl, rfl, rfl⟩ rfl rfl rfl rfl rfl (by kernel_rfl) Try.func7 (by kernel_rfl)
    (of_decide_eq_true (by kernel_rfl)) (by unfold Func.isWrapper; first | (rw [if_pos (by decide +kernel)]; kernel_rfl) | (rw [if_neg (by decide +kernel)]; exact ⟨rfl, rfl⟩))
    (fun os started H enc _ => lifted os started H enc)

/-- The given statement. -/
theorem proved : Rows.FieldDoublesSaid :=
  over
end Go.Proofs.Ythbeabpbogekcaa.fieldDoubles
