/- FieldTimes: for any sixteen bytes, doubled some times (up to 1999) and then some times more (up to 1999), they are doubled as often together; none leaves them, one is Twice; and the law's closed case holds. No condition. -/
import Derived.Test.YthbeabpbogekcaaRows
import Derived.Test.YthbeabpbogekcaaTimesCallsR
import Derived.Test.YthbeabpbogekcaaEqRow
import Derived.Test.YthbeabpbogekcaaRowArg
import Derived.WalkKit
import Derived.ProofKit
import Derived.OpenShut
namespace Go.Proofs.Ythbeabpbogekcaa.fieldTimes
open Go.ChangeShapes Go.WideShapes Go.ChangeAt Go.RowKit
open FM
theorem size8 : ∀ w, (sizeOf 5).run Try.prog w = .ok 1 w := fun _ => by kernel_rfl
theorem guard16 : Try.prog.eqGuardType Try.prog.depth 29 = false := by kernel_rfl
theorem eq_row (x y : List Nat) (h : x = y) (hx : Bytes 16 x) (w : World) : (binOp .eql 29 (.agg (row8 x).toArray) (.agg (row8 y).toArray)).run Try.prog w = .ok (.bool true) w := by
  subst h
  rw [run_eql_row 29 5 16 Try.underlying29 Try.underlying5 size8 x x hx hx w]; simp
theorem u16_of {a : Int} (h : (Lit.int .u16 a).wf = true) : 0 ≤ a ∧ a ≤ 65535 := by
  simpa [Lit.wf, IntKind.min, IntKind.max, IntKind.signed, IntKind.bits] using h
theorem tms_add (l : List Nat) (m n : Nat) : tms (tms l m) n = tms l (m + n) := by
  induction n with
  | zero => rfl
  | succ n ih => show tw (tms (tms l m) n) = tw (tms l (m + n)); rw [ih]
theorem times_add (l : List Nat) (a b : Int) (ha : 0 ≤ a) (ha' : a < 2000) (hb : 0 ≤ b) (hb' : b < 2000) : times (times l a) b = times l (a + b) := by
  unfold times; rw [tms_add]; congr 1; unfold cnt; omega
theorem times_bytes (l : List Nat) (h : Bytes 16 l) (n : Int) : Bytes 16 (times l n) := tms_bytes l h _
theorem own : ownKnob Try.prog.godebug = none := by kernel_rfl
set_option linter.unusedVariables false in
set_option maxRecDepth 100000 in
set_option maxHeartbeats 2000000 in
theorem walk (l0 : List Nat) (h0 : Bytes 16 l0) (a1 : Int) (w1 : (Lit.int .u16 a1).wf = true) (a2 : Int) (w2 : (Lit.int .u16 a2).wf = true) (w : World) :
    Calls Try.prog 12 #[.agg (row8 l0).toArray, .int .u16 a1, .int .u16 a2] w fun e w' => e = .returned (.bool true) ∧ Below w.heap.size w w' := by
  have HL := Lib.hid h0
  have hi : (Try.prog.info? 29).map (·.size) = some (row8 l0).length := by rw [row8_len, h0.1]; exact info16
  have HI := Lib.hid hi
  obtain ⟨m1, m2⟩ := u16_of w1
  obtain ⟨n1, n2⟩ := u16_of w2
  clear w1 w2
  have HA := Lib.hid (times_add l0 (a1 % 2000) (a2 % 2000) (by omega) (by omega) (by omega) (by omega))
  have HB := Lib.hid (times_bytes l0 h0 (a1 % 2000))
  have HC := Lib.hid (times_bytes _ (times_bytes l0 h0 (a1 % 2000)) (a2 % 2000))
  have HT := Lib.hid (tw_bytes l0 h0.2)
  clear h0 hi
  go_enter Try.func12, Try.ntmps12
  go_wp2_with fail
  have b0 := Lib.hid (Blk.new w 29 (row8 l0) _ rfl)
  have bb := Lib.hid ((Below.refl w.heap.size w).alloc (Nat.le_refl _) (.cells (row8 l0).toArray 29))
  refine wp_region_later (by kernel_rfl) (by kernel_rfl) ?_
  repeat (first | (refine quiet_row rfl 29 (.tmp 3) rfl w.heap.size rfl (row8 l0) _ b0.out _ Try.underlying29 rfl HI.out ?_; simp only [Act.put, List.setIfInBounds_toArray, List.set_cons_zero, List.set_cons_succ]) | (refine quiet_eql rfl 29 29 (.tmp 19) (.tmp 24) rfl (row8 (times (times l0 (a1 % 2000)) (a2 % 2000))).toArray (row8 (times l0 (a1 % 2000 + a2 % 2000))).toArray rfl rfl guard16 true (eq_row _ _ HA.out HC.out) ?_; simp only [Act.put, List.setIfInBounds_toArray, List.set_cons_zero, List.set_cons_succ]) | (refine quiet_eql rfl 29 29 (.tmp 28) (.tmp 29) rfl (row8 (times l0 0)).toArray (row8 l0).toArray rfl rfl guard16 true (eq_row _ _ rfl HL.out) ?_; simp only [Act.put, List.setIfInBounds_toArray, List.set_cons_zero, List.set_cons_succ]) | (refine quiet_eql rfl 29 29 (.tmp 34) (.tmp 36) rfl (row8 (times l0 1)).toArray (row8 (tw l0)).toArray rfl rfl guard16 true (eq_row _ _ rfl HT.out) ?_; simp only [Act.put, List.setIfInBounds_toArray, List.set_cons_zero, List.set_cons_succ]) | go_big_quiet_step (first | (go_at_call 22; exact later_of (twice_any _ HL.out _)) | (go_at_call 24; first | (with_reducible exact later_of (times_any _ HL.out _ _)) | exact later_of (times_any _ HB.out _ _)) | (go_at_call 15; exact later_same (awake_any _))))
  refine wpQuiet_nil ?_
  intro s
  have hs := s.below
  have BB := Lib.hid (bb.out.trans (hs.mono (by simp)))
  generalize s.val = w2 at *
  clear hs
  go_wp2_with fail
  go_ret
  exact ⟨rfl, BB.out⟩
theorem cells29 : Try.prog.cellsOf 29 = 16 := by kernel_rfl
theorem cells5 : Try.prog.cellsOf 5 = 1 := by kernel_rfl
set_option maxHeartbeats 400000 in
set_option maxRecDepth 100000 in
theorem lifted (os : Os) (started : os.Started) (H : Type) (enc : TypeId × Value → H) :
    ReturnsInHanded {} Try.checked os 12 .any (Rows.fieldTimesSpec.pre6 enc Try.prog Try.f12 Rows.fieldTimesRow.domain false) (Rows.fieldTimesSpec.post enc Try.prog Try.f12 false true false false) := by
  refine returnsInHanded_of_change (C := Try.checked) own started (by kernel_rfl) Try.func12
    (ChangeSpec.witness6 (enc := enc) (C := Try.checked) false ⟨#[], #[.agg #[.int .u8 0, .int .u8 0, .int .u8 0, .int .u8 0, .int .u8 0, .int .u8 0, .int .u8 0, .int .u8 0, .int .u8 0, .int .u8 0, .int .u8 0, .int .u8 0, .int .u8 0, .int .u8 0, .int .u8 0, .int .u8 0], .int .u16 0, .int .u16 0], []⟩ 8 (by kernel_rfl) (by kernel_rfl) (by kernel_rfl) (by kernel_rfl)) ?_
  intro W base args ds gs before hval0 hW _ _
  have hval : ∀ (j : Nat) t v, Try.f12.params[j]? = some t → args[j]? = some v → Value.okWide Try.prog W .any base t v := hval0
  have hW' := hW
  obtain ⟨p, q, hA0, hV, rfl, _, _⟩ := hW
  have hA : DataW.TrodAll enc Try.prog W 0 (fun _ => true) true Try.f12.params.toList args.toList ds p := hA0
  rw [Try.params12] at hA hval
  obtain ⟨v0, vs0, d0, ds0, p0, q0, hargs, rfl, rfl, g0, r0⟩ := trodAll_cons hA
  obtain ⟨v1, vs1, d1, ds1, p1, q1, rfl, rfl, rfl, g1, r1⟩ := trodAll_cons r0
  obtain ⟨v2, vs2, d2, ds2, p2, q2, rfl, rfl, rfl, g2, r2⟩ := trodAll_cons r1
  obtain ⟨rfl, rfl, rfl⟩ := trodAll_nil r2
  obtain rfl : args = #[v0, v1, v2] := by cases args; simp_all
  obtain ⟨rfl, rfl⟩ := trodVars_none hV
  obtain ⟨l0, h0, rfl, rfl, rfl⟩ := open_row Try.underlying29 Try.underlying5 cells5 (hval 0 29 v0 rfl rfl) cells29 g0
  obtain ⟨a1, rfl, rfl, rfl, w1⟩ := open_int Try.underlying38 (hval 1 38 v1 rfl rfl) g1
  obtain ⟨a2, rfl, rfl, rfl, w2⟩ := open_int Try.underlying38 (hval 2 38 v2 rfl rfl) g2
  clear hA0 hval0
  simp only [List.append_nil] at hW'
  refine (walk l0 h0 a1 w1 a2 w2 W).mono fun e W' ⟨he, hb⟩ => ?_
  subst he
  exact ⟨_, rfl, post_law hW' (trodAll_cons_mk (shut_bool Try.underlying4 _) trodAll_mk0) (trodAll_cons_mk (shut_row Try.underlying29 Try.underlying5 cells5 cells29 h0) (trodAll_cons_mk (shut_int Try.underlying38 w1) (trodAll_cons_mk (shut_int Try.underlying38 w2) trodAll_mk0))) rfl hb⟩

theorem over : Rows.fieldTimesRow.holds Try.pinned (OpenSpec.ofChange Rows.fieldTimesSpec) :=
  OpenClaim.holds_of_wide 12 Try.f12 rfl rfl rfl rfl rfl rfl rfl ⟨rfl, rfl, rfl, rfl, rfl⟩ rfl rfl rfl rfl rfl (by kernel_rfl) Try.func12 (by kernel_rfl)
    (of_decide_eq_true (by kernel_rfl)) (by unfold Func.isWrapper; first | (rw [if_pos (by decide +kernel)]; kernel_rfl) | (rw [if_neg (by decide +kernel)]; exact ⟨rfl, rfl⟩))
    (fun os started H enc _ => lifted os started H enc)

/-- The given statement. -/
theorem proved : Rows.FieldTimesSaid :=
  over
end Go.Proofs.Ythbeabpbogekcaa.fieldTimes
