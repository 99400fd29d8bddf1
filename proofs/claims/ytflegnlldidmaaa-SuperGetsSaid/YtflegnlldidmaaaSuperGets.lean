/- SuperGets: any bytes are the geometry that the document says, or none; the bytes stay as they are; and the law's closed case holds. No condition. -/
import Derived.Test.YtflegnlldidmaaaRows
import Derived.Test.YtflegnlldidmaaaSuAwake
import Derived.Test.YtflegnlldidmaaaSuGet
import Derived.Test.YtflegnlldidmaaaSuGetR
import Derived.Test.YtflegnlldidmaaaMem
import Derived.WalkKit
import Derived.ProofKit
import Derived.OpenShut
import Derived.SizedLaws
import Derived.Carry
import Derived.Deep.DeepHandedRow
import Derived.Deep.DeepWitnessRowRef
namespace Go.Proofs.Ytflegnlldidmaaa.superGets
open Go.ChangeShapes Go.WideShapes Go.ChangeAt Go.RowKit
open SU
theorem own : ownKnob Try.prog.godebug = none := by kernel_rfl
set_option linter.unusedVariables false in
set_option maxRecDepth 100000 in
set_option maxHeartbeats 2000000 in
theorem walk (w : World) (v0 : Value) (l0 : List Nat) (h0 : Rd w v0 l0) :
    Calls Try.prog 3 #[v0] w fun e w' => e = .returned (.bool true) ∧ Below w.heap.size w w' := by
  obtain ⟨va, vc, rfl, _⟩ := h0.shape
  obtain ⟨bl, hbl⟩ : ∃ n, n = l0.length := ⟨_, rfl⟩
  obtain ⟨C, hC⟩ : ∃ C, C = gC l0 := ⟨_, rfl⟩
  obtain ⟨P, hP⟩ : ∃ P, P = gP l0 := ⟨_, rfl⟩
  obtain ⟨GE, hGE⟩ : ∃ x, x = ge l0 := ⟨_, rfl⟩
  obtain ⟨S, hS⟩ : ∃ S, S = bstr l0 := ⟨_, rfl⟩
  have hz := zeroGeo
  have hgg := fun w => run_eql_geo w C P C P
  simp only [and_self, decide_true] at hgg
  have hss : ∀ w, (binOp .eql 9 (.string S) (.string S)).run Try.prog w = .ok (.bool true) w := fun w => by rw [run_eql_str, decide_eq_true rfl]
  have HV := Lib.hid h0
  have HG := Lib.hid (fun W v (hv : Rd W v l0) => suget_any l0 v W hv)
  have HR := Lib.hid (fun W v (hv : Rd W v l0) => rsuget_any l0 v W hv)
  rw [← hC, ← hP, ← hGE] at HG HR
  have HSTR := Lib.hid (fun (W : World) (v : Value) (hv : Rd W v l0) => hv.str)
  rw [← hS] at HSTR
  have HAW := Lib.hid (fun W => suawake_any W)
  have HBL := Lib.hid hbl
  have HE := Lib.hid (own_empty w (b := w.heap.size) rfl (base := w.heap.size) (Nat.le_refl _))
  have WE := Lib.hid ((Below.refl w.heap.size w).alloc (Nat.le_refl _) (.cells #[] 5))
  rw [← hbl] at HV ⊢
  clear hC hP hGE hS h0 hbl
  go_enter Try.func3, Try.ntmps3
  go_upto_region 2 with (refine wpList_app rfl (.tmp 8) (.tmp 9) rfl w.heap.size (.slice (some ⟨w.heap.size, 0, none⟩) 0 0) (.slice va bl vc) [] l0 rfl rfl HE.out (HV.out.below WE.out) (by rw [← HBL.out, List.length_nil, Nat.zero_add]; have := HV.out.fits; rw [← HBL.out] at this; exact this) WE.out.size ?_; intro v1 w1 o1 g1 k1; rw [List.nil_append] at o1; have I1 := Lib.hid o1.rd; have hb1 := Lib.hid (show Below w.heap.size w w1 from WE.out.grown g1 WE.out.size (fun g hg => by have e : w.heap.size = g := Option.some.inj hg; omega)); clear o1 g1 k1)
  obtain ⟨ia, ic, hsh, _⟩ := I1.out.shape
  rw [← HBL.out] at hsh
  subst hsh
  have V1 := Lib.hid (HV.out.below hb1.out)
  have W1 := hb1
  clear hb1
  have HG1 := Lib.hid (HG.out w1 _ I1.out)
  go_wp2_with ((fail_if_success (with_reducible show bodyPost _ _ _ _ _ _)); first
    | (go_at_call 5; (with_reducible refine HG1.out.mono ?_); rintro e w2 ⟨rfl, b2⟩; have I2 := Lib.hid (I1.out.below b2); have V2 := Lib.hid (V1.out.below b2); have W2 := Lib.hid (W1.out.on b2); clear b2)
    | (refine wpList_store_blk rfl 24 (.tmp 4) (.tmp 14) rfl w2.heap.size 0 [.int .i64 C, .int .i64 P] rfl rfl 24 [.int .i64 0, .int .i64 0] (Blk.new w2 24 [.int .i64 0, .int .i64 0] _ rfl) (Nat.le_refl _) infoGeo (oneGeo _ _) ?_; intro w3 b3 g3; rw [splice_all _ _ (by rfl)] at b3; have hb3 := Lib.hid (alloc_turn (Below.refl _ _) g3); have T3 := Lib.hid b3; have I3 := Lib.hid (I2.out.below hb3.out); have V3 := Lib.hid (V2.out.below hb3.out); have W3 := Lib.hid (W2.out.on hb3.out); have HR3 := Lib.hid (HR.out w3 _ V3.out); clear b3 g3 hb3)
    | (go_at_call 6; (with_reducible refine HR3.out.mono ?_); rintro e w4 ⟨rfl, b4⟩; have I4 := Lib.hid (I3.out.below b4); have V4 := Lib.hid (V3.out.below b4); have T4 := Lib.hid (T3.out.below b4 T3.out.lt); have W4 := Lib.hid (W3.out.on b4); clear b4)
    | (refine wpList_store_blk rfl 24 (.tmp 6) (.tmp 19) rfl w4.heap.size 0 [.int .i64 C, .int .i64 P] rfl rfl 24 [.int .i64 0, .int .i64 0] (Blk.new w4 24 [.int .i64 0, .int .i64 0] _ rfl) (Nat.le_refl _) infoGeo (oneGeo _ _) ?_; intro w5 b5 g5; rw [splice_all _ _ (by rfl)] at b5; have hb5 := Lib.hid (alloc_turn (Below.refl _ _) g5); have Q5 := Lib.hid b5; have T5 := Lib.hid (T4.out.below hb5.out T4.out.lt); have I5 := Lib.hid (I4.out.below hb5.out); have V5 := Lib.hid (V4.out.below hb5.out); have W5 := Lib.hid (W4.out.on hb5.out); have HA5 := Lib.hid (HAW.out w5); clear b5 g5 hb5)
    | (refine wpList_load_mid rfl 24 (.tmp 4) rfl w2.heap.size 0 rfl [.int .i64 C, .int .i64 P] _ T5.out.range Try.underlying24 rfl infoGeo ?_)
    | (refine wpList_load_mid rfl 24 (.tmp 6) rfl w4.heap.size 0 rfl [.int .i64 C, .int .i64 P] _ Q5.out.range Try.underlying24 rfl infoGeo ?_)
    | (refine wpList_wanted rfl (.bool true) (ex_binOp (b := .eql) (t := 24) (x := .tmp 21) (y := .tmp 22) rfl rfl rfl (run_eqGuard_agg _ _ _ _ _ _ _ eqTypeGeo) (hgg _)) ?_)
    | (refine wpList_wanted rfl (.string S) (ex_convert (x := .tmp 30) rfl rfl (HSTR.out w5 _ I5.out)) ?_)
    | (refine wpList_wanted rfl (.string S) (ex_convert (x := .tmp 32) rfl rfl (HSTR.out w5 _ V5.out)) ?_)
    | (refine wpList_wanted rfl (.bool true) (ex_binOp (x := .tmp 31) (y := .tmp 33) (b := .eql) (t := 9) rfl rfl rfl (by go_simp) (hss _)) ?_)
    | (go_at_call 7; (with_reducible refine HA5.out.mono ?_); rintro e w6 ⟨rfl, b6⟩; have W6 := Lib.hid (W5.out.on b6); clear b6))
  go_ret
  exact ⟨rfl, W6.out⟩
set_option linter.unusedVariables false in
set_option maxHeartbeats 400000 in
set_option maxRecDepth 100000 in
theorem lifted (os : Os) (started : os.Started) (H : Type) (enc : TypeId × Value → H) :
    ReturnsInHanded {} Try.checked os 3 .any (Rows.superGetsSpec.pre6 enc Try.prog Try.f3 Rows.superGetsRow.domain false) (Rows.superGetsSpec.post enc Try.prog Try.f3 false true false false) := by
  refine returnsInHanded_of_change_sized (C := Try.checked) own started (by kernel_rfl) Try.func3
    (ChangeSpec.witness6 (enc := enc) (C := Try.checked) false ⟨#[], #[.slice none 0 0], []⟩ 8 (by kernel_rfl) (by kernel_rfl) (by kernel_rfl) (by kernel_rfl)) ?_
  intro W base args ds gs before hval0 hW _ hsz0 _
  have hsz : (DataW.weightsEach Try.prog (Try.f3.params.toList ++ Rows.superGetsSpec.plain.varTypes Try.prog) (ds ++ gs)).all (· ≤ reachBytes) = true := hsz0
  clear hsz0
  have hval : ∀ (j : Nat) t v, Try.f3.params[j]? = some t → args[j]? = some v → Value.okWide Try.prog W .any base t v := hval0
  have hW' := hW
  obtain ⟨p, q, hA0, hV, rfl, _, _⟩ := hW
  have hA : DataW.TrodAll enc Try.prog W 0 (fun _ => true) true Try.f3.params.toList args.toList ds p := hA0
  rw [Try.params3] at hA hval hsz
  obtain ⟨v0, vs0, d0, ds0, p0, q0, hargs, rfl, rfl, g0, r0⟩ := trodAll_cons hA
  obtain ⟨rfl, rfl, rfl⟩ := trodAll_nil r0
  obtain rfl : args = #[v0] := by cases args; simp_all
  obtain ⟨rfl, rfl⟩ := trodVars_none hV
  obtain ⟨l0, h0⟩ := open_bytes (hval 0 22 v0 rfl rfl) g0 (fun elems spare e => sized_slice hsz (j := 0) (t := 22) (e := 5) rfl (by rw [← e]; rfl) Try.underlying22)
  clear hA0 hval0
  have hlt := hW'.lt
  refine (walk W v0 l0 h0).mono fun e W' ⟨he, hb⟩ => ?_
  subst he
  have hargs : DataW.TrodAll enc Try.prog W' 0 (fun b => decide (b < W.heap.size)) true _ _ _ _ := (trodAll_cons_mk (Below.trod laidOut (by kernel_rfl) (of_decide_eq_true (by kernel_rfl)) g0 hb (fun x hx => hlt x (by simp [hx]))) trodAll_mk0)
  simp only [List.append_nil] at hW' hargs
  exact ⟨_, rfl, post_law hW' (trodAll_cons_mk (shut_bool Try.underlying4 _) trodAll_mk0) hargs rfl hb⟩
theorem over : Rows.superGetsRow.holds Try.pinned (OpenSpec.ofChange Rows.superGetsSpec) :=
  OpenClaim.holds_of_wide 3 Try.f3 rfl rfl rfl rfl rfl rfl rfl ⟨rfl, rfl, rfl, rfl, rfl⟩ rfl rfl rfl rfl rfl (by kernel_rfl) Try.func3 (by kernel_rfl)
    (of_decide_eq_true (by kernel_rfl)) (by unfold Func.isWrapper; first | (rw [if_pos (by decide +kernel)]; kernel_rfl) | (rw [if_neg (by decide +kernel)]; exact ⟨rfl, rfl⟩))
    (fun os started H enc _ => lifted os started H enc)

/-- The given statement. -/
theorem proved : Rows.SuperGetsSaid := over
end Go.Proofs.Ytflegnlldidmaaa.superGets
