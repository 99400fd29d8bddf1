/- CellRises: whatever is asked, the value never sinks, and rises by one just where it is told that it was raised. No condition. -/
import Derived.Test.YtglhlhflbomkoaaRows
import Derived.Test.YtglhlhflbomkoaaCellR
import Derived.Test.YtglhlhflbomkoaaU64
import Derived.Test.YtglhlhflbomkoaaInts
import Derived.WalkKit
import Derived.ProofKit
import Derived.OpenShut
import Derived.SizedLaws
import Derived.Carry
import Derived.Deep.DeepHandedRow
import Derived.Deep.DeepWitnessRowRef
namespace Go.Proofs.Ytglhlhflbomkoaa.cellRises
open Go.ChangeShapes Go.WideShapes Go.ChangeAt Go.RowKit

theorem own : ownKnob Try.prog.godebug = none := by kernel_rfl
theorem cells22 : Try.prog.cellsOf 22 = 1 := by kernel_rfl
set_option linter.unusedVariables false in
set_option maxHeartbeats 4000000 in
set_option maxRecDepth 100000 in
theorem walk (w : World) (a0 : Int) (w0 : (Lit.int .u64 a0).wf = true) (v1 : Value) (l1 : List Int) (h1 : Ints .u64 w v1 l1) :
    Calls Try.prog 4 #[.int .u64 a0, v1] w fun e w' => e = .returned (.bool true) ∧ Below w.heap.size w w' := by
  obtain ⟨n, hn, rfl⟩ := u64_nat w0
  obtain ⟨ao, cap, rfl, hcap⟩ := h1.shape
  have H1 := Lib.hid h1
  have HL1 := Lib.hid h1.fits
  have HNN := Lib.hid hn
  have HAW := Lib.hid (fun W (hW : Below w.heap.size w W) => cawake_any W)
  have HN := Lib.hid (cnew_ex n w)
  clear h1 hn hcap
  go_enter Try.func4, Try.ntmps4
  go_wp2_with (first
    | (go_at_call 6; refine HN.out.mono ?_; rintro e w2 ⟨b, hb, rfl, h2, b2⟩; have HBW := Lib.hid hb; have C2 := Lib.hid h2; have B2 := Lib.hid b2; have HV := Lib.hid (cvalue_any b n 0 w2 h2); clear hb h2 b2)
    | (go_at_call 9; (with_reducible refine HV.out.mono ?_); rintro e wz ⟨rfl, hq⟩; rw [hq]; clear hq wz HV))
  go_loopw [6] (fun i wr => ∃ (k m r : Nat), k ≤ l1.length ∧ r ≤ k ∧ i = .int .i64 (k : Int) ∧ m < 18446744073709551616 ∧ Ce wr b m r ∧ Below w.heap.size w wr) (fun i _ => l1.length - (intOf i).toNat)
  case atStart => exact ⟨0, n, 0, Nat.zero_le _, Nat.zero_le _, rfl, HNN.out, C2.out, B2.out⟩
  case round =>
    clear C2 B2
    obtain ⟨k, m, r, hk, hr, rfl, hm0, ce, bb⟩ := hrel
    have CE := Lib.hid ce
    have BB := Lib.hid bb
    have HM := Lib.hid hm0
    clear ce bb
    by_cases hk2 : k < l1.length
    · obtain ⟨lb, lo, rfl, hc0⟩ := H1.out.at_ k hk2
      have hwq := H1.out.wf k hk2
      have hL := HL1.out
      obtain ⟨q, hq⟩ : ∃ q, q = l1.getD k 0 := ⟨_, rfl⟩
      rw [← hq] at hc0 hwq
      obtain ⟨t, ht2, rfl⟩ := u64_nat hwq
      have HT2 := Lib.hid ht2
      have cl := (BB.out.cell (World.block_lt_of_cell? w _ hc0)).trans hc0
      clear hq hwq hc0 ht2
      by_cases hf : m = 18446744073709551615
      · have hm := hf
        have HE := Lib.hid (craise_full b m r t wr CE.out hm)
        have HV := Lib.hid (cvalue_any b m r wr CE.out)
        have HV2 := Lib.hid (cvalue_any b m r wr CE.out)
        clear hm
        go_wp2_with (first
            | (go_at_call 9; (with_reducible refine HV.out.mono ?_); rintro e wz ⟨rfl, hq⟩; rw [hq]; clear hq wz HV)
            | (go_at_call 7; (with_reducible refine HE.out.mono ?_); rintro e wz ⟨rfl, hq⟩; rw [hq]; clear hq wz HE)
            | (go_at_call 9; (with_reducible refine HV2.out.mono ?_); rintro e wz ⟨rfl, hq⟩; rw [hq]; clear hq wz HV2))
        exact ⟨⟨k + 1, m, r, by omega, by omega, by go_num, HM.out, CE.out, BB.out⟩, by simp [intOf]; omega⟩
      · have hm : m < 18446744073709551615 := by omega
        clear hf
        by_cases ht : t = m + 1
        · have HE := Lib.hid (craise_own t CE.out hm (by have := HL1.out; omega) ht BB.out HBW.out)
          have HV := Lib.hid (cvalue_any b m r wr CE.out)
          have hg1 : ¬ (t : Int) < (m : Int) := by omega
          have hg2 : (m : Int) < (t : Int) := by omega
          have hg3 : IntKind.u64.wrap ((t : Int) - (m : Int)) = 1 := by rw [IntKind.wrap_u64]; omega
          clear hm ht
          go_wp2_with (first
              | (go_at_call 9; (with_reducible refine HV.out.mono ?_); rintro e wz ⟨rfl, hq⟩; rw [hq]; clear hq wz HV)
              | (go_at_call 7; (with_reducible refine HE.out.mono ?_); rintro e w5 ⟨rfl, h5, _, b5⟩; have CE5 := Lib.hid h5; have BB5 := Lib.hid b5; have HV2 := Lib.hid (cvalue_any b t (r + 1) w5 h5); clear h5 b5 HE)
              | (go_at_call 9; (with_reducible refine HV2.out.mono ?_); rintro e wz ⟨rfl, hq⟩; rw [hq]; clear hq wz HV2))
          exact ⟨⟨k + 1, t, (r + 1), by omega, by omega, by go_num, HT2.out, CE5.out, BB5.out⟩, by simp [intOf]; omega⟩
        · have HE := Lib.hid (craise_not b m r t wr CE.out hm ht)
          have HV := Lib.hid (cvalue_any b m r wr CE.out)
          have HV2 := Lib.hid (cvalue_any b m r wr CE.out)
          clear hm ht
          go_wp2_with (first
              | (go_at_call 9; (with_reducible refine HV.out.mono ?_); rintro e wz ⟨rfl, hq⟩; rw [hq]; clear hq wz HV)
              | (go_at_call 7; (with_reducible refine HE.out.mono ?_); rintro e wz ⟨rfl, hq⟩; rw [hq]; clear hq wz HE)
              | (go_at_call 9; (with_reducible refine HV2.out.mono ?_); rintro e wz ⟨rfl, hq⟩; rw [hq]; clear hq wz HV2))
          exact ⟨⟨k + 1, m, r, by omega, by omega, by go_num, HM.out, CE.out, BB.out⟩, by simp [intOf]; omega⟩
    · obtain rfl : k = l1.length := by omega
      go_wp2_with (go_at_call 11; (with_reducible refine (HAW.out _ BB.out).mono ?_); rintro e w10 ⟨rfl, b10⟩; have B10 := Lib.hid (BB.out.on b10); clear b10)
      go_ret
      exact ⟨rfl, B10.out⟩
set_option linter.unusedVariables false in
set_option maxHeartbeats 400000 in
set_option maxRecDepth 100000 in
theorem lifted (os : Os) (started : os.Started) (H : Type) (enc : TypeId × Value → H) :
    ReturnsInHanded {} Try.checked os 4 .any (Rows.cellRisesSpec.pre6 enc Try.prog Try.f4 Rows.cellRisesRow.domain false) (Rows.cellRisesSpec.post enc Try.prog Try.f4 false true false false) := by
  refine returnsInHanded_of_change_sized (C := Try.checked) own started (by kernel_rfl) Try.func4
    (ChangeSpec.witness6 (enc := enc) (C := Try.checked) false ⟨#[], #[.int .u64 0, .slice none 0 0], []⟩ 8 (by kernel_rfl) (by kernel_rfl) (by kernel_rfl) (by kernel_rfl)) ?_
  intro W base args ds gs before hval0 hW _ hsz0 _
  have hsz : (DataW.weightsEach Try.prog (Try.f4.params.toList ++ Rows.cellRisesSpec.plain.varTypes Try.prog) (ds ++ gs)).all (· ≤ reachBytes) = true := hsz0
  clear hsz0
  have hval : ∀ (j : Nat) t v, Try.f4.params[j]? = some t → args[j]? = some v → Value.okWide Try.prog W .any base t v := hval0
  have hW' := hW
  obtain ⟨p, q, hA0, hV, rfl, _, _⟩ := hW
  have hA : DataW.TrodAll enc Try.prog W 0 (fun _ => true) true Try.f4.params.toList args.toList ds p := hA0
  rw [Try.params4] at hA hval hsz
  obtain ⟨v0, vs0, d0, ds0, p0, q0, hargs, rfl, rfl, g0, r0⟩ := trodAll_cons hA
  obtain ⟨v1, vs1, d1, ds1, p1, q1, rfl, rfl, rfl, g1, r1⟩ := trodAll_cons r0
  obtain ⟨rfl, rfl, rfl⟩ := trodAll_nil r1
  obtain rfl : args = #[v0, v1] := by cases args; simp_all
  obtain ⟨rfl, rfl⟩ := trodVars_none hV
  obtain ⟨a0, rfl, rfl, rfl, w0⟩ := open_int Try.underlying22 (hval 0 22 v0 rfl rfl) g0
  obtain ⟨l1, h1⟩ := open_nums Try.underlying23 Try.underlying22 cells22 (hval 1 23 v1 rfl rfl) g1 (fun elems spare e => sized_slice hsz (j := 1) (t := 23) (e := 22) rfl (by rw [← e]; rfl) Try.underlying23) (of_decide_eq_true (by kernel_rfl))
  clear hA0 hval0
  have hlt := hW'.lt
  refine (walk W a0 w0 v1 l1 h1).mono fun e W' ⟨he, hb⟩ => ?_
  subst he
  have hargs : DataW.TrodAll enc Try.prog W' 0 (fun b => decide (b < W.heap.size)) true _ _ _ _ := (trodAll_cons_mk (shut_int Try.underlying22 w0) (trodAll_cons_mk (Below.trod laidOut (by kernel_rfl) (of_decide_eq_true (by kernel_rfl)) g1 hb (fun x hx => hlt x (by simp [hx]))) trodAll_mk0))
  simp only [List.append_nil] at hW' hargs
  exact ⟨_, rfl, post_law hW' (trodAll_cons_mk (shut_bool Try.underlying4 _) trodAll_mk0) hargs rfl hb⟩
theorem over : Rows.cellRisesRow.holds Try.pinned (OpenSpec.ofChange Rows.cellRisesSpec) :=
  OpenClaim.holds_of_wide 4 Try.f4 rfl rfl rfl rfl rfl rfl rfl ⟨rfl, rfl, rfl, rfl, rfl⟩ rfl rfl rfl rfl rfl (by kernel_rfl) Try.func4 (by kernel_rfl)
    (of_decide_eq_true (by kernel_rfl)) (by unfold Func.isWrapper; first | (rw [if_pos (by decide +kernel)]; kernel_rfl) | (rw [if_neg (by decide +kernel)]; exact ⟨rfl, rfl⟩))
    (fun os started H enc _ => lifted os started H enc)

/-- The given statement. -/
theorem proved : Rows.CellRisesSaid := over
end Go.Proofs.Ytglhlhflbomkoaa.cellRises
