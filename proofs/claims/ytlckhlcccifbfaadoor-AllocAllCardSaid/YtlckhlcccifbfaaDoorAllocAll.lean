/- AllocAll: of as many clusters as there are each one is taken once, rising, and then none, and all are used; and the law's closed case holds. No condition. -/
import Derived.Test.YtlckhlcccifbfaaDoorRows
import Derived.Test.YtlckhlcccifbfaaDoorAlAw
import Derived.Test.YtlckhlcccifbfaaDoorU16
import Derived.Test.YtlckhlcccifbfaaDoorDoorBits
import Derived.Test.YtlckhlcccifbfaaDoorTie
import Derived.Test.YtlckhlcccifbfaaDoorCards
import Derived.SevenTiedAt
import Derived.WalkKit
import Derived.ProofKit
import Derived.OpenShut
import Derived.SizedLaws
import Derived.Carry
import Derived.Deep.DeepHandedRow
import Derived.Deep.DeepWitnessRowRef
namespace Go.Proofs.YtlckhlcccifbfaaDoor.allocAll
open Go.ChangeShapes Go.WideShapes Go.ChangeAt Go.RowKit

theorem own : ownKnob Tryd.prog.godebug = none := by kernel_rfl
set_option linter.unusedVariables false in
set_option maxHeartbeats 2000000 in
theorem walk (w : World) (ht : TabD w) (a0 : Int) (w0 : (Lit.int .u16 a0).wf = true) :
    Calls Tryd.prog 7 #[.int .u16 a0] w fun e w' => e = .returned (.bool true) ∧ Below w.heap.size w w' := by
  obtain ⟨t, ht16, rfl⟩ := u16_nat w0
  have HT := Lib.hid ht
  obtain ⟨N, hN⟩ : ∃ N, N = t % 3000 := ⟨_, rfl⟩
  have hN2 : N < 3000 := by omega
  have hNI : (t : Int) % 3000 = (N : Int) := by omega
  have hNI2 : (t : Int).tmod 3000 = (N : Int) := by rw [Int.tmod_eq_emod_of_nonneg (by omega)]; exact hNI
  have em : most (N : Int) = N := by unfold most; omega
  have HN := Lib.hid (anew_any (N : Int) w)
  rw [em] at HN
  clear ht em hN
  go_enter Tryd.func7, Tryd.ntmps7
  go_upto_region 3 with (go_at_call 10; refine HN.out.mono ?_; rintro e1 w1 ⟨b, g, rfl, qb, qg, s1, b1⟩; have QG := Lib.hid qg; have B1 := Lib.hid b1; have S1 := Lib.hid s1; clear s1 b1 qb qg)
  clear hNI hNI2
  go_wp2_with fail
  go_loopw [5] (fun x wr => ∃ (i : Nat) (u : Nat → Bool), i ≤ N ∧ x = .int .i64 (i : Int) ∧ Sets wr b g N u ∧ (∀ j, j < i → u j = true) ∧ (∀ j, i ≤ j → u j = false) ∧ Below w.heap.size w wr) (fun x _ => N - (intOf x).toNat)
  case atStart => exact ⟨0, _, Nat.zero_le _, rfl, S1.out, fun j hj => absurd hj (by omega), fun _ _ => rfl, B1.out⟩
  case round =>
    obtain ⟨i, u, hi, hx, ss, hf, hz, bw⟩ := hrel
    subst hx
    have LW := Lib.hid (show AL.Low u i from ⟨hz i (Nat.le_refl _), hf⟩)
    have SS := Lib.hid ss
    have BW := Lib.hid bw
    have HF := Lib.hid hf
    have HZ := Lib.hid hz
    clear ss bw hf hz S1 B1 HN
    by_cases hlt : i < N
    · have hn : ((tnum N i : Nat) : Int) = (i : Int) := by unfold tnum; rw [if_pos hlt]
      have he : ((terr N i : Nat) : Int) = 0 := by unfold terr; rw [if_pos hlt]; rfl
      have HK := Lib.hid (take_at b g N i u wr SS.out (HT.out.below BW.out) LW.out _ _ hn he)
      have hlI : (i : Int) < (N : Int) := by omega
      clear hn he
      go_wp2_with (go_at_call 15; refine HK.out.mono ?_; rintro e2 w2 ⟨rfl, s2, g2⟩; have S2 := Lib.hid s2; have B2 := Lib.hid (below_then BW.out g2 QG.out); clear s2 g2)
      refine ⟨⟨i + 1, _, by omega, by go_num, S2.out, fun j hj => ?_, fun j hj => ?_, B2.out⟩, by simp [intOf]; omega⟩
      · unfold AL.mark
        by_cases q : j = i
        · subst q; simp [hlt]
        · rw [HF.out j (by omega)]; rfl
      · unfold AL.mark
        have q : ¬ j = i := by omega
        rw [HZ.out j (by omega)]; simp [q]
    · obtain rfl : i = N := by omega
      have hn : ((tnum i i : Nat) : Int) = 0 := by unfold tnum; rw [if_neg hlt]; rfl
      have he : ((terr i i : Nat) : Int) = 21 := by unfold terr; rw [if_neg hlt]; rfl
      have HK := Lib.hid (take_at b g i i u wr SS.out (HT.out.below BW.out) LW.out _ _ hn he)
      rw [AL.mark_same i u i (.inl (Nat.le_refl _))] at HK
      have hll : (AL.lst i u).length = i := by rw [AL.full_lst i u HF.out, List.length_range]
      have HLL := Lib.hid hll
      have hlI : ¬ (i : Int) < (i : Int) := by omega
      clear hn he hll
      go_wp2_with (first
        | (go_at_call 15; refine HK.out.mono ?_; rintro e2 w2 ⟨rfl, s2, g2⟩; have S2 := Lib.hid s2; have B2 := Lib.hid (below_then BW.out g2 QG.out); clear s2 g2)
        | (go_at_call 19; refine (used_at b g i u w2 S2.out (i : Int) (by rw [HLL.out])).mono ?_; rintro e1 w3 ⟨rfl, hw1⟩; subst w3)
        | (go_at_call 20; refine (free_at b g i u w2 S2.out 0 (by rw [HLL.out]; simp)).mono ?_; rintro e1 w3 ⟨rfl, hw1⟩; subst w3)
        | (go_at_call 9; refine (aawake_any w2 (HT.out.below B2.out)).mono ?_; rintro e1 w3 ⟨rfl, hb⟩; have B3 := Lib.hid (B2.out.on hb); clear hb))
      go_ret
      exact ⟨rfl, B3.out⟩
set_option maxRecDepth 100000 in
theorem reads (os : Os) {H : Type} (enc : TypeId × Value → H) : ∃ places, DataW.whole enc Tryd.prog ((World.doorLaid Tryd.prog 400 os).forCall (fun _ _ => 0) ⟨#[], #[.int .u16 0], []⟩).memory Tryd.f7.params.toList Rows.allocAllSpec.vars false (#[.int .u16 0] : Array Value).toList 8 = some ([.lit (.int .u16 0)], [], places) :=
  ⟨[], by kernel_rfl⟩
set_option linter.unusedVariables false in
set_option maxHeartbeats 1000000 in
set_option maxRecDepth 100000 in
theorem lifted (os : Os) (started : os.Started) (H : Type) (enc : TypeId × Value → H) (F : Stop.Interp) :
    ReturnsInHanded {} Tryd.checked os 7 .any ((OpenSpec.ofChange Rows.allocAllSpec).preRow enc Tryd.prog Tryd.f7 Rows.allocAllRow.domain false laidD) (((OpenSpec.ofChange Rows.allocAllSpec).at F).post enc Tryd.prog Tryd.f7 false true false false) := by
  obtain ⟨places, hx⟩ := reads os enc
  refine returnsInHanded_of_row (C := Tryd.checked) (s := OpenSpec.ofChange Rows.allocAllSpec) own started (by kernel_rfl) Tryd.func7
    (witness_row_atRef (enc := enc) (C := Tryd.checked) false (World.doorLaid Tryd.prog 400 os) #[.int .u16 0] rfl (by kernel_rfl) (by kernel_rfl) (by kernel_rfl)
      (OpenSpec.preRow_of_cond 8 hx (by kernel_rfl) (fun k hk => by cases hk) (by kernel_rfl) (doorD_met os _))) ?_
  intro W base args ds gs before hval0 hW _ hcond hsz0 hL _ _
  have hsz : (DataW.weightsEach Tryd.prog (Tryd.f7.params.toList ++ Rows.allocAllSpec.plain.varTypes Tryd.prog) (ds ++ gs)).all (· ≤ reachBytes) = true := hsz0
  clear hsz0
  have hval : ∀ (j : Nat) t v, Tryd.f7.params[j]? = some t → args[j]? = some v → Value.okWide Tryd.prog W .any base t v := hval0
  have hW' := hW
  obtain ⟨p, q, hA0, hV, rfl, _, _⟩ := hW
  have hA : DataW.TrodAll enc Tryd.prog W 0 (fun _ => true) true Tryd.f7.params.toList args.toList ds p := hA0
  rw [Tryd.params7] at hA hval hsz
  obtain ⟨v0, vs0, d0, ds0, p0, q0, hargs, rfl, rfl, g0, r0⟩ := trodAll_cons hA
  obtain ⟨rfl, rfl, rfl⟩ := trodAll_nil r0
  obtain rfl : args = #[v0] := by cases args; simp_all
  obtain ⟨rfl, rfl⟩ := trodVars_none hV
  obtain ⟨a0, rfl, rfl, rfl, w0⟩ := open_int Tryd.underlying37 (hval 0 37 v0 rfl rfl) g0
  clear hA0 hval0
  have hlt := hW'.lt
  refine (walk W (tabD_of_laid hL) a0 w0).mono fun e W' ⟨he, hb⟩ => ?_
  subst he
  have hargs : DataW.TrodAll enc Tryd.prog W' 0 (fun b => decide (b < W.heap.size)) true _ _ _ _ := (trodAll_cons_mk (shut_int Tryd.underlying37 w0) trodAll_mk0)
  simp only [List.append_nil] at hW' hargs
  exact ⟨_, rfl, post_law hW' (trodAll_cons_mk (shut_bool Tryd.underlying4 _) trodAll_mk0) hargs rfl hb⟩
theorem over : Rows.allocAllRow.holds Tryd.pinned (OpenSpec.ofChange Rows.allocAllSpec) :=
  OpenClaim.holds_of_cond 7 Tryd.f7 rfl rfl rfl rfl rfl rfl rfl ⟨rfl, rfl, rfl, rfl, rfl⟩ rfl rfl rfl rfl rfl (by kernel_rfl) Tryd.func7 (by kernel_rfl)
    (of_decide_eq_true (by kernel_rfl)) (by unfold Func.isWrapper; first | (rw [if_pos (by decide +kernel)]; kernel_rfl) | (rw [if_neg (by decide +kernel)]; exact ⟨rfl, rfl⟩))
    (fun os started H enc _ F => by rw [OpenClaim.pre_eq_preRow]; exact lifted os started H enc F)

/-- The given statement. -/
theorem proved : Rows.AllocAllCardSaid :=
  Claim7.holds_tied_plain_at .later [] _ _ _ _
    over (fun _ h => by cases h) (by kernel_rfl) (fun _ h => by cases h) allocAll_row_tie rfl ⟨rfl, rfl⟩ (by kernel_rfl) rfl
    (fun f fn hf hfn => by
      obtain rfl : f = 7 := Option.some.inj ((show Tryd.prog.funcNamed "reliquary/reliquarylaw17.AllocAll" = some 7 by kernel_rfl).symm.trans hf) |>.symm
      obtain rfl : fn = Tryd.f7 := (Option.some.inj (Tryd.func7.symm.trans hfn)).symm
      exact ⟨by kernel_rfl, fun j t ht => by
        rw [Tryd.params7] at ht
        have hm : t ∈ [37] := by simpa using Array.mem_of_getElem? ht
        have hall : ([37].all fun u => !Tryd.prog.wantsStandIn u) = true := by kernel_rfl
        exact (show Tryd.prog.wantsStandIn t = false by simpa using List.all_eq_true.1 hall t hm)⟩)
    (by kernel_rfl)
end Go.Proofs.YtlckhlcccifbfaaDoor.allocAll
