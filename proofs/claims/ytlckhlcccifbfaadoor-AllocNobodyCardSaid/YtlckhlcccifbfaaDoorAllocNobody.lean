/- AllocNobody: a set that is not there has nothing and takes nothing, and each call of it tells the error that the document says; and the law's closed case holds. No condition. -/
import Derived.Test.YtlckhlcccifbfaaDoorRows
import Derived.Test.YtlckhlcccifbfaaDoorAlAw
import Derived.Test.YtlckhlcccifbfaaDoorActsA
import Derived.Test.YtlckhlcccifbfaaDoorDoorBits
import Derived.Test.YtlckhlcccifbfaaDoorTie
import Derived.Test.YtlckhlcccifbfaaDoorCards
import Derived.SevenTiedAt
import Derived.WalkKit
import Derived.ProofKit
import Derived.OpenShut
import Derived.SizedLaws
import Derived.Carry
import Derived.Deep.DeepHandedRow
import Derived.Deep.DeepWitnessRowRef
namespace Go.Proofs.YtlckhlcccifbfaaDoor.allocNobody
open Go.ChangeShapes Go.WideShapes Go.ChangeAt Go.RowKit

theorem own : ownKnob Tryd.prog.godebug = none := by kernel_rfl
set_option linter.unusedVariables false in
set_option maxHeartbeats 1000000 in
theorem walk (w : World) (ht : TabD w) (a0 : Int) (w0 : (Lit.int .u32 a0).wf = true) :
    Calls Tryd.prog 5 #[.int .u32 a0] w fun e w' => e = .returned (.bool true) ∧ Below w.heap.size w w' := by
  obtain ⟨n, hn, rfl⟩ := u32_of' w0
  have HT := Lib.hid ht
  clear ht
  go_enter Tryd.func5, Tryd.ntmps5
  go_wp2_with (first
    | (go_at_call 15; refine (atake_nil w).mono ?_; rintro e1 w1 ⟨rfl, hw1⟩; subst w1)
    | (go_at_call 16; refine (amark_nil n w).mono ?_; rintro e1 w1 ⟨rfl, hw1⟩; subst w1)
    | (go_at_call 17; refine (aclear_nil n w).mono ?_; rintro e1 w1 ⟨rfl, hw1⟩; subst w1)
    | (go_at_call 18; refine (ahas_nil n w).mono ?_; rintro e1 w2 ⟨rfl, m, hw2⟩; have B2 := Lib.hid (show Below w.heap.size w w2 by rw [hw2]; exact below_dN (Below.refl _ _) _); clear hw2)
    | (go_at_call 19; refine (aused_nil w2).mono ?_; rintro e1 w1 ⟨rfl, hw1⟩; subst w1)
    | (go_at_call 20; refine (afree_nil w2).mono ?_; rintro e1 w1 ⟨rfl, hw1⟩; subst w1)
    | (go_at_call 21; refine (atotal_nil w2).mono ?_; rintro e1 w1 ⟨rfl, hw1⟩; subst w1)
    | (go_at_call 22; refine (alist_nil w2).mono ?_; rintro e1 w1 ⟨rfl, hw1⟩; subst w1)
    | (go_at_call 14; refine (afork_nil w2).mono ?_; rintro e1 w1 ⟨rfl, hw1⟩; subst w1)
    | (go_at_call 9; refine (aawake_any w2 (HT.out.below B2.out)).mono ?_; rintro e1 w3 ⟨rfl, hb⟩; have B3 := Lib.hid (B2.out.on hb); clear hb))
  go_ret
  exact ⟨rfl, B3.out⟩
set_option maxRecDepth 100000 in
theorem reads (os : Os) {H : Type} (enc : TypeId × Value → H) : ∃ places, DataW.whole enc Tryd.prog ((World.doorLaid Tryd.prog 400 os).forCall (fun _ _ => 0) ⟨#[], #[.int .u32 0], []⟩).memory Tryd.f5.params.toList Rows.allocNobodySpec.vars false (#[.int .u32 0] : Array Value).toList 8 = some ([.lit (.int .u32 0)], [], places) :=
  ⟨[], by kernel_rfl⟩
set_option linter.unusedVariables false in
set_option maxHeartbeats 1000000 in
set_option maxRecDepth 100000 in
theorem lifted (os : Os) (started : os.Started) (H : Type) (enc : TypeId × Value → H) (F : Stop.Interp) :
    ReturnsInHanded {} Tryd.checked os 5 .any ((OpenSpec.ofChange Rows.allocNobodySpec).preRow enc Tryd.prog Tryd.f5 Rows.allocNobodyRow.domain false laidD) (((OpenSpec.ofChange Rows.allocNobodySpec).at F).post enc Tryd.prog Tryd.f5 false true false false) := by
  obtain ⟨places, hx⟩ := reads os enc
  refine returnsInHanded_of_row (C := Tryd.checked) (s := OpenSpec.ofChange Rows.allocNobodySpec) own started (by kernel_rfl) Tryd.func5
    (witness_row_atRef (enc := enc) (C := Tryd.checked) false (World.doorLaid Tryd.prog 400 os) #[.int .u32 0] rfl (by kernel_rfl) (by kernel_rfl) (by kernel_rfl)
      (OpenSpec.preRow_of_cond 8 hx (by kernel_rfl) (fun k hk => by cases hk) (by kernel_rfl) (doorD_met os _))) ?_
  intro W base args ds gs before hval0 hW _ hcond hsz0 hL _ _
  have hsz : (DataW.weightsEach Tryd.prog (Tryd.f5.params.toList ++ Rows.allocNobodySpec.plain.varTypes Tryd.prog) (ds ++ gs)).all (· ≤ reachBytes) = true := hsz0
  clear hsz0
  have hval : ∀ (j : Nat) t v, Tryd.f5.params[j]? = some t → args[j]? = some v → Value.okWide Tryd.prog W .any base t v := hval0
  have hW' := hW
  obtain ⟨p, q, hA0, hV, rfl, _, _⟩ := hW
  have hA : DataW.TrodAll enc Tryd.prog W 0 (fun _ => true) true Tryd.f5.params.toList args.toList ds p := hA0
  rw [Tryd.params5] at hA hval hsz
  obtain ⟨v0, vs0, d0, ds0, p0, q0, hargs, rfl, rfl, g0, r0⟩ := trodAll_cons hA
  obtain ⟨rfl, rfl, rfl⟩ := trodAll_nil r0
  obtain rfl : args = #[v0] := by cases args; simp_all
  obtain ⟨rfl, rfl⟩ := trodVars_none hV
  obtain ⟨a0, rfl, rfl, rfl, w0⟩ := open_int Tryd.underlying31 (hval 0 31 v0 rfl rfl) g0
  clear hA0 hval0
  have hlt := hW'.lt
  refine (walk W (tabD_of_laid hL) a0 w0).mono fun e W' ⟨he, hb⟩ => ?_
  subst he
  have hargs : DataW.TrodAll enc Tryd.prog W' 0 (fun b => decide (b < W.heap.size)) true _ _ _ _ := (trodAll_cons_mk (shut_int Tryd.underlying31 w0) trodAll_mk0)
  simp only [List.append_nil] at hW' hargs
  exact ⟨_, rfl, post_law hW' (trodAll_cons_mk (shut_bool Tryd.underlying4 _) trodAll_mk0) hargs rfl hb⟩
theorem over : Rows.allocNobodyRow.holds Tryd.pinned (OpenSpec.ofChange Rows.allocNobodySpec) :=
  OpenClaim.holds_of_cond 5 Tryd.f5 rfl rfl rfl rfl rfl rfl rfl ⟨rfl, rfl, rfl, rfl, rfl⟩ rfl rfl rfl rfl rfl (by kernel_rfl) Tryd.func5 (by kernel_rfl)
    (of_decide_eq_true (by kernel_rfl)) (by unfold Func.isWrapper; first | (rw [if_pos (by decide +kernel)]; kernel_rfl) | (rw [if_neg (by decide +kernel)]; exact ⟨rfl, rfl⟩))
    (fun os started H enc _ F => by rw [OpenClaim.pre_eq_preRow]; exact lifted os started H enc F)

/-- The given statement. -/
theorem proved : Rows.AllocNobodyCardSaid :=
  Claim7.holds_tied_plain_at .later [] _ _ _ _
    over (fun _ h => by cases h) (by kernel_rfl) (fun _ h => by cases h) allocNobody_row_tie rfl ⟨rfl, rfl⟩ (by kernel_rfl) rfl
    (fun f fn hf hfn => by
      obtain rfl : f = 5 := Option.some.inj ((show Tryd.prog.funcNamed "reliquary/reliquarylaw17.AllocNobody" = some 5 by kernel_rfl).symm.trans hf) |>.symm
      obtain rfl : fn = Tryd.f5 := (Option.some.inj (Tryd.func5.symm.trans hfn)).symm
      exact ⟨by kernel_rfl, fun j t ht => by
        rw [Tryd.params5] at ht
        have hm : t ∈ [31] := by simpa using Array.mem_of_getElem? ht
        have hall : ([31].all fun u => !Tryd.prog.wantsStandIn u) = true := by kernel_rfl
        exact (show Tryd.prog.wantsStandIn t = false by simpa using List.all_eq_true.1 hall t hm)⟩)
    (by kernel_rfl)
end Go.Proofs.YtlckhlcccifbfaaDoor.allocNobody
