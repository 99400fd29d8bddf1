/- HmacEquals: for any bytes a and b: they are told to be the same just if they are, and a copy is the same; and the law's closed case holds. No condition but that the program's table holds its constants when the call begins. -/
import Derived.Test.YtllhljhbnopafaaDoorRows
import Derived.Test.YtllhljhbnopafaaDoorHmacAwake
import Derived.Test.YtllhljhbnopafaaDoorText
import Derived.Test.YtllhljhbnopafaaDoorDoorP
import Derived.Test.YtllhljhbnopafaaDoorTie
import Derived.Test.YtllhljhbnopafaaDoorCards
import Derived.SevenTiedAt
import Derived.Test.YtllhljhbnopafaaDoorArgs
import Derived.WalkKit
import Derived.ProofKit
import Derived.OpenShut
import Derived.SizedLaws
import Derived.Carry
import Derived.Deep.DeepHandedRow
import Derived.Deep.DeepWitnessRowRef
namespace Go.Proofs.YtllhljhbnopafaaDoor.hmacEquals
open Go.ChangeShapes Go.WideShapes Go.ChangeAt Go.RowKit

theorem own : ownKnob Tryd.prog.godebug = none := by kernel_rfl
set_option linter.unusedVariables false in
set_option maxHeartbeats 2000000 in
set_option maxRecDepth 100000 in
theorem walk (w : World) (ht : TabP w) (v0 : Value) (l0 : List Nat) (h0 : Rd w v0 l0) (v1 : Value) (l1 : List Nat) (h1 : Rd w v1 l1) :
    Calls Tryd.prog 5 #[v0, v1] w fun e w' => e = .returned (.bool true) ∧ Below w.heap.size w w' := by
  obtain ⟨a0, c0, rfl, _⟩ := h0.shape
  obtain ⟨a1, c1, rfl, _⟩ := h1.shape
  have q0 := h0.fits
  have HBI := Lib.hid (bstr_iff h0.byte h1.byte)
  have HV0 := Lib.hid h0
  have HV1 := Lib.hid h1
  have HT := Lib.hid ht
  clear h0 h1 ht
  go_enter Tryd.func5, Tryd.ntmps5
  go_upto_region 1 with (fail)
  refine wp_region_g (by kernel_rfl) 20 (by decide) (by kernel_rfl) (by kernel_rfl) (by kernel_rfl) (w.heap.size) (Nat.le_refl _) [.val (.slice a0 l0.length c0), .val (.slice a1 l1.length c1), .val (.bool (decide (l0 = l1))), .val (.slice a0 l0.length c0), .val (.string (bstr l0)), .val (.slice a1 l1.length c1), .val (.string (bstr l1)), .val (.bool (decide (l0 = l1))), .val (.bool true), .val (.bool true), .val (.slice a0 l0.length c0), .own ([]), .val (.slice a0 l0.length c0), .rd ([] ++ l0), .val (.bool true), .val (.bool true), .val (.bool true), .val (.bool true), .val (.bool true), .val (.bool true)] (fun j => if j = 11 then 13 else 20) ?_ ?_
  · refine ⟨?_, ?_, ?_, ?_, ?_, ?_, ?_, ?_, ?_, ?_, ?_, ?_, ?_, ?_, ?_, ?_, ?_, ?_, ?_, ?_, trivial⟩
    · intro a w' hF hB hd
      have e0 : a.eval (.tmp 0) = .slice a0 l0.length c0 := hF 0 (by decide +kernel)
      exact doesG_val rfl (ex_move rfl e0) rfl rfl
    · intro a w' hF hB hd
      have e1 : a.eval (.tmp 1) = .slice a1 l1.length c1 := hF 1 (by decide +kernel)
      exact doesG_val rfl (ex_move rfl e1) rfl rfl
    · intro a w' hF hB hd
      have e5 : a.eval (.tmp 5) = .slice a0 l0.length c0 := hd 0 (by decide +kernel) (.inr (by decide))
      have e6 : a.eval (.tmp 6) = .slice a1 l1.length c1 := hd 1 (by decide +kernel) (.inr (by decide))
      exact doesG_call rfl (ex_call (vs := #[.slice a0 l0.length c0, .slice a1 l1.length c1]) rfl (by simp only [List.map_toArray, List.map_cons, List.map_nil, e5, e6]) (by go_simp)) rfl ((equal_any l0 l1 _ _ w' (HV0.out.below hB) (HV1.out.below hB)).mono fun e w2 hh => ⟨_, hh.1, rfl, hh.2⟩)
    · intro a w' hF hB hd
      have e0 : a.eval (.tmp 0) = .slice a0 l0.length c0 := hF 0 (by decide +kernel)
      exact doesG_val rfl (ex_move rfl e0) rfl rfl
    · intro a w' hF hB hd
      have e8 : a.eval (.tmp 8) = .slice a0 l0.length c0 := hd 3 (by decide +kernel) (.inr (by decide))
      exact doesG_val rfl (ex_convert rfl e8 ((HV0.out.below hB).str)) rfl rfl
    · intro a w' hF hB hd
      have e1 : a.eval (.tmp 1) = .slice a1 l1.length c1 := hF 1 (by decide +kernel)
      exact doesG_val rfl (ex_move rfl e1) rfl rfl
    · intro a w' hF hB hd
      have e10 : a.eval (.tmp 10) = .slice a1 l1.length c1 := hd 5 (by decide +kernel) (.inr (by decide))
      exact doesG_val rfl (ex_convert rfl e10 ((HV1.out.below hB).str)) rfl rfl
    · intro a w' hF hB hd
      have e9 : a.eval (.tmp 9) = .string (bstr l0) := hd 4 (by decide +kernel) (.inr (by decide))
      have e11 : a.eval (.tmp 11) = .string (bstr l1) := hd 6 (by decide +kernel) (.inr (by decide))
      exact doesG_val rfl (ex_binOp rfl e9 e11 (by go_simp) (by rw [run_eql_str]; simp only [HBI.out])) rfl rfl
    · intro a w' hF hB hd
      have e7 : a.eval (.tmp 7) = .bool (decide (l0 = l1)) := hd 2 (by decide +kernel) (.inr (by decide))
      have e12 : a.eval (.tmp 12) = .bool (decide (l0 = l1)) := hd 7 (by decide +kernel) (.inr (by decide))
      exact doesG_val rfl (ex_binOp rfl e7 e12 (by go_simp) (by rw [run_eql_bool]; simp)) rfl rfl
    · intro a w' hF hB hd
      have e13 : a.eval (.tmp 13) = .bool true := hd 8 (by decide +kernel) (.inr (by decide))
      exact doesG_val rfl (ex_move rfl e13) rfl rfl
    · intro a w' hF hB hd
      have e14 : a.eval (.tmp 14) = .bool true := hd 9 (by decide +kernel) (.inr (by decide))
      have e0 : a.eval (.tmp 0) = .slice a0 l0.length c0 := hF 0 (by decide +kernel)
      exact doesG_val (wanted_of rfl (yielded_of rfl e14)) (ex_move rfl e0) rfl rfl
    · intro a w' hF hB hd
      have e14 : a.eval (.tmp 14) = .bool true := hd 9 (by decide +kernel) (.inr (by decide))
      exact doesG_empty (wanted_of rfl (yielded_of rfl e14)) rfl hB.size (fun _ _ h => h)
    · intro a w' hF hB hd
      have e14 : a.eval (.tmp 14) = .bool true := hd 9 (by decide +kernel) (.inr (by decide))
      have e0 : a.eval (.tmp 0) = .slice a0 l0.length c0 := hF 0 (by decide +kernel)
      exact doesG_val (wanted_of rfl (yielded_of rfl e14)) (ex_move rfl e0) rfl rfl
    · intro a w' hF hB hd
      have e14 : a.eval (.tmp 14) = .bool true := hd 9 (by decide +kernel) (.inr (by decide))
      have e16 : Own w' w.heap.size (a.eval (.tmp 16)) ([]) := hd 11 (by decide +kernel) (.inl (by decide))
      have e17 : a.eval (.tmp 17) = .slice a0 l0.length c0 := hd 12 (by decide +kernel) (.inr (by decide))
      exact doesG_app (wanted_of rfl (yielded_of rfl e14)) (.tmp 16) (.tmp 17) rfl 11 (by decide +kernel) rfl rfl _ _ _ _ rfl rfl e17 e16 (HV0.out.below hB) (by simp; omega) hB.size (fun _ _ h => h.rd)
    · intro a w' hF hB hd
      have e14 : a.eval (.tmp 14) = .bool true := hd 9 (by decide +kernel) (.inr (by decide))
      have e15 : a.eval (.tmp 15) = .slice a0 l0.length c0 := hd 10 (by decide +kernel) (.inr (by decide))
      have e18 : Rd w' (a.eval (.tmp 18)) ([] ++ l0) := hd 13 (by decide +kernel) (.inr (by decide))
      exact doesG_call (wanted_of rfl (yielded_of rfl e14)) (ex_call (vs := #[.slice a0 l0.length c0, a.eval (.tmp 18)]) rfl (by simp only [List.map_toArray, List.map_cons, List.map_nil, e15]) (by go_simp)) rfl ((equal_any l0 ([] ++ l0) _ _ w' (HV0.out.below hB) e18).mono fun e w2 hh => ⟨_, hh.1, by simp; rfl, hh.2⟩)
    · intro a w' hF hB hd
      have e14 : a.eval (.tmp 14) = .bool true := hd 9 (by decide +kernel) (.inr (by decide))
      have e19 : a.eval (.tmp 19) = .bool true := hd 14 (by decide +kernel) (.inr (by decide))
      exact doesG_val rfl (ex_pick rfl e14 (by simp [e19])) rfl rfl
    · intro a w' hF hB hd
      have e20 : a.eval (.tmp 20) = .bool true := hd 15 (by decide +kernel) (.inr (by decide))
      exact doesG_val rfl (ex_move rfl e20) rfl rfl
    · intro a w' hF hB hd
      have e21 : a.eval (.tmp 21) = .bool true := hd 16 (by decide +kernel) (.inr (by decide))
      exact doesG_call (wanted_of rfl (yielded_of rfl e21)) (ex_call (vs := #[]) rfl (by simp) (by go_simp)) rfl ((hawake_any w' (HT.out.below hB)).mono fun e w2 hh => ⟨_, hh.1, rfl, hh.2⟩)
    · intro a w' hF hB hd
      have e21 : a.eval (.tmp 21) = .bool true := hd 16 (by decide +kernel) (.inr (by decide))
      have e22 : a.eval (.tmp 22) = .bool true := hd 17 (by decide +kernel) (.inr (by decide))
      exact doesG_val rfl (ex_pick rfl e21 (by simp [e22])) rfl rfl
    · intro a w' hF hB hd
      have e23 : a.eval (.tmp 23) = .bool true := hd 18 (by decide +kernel) (.inr (by decide))
      exact doesG_val rfl (ex_assign rfl e23) rfl rfl
  · intro vs w2 hb hv hap
    have e2 : vs 19 = .bool true := hv 19 (by decide) (by decide)
    simp only [List.take_succ_cons, List.take_zero, List.drop_succ_cons, List.drop_zero, putOps, Act.put, List.setIfInBounds_toArray, List.set_cons_zero, List.set_cons_succ, e2]
    have HB := Lib.hid hb
    clear hv hap e2 hb
    go_wp2_with fail
    go_ret
    exact ⟨rfl, HB.out⟩
set_option maxRecDepth 100000 in
theorem reads (os : Os) {H : Type} (enc : TypeId × Value → H) : ∃ places, DataW.whole enc Tryd.prog ((World.doorLaid Tryd.prog 400 os).forCall (fun _ _ => 0) ⟨#[], #[.slice none 0 0, .slice none 0 0], []⟩).memory Tryd.f5.params.toList Rows.hmacEqualsSpec.vars false (#[.slice none 0 0, .slice none 0 0] : Array Value).toList 8 = some ([.nil, .nil], [], places) :=
  ⟨[], by kernel_rfl⟩
set_option linter.unusedVariables false in
set_option maxHeartbeats 1000000 in
set_option maxRecDepth 100000 in
theorem lifted (os : Os) (started : os.Started) (H : Type) (enc : TypeId × Value → H) (F : Stop.Interp) :
    ReturnsInHanded {} Tryd.checked os 5 .any ((OpenSpec.ofChange Rows.hmacEqualsSpec).preRow enc Tryd.prog Tryd.f5 Rows.hmacEqualsRow.domain false laidP) (((OpenSpec.ofChange Rows.hmacEqualsSpec).at F).post enc Tryd.prog Tryd.f5 false true false false) := by
  obtain ⟨places, hx⟩ := reads os enc
  refine returnsInHanded_of_row (C := Tryd.checked) (s := OpenSpec.ofChange Rows.hmacEqualsSpec) own started (by kernel_rfl) Tryd.func5
    (witness_row_atRef (enc := enc) (C := Tryd.checked) false (World.doorLaid Tryd.prog 400 os) #[.slice none 0 0, .slice none 0 0] rfl (by kernel_rfl) (by kernel_rfl) (by kernel_rfl)
      (OpenSpec.preRow_of_cond 8 hx (by kernel_rfl) (fun k hk => by cases hk) (by kernel_rfl) (doorP_met os _))) ?_
  intro W base args ds gs before hval0 hW _ hcond hsz0 hL _ _
  have hsz : (DataW.weightsEach Tryd.prog (Tryd.f5.params.toList ++ Rows.hmacEqualsSpec.plain.varTypes Tryd.prog) (ds ++ gs)).all (· ≤ reachBytes) = true := hsz0
  clear hsz0
  have hval : ∀ (j : Nat) t v, Tryd.f5.params[j]? = some t → args[j]? = some v → Value.okWide Tryd.prog W .any base t v := hval0
  have hW' := hW
  obtain ⟨p, q, hA0, hV, rfl, _, _⟩ := hW
  have hA : DataW.TrodAll enc Tryd.prog W 0 (fun _ => true) true Tryd.f5.params.toList args.toList ds p := hA0
  rw [Tryd.params5] at hA hval hsz
  obtain ⟨v0, vs0, d0, ds0, p0, q0, hargs, rfl, rfl, g0, r0⟩ := trodAll_cons hA
  obtain ⟨v1, vs1, d1, ds1, p1, q1, rfl, rfl, rfl, g1, r1⟩ := trodAll_cons r0
  obtain ⟨rfl, rfl, rfl⟩ := trodAll_nil r1
  obtain rfl : args = #[v0, v1] := by cases args; simp_all
  obtain ⟨rfl, rfl⟩ := trodVars_none hV
  obtain ⟨l0, h0⟩ := open_bytes (hval 0 22 v0 rfl rfl) g0 (fun elems spare e => sized_slice hsz (j := 0) (t := 22) (e := 5) rfl (by rw [← e]; rfl) Tryd.underlying22)
  obtain ⟨l1, h1⟩ := open_bytes (hval 1 22 v1 rfl rfl) g1 (fun elems spare e => sized_slice hsz (j := 1) (t := 22) (e := 5) rfl (by rw [← e]; rfl) Tryd.underlying22)
  clear hA0 hval0
  have hlt := hW'.lt
  refine (walk W (tabP_of_laid hL) v0 l0 h0 v1 l1 h1).mono fun e W' ⟨he, hb⟩ => ?_
  subst he
  have hargs : DataW.TrodAll enc Tryd.prog W' 0 (fun b => decide (b < W.heap.size)) true _ _ _ _ := (trodAll_cons_mk (Below.trod laidOut (by kernel_rfl) (of_decide_eq_true (by kernel_rfl)) g0 hb (fun x hx => hlt x (by simp [hx]))) (trodAll_cons_mk (Below.trod laidOut (by kernel_rfl) (of_decide_eq_true (by kernel_rfl)) g1 hb (fun x hx => hlt x (by simp [hx]))) trodAll_mk0))
  simp only [List.append_nil] at hW' hargs
  exact ⟨_, rfl, post_law hW' (trodAll_cons_mk (shut_bool Tryd.underlying4 _) trodAll_mk0) hargs rfl hb⟩

theorem over : Rows.hmacEqualsRow.holds Tryd.pinned (OpenSpec.ofChange Rows.hmacEqualsSpec) :=
  OpenClaim.holds_of_cond 5 Tryd.f5 rfl rfl rfl rfl rfl rfl rfl ⟨rfl, rfl, rfl, rfl, rfl⟩ rfl rfl rfl rfl rfl (by kernel_rfl) Tryd.func5 (by kernel_rfl)
    (of_decide_eq_true (by kernel_rfl)) (by unfold Func.isWrapper; first | (rw [if_pos (by decide +kernel)]; kernel_rfl) | (rw [if_neg (by decide +kernel)]; exact ⟨rfl, rfl⟩))
    (fun os started H enc _ F => by rw [OpenClaim.pre_eq_preRow]; exact lifted os started H enc F)

/-- The given statement. -/
theorem proved : Rows.HmacEqualsCardSaid :=
  Claim7.holds_tied_plain_at .later [] _ _ _ _
    over (fun _ h => by cases h) (by kernel_rfl) (fun _ h => by cases h) hmacEquals_row_tie rfl ⟨rfl, rfl⟩ (by kernel_rfl) rfl
    (fun f fn hf hfn => by
      obtain rfl : f = 5 := Option.some.inj ((show Tryd.prog.funcNamed "reliquary/reliquarylaw04.HmacEquals" = some 5 by kernel_rfl).symm.trans hf) |>.symm
      obtain rfl : fn = Tryd.f5 := (Option.some.inj (Tryd.func5.symm.trans hfn)).symm
      exact ⟨by kernel_rfl, fun j t ht => by
        rw [Tryd.params5] at ht
        have hm : t ∈ [22, 22] := by simpa using Array.mem_of_getElem? ht
        have hall : ([22, 22].all fun u => !Tryd.prog.wantsStandIn u) = true := by kernel_rfl
        exact (show Tryd.prog.wantsStandIn t = false by simpa using List.all_eq_true.1 hall t hm)⟩)
    (by kernel_rfl)
end Go.Proofs.YtllhljhbnopafaaDoor.hmacEquals
