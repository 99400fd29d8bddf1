/- ShaOfs: the sum of any parts together is the one that the document says, and the parts stay as they are; and the law's closed case holds. The second form: what comes in is of bulk at most 1048576; the document's table and the program's hold their constants when the call begins. -/
import Derived.Test.YtaephclooajabaaDoorRows
import Derived.Test.YtaephclooajabaaDoorShaJoin
import Derived.Test.YtaephclooajabaaDoorFactsP
import Derived.Test.YtaephclooajabaaDoorDoorB
import Derived.Test.YtaephclooajabaaDoorTie
import Derived.Test.YtaephclooajabaaDoorCards
import Derived.SevenTiedAt
import Derived.Test.YtaephclooajabaaDoorBulk
import Derived.WalkKit
import Derived.ProofKit
import Derived.OpenShut
import Derived.SizedLaws
import Derived.Carry
import Derived.Deep.DeepHandedRow
import Derived.Deep.DeepWitnessRowRef
namespace Go.Proofs.YtaephclooajabaaDoor.shaOfsUpto
open Go.ChangeShapes Go.WideShapes Go.ChangeAt Go.RowKit

theorem own : ownKnob Tryd.prog.godebug = none := by kernel_rfl
set_option linter.unusedVariables false in
set_option maxHeartbeats 2000000 in
set_option maxRecDepth 100000 in
theorem walk (w : World) (ht : Tab w ∧ TabP w) (v0 : Value) (l0 : List (List Nat)) (h0 : Rds w v0 l0) (k0 : l0.flatten.length ≤ 1048576) :
    Calls Tryd.prog 3 #[v0] w fun e w' => e = .returned (.bool true) ∧ Below w.heap.size w w' := by
  obtain ⟨ao, cap, rfl, _⟩ := h0.shape
  obtain ⟨L, hL⟩ : ∃ L, L = l0.flatten := ⟨_, rfl⟩
  obtain ⟨S, hS⟩ : ∃ S, S = SM.sha L := ⟨_, rfl⟩
  have bS : Bytes 32 S := by rw [hS]; exact sha_bytes _
  have heq := fun w => run_eql_sum bS bS w
  simp only [decide_true] at heq
  have HJ0 := Lib.hid (fun W (hW : Below w.heap.size w W) => joined_any l0 k0 _ W (h0.below hW))
  rw [← hL] at k0 HJ0
  have HOF0 := Lib.hid (fun W (hW : Below w.heap.size w W) => of_any l0 (by rw [← hL]; omega) _ W (h0.below hW) (ht.2.below hW))
  rw [← hL, ← hS] at HOF0
  have HTT := Lib.hid ht.1
  have HT0 := Lib.hid ht.2
  clear h0 ht hL
  have HSS := Lib.hid hS
  clear hS bS
  go_enter Tryd.func3, Tryd.ntmps3
  go_upto_region 2 with (go_at_call 10; refine (HJ0.out _ (Below.refl _ _)).mono ?_; rintro e w1 ⟨b, rfl, o1, b1⟩; obtain ⟨ab, cb, rfl, _⟩ := o1.rd.shape; have B1 := Lib.hid b1; have HB := Lib.hid o1.rd; clear o1 b1)
  have HT := Lib.hid (HT0.out.below B1.out)
  have HJ := Lib.hid (fun W (hW : Below w1.heap.size w1 W) => HJ0.out W (B1.out.on hW))
  have HOF := Lib.hid (fun W (hW : Below w1.heap.size w1 W) => HOF0.out W (B1.out.on hW))
  have HRF := Lib.hid (show ∀ W, Below w1.heap.size w1 W → Calls Tryd.prog 12 #[.slice ab L.length cb] W fun e w' => e = .returned (.agg (row8 S).toArray) ∧ Below W.heap.size W w' from fun W hW => by
    rw [HSS.out]; exact rof_any L (by omega) _ W (HB.out.below hW) (HTT.out.below (B1.out.on hW)))
  have HO1 := Lib.hid (show ∀ W v, Below w1.heap.size w1 W → Rds W v [L] → Calls Tryd.prog 11 #[v] W fun e w' => e = .returned (.agg (row8 S).toArray) ∧ Below W.heap.size W w' from fun W v hW hv => by
    have h := of_any [L] (by simp; omega) v W hv (HT.out.below hW)
    rw [show [L].flatten = L by simp] at h
    rw [HSS.out]; exact h)
  refine wp_region_facts2 (by kernel_rfl) (by kernel_rfl) [.val (.slice ao l0.length cap), .val (.agg (row8 S).toArray), .val (.slice ab L.length cb), .val (.agg (row8 S).toArray), .val (.bool true), .val (.bool true), .val (.slice ab L.length cb), .rds ([L]), .val (.agg (row8 S).toArray), .val (.slice ab L.length cb), .val (.agg (row8 S).toArray), .val (.bool true), .val (.bool true), .val (.bool true), .val (.slice ao l0.length cap), .rd (L), .val (.string (bstr L)), .val (.slice ab L.length cb), .val (.string (bstr L)), .val (.bool true), .val (.bool true), .val (.bool true), .val (.bool true), .val (.bool true), .val (.bool true)] ?_ ?_
  · refine ⟨?_, ?_, ?_, ?_, ?_, ?_, ?_, ?_, ?_, ?_, ?_, ?_, ?_, ?_, ?_, ?_, ?_, ?_, ?_, ?_, ?_, ?_, ?_, ?_, ?_, trivial⟩
    · intro a w' hF hB hd
      have e0 : a.eval (.tmp 0) = .slice ao l0.length cap := hF 0 (by decide +kernel)
      exact does2_val rfl (ex_move rfl e0) rfl
    · intro a w' hF hB hd
      have e6 : a.eval (.tmp 6) = .slice ao l0.length cap := hd 0 (by decide +kernel)
      exact does2_call rfl (ex_call (vs := #[.slice ao l0.length cap]) rfl (by simp only [List.map_toArray, List.map_cons, List.map_nil, e6]) (by go_simp)) ((HOF.out w' hB).mono fun e w2 hh => ⟨_, hh.1, rfl, hh.2⟩)
    · intro a w' hF hB hd
      have e3 : a.eval (.tmp 3) = .slice ab L.length cb := hF 3 (by decide +kernel)
      exact does2_val rfl (ex_move rfl e3) rfl
    · intro a w' hF hB hd
      have e8 : a.eval (.tmp 8) = .slice ab L.length cb := hd 2 (by decide +kernel)
      exact does2_call rfl (ex_call (vs := #[.slice ab L.length cb]) rfl (by simp only [List.map_toArray, List.map_cons, List.map_nil, e8]) (by go_simp)) ((HRF.out w' hB).mono fun e w2 hh => ⟨_, hh.1, rfl, hh.2⟩)
    · intro a w' hF hB hd
      have e7 : a.eval (.tmp 7) = .agg (row8 S).toArray := hd 1 (by decide +kernel)
      have e9 : a.eval (.tmp 9) = .agg (row8 S).toArray := hd 3 (by decide +kernel)
      exact does2_val rfl (ex_binOp rfl e7 e9 (run_eqGuard_agg (P := Tryd.prog) (w := w') .eql 26 _ _ _ _ eqTypeS) (heq w')) rfl
    · intro a w' hF hB hd
      have e10 : a.eval (.tmp 10) = .bool true := hd 4 (by decide +kernel)
      exact does2_val rfl (ex_move rfl e10) rfl
    · intro a w' hF hB hd
      have e11 : a.eval (.tmp 11) = .bool true := hd 5 (by decide +kernel)
      have e3 : a.eval (.tmp 3) = .slice ab L.length cb := hF 3 (by decide +kernel)
      exact does2_val (wanted_of rfl (yielded_of rfl e11)) (ex_move rfl e3) rfl
    · intro a w' hF hB hd
      have e11 : a.eval (.tmp 11) = .bool true := hd 5 (by decide +kernel)
      have e12 : a.eval (.tmp 12) = .slice ab L.length cb := hd 6 (by decide +kernel)
      have f12 : a.tmps[12]?.getD undef = .slice ab L.length cb := by rw [← Array.getD_eq_getD_getElem?]; exact e12
      refine ⟨(wanted_of rfl (yielded_of rfl e11)), fun K hK => ?_⟩
      have hr := rds_one ((HB.out.below hB)) rfl
      unfold Oper.wp execOp
      go_simp
      exact hK _ _ ((Below.refl _ _).alloc (Nat.le_refl _) _) hr
    · intro a w' hF hB hd
      have e11 : a.eval (.tmp 11) = .bool true := hd 5 (by decide +kernel)
      have e13 : Rds w' (a.eval (.tmp 13)) ([L]) := hd 7 (by decide +kernel)
      exact does2_call (wanted_of rfl (yielded_of rfl e11)) (ex_call (vs := #[a.eval (.tmp 13)]) rfl (by simp only [List.map_toArray, List.map_cons, List.map_nil]) (by go_simp)) ((HO1.out w' _ hB e13).mono fun e w2 hh => ⟨_, hh.1, rfl, hh.2⟩)
    · intro a w' hF hB hd
      have e11 : a.eval (.tmp 11) = .bool true := hd 5 (by decide +kernel)
      have e3 : a.eval (.tmp 3) = .slice ab L.length cb := hF 3 (by decide +kernel)
      exact does2_val (wanted_of rfl (yielded_of rfl e11)) (ex_move rfl e3) rfl
    · intro a w' hF hB hd
      have e11 : a.eval (.tmp 11) = .bool true := hd 5 (by decide +kernel)
      have e15 : a.eval (.tmp 15) = .slice ab L.length cb := hd 9 (by decide +kernel)
      exact does2_call (wanted_of rfl (yielded_of rfl e11)) (ex_call (vs := #[.slice ab L.length cb]) rfl (by simp only [List.map_toArray, List.map_cons, List.map_nil, e15]) (by go_simp)) ((HRF.out w' hB).mono fun e w2 hh => ⟨_, hh.1, rfl, hh.2⟩)
    · intro a w' hF hB hd
      have e11 : a.eval (.tmp 11) = .bool true := hd 5 (by decide +kernel)
      have e14 : a.eval (.tmp 14) = .agg (row8 S).toArray := hd 8 (by decide +kernel)
      have e16 : a.eval (.tmp 16) = .agg (row8 S).toArray := hd 10 (by decide +kernel)
      exact does2_val (wanted_of rfl (yielded_of rfl e11)) (ex_binOp rfl e14 e16 (run_eqGuard_agg (P := Tryd.prog) (w := w') .eql 26 _ _ _ _ eqTypeS) (heq w')) rfl
    · intro a w' hF hB hd
      have e11 : a.eval (.tmp 11) = .bool true := hd 5 (by decide +kernel)
      have e17 : a.eval (.tmp 17) = .bool true := hd 11 (by decide +kernel)
      exact does2_val rfl (ex_pick rfl e11 (by simp [e17])) rfl
    · intro a w' hF hB hd
      have e18 : a.eval (.tmp 18) = .bool true := hd 12 (by decide +kernel)
      exact does2_val rfl (ex_move rfl e18) rfl
    · intro a w' hF hB hd
      have e19 : a.eval (.tmp 19) = .bool true := hd 13 (by decide +kernel)
      have e0 : a.eval (.tmp 0) = .slice ao l0.length cap := hF 0 (by decide +kernel)
      exact does2_val (wanted_of rfl (yielded_of rfl e19)) (ex_move rfl e0) rfl
    · intro a w' hF hB hd
      have e19 : a.eval (.tmp 19) = .bool true := hd 13 (by decide +kernel)
      have e20 : a.eval (.tmp 20) = .slice ao l0.length cap := hd 14 (by decide +kernel)
      exact does2_call (wanted_of rfl (yielded_of rfl e19)) (ex_call (vs := #[.slice ao l0.length cap]) rfl (by simp only [List.map_toArray, List.map_cons, List.map_nil, e20]) (by go_simp)) ((HJ.out w' hB).mono fun e w2 hh => by obtain ⟨v, h1, h2, h3⟩ := hh; exact ⟨v, h1, h2.rd, h3⟩)
    · intro a w' hF hB hd
      have e19 : a.eval (.tmp 19) = .bool true := hd 13 (by decide +kernel)
      have e21 : Rd w' (a.eval (.tmp 21)) (L) := hd 15 (by decide +kernel)
      exact does2_val (wanted_of rfl (yielded_of rfl e19)) (ex_convert rfl rfl e21.str) rfl
    · intro a w' hF hB hd
      have e19 : a.eval (.tmp 19) = .bool true := hd 13 (by decide +kernel)
      have e3 : a.eval (.tmp 3) = .slice ab L.length cb := hF 3 (by decide +kernel)
      exact does2_val (wanted_of rfl (yielded_of rfl e19)) (ex_move rfl e3) rfl
    · intro a w' hF hB hd
      have e19 : a.eval (.tmp 19) = .bool true := hd 13 (by decide +kernel)
      have e23 : a.eval (.tmp 23) = .slice ab L.length cb := hd 17 (by decide +kernel)
      exact does2_val (wanted_of rfl (yielded_of rfl e19)) (ex_convert rfl e23 ((HB.out.below hB).str)) rfl
    · intro a w' hF hB hd
      have e19 : a.eval (.tmp 19) = .bool true := hd 13 (by decide +kernel)
      have e22 : a.eval (.tmp 22) = .string (bstr L) := hd 16 (by decide +kernel)
      have e24 : a.eval (.tmp 24) = .string (bstr L) := hd 18 (by decide +kernel)
      exact does2_val (wanted_of rfl (yielded_of rfl e19)) (ex_binOp rfl e22 e24 (by go_simp) (by go_simp)) rfl
    · intro a w' hF hB hd
      have e19 : a.eval (.tmp 19) = .bool true := hd 13 (by decide +kernel)
      have e25 : a.eval (.tmp 25) = .bool true := hd 19 (by decide +kernel)
      exact does2_val rfl (ex_pick rfl e19 (by simp [e25])) rfl
    · intro a w' hF hB hd
      have e26 : a.eval (.tmp 26) = .bool true := hd 20 (by decide +kernel)
      exact does2_val rfl (ex_move rfl e26) rfl
    · intro a w' hF hB hd
      have e27 : a.eval (.tmp 27) = .bool true := hd 21 (by decide +kernel)
      exact does2_call (wanted_of rfl (yielded_of rfl e27)) (ex_call (vs := #[]) rfl (by simp) (by go_simp)) ((awake_any w' (HT.out.below hB)).mono fun e w2 hh => ⟨_, hh.1, rfl, hh.2⟩)
    · intro a w' hF hB hd
      have e27 : a.eval (.tmp 27) = .bool true := hd 21 (by decide +kernel)
      have e28 : a.eval (.tmp 28) = .bool true := hd 22 (by decide +kernel)
      exact does2_val rfl (ex_pick rfl e27 (by simp [e28])) rfl
    · intro a w' hF hB hd
      have e29 : a.eval (.tmp 29) = .bool true := hd 23 (by decide +kernel)
      exact does2_val rfl (ex_assign rfl e29) rfl
  · intro vs w2 hb hv
    have e2 : vs 24 = .bool true := hv 24 (by decide)
    simp only [putOps, Act.put, List.setIfInBounds_toArray, List.set_cons_zero, List.set_cons_succ, e2]
    have hfin := B1.out.on hb
    clear hv e2 hb
    go_wp2_with fail
    go_ret
    exact ⟨rfl, hfin⟩
set_option maxRecDepth 100000 in
theorem reads (os : Os) {H : Type} (enc : TypeId × Value → H) : ∃ places, DataW.whole enc Tryd.prog ((World.doorLaid Tryd.prog 400 os).forCall (fun _ _ => 0) ⟨#[], #[.slice none 0 0], []⟩).memory Tryd.f3.params.toList Rows.shaOfsSpec.vars false (#[.slice none 0 0] : Array Value).toList 8 = some ([.nil], [], places) :=
  ⟨[], by kernel_rfl⟩
set_option linter.unusedVariables false in
set_option maxHeartbeats 1000000 in
set_option maxRecDepth 100000 in
theorem lifted (os : Os) (started : os.Started) (H : Type) (enc : TypeId × Value → H) (F : Stop.Interp) :
    ReturnsInHanded {} Tryd.checked os 3 .any ((Rows.OpenSpec.upto Rows.shaOfsSpec).preRow enc Tryd.prog Tryd.f3 Rows.shaOfsUptoRow.domain false laidB) (((Rows.OpenSpec.upto Rows.shaOfsSpec).at F).post enc Tryd.prog Tryd.f3 false true false false) := by
  obtain ⟨places, hx⟩ := reads os enc
  refine returnsInHanded_of_row (C := Tryd.checked) (s := Rows.OpenSpec.upto Rows.shaOfsSpec) own started (by kernel_rfl) Tryd.func3
    (witness_row_atRef (enc := enc) (C := Tryd.checked) false (World.doorLaid Tryd.prog 400 os) #[.slice none 0 0] rfl (by kernel_rfl) (by kernel_rfl) (by kernel_rfl)
      (OpenSpec.preRow_of_cond 8 hx (by kernel_rfl) (fun k hk => by cases hk; kernel_rfl) (by kernel_rfl) (doorB_met os _))) ?_
  intro W base args ds gs before hval0 hW _ hcond hsz0 hL _ _
  have hsz : (DataW.weightsEach Tryd.prog (Tryd.f3.params.toList ++ Rows.shaOfsSpec.plain.varTypes Tryd.prog) (ds ++ gs)).all (· ≤ reachBytes) = true := hsz0
  clear hsz0
  have hval : ∀ (j : Nat) t v, Tryd.f3.params[j]? = some t → args[j]? = some v → Value.okWide Tryd.prog W .any base t v := hval0
  have hW' := hW
  obtain ⟨p, q, hA0, hV, rfl, _, _⟩ := hW
  have hA : DataW.TrodAll enc Tryd.prog W 0 (fun _ => true) true Tryd.f3.params.toList args.toList ds p := hA0
  rw [Tryd.params3] at hA hval hsz
  have hk : Rows.uptoSmall H (ds ++ gs) = true := hcond _ rfl
  obtain ⟨v0, vs0, d0, ds0, p0, q0, hargs, rfl, rfl, g0, r0⟩ := trodAll_cons hA
  obtain ⟨rfl, rfl, rfl⟩ := trodAll_nil r0
  obtain rfl : args = #[v0] := by cases args; simp_all
  obtain ⟨rfl, rfl⟩ := trodVars_none hV
  have hkb := bulks.bound hk
  obtain ⟨l0, h0, k0⟩ := bulks.open_parts hkb (by simp) (hval 0 22 v0 rfl rfl) g0
  clear hA0 hval0
  have hlt := hW'.lt
  refine (walk W (tabs_of_laid hL) v0 l0 h0 k0).mono fun e W' ⟨he, hb⟩ => ?_
  subst he
  have hargs : DataW.TrodAll enc Tryd.prog W' 0 (fun b => decide (b < W.heap.size)) true _ _ _ _ := (trodAll_cons_mk (Below.trod laidOut (by kernel_rfl) (of_decide_eq_true (by kernel_rfl)) g0 hb (fun x hx => hlt x (by simp [hx]))) trodAll_mk0)
  simp only [List.append_nil] at hW' hargs
  exact ⟨_, rfl, post_law hW' (trodAll_cons_mk (shut_bool Tryd.underlying4 _) trodAll_mk0) hargs rfl hb⟩

theorem over : Rows.shaOfsUptoRow.holds Tryd.pinned (Rows.OpenSpec.upto Rows.shaOfsSpec) :=
  OpenClaim.holds_of_cond 3 Tryd.f3 rfl rfl rfl rfl rfl rfl rfl ⟨rfl, rfl, rfl, rfl, rfl⟩ rfl rfl rfl rfl rfl (by kernel_rfl) Tryd.func3 (by kernel_rfl)
    (of_decide_eq_true (by kernel_rfl)) (by unfold Func.isWrapper; first | (rw [if_pos (by decide +kernel)]; kernel_rfl) | (rw [if_neg (by decide +kernel)]; exact ⟨rfl, rfl⟩))
    (fun os started H enc _ F => by rw [OpenClaim.pre_eq_preRow]; exact lifted os started H enc F)

/-- The given statement. -/
theorem proved : Rows.ShaOfsUptoCardSaid :=
  Claim7.holds_tied_plain_at .later [] _ _ _ _
    over (fun _ h => by cases h) (by kernel_rfl) (fun _ h => by cases h) shaOfsUpto_row_tie rfl ⟨rfl, rfl⟩ (by kernel_rfl) rfl
    (fun f fn hf hfn => by
      obtain rfl : f = 3 := Option.some.inj ((show Tryd.prog.funcNamed "reliquary/reliquarylaw03.ShaOfs" = some 3 by kernel_rfl).symm.trans hf) |>.symm
      obtain rfl : fn = Tryd.f3 := (Option.some.inj (Tryd.func3.symm.trans hfn)).symm
      exact ⟨by kernel_rfl, fun j t ht => by
        rw [Tryd.params3] at ht
        have hm : t ∈ [22] := by simpa using Array.mem_of_getElem? ht
        have hall : ([22].all fun u => !Tryd.prog.wantsStandIn u) = true := by kernel_rfl
        exact (show Tryd.prog.wantsStandIn t = false by simpa using List.all_eq_true.1 hall t hm)⟩)
    (by kernel_rfl)
end Go.Proofs.YtaephclooajabaaDoor.shaOfsUpto
