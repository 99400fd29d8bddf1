/- AesBoxes: the box of any byte, and the way back, are as the document says, and its box is the affine of its inverse; and the law's closed case holds. No condition but that the program's two tables and the document's hold their constants when the call begins. -/
import Derived.Test.YtdoifgofmlagbaaDoorRows
import Derived.Test.YtdoifgofmlagbaaDoorAesLaws
import Derived.Test.YtdoifgofmlagbaaDoorAesUnR
import Derived.Test.YtdoifgofmlagbaaDoorAesBox
import Derived.Test.YtdoifgofmlagbaaDoorFieldCallsB
import Derived.Test.YtdoifgofmlagbaaDoorFieldAffR
import Derived.Test.YtdoifgofmlagbaaDoorU8Nat
import Derived.Test.YtdoifgofmlagbaaDoorDoorAes
import Derived.Test.YtdoifgofmlagbaaDoorTie
import Derived.Test.YtdoifgofmlagbaaDoorCards
import Derived.SevenTiedAt
import Derived.WalkKit
import Derived.ProofKit
import Derived.OpenShut
import Derived.SizedLaws
import Derived.Carry
import Derived.Deep.DeepHandedRow
import Derived.Deep.DeepWitnessRowRef
namespace Go.Proofs.YtdoifgofmlagbaaDoor.aesBoxes
open Go.ChangeShapes Go.WideShapes Go.ChangeAt Go.RowKit
open AM FM
theorem own : ownKnob Tryd.prog.godebug = none := by kernel_rfl
set_option linter.unusedVariables false in
set_option maxHeartbeats 4000000 in
set_option maxRecDepth 100000 in
theorem walk (w : World) (ht : TabX w ∧ TabU w ∧ TabA w) (a0 : Int) (w0 : (Lit.int .u8 a0).wf = true) :
    Calls Tryd.prog 3 #[.int .u8 a0] w fun e w' => e = .returned (.bool true) ∧ Below w.heap.size w w' := by
  obtain ⟨b, hb, rfl⟩ := u8_nat w0
  have hba := box_aff b hb
  have HX := Lib.hid ht.1
  have HT := Lib.hid ht.2.2
  have HS := Lib.hid (fun W (hW : Below w.heap.size w W) => sbox_any b hb W (ht.1.below hW))
  have HU := Lib.hid (fun W (hW : Below w.heap.size w W) => unbox_any b hb W (ht.2.1.below hW))
  have HR := Lib.hid (fun W (hW : Below w.heap.size w W) => aunbox_any b hb W (ht.2.2.below hW))
  have HI := Lib.hid (fun W => rinverse_any b hb W)
  have ha := fun W => raffine_any (inv b) (inv_lt b) W
  rw [← hba] at ha
  have HAF := Lib.hid ha
  have HCB := Lib.hid (fun W (hW : Below w.heap.size w W) => ht.2.2.below hW b hb)
  clear hba ha ht
  obtain ⟨x, hx⟩ : ∃ x, x = box b := ⟨_, rfl⟩
  obtain ⟨y, hy⟩ : ∃ y, y = unb b := ⟨_, rfl⟩
  obtain ⟨z, hz⟩ : ∃ y, y = inv b := ⟨_, rfl⟩
  rw [← hx] at HAF HS
  have HCB := Lib.hid (fun W hW => by have c := HCB.out W hW; rw [← hx] at c; exact c)
  rw [← hy] at HU HR
  rw [← hz] at HI HAF
  clear hx hy hz
  go_enter Tryd.func3, Tryd.ntmps3
  go_upto_region 1 with (fail)
  refine wp_region_g (by kernel_rfl) 26 (by decide) (by kernel_rfl) (by kernel_rfl) (by kernel_rfl) (w.heap.size) (Nat.le_refl _) [.val (.int .u8 (b : Int)), .val (.int .u8 (x : Int)), .val (.int .u8 (b : Int)), .val (.pointer (some ⟨0, b, none⟩)), .val (.int .u8 (x : Int)), .val (.bool true), .val (.bool true), .val (.int .u8 (b : Int)), .val (.pointer (some ⟨0, b, none⟩)), .val (.int .u8 (x : Int)), .val (.int .u8 (b : Int)), .val (.int .u8 (z : Int)), .val (.int .u8 (x : Int)), .val (.bool true), .val (.bool true), .val (.bool true), .val (.int .u8 (b : Int)), .val (.int .u8 (y : Int)), .val (.int .u8 (b : Int)), .val (.int .u8 (y : Int)), .val (.bool true), .val (.bool true), .val (.bool true), .val (.bool true), .val (.bool true), .val (.bool true)] (fun _ => 26) ?_ ?_
  · refine ⟨?_, ?_, ?_, ?_, ?_, ?_, ?_, ?_, ?_, ?_, ?_, ?_, ?_, ?_, ?_, ?_, ?_, ?_, ?_, ?_, ?_, ?_, ?_, ?_, ?_, ?_, trivial⟩
    · intro a w' hF hB hd
      have e0 : a.eval (.tmp 0) = .int .u8 (b : Int) := hF 0 (by decide +kernel)
      exact doesG_val rfl (ex_move rfl e0) rfl rfl
    · intro a w' hF hB hd
      have e3 : a.eval (.tmp 3) = .int .u8 (b : Int) := hd 0 (by decide +kernel) (.inr (by decide))
      exact doesG_call rfl (ex_call (vs := #[.int .u8 (b : Int)]) rfl (by simp only [List.map_toArray, List.map_cons, List.map_nil, e3]) (by go_simp)) rfl ((HS.out w' hB).mono fun e w2 hh => ⟨_, hh.1, rfl, hh.2⟩)
    · intro a w' hF hB hd
      have e0 : a.eval (.tmp 0) = .int .u8 (b : Int) := hF 0 (by decide +kernel)
      exact doesG_val rfl (ex_move rfl e0) rfl rfl
    · intro a w' hF hB hd
      have e5 : a.eval (.tmp 5) = .int .u8 (b : Int) := hd 2 (by decide +kernel) (.inr (by decide))
      have l : (b : Int) < 256 := by omega
      exact doesG_val rfl (v := .pointer (some ⟨0, b, none⟩)) (by unfold execOp; simp only [e5]; go_simp) rfl rfl
    · intro a w' hF hB hd
      have e6 : a.eval (.tmp 6) = .pointer (some ⟨0, b, none⟩) := hd 3 (by decide +kernel) (.inr (by decide))
      have c := HCB.out w' hB
      exact doesG_val rfl (v := .int .u8 (x : Int)) (by unfold execOp; simp only [e6]; go_simp) rfl rfl
    · intro a w' hF hB hd
      have e4 : a.eval (.tmp 4) = .int .u8 (x : Int) := hd 1 (by decide +kernel) (.inr (by decide))
      have e7 : a.eval (.tmp 7) = .int .u8 (x : Int) := hd 4 (by decide +kernel) (.inr (by decide))
      exact doesG_val rfl (ex_binOp rfl e4 e7 (by go_simp) (by go_simp)) rfl rfl
    · intro a w' hF hB hd
      have e8 : a.eval (.tmp 8) = .bool true := hd 5 (by decide +kernel) (.inr (by decide))
      exact doesG_val rfl (ex_move rfl e8) rfl rfl
    · intro a w' hF hB hd
      have e9 : a.eval (.tmp 9) = .bool true := hd 6 (by decide +kernel) (.inr (by decide))
      have e0 : a.eval (.tmp 0) = .int .u8 (b : Int) := hF 0 (by decide +kernel)
      exact doesG_val (wanted_of rfl (yielded_of rfl e9)) (ex_move rfl e0) rfl rfl
    · intro a w' hF hB hd
      have e9 : a.eval (.tmp 9) = .bool true := hd 6 (by decide +kernel) (.inr (by decide))
      have e10 : a.eval (.tmp 10) = .int .u8 (b : Int) := hd 7 (by decide +kernel) (.inr (by decide))
      have l : (b : Int) < 256 := by omega
      exact doesG_val (wanted_of rfl (yielded_of rfl e9)) (v := .pointer (some ⟨0, b, none⟩)) (by unfold execOp; simp only [e10]; go_simp) rfl rfl
    · intro a w' hF hB hd
      have e9 : a.eval (.tmp 9) = .bool true := hd 6 (by decide +kernel) (.inr (by decide))
      have e11 : a.eval (.tmp 11) = .pointer (some ⟨0, b, none⟩) := hd 8 (by decide +kernel) (.inr (by decide))
      have c := HCB.out w' hB
      exact doesG_val (wanted_of rfl (yielded_of rfl e9)) (v := .int .u8 (x : Int)) (by unfold execOp; simp only [e11]; go_simp) rfl rfl
    · intro a w' hF hB hd
      have e9 : a.eval (.tmp 9) = .bool true := hd 6 (by decide +kernel) (.inr (by decide))
      have e0 : a.eval (.tmp 0) = .int .u8 (b : Int) := hF 0 (by decide +kernel)
      exact doesG_val (wanted_of rfl (yielded_of rfl e9)) (ex_move rfl e0) rfl rfl
    · intro a w' hF hB hd
      have e9 : a.eval (.tmp 9) = .bool true := hd 6 (by decide +kernel) (.inr (by decide))
      have e13 : a.eval (.tmp 13) = .int .u8 (b : Int) := hd 10 (by decide +kernel) (.inr (by decide))
      exact doesG_call (wanted_of rfl (yielded_of rfl e9)) (ex_call (vs := #[.int .u8 (b : Int)]) rfl (by simp only [List.map_toArray, List.map_cons, List.map_nil, e13]) (by go_simp)) rfl ((HI.out w').mono fun e w2 hh => by obtain ⟨h1, rfl⟩ := hh; exact ⟨_, h1, rfl, Below.refl _ _⟩)
    · intro a w' hF hB hd
      have e9 : a.eval (.tmp 9) = .bool true := hd 6 (by decide +kernel) (.inr (by decide))
      have e14 : a.eval (.tmp 14) = .int .u8 (z : Int) := hd 11 (by decide +kernel) (.inr (by decide))
      exact doesG_call (wanted_of rfl (yielded_of rfl e9)) (ex_call (vs := #[.int .u8 (z : Int)]) rfl (by simp only [List.map_toArray, List.map_cons, List.map_nil, e14]) (by go_simp)) rfl ((HAF.out w').mono fun e w2 hh => by obtain ⟨h1, rfl⟩ := hh; exact ⟨_, h1, rfl, Below.refl _ _⟩)
    · intro a w' hF hB hd
      have e9 : a.eval (.tmp 9) = .bool true := hd 6 (by decide +kernel) (.inr (by decide))
      have e12 : a.eval (.tmp 12) = .int .u8 (x : Int) := hd 9 (by decide +kernel) (.inr (by decide))
      have e15 : a.eval (.tmp 15) = .int .u8 (x : Int) := hd 12 (by decide +kernel) (.inr (by decide))
      exact doesG_val (wanted_of rfl (yielded_of rfl e9)) (ex_binOp rfl e12 e15 (by go_simp) (by go_simp)) rfl rfl
    · intro a w' hF hB hd
      have e9 : a.eval (.tmp 9) = .bool true := hd 6 (by decide +kernel) (.inr (by decide))
      have e16 : a.eval (.tmp 16) = .bool true := hd 13 (by decide +kernel) (.inr (by decide))
      exact doesG_val rfl (ex_pick rfl e9 (by simp [e16])) rfl rfl
    · intro a w' hF hB hd
      have e17 : a.eval (.tmp 17) = .bool true := hd 14 (by decide +kernel) (.inr (by decide))
      exact doesG_val rfl (ex_move rfl e17) rfl rfl
    · intro a w' hF hB hd
      have e18 : a.eval (.tmp 18) = .bool true := hd 15 (by decide +kernel) (.inr (by decide))
      have e0 : a.eval (.tmp 0) = .int .u8 (b : Int) := hF 0 (by decide +kernel)
      exact doesG_val (wanted_of rfl (yielded_of rfl e18)) (ex_move rfl e0) rfl rfl
    · intro a w' hF hB hd
      have e18 : a.eval (.tmp 18) = .bool true := hd 15 (by decide +kernel) (.inr (by decide))
      have e19 : a.eval (.tmp 19) = .int .u8 (b : Int) := hd 16 (by decide +kernel) (.inr (by decide))
      exact doesG_call (wanted_of rfl (yielded_of rfl e18)) (ex_call (vs := #[.int .u8 (b : Int)]) rfl (by simp only [List.map_toArray, List.map_cons, List.map_nil, e19]) (by go_simp)) rfl ((HU.out w' hB).mono fun e w2 hh => ⟨_, hh.1, rfl, hh.2⟩)
    · intro a w' hF hB hd
      have e18 : a.eval (.tmp 18) = .bool true := hd 15 (by decide +kernel) (.inr (by decide))
      have e0 : a.eval (.tmp 0) = .int .u8 (b : Int) := hF 0 (by decide +kernel)
      exact doesG_val (wanted_of rfl (yielded_of rfl e18)) (ex_move rfl e0) rfl rfl
    · intro a w' hF hB hd
      have e18 : a.eval (.tmp 18) = .bool true := hd 15 (by decide +kernel) (.inr (by decide))
      have e21 : a.eval (.tmp 21) = .int .u8 (b : Int) := hd 18 (by decide +kernel) (.inr (by decide))
      exact doesG_call (wanted_of rfl (yielded_of rfl e18)) (ex_call (vs := #[.int .u8 (b : Int)]) rfl (by simp only [List.map_toArray, List.map_cons, List.map_nil, e21]) (by go_simp)) rfl ((HR.out w' hB).mono fun e w2 hh => by obtain ⟨h1, rfl⟩ := hh; exact ⟨_, h1, rfl, Below.refl _ _⟩)
    · intro a w' hF hB hd
      have e18 : a.eval (.tmp 18) = .bool true := hd 15 (by decide +kernel) (.inr (by decide))
      have e20 : a.eval (.tmp 20) = .int .u8 (y : Int) := hd 17 (by decide +kernel) (.inr (by decide))
      have e22 : a.eval (.tmp 22) = .int .u8 (y : Int) := hd 19 (by decide +kernel) (.inr (by decide))
      exact doesG_val (wanted_of rfl (yielded_of rfl e18)) (ex_binOp rfl e20 e22 (by go_simp) (by go_simp)) rfl rfl
    · intro a w' hF hB hd
      have e18 : a.eval (.tmp 18) = .bool true := hd 15 (by decide +kernel) (.inr (by decide))
      have e23 : a.eval (.tmp 23) = .bool true := hd 20 (by decide +kernel) (.inr (by decide))
      exact doesG_val rfl (ex_pick rfl e18 (by simp [e23])) rfl rfl
    · intro a w' hF hB hd
      have e24 : a.eval (.tmp 24) = .bool true := hd 21 (by decide +kernel) (.inr (by decide))
      exact doesG_val rfl (ex_move rfl e24) rfl rfl
    · intro a w' hF hB hd
      have e25 : a.eval (.tmp 25) = .bool true := hd 22 (by decide +kernel) (.inr (by decide))
      exact doesG_call (wanted_of rfl (yielded_of rfl e25)) (ex_call (vs := #[]) rfl (by simp) (by go_simp)) rfl ((aawake_any w' (HX.out.below hB)).mono fun e w2 hh => ⟨_, hh.1, rfl, hh.2⟩)
    · intro a w' hF hB hd
      have e25 : a.eval (.tmp 25) = .bool true := hd 22 (by decide +kernel) (.inr (by decide))
      have e26 : a.eval (.tmp 26) = .bool true := hd 23 (by decide +kernel) (.inr (by decide))
      exact doesG_val rfl (ex_pick rfl e25 (by simp [e26])) rfl rfl
    · intro a w' hF hB hd
      have e27 : a.eval (.tmp 27) = .bool true := hd 24 (by decide +kernel) (.inr (by decide))
      exact doesG_val rfl (ex_assign rfl e27) rfl rfl
  · intro vs w2 hb hv hap
    have e2 : vs 25 = .bool true := hv 25 (by decide) (by decide)
    simp only [List.take_succ_cons, List.take_zero, List.drop_succ_cons, List.drop_zero, putOps, Act.put, List.setIfInBounds_toArray, List.set_cons_zero, List.set_cons_succ, e2]
    have HB := Lib.hid hb
    clear hv hap e2 hb
    go_wp2_with fail
    go_ret
    exact ⟨rfl, HB.out⟩
set_option maxRecDepth 100000 in
theorem reads (os : Os) {H : Type} (enc : TypeId × Value → H) : ∃ places, DataW.whole enc Tryd.prog ((World.doorLaid Tryd.prog 400 os).forCall (fun _ _ => 0) ⟨#[], #[.int .u8 0], []⟩).memory Tryd.f3.params.toList Rows.aesBoxesSpec.vars false (#[.int .u8 0] : Array Value).toList 8 = some ([.lit (.int .u8 0)], [], places) :=
  ⟨[], by kernel_rfl⟩
set_option linter.unusedVariables false in
set_option maxHeartbeats 1000000 in
set_option maxRecDepth 100000 in
theorem lifted (os : Os) (started : os.Started) (H : Type) (enc : TypeId × Value → H) (F : Stop.Interp) :
    ReturnsInHanded {} Tryd.checked os 3 .any ((OpenSpec.ofChange Rows.aesBoxesSpec).preRow enc Tryd.prog Tryd.f3 Rows.aesBoxesRow.domain false laidXUA) (((OpenSpec.ofChange Rows.aesBoxesSpec).at F).post enc Tryd.prog Tryd.f3 false true false false) := by
  obtain ⟨places, hx⟩ := reads os enc
  refine returnsInHanded_of_row (C := Tryd.checked) (s := OpenSpec.ofChange Rows.aesBoxesSpec) own started (by kernel_rfl) Tryd.func3
    (witness_row_atRef (enc := enc) (C := Tryd.checked) false (World.doorLaid Tryd.prog 400 os) #[.int .u8 0] rfl (by kernel_rfl) (by kernel_rfl) (by kernel_rfl)
      (OpenSpec.preRow_of_cond 8 hx (by kernel_rfl) (fun k hk => by cases hk) (by kernel_rfl) (doorXUA_met os _))) ?_
  intro W base args ds gs before hval0 hW _ hcond hsz0 hL _ _
  have hsz : (DataW.weightsEach Tryd.prog (Tryd.f3.params.toList ++ Rows.aesBoxesSpec.plain.varTypes Tryd.prog) (ds ++ gs)).all (· ≤ reachBytes) = true := hsz0
  clear hsz0
  have hval : ∀ (j : Nat) t v, Tryd.f3.params[j]? = some t → args[j]? = some v → Value.okWide Tryd.prog W .any base t v := hval0
  have hW' := hW
  obtain ⟨p, q, hA0, hV, rfl, _, _⟩ := hW
  have hA : DataW.TrodAll enc Tryd.prog W 0 (fun _ => true) true Tryd.f3.params.toList args.toList ds p := hA0
  rw [Tryd.params3] at hA hval hsz
  obtain ⟨v0, vs0, d0, ds0, p0, q0, hargs, rfl, rfl, g0, r0⟩ := trodAll_cons hA
  obtain ⟨rfl, rfl, rfl⟩ := trodAll_nil r0
  obtain rfl : args = #[v0] := by cases args; simp_all
  obtain ⟨rfl, rfl⟩ := trodVars_none hV
  obtain ⟨a0, rfl, rfl, rfl, w0⟩ := open_int Tryd.underlying5 (hval 0 5 v0 rfl rfl) g0
  clear hA0 hval0
  have hlt := hW'.lt
  refine (walk W (tabsXUA_of_laid hL) a0 w0).mono fun e W' ⟨he, hb⟩ => ?_
  subst he
  have hargs : DataW.TrodAll enc Tryd.prog W' 0 (fun b => decide (b < W.heap.size)) true _ _ _ _ := (trodAll_cons_mk (shut_int Tryd.underlying5 w0) trodAll_mk0)
  simp only [List.append_nil] at hW' hargs
  exact ⟨_, rfl, post_law hW' (trodAll_cons_mk (shut_bool Tryd.underlying4 _) trodAll_mk0) hargs rfl hb⟩

theorem over : Rows.aesBoxesRow.holds Tryd.pinned (OpenSpec.ofChange Rows.aesBoxesSpec) :=
  OpenClaim.holds_of_cond 3 Tryd.f3 rfl rfl rfl rfl rfl rfl rfl ⟨rfl, rfl, rfl, rfl, rfl⟩ rfl rfl rfl rfl rfl (by kernel_rfl) Tryd.func3 (by kernel_rfl)
    (of_decide_eq_true (by kernel_rfl)) (by unfold Func.isWrapper; first | (rw [if_pos (by decide +kernel)]; kernel_rfl) | (rw [if_neg (by decide +kernel)]; exact ⟨rfl, rfl⟩))
    (fun os started H enc _ F => by rw [OpenClaim.pre_eq_preRow]; exact lifted os started H enc F)

/-- The given statement. -/
theorem proved : Rows.AesBoxesCardSaid :=
  Claim7.holds_tied_plain_at .later [] _ _ _ _
    over (fun _ h => by cases h) (by kernel_rfl) (fun _ h => by cases h) aesBoxes_row_tie rfl ⟨rfl, rfl⟩ (by kernel_rfl) rfl
    (fun f fn hf hfn => by
      obtain rfl : f = 3 := Option.some.inj ((show Tryd.prog.funcNamed "reliquary/reliquarylaw06.AesBoxes" = some 3 by kernel_rfl).symm.trans hf) |>.symm
      obtain rfl : fn = Tryd.f3 := (Option.some.inj (Tryd.func3.symm.trans hfn)).symm
      exact ⟨by kernel_rfl, fun j t ht => by
        rw [Tryd.params3] at ht
        have hm : t ∈ [5] := by simpa using Array.mem_of_getElem? ht
        have hall : ([5].all fun u => !Tryd.prog.wantsStandIn u) = true := by kernel_rfl
        exact (show Tryd.prog.wantsStandIn t = false by simpa using List.all_eq_true.1 hall t hm)⟩)
    (by kernel_rfl)
end Go.Proofs.YtdoifgofmlagbaaDoor.aesBoxes
