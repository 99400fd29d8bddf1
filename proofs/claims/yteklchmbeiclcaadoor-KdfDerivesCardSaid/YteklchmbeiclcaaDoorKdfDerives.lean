/- KdfDerives: any passphrase and salt make, by any turns that are light, the bytes that the document says, or it is told why not; they stay as they are; and the law's closed case holds. No condition but that the document's table and the program's hold their constants when the call begins. -/
import Derived.Test.YteklchmbeiclcaaDoorRows
import Derived.Test.YteklchmbeiclcaaDoorKdfLaws
import Derived.Test.YteklchmbeiclcaaDoorKdfDerive
import Derived.Test.YteklchmbeiclcaaDoorMem
import Derived.Test.YteklchmbeiclcaaDoorShaD
import Derived.Test.YteklchmbeiclcaaDoorTie
import Derived.Test.YteklchmbeiclcaaDoorCards
import Derived.SevenTiedAt
import Derived.WalkKit
import Derived.ProofKit
import Derived.OpenShut
import Derived.SizedLaws
import Derived.Carry
import Derived.Deep.DeepHandedRow
import Derived.Deep.DeepWitnessRowRef
namespace Go.Proofs.YteklchmbeiclcaaDoor.kdfDerives
open Go.ChangeShapes Go.WideShapes Go.ChangeAt Go.RowKit

theorem own : ownKnob Tryd.prog.godebug = none := by kernel_rfl
theorem cells23 : Tryd.prog.cellsOf 23 = 2 := by kernel_rfl
theorem cells3 : Tryd.prog.cellsOf 3 = 1 := by kernel_rfl
set_option linter.unusedVariables false in
set_option maxHeartbeats 4000000 in
set_option maxRecDepth 100000 in
theorem walk (w : World) (ht : Tab w ∧ TabP w) (v0 : Value) (l0 : List Nat) (h0 : Rd w v0 l0) (v1 : Value) (l1 : List Nat) (h1 : Rd w v1 l1) (l2 : List Int) (h2 : IntRow .i64 2 l2) :
    Calls Tryd.prog 3 #[v0, v1, .agg (rowI .i64 l2).toArray] w fun e w' => e = .returned (.bool true) ∧ Below w.heap.size w w' := by
  obtain ⟨t, z, rfl, _, _⟩ := h2.two
  obtain ⟨a0, c0, rfl, _⟩ := h0.shape
  obtain ⟨a1, c1, rfl, _⟩ := h1.shape
  have q0 := h0.fits
  have q1 := h1.fits
  rw [show (rowI .i64 [t, z]).toArray = #[.int .i64 t, .int .i64 z] from rfl]
  have HK := Lib.hid h0
  have HV := Lib.hid h1
  have HTT := Lib.hid ht.1
  have HT := Lib.hid ht.2
  have n1 := Blk.new w 23 [.int .i64 t, .int .i64 z] _ rfl
  have x0 := n1.cell 0 _ rfl
  have x1 := n1.cell 1 _ rfl
  have N1 := Lib.hid n1
  have B1 := Lib.hid ((Below.refl w.heap.size w).alloc (Nat.le_refl _) (.cells #[.int .i64 t, .int .i64 z] 23))
  obtain ⟨E, hE⟩ : ∃ E, E = SM.kerr l0 l1 t z := ⟨_, rfl⟩
  obtain ⟨R, hR⟩ : ∃ R, R = SM.kres l0 l1 t z := ⟨_, rfl⟩
  have HPD := Lib.hid (fun W u v (hu : Rd W u l0) (hv : Rd W v l1) (hW : TabP W) => kderive_any l0 l1 t z u v W hu hv hW)
  have HRD := Lib.hid (fun W (hW : Below w.heap.size w W) => rderive_any l0 l1 t z (.slice a0 l0.length c0) (.slice a1 l1.length c1) W (HK.out.below hW) (HV.out.below hW) (HTT.out.below hW))
  rw [← hE, ← hR] at HPD HRD
  have E1 := Lib.hid (show Own ((w.alloc (.cells #[.int .i64 t, .int .i64 z] 23)).alloc (.cells #[] 5)) w.heap.size (.slice (some ⟨w.heap.size + 1, 0, none⟩) 0 0) [] from own_empty _ (by simp) (by simp))
  have BE := Lib.hid (((Below.refl w.heap.size w).alloc (Nat.le_refl _) (.cells #[.int .i64 t, .int .i64 z] 23)).alloc (by simp) (.cells #[] 5))
  have NE := Lib.hid (n1.alloc (.cells #[] 5))
  clear h0 h1 h2 ht n1 hE hR
  by_cases hl : Light t z
  · have HL := Lib.hid (fun W => klight_yes t z W hl)
    go_enter Tryd.func3, Tryd.ntmps3
    go_upto_region 4 with (first
      | (go_at_call 8; (with_reducible refine (HL.out _).mono ?_); rintro e w2 ⟨rfl, rfl⟩)
      | (at_builtin; refine wpList_app rfl (.tmp 20) (.tmp 21) rfl w.heap.size (.slice (some ⟨w.heap.size + 1, 0, none⟩) 0 0) (.slice a0 l0.length c0) [] l0 rfl rfl E1.out (HK.out.below BE.out) (by simp; omega) BE.out.size ?_; intro v3 w3 o3 g3 k3; rw [List.nil_append] at o3; have B3 := Lib.hid (BE.out.grown g3 BE.out.size (fun k hk => (E1.out.from k hk).1)); have O3 := Lib.hid o3; have N3 := Lib.hid (NE.out.grown g3 (fun q => by have e : w.heap.size = w.heap.size + 1 := Option.some.inj q; omega)); clear o3 g3 k3)
      | (at_builtin; refine wpList_app rfl (.tmp 23) (.tmp 24) rfl w3.heap.size (.slice (some ⟨w3.heap.size, 0, none⟩) 0 0) (.slice a1 l1.length c1) [] l1 rfl rfl (own_empty w3 rfl (Nat.le_refl _)) (HV.out.below (B3.out.alloc B3.out.size (.cells #[] 5))) (by simp; omega) (by simp) ?_; intro v4 w4 o4 g4 k4; rw [List.nil_append] at o4; have B4 := Lib.hid ((B3.out.alloc B3.out.size (.cells #[] 5)).grown g4 (by have := B3.out.size; simp; omega) (fun k hk => by have e : w3.heap.size = k := Option.some.inj hk; have := B3.out.size; omega)); have O4 := Lib.hid o4.rd; have P4 := Lib.hid ((O3.out.alloc (.cells #[] 5)).keep g4 (.inr fun q => by have := (O3.out.from w3.heap.size q).2; omega)).rd; have n4 := (N3.out.alloc (.cells #[] 5)).grown g4 (fun q => by have e : w.heap.size = w3.heap.size := Option.some.inj q; have := N3.out.lt; omega); have x04 := n4.cell 0 _ rfl; have x14 := n4.cell 1 _ rfl; have N4 := Lib.hid n4; clear o4 g4 k4 n4))
    obtain ⟨ap, cp, rfl, _⟩ := P4.out.shape
    obtain ⟨aS, cS, rfl, _⟩ := O4.out.shape
    go_upto_region 5 with (go_at_call 10; (with_reducible refine (HPD.out _ _ _ P4.out O4.out (HT.out.below B4.out)).mono ?_); rintro e w5 ⟨x5, rfl, r5, b5⟩; have B5 := Lib.hid (B4.out.on b5); have R5 := Lib.hid r5; have P5 := Lib.hid (P4.out.below b5); have O5 := Lib.hid (O4.out.below b5); have n5 := N4.out.below b5 N4.out.lt; have x05 := n5.cell 0 _ rfl; have x15 := n5.cell 1 _ rfl; clear r5 b5 n5)
    go_upto_region 6 with (go_at_call 11; (with_reducible refine (HRD.out _ B5.out).mono ?_); rintro e w6 ⟨y6, rfl, r6, b6⟩; have B6 := Lib.hid (B5.out.on b6); have hs1 := r6.str; have hs2 := (R5.out.below b6).str; have hs3 := (P5.out.below b6).str; have hs4 := (HK.out.below (B5.out.on b6)).str; have hs5 := (O5.out.below b6).str; have hs6 := (HV.out.below (B5.out.on b6)).str; clear r6 b6)
    go_wp2_with (go_at_call 9; (with_reducible refine (kawake_any _ (HT.out.below B6.out)).mono ?_); rintro e w7 ⟨rfl, b7⟩; have B7 := Lib.hid (B6.out.on b7); clear b7)
    go_ret
    exact ⟨rfl, B7.out⟩
  · have HL := Lib.hid (fun W => klight_no t z W hl)
    go_enter Tryd.func3, Tryd.ntmps3
    go_wp2_with (first
      | (go_at_call 8; (with_reducible refine (HL.out _).mono ?_); rintro e w2 ⟨rfl, rfl⟩)
      | (go_at_call 9; (with_reducible refine (kawake_any _ (HT.out.below B1.out)).mono ?_); rintro e w7 ⟨rfl, b7⟩; have B7 := Lib.hid (B1.out.on b7); clear b7))
    go_ret
    exact ⟨rfl, B7.out⟩
set_option maxRecDepth 100000 in
theorem reads (os : Os) {H : Type} (enc : TypeId × Value → H) : ∃ places, DataW.whole enc Tryd.prog ((World.doorLaid Tryd.prog 400 os).forCall (fun _ _ => 0) ⟨#[], #[.slice none 0 0, .slice none 0 0, .agg (rowI .i64 (List.replicate 2 0)).toArray], []⟩).memory Tryd.f3.params.toList Rows.kdfDerivesSpec.vars false (#[.slice none 0 0, .slice none 0 0, .agg (rowI .i64 (List.replicate 2 0)).toArray] : Array Value).toList 8 = some ([.nil, .nil, litI .i64 (List.replicate 2 0)], [], places) :=
  ⟨[], by kernel_rfl⟩
set_option linter.unusedVariables false in
set_option maxHeartbeats 1000000 in
set_option maxRecDepth 100000 in
theorem lifted (os : Os) (started : os.Started) (H : Type) (enc : TypeId × Value → H) (F : Stop.Interp) :
    ReturnsInHanded {} Tryd.checked os 3 .any ((OpenSpec.ofChange Rows.kdfDerivesSpec).preRow enc Tryd.prog Tryd.f3 Rows.kdfDerivesRow.domain false laidB) (((OpenSpec.ofChange Rows.kdfDerivesSpec).at F).post enc Tryd.prog Tryd.f3 false true false false) := by
  obtain ⟨places, hx⟩ := reads os enc
  refine returnsInHanded_of_row (C := Tryd.checked) (s := OpenSpec.ofChange Rows.kdfDerivesSpec) own started (by kernel_rfl) Tryd.func3
    (witness_row_atRef (enc := enc) (C := Tryd.checked) false (World.doorLaid Tryd.prog 400 os) #[.slice none 0 0, .slice none 0 0, .agg (rowI .i64 (List.replicate 2 0)).toArray] rfl (by kernel_rfl) (by kernel_rfl) (by kernel_rfl)
      (OpenSpec.preRow_of_cond 8 hx (by kernel_rfl) (fun k hk => by cases hk) (by kernel_rfl) (doorB_met os _))) ?_
  intro W base args ds gs before hval0 hW _ hcond hsz0 hL _ _
  have hsz : (DataW.weightsEach Tryd.prog (Tryd.f3.params.toList ++ Rows.kdfDerivesSpec.plain.varTypes Tryd.prog) (ds ++ gs)).all (· ≤ reachBytes) = true := hsz0
  clear hsz0
  have hval : ∀ (j : Nat) t v, Tryd.f3.params[j]? = some t → args[j]? = some v → Value.okWide Tryd.prog W .any base t v := hval0
  have hW' := hW
  obtain ⟨p, q, hA0, hV, rfl, _, _⟩ := hW
  have hA : DataW.TrodAll enc Tryd.prog W 0 (fun _ => true) true Tryd.f3.params.toList args.toList ds p := hA0
  rw [Tryd.params3] at hA hval hsz
  obtain ⟨v0, vs0, d0, ds0, p0, q0, hargs, rfl, rfl, g0, r0⟩ := trodAll_cons hA
  obtain ⟨v1, vs1, d1, ds1, p1, q1, rfl, rfl, rfl, g1, r1⟩ := trodAll_cons r0
  obtain ⟨v2, vs2, d2, ds2, p2, q2, rfl, rfl, rfl, g2, r2⟩ := trodAll_cons r1
  obtain ⟨rfl, rfl, rfl⟩ := trodAll_nil r2
  obtain rfl : args = #[v0, v1, v2] := by cases args; simp_all
  obtain ⟨rfl, rfl⟩ := trodVars_none hV
  obtain ⟨l0, h0⟩ := open_bytes (hval 0 22 v0 rfl rfl) g0 (fun elems spare e => sized_slice hsz (j := 0) (t := 22) (e := 5) rfl (by rw [← e]; rfl) Tryd.underlying22)
  obtain ⟨l1, h1⟩ := open_bytes (hval 1 22 v1 rfl rfl) g1 (fun elems spare e => sized_slice hsz (j := 1) (t := 22) (e := 5) rfl (by rw [← e]; rfl) Tryd.underlying22)
  obtain ⟨l2, h2, rfl, rfl, rfl⟩ := open_arr Tryd.underlying23 Tryd.underlying3 cells3 (hval 2 23 v2 rfl rfl) cells23 g2
  clear hA0 hval0
  have hlt := hW'.lt
  refine (walk W (tabs_of_laid hL) v0 l0 h0 v1 l1 h1 l2 h2).mono fun e W' ⟨he, hb⟩ => ?_
  subst he
  have hargs : DataW.TrodAll enc Tryd.prog W' 0 (fun b => decide (b < W.heap.size)) true _ _ _ _ := (trodAll_cons_mk (Below.trod laidOut (by kernel_rfl) (of_decide_eq_true (by kernel_rfl)) g0 hb (fun x hx => hlt x (by simp [hx]))) (trodAll_cons_mk (Below.trod laidOut (by kernel_rfl) (of_decide_eq_true (by kernel_rfl)) g1 hb (fun x hx => hlt x (by simp [hx]))) (trodAll_cons_mk (shut_arr Tryd.underlying23 Tryd.underlying3 cells3 cells23 h2) trodAll_mk0)))
  simp only [List.append_nil] at hW' hargs
  exact ⟨_, rfl, post_law hW' (trodAll_cons_mk (shut_bool Tryd.underlying4 _) trodAll_mk0) hargs rfl hb⟩

theorem over : Rows.kdfDerivesRow.holds Tryd.pinned (OpenSpec.ofChange Rows.kdfDerivesSpec) :=
  OpenClaim.holds_of_cond 3 Tryd.f3 rfl rfl rfl rfl rfl rfl rfl ⟨rfl, rfl, rfl, rfl, rfl⟩ rfl rfl rfl rfl rfl (by kernel_rfl) Tryd.func3 (by kernel_rfl)
    (of_decide_eq_true (by kernel_rfl)) (by unfold Func.isWrapper; first | (rw [if_pos (by decide +kernel)]; kernel_rfl) | (rw [if_neg (by decide +kernel)]; exact ⟨rfl, rfl⟩))
    (fun os started H enc _ F => by rw [OpenClaim.pre_eq_preRow]; exact lifted os started H enc F)

/-- The given statement. -/
theorem proved : Rows.KdfDerivesCardSaid :=
  Claim7.holds_tied_plain_at .later [] _ _ _ _
    over (fun _ h => by cases h) (by kernel_rfl) (fun _ h => by cases h) kdfDerives_row_tie rfl ⟨rfl, rfl⟩ (by kernel_rfl) rfl
    (fun f fn hf hfn => by
      obtain rfl : f = 3 := Option.some.inj ((show Tryd.prog.funcNamed "reliquary/reliquarylaw05.KdfDerives" = some 3 by kernel_rfl).symm.trans hf) |>.symm
      obtain rfl : fn = Tryd.f3 := (Option.some.inj (Tryd.func3.symm.trans hfn)).symm
      exact ⟨by kernel_rfl, fun j t ht => by
        rw [Tryd.params3] at ht
        have hm : t ∈ [22, 22, 23] := by simpa using Array.mem_of_getElem? ht
        have hall : ([22, 22, 23].all fun u => !Tryd.prog.wantsStandIn u) = true := by kernel_rfl
        exact (show Tryd.prog.wantsStandIn t = false by simpa using List.all_eq_true.1 hall t hm)⟩)
    (by kernel_rfl)
end Go.Proofs.YteklchmbeiclcaaDoor.kdfDerives
