/- HmacOfs: any key and any parts have the sum that the document says, and stay as they are; and the law's closed case holds. The second form: what comes in is of bulk at most 1048576; the document's table and the program's hold their constants when the call begins. -/
import Derived.Test.YtllhljhbnopafaaDoorRows
import Derived.Test.YtllhljhbnopafaaDoorHmacAwake
import Derived.Test.YtllhljhbnopafaaDoorHmacRefOf
import Derived.Test.YtllhljhbnopafaaDoorHmacJoin
import Derived.Test.YtllhljhbnopafaaDoorDoorB
import Derived.Test.YtllhljhbnopafaaDoorTie
import Derived.Test.YtllhljhbnopafaaDoorCards
import Derived.SevenTiedAt
import Derived.Test.YtllhljhbnopafaaDoorBulk
import Derived.Test.YtllhljhbnopafaaDoorArgs
import Derived.WalkKit
import Derived.ProofKit
import Derived.OpenShut
import Derived.SizedLaws
import Derived.Carry
import Derived.Deep.DeepHandedRow
import Derived.Deep.DeepWitnessRowRef
namespace Go.Proofs.YtllhljhbnopafaaDoor.hmacOfsUpto
open Go.ChangeShapes Go.WideShapes Go.ChangeAt Go.RowKit

theorem own : ownKnob Tryd.prog.godebug = none := by kernel_rfl
set_option linter.unusedVariables false in
set_option maxHeartbeats 4000000 in
set_option maxRecDepth 100000 in
theorem walk (w : World) (ht : Tab w ∧ TabP w) (v0 : Value) (l0 : List Nat) (h0 : Rd w v0 l0) (k0 : l0.length ≤ 1048576) (v1 : Value) (l1 : List (List Nat)) (h1 : Rds w v1 l1) (k1 : l1.flatten.length ≤ 1048576) :
    Calls Tryd.prog 3 #[v0, v1] w fun e w' => e = .returned (.bool true) ∧ Below w.heap.size w w' := by
  obtain ⟨a0, c0, rfl, _⟩ := h0.shape
  obtain ⟨ap, cp, rfl, _⟩ := h1.shape
  obtain ⟨L, hL⟩ : ∃ L, L = l1.flatten := ⟨_, rfl⟩
  obtain ⟨M, hM⟩ : ∃ S, S = SM.mac l0 L := ⟨_, rfl⟩
  have bM : Bytes 32 M := by rw [hM]; exact mac_bytes _ _
  have hem := fun w => run_eql_sum bM bM w
  simp only [decide_true] at hem
  have HJ0 := Lib.hid (fun W (hW : Below w.heap.size w W) => hjoined_any l1 k1 _ W (h1.below hW))
  rw [← hL] at k1 HJ0
  have HOF0 := Lib.hid (fun W u (hW : Below w.heap.size w W) (hu : Rd W u l0) => hof_any l0 l1 (by rw [← hL]; omega) u _ W hu (h1.below hW) (ht.2.below hW))
  rw [← hL, ← hM] at HOF0
  have HTT := Lib.hid ht.1
  have HT0 := Lib.hid ht.2
  have HK := Lib.hid h0
  have HMM := Lib.hid hM
  have E0 := Lib.hid (show Own (w.alloc (.cells #[] 5)) w.heap.size (.slice (some ⟨w.heap.size, 0, none⟩) 0 0) [] from own_empty w rfl (Nat.le_refl _))
  have BE := Lib.hid ((Below.refl w.heap.size w).alloc (Nat.le_refl _) (.cells #[] 5))
  clear h0 h1 ht hL hM bM
  go_enter Tryd.func3, Tryd.ntmps3
  go_upto_region 3 with (first
    | (at_builtin; refine wpList_app rfl (.tmp 7) (.tmp 8) rfl w.heap.size (.slice (some ⟨w.heap.size, 0, none⟩) 0 0) (.slice a0 l0.length c0) [] l0 rfl rfl E0.out (HK.out.below BE.out) (by simp; omega) BE.out.size ?_; intro v1 w1 o1 g1 k1; rw [List.nil_append] at o1; have B1 := Lib.hid (BE.out.grown g1 BE.out.size (fun k hk => (E0.out.from k hk).1)); have O1 := Lib.hid o1.rd; clear o1 g1 k1)
    | (go_at_call 9; (with_reducible refine (HJ0.out _ B1.out).mono ?_); rintro e w2 ⟨b, rfl, o2, b2⟩; obtain ⟨ab, cb, rfl, _⟩ := o2.rd.shape; obtain ⟨ai, ci, rfl, _⟩ := O1.out.shape; have B2 := Lib.hid (B1.out.on b2); have HB2 := Lib.hid o2.rd; have HI2 := Lib.hid (O1.out.below b2); clear o2 b2))
  have HT2 := Lib.hid (HT0.out.below B2.out)
  have HK2 := Lib.hid (HK.out.below B2.out)
  have HJ := Lib.hid (fun W (hW : Below w2.heap.size w2 W) => HJ0.out W (B2.out.on hW))
  have HOF := Lib.hid (fun W (hW : Below w2.heap.size w2 W) => HOF0.out W _ (B2.out.on hW) (HI2.out.below hW))
  have HRF := Lib.hid (fun W (hW : Below w2.heap.size w2 W) => rmac_any l0 L (by omega) (by omega) (.slice a0 l0.length c0) (.slice ab L.length cb) W (HK2.out.below hW) (HB2.out.below hW) (HTT.out.below (B2.out.on hW)))
  rw [← HMM.out] at HRF
  refine wp_region_g (by kernel_rfl) 26 (by decide) (by kernel_rfl) (by kernel_rfl) (by kernel_rfl) (w2.heap.size) (Nat.le_refl _) [.val (.slice ai l0.length ci), .val (.slice ap l1.length cp), .val (.agg (row8 M).toArray), .val (.slice a0 l0.length c0), .val (.slice ab L.length cb), .val (.agg (row8 M).toArray), .val (.bool true), .val (.bool true), .val (.slice ai l0.length ci), .val (.string (bstr l0)), .val (.slice a0 l0.length c0), .val (.string (bstr l0)), .val (.bool true), .val (.bool true), .val (.bool true), .val (.slice ap l1.length cp), .rd (L), .val (.string (bstr L)), .val (.slice ab L.length cb), .val (.string (bstr L)), .val (.bool true), .val (.bool true), .val (.bool true), .val (.bool true), .val (.bool true), .val (.bool true)] (fun _ => 26) ?_ ?_
  · refine ⟨?_, ?_, ?_, ?_, ?_, ?_, ?_, ?_, ?_, ?_, ?_, ?_, ?_, ?_, ?_, ?_, ?_, ?_, ?_, ?_, ?_, ?_, ?_, ?_, ?_, ?_, trivial⟩
    · intro a w' hF hB hd
      have e5 : a.eval (.tmp 5) = .slice ai l0.length ci := hF 5 (by decide +kernel)
      exact doesG_val rfl (ex_move rfl e5) rfl rfl
    · intro a w' hF hB hd
      have e1 : a.eval (.tmp 1) = .slice ap l1.length cp := hF 1 (by decide +kernel)
      exact doesG_val rfl (ex_move rfl e1) rfl rfl
    · intro a w' hF hB hd
      have e12 : a.eval (.tmp 12) = .slice ai l0.length ci := hd 0 (by decide +kernel) (.inr (by decide))
      have e13 : a.eval (.tmp 13) = .slice ap l1.length cp := hd 1 (by decide +kernel) (.inr (by decide))
      exact doesG_call rfl (ex_call (vs := #[.slice ai l0.length ci, .slice ap l1.length cp]) rfl (by simp only [List.map_toArray, List.map_cons, List.map_nil, e12, e13]) (by go_simp)) rfl ((HOF.out w' hB).mono fun e w2 hh => ⟨_, hh.1, rfl, hh.2⟩)
    · intro a w' hF hB hd
      have e0 : a.eval (.tmp 0) = .slice a0 l0.length c0 := hF 0 (by decide +kernel)
      exact doesG_val rfl (ex_move rfl e0) rfl rfl
    · intro a w' hF hB hd
      have e6 : a.eval (.tmp 6) = .slice ab L.length cb := hF 6 (by decide +kernel)
      exact doesG_val rfl (ex_move rfl e6) rfl rfl
    · intro a w' hF hB hd
      have e15 : a.eval (.tmp 15) = .slice a0 l0.length c0 := hd 3 (by decide +kernel) (.inr (by decide))
      have e16 : a.eval (.tmp 16) = .slice ab L.length cb := hd 4 (by decide +kernel) (.inr (by decide))
      exact doesG_call rfl (ex_call (vs := #[.slice a0 l0.length c0, .slice ab L.length cb]) rfl (by simp only [List.map_toArray, List.map_cons, List.map_nil, e15, e16]) (by go_simp)) rfl ((HRF.out w' hB).mono fun e w2 hh => ⟨_, hh.1, rfl, hh.2⟩)
    · intro a w' hF hB hd
      have e14 : a.eval (.tmp 14) = .agg (row8 M).toArray := hd 2 (by decide +kernel) (.inr (by decide))
      have e17 : a.eval (.tmp 17) = .agg (row8 M).toArray := hd 5 (by decide +kernel) (.inr (by decide))
      exact doesG_val rfl (ex_binOp rfl e14 e17 (run_eqGuard_agg (P := Tryd.prog) (w := w') .eql 26 _ _ _ _ eqTypeS) (hem w')) rfl rfl
    · intro a w' hF hB hd
      have e18 : a.eval (.tmp 18) = .bool true := hd 6 (by decide +kernel) (.inr (by decide))
      exact doesG_val rfl (ex_move rfl e18) rfl rfl
    · intro a w' hF hB hd
      have e19 : a.eval (.tmp 19) = .bool true := hd 7 (by decide +kernel) (.inr (by decide))
      have e5 : a.eval (.tmp 5) = .slice ai l0.length ci := hF 5 (by decide +kernel)
      exact doesG_val (wanted_of rfl (yielded_of rfl e19)) (ex_move rfl e5) rfl rfl
    · intro a w' hF hB hd
      have e19 : a.eval (.tmp 19) = .bool true := hd 7 (by decide +kernel) (.inr (by decide))
      have e20 : a.eval (.tmp 20) = .slice ai l0.length ci := hd 8 (by decide +kernel) (.inr (by decide))
      exact doesG_val (wanted_of rfl (yielded_of rfl e19)) (ex_convert rfl e20 ((HI2.out.below hB).str)) rfl rfl
    · intro a w' hF hB hd
      have e19 : a.eval (.tmp 19) = .bool true := hd 7 (by decide +kernel) (.inr (by decide))
      have e0 : a.eval (.tmp 0) = .slice a0 l0.length c0 := hF 0 (by decide +kernel)
      exact doesG_val (wanted_of rfl (yielded_of rfl e19)) (ex_move rfl e0) rfl rfl
    · intro a w' hF hB hd
      have e19 : a.eval (.tmp 19) = .bool true := hd 7 (by decide +kernel) (.inr (by decide))
      have e22 : a.eval (.tmp 22) = .slice a0 l0.length c0 := hd 10 (by decide +kernel) (.inr (by decide))
      exact doesG_val (wanted_of rfl (yielded_of rfl e19)) (ex_convert rfl e22 ((HK2.out.below hB).str)) rfl rfl
    · intro a w' hF hB hd
      have e19 : a.eval (.tmp 19) = .bool true := hd 7 (by decide +kernel) (.inr (by decide))
      have e21 : a.eval (.tmp 21) = .string (bstr l0) := hd 9 (by decide +kernel) (.inr (by decide))
      have e23 : a.eval (.tmp 23) = .string (bstr l0) := hd 11 (by decide +kernel) (.inr (by decide))
      exact doesG_val (wanted_of rfl (yielded_of rfl e19)) (ex_binOp rfl e21 e23 (by go_simp) (by go_simp)) rfl rfl
    · intro a w' hF hB hd
      have e19 : a.eval (.tmp 19) = .bool true := hd 7 (by decide +kernel) (.inr (by decide))
      have e24 : a.eval (.tmp 24) = .bool true := hd 12 (by decide +kernel) (.inr (by decide))
      exact doesG_val rfl (ex_pick rfl e19 (by simp [e24])) rfl rfl
    · intro a w' hF hB hd
      have e25 : a.eval (.tmp 25) = .bool true := hd 13 (by decide +kernel) (.inr (by decide))
      exact doesG_val rfl (ex_move rfl e25) rfl rfl
    · intro a w' hF hB hd
      have e26 : a.eval (.tmp 26) = .bool true := hd 14 (by decide +kernel) (.inr (by decide))
      have e1 : a.eval (.tmp 1) = .slice ap l1.length cp := hF 1 (by decide +kernel)
      exact doesG_val (wanted_of rfl (yielded_of rfl e26)) (ex_move rfl e1) rfl rfl
    · intro a w' hF hB hd
      have e26 : a.eval (.tmp 26) = .bool true := hd 14 (by decide +kernel) (.inr (by decide))
      have e27 : a.eval (.tmp 27) = .slice ap l1.length cp := hd 15 (by decide +kernel) (.inr (by decide))
      exact doesG_made (wanted_of rfl (yielded_of rfl e26)) (ex_call (vs := #[.slice ap l1.length cp]) rfl (by simp only [List.map_toArray, List.map_cons, List.map_nil, e27]) (by go_simp)) ((HJ.out w' hB).mono fun e w2 hh => by obtain ⟨v, h1, h2, h3⟩ := hh; exact ⟨v, h1, h2.rd, h3, fun g hg => h2.from g (own_held' h2.rd hg)⟩)
    · intro a w' hF hB hd
      have e26 : a.eval (.tmp 26) = .bool true := hd 14 (by decide +kernel) (.inr (by decide))
      have e28 : Rd w' (a.eval (.tmp 28)) (L) := hd 16 (by decide +kernel) (.inr (by decide))
      exact doesG_val (wanted_of rfl (yielded_of rfl e26)) (ex_convert rfl rfl e28.str) rfl rfl
    · intro a w' hF hB hd
      have e26 : a.eval (.tmp 26) = .bool true := hd 14 (by decide +kernel) (.inr (by decide))
      have e6 : a.eval (.tmp 6) = .slice ab L.length cb := hF 6 (by decide +kernel)
      exact doesG_val (wanted_of rfl (yielded_of rfl e26)) (ex_move rfl e6) rfl rfl
    · intro a w' hF hB hd
      have e26 : a.eval (.tmp 26) = .bool true := hd 14 (by decide +kernel) (.inr (by decide))
      have e30 : a.eval (.tmp 30) = .slice ab L.length cb := hd 18 (by decide +kernel) (.inr (by decide))
      exact doesG_val (wanted_of rfl (yielded_of rfl e26)) (ex_convert rfl e30 ((HB2.out.below hB).str)) rfl rfl
    · intro a w' hF hB hd
      have e26 : a.eval (.tmp 26) = .bool true := hd 14 (by decide +kernel) (.inr (by decide))
      have e29 : a.eval (.tmp 29) = .string (bstr L) := hd 17 (by decide +kernel) (.inr (by decide))
      have e31 : a.eval (.tmp 31) = .string (bstr L) := hd 19 (by decide +kernel) (.inr (by decide))
      exact doesG_val (wanted_of rfl (yielded_of rfl e26)) (ex_binOp rfl e29 e31 (by go_simp) (by go_simp)) rfl rfl
    · intro a w' hF hB hd
      have e26 : a.eval (.tmp 26) = .bool true := hd 14 (by decide +kernel) (.inr (by decide))
      have e32 : a.eval (.tmp 32) = .bool true := hd 20 (by decide +kernel) (.inr (by decide))
      exact doesG_val rfl (ex_pick rfl e26 (by simp [e32])) rfl rfl
    · intro a w' hF hB hd
      have e33 : a.eval (.tmp 33) = .bool true := hd 21 (by decide +kernel) (.inr (by decide))
      exact doesG_val rfl (ex_move rfl e33) rfl rfl
    · intro a w' hF hB hd
      have e34 : a.eval (.tmp 34) = .bool true := hd 22 (by decide +kernel) (.inr (by decide))
      exact doesG_call (wanted_of rfl (yielded_of rfl e34)) (ex_call (vs := #[]) rfl (by simp) (by go_simp)) rfl ((hawake_any w' (HT2.out.below hB)).mono fun e w2 hh => ⟨_, hh.1, rfl, hh.2⟩)
    · intro a w' hF hB hd
      have e34 : a.eval (.tmp 34) = .bool true := hd 22 (by decide +kernel) (.inr (by decide))
      have e35 : a.eval (.tmp 35) = .bool true := hd 23 (by decide +kernel) (.inr (by decide))
      exact doesG_val rfl (ex_pick rfl e34 (by simp [e35])) rfl rfl
    · intro a w' hF hB hd
      have e36 : a.eval (.tmp 36) = .bool true := hd 24 (by decide +kernel) (.inr (by decide))
      exact doesG_val rfl (ex_assign rfl e36) rfl rfl
  · intro vs w4 hb hv hap
    have e2 : vs 25 = .bool true := hv 25 (by decide) (by decide)
    simp only [List.take_succ_cons, List.take_zero, List.drop_succ_cons, List.drop_zero, putOps, Act.put, List.setIfInBounds_toArray, List.set_cons_zero, List.set_cons_succ, e2]
    have HB := Lib.hid (B2.out.on hb)
    clear hv hap e2 hb
    go_wp2_with fail
    go_ret
    exact ⟨rfl, HB.out⟩
set_option maxRecDepth 100000 in
theorem reads (os : Os) {H : Type} (enc : TypeId × Value → H) : ∃ places, DataW.whole enc Tryd.prog ((World.doorLaid Tryd.prog 400 os).forCall (fun _ _ => 0) ⟨#[], #[.slice none 0 0, .slice none 0 0], []⟩).memory Tryd.f3.params.toList Rows.hmacOfsSpec.vars false (#[.slice none 0 0, .slice none 0 0] : Array Value).toList 8 = some ([.nil, .nil], [], places) :=
  ⟨[], by kernel_rfl⟩
set_option linter.unusedVariables false in
set_option maxHeartbeats 1000000 in
set_option maxRecDepth 100000 in
theorem lifted (os : Os) (started : os.Started) (H : Type) (enc : TypeId × Value → H) (F : Stop.Interp) :
    ReturnsInHanded {} Tryd.checked os 3 .any ((Rows.OpenSpec.upto Rows.hmacOfsSpec).preRow enc Tryd.prog Tryd.f3 Rows.hmacOfsUptoRow.domain false laidB) (((Rows.OpenSpec.upto Rows.hmacOfsSpec).at F).post enc Tryd.prog Tryd.f3 false true false false) := by
  obtain ⟨places, hx⟩ := reads os enc
  refine returnsInHanded_of_row (C := Tryd.checked) (s := Rows.OpenSpec.upto Rows.hmacOfsSpec) own started (by kernel_rfl) Tryd.func3
    (witness_row_atRef (enc := enc) (C := Tryd.checked) false (World.doorLaid Tryd.prog 400 os) #[.slice none 0 0, .slice none 0 0] rfl (by kernel_rfl) (by kernel_rfl) (by kernel_rfl)
      (OpenSpec.preRow_of_cond 8 hx (by kernel_rfl) (fun k hk => by cases hk; kernel_rfl) (by kernel_rfl) (doorB_met os _))) ?_
  intro W base args ds gs before hval0 hW _ hcond hsz0 hL _ _
  have hsz : (DataW.weightsEach Tryd.prog (Tryd.f3.params.toList ++ Rows.hmacOfsSpec.plain.varTypes Tryd.prog) (ds ++ gs)).all (· ≤ reachBytes) = true := hsz0
  clear hsz0
  have hval : ∀ (j : Nat) t v, Tryd.f3.params[j]? = some t → args[j]? = some v → Value.okWide Tryd.prog W .any base t v := hval0
  have hW' := hW
  obtain ⟨p, q, hA0, hV, rfl, _, _⟩ := hW
  have hA : DataW.TrodAll enc Tryd.prog W 0 (fun _ => true) true Tryd.f3.params.toList args.toList ds p := hA0
  rw [Tryd.params3] at hA hval hsz
  have hk : Rows.uptoSmall H (ds ++ gs) = true := hcond _ rfl
  obtain ⟨v0, vs0, d0, ds0, p0, q0, hargs, rfl, rfl, g0, r0⟩ := trodAll_cons hA
  obtain ⟨v1, vs1, d1, ds1, p1, q1, rfl, rfl, rfl, g1, r1⟩ := trodAll_cons r0
  obtain ⟨rfl, rfl, rfl⟩ := trodAll_nil r1
  obtain rfl : args = #[v0, v1] := by cases args; simp_all
  obtain ⟨rfl, rfl⟩ := trodVars_none hV
  have hkb := bulks.bound hk
  obtain ⟨l0, h0⟩ := open_bytes (hval 0 22 v0 rfl rfl) g0 (fun elems spare e => sized_slice hsz (j := 0) (t := 22) (e := 5) rfl (by rw [← e]; rfl) Tryd.underlying22)
  have k0 : l0.length ≤ 1048576 := bulks.bytes_le hkb (by simp) g0 h0
  obtain ⟨l1, h1, k1⟩ := bulks.open_parts hkb (by simp) (hval 1 23 v1 rfl rfl) g1
  clear hA0 hval0
  have hlt := hW'.lt
  refine (walk W (tabs_of_laid hL) v0 l0 h0 k0 v1 l1 h1 k1).mono fun e W' ⟨he, hb⟩ => ?_
  subst he
  have hargs : DataW.TrodAll enc Tryd.prog W' 0 (fun b => decide (b < W.heap.size)) true _ _ _ _ := (trodAll_cons_mk (Below.trod laidOut (by kernel_rfl) (of_decide_eq_true (by kernel_rfl)) g0 hb (fun x hx => hlt x (by simp [hx]))) (trodAll_cons_mk (Below.trod laidOut (by kernel_rfl) (of_decide_eq_true (by kernel_rfl)) g1 hb (fun x hx => hlt x (by simp [hx]))) trodAll_mk0))
  simp only [List.append_nil] at hW' hargs
  exact ⟨_, rfl, post_law hW' (trodAll_cons_mk (shut_bool Tryd.underlying4 _) trodAll_mk0) hargs rfl hb⟩

theorem over : Rows.hmacOfsUptoRow.holds Tryd.pinned (Rows.OpenSpec.upto Rows.hmacOfsSpec) :=
  OpenClaim.holds_of_cond 3 Tryd.f3 rfl rfl rfl rfl rfl rfl rfl ⟨rfl, rfl, rfl, rfl, rfl⟩ rfl rfl rfl rfl rfl (by kernel_rfl) Tryd.func3 (by kernel_rfl)
    (of_decide_eq_true (by kernel_rfl)) (by unfold Func.isWrapper; first | (rw [if_pos (by decide +kernel)]; kernel_rfl) | (rw [if_neg (by decide +kernel)]; exact ⟨rfl, rfl⟩))
    (fun os started H enc _ F => by rw [OpenClaim.pre_eq_preRow]; exact lifted os started H enc F)

/-- The given statement. -/
theorem proved : Rows.HmacOfsUptoCardSaid :=
  Claim7.holds_tied_plain_at .later [] _ _ _ _
    over (fun _ h => by cases h) (by kernel_rfl) (fun _ h => by cases h) hmacOfsUpto_row_tie rfl ⟨rfl, rfl⟩ (by kernel_rfl) rfl
    (fun f fn hf hfn => by
      obtain rfl : f = 3 := Option.some.inj ((show Tryd.prog.funcNamed "reliquary/reliquarylaw04.HmacOfs" = some 3 by kernel_rfl).symm.trans hf) |>.symm
      obtain rfl : fn = Tryd.f3 := (Option.some.inj (Tryd.func3.symm.trans hfn)).symm
      exact ⟨by kernel_rfl, fun j t ht => by
        rw [Tryd.params3] at ht
        have hm : t ∈ [22, 23] := by simpa using Array.mem_of_getElem? ht
        have hall : ([22, 23].all fun u => !Tryd.prog.wantsStandIn u) = true := by kernel_rfl
        exact (show Tryd.prog.wantsStandIn t = false by simpa using List.all_eq_true.1 hall t hm)⟩)
    (by kernel_rfl)
end Go.Proofs.YtllhljhbnopafaaDoor.hmacOfsUpto
