/- RootNewest: which one of any two roots is the newest is told as the document says; and the law's closed case holds. No condition. -/
import Derived.Test.YtenigdbnfepkeaaDoorRows
import Derived.Test.YtenigdbnfepkeaaDoorRtAwake
import Derived.Test.YtenigdbnfepkeaaDoorRtSm
import Derived.Test.YtenigdbnfepkeaaDoorShaD
import Derived.Test.YtenigdbnfepkeaaDoorTie
import Derived.Test.YtenigdbnfepkeaaDoorCards
import Derived.SevenTiedAt
import Derived.Test.YtenigdbnfepkeaaDoorMem
import Derived.WalkKit
import Derived.ProofKit
import Derived.OpenShut
import Derived.SizedLaws
import Derived.Carry
import Derived.Deep.DeepHandedRow
import Derived.Deep.DeepWitnessRowRef
namespace Go.Proofs.YtenigdbnfepkeaaDoor.rootNewest
open Go.ChangeShapes Go.WideShapes Go.ChangeAt Go.RowKit
open RT
theorem own : ownKnob Tryd.prog.godebug = none := by kernel_rfl
theorem cells28 : Tryd.prog.cellsOf 28 = 32 := by kernel_rfl
theorem cells5 : Tryd.prog.cellsOf 5 = 1 := by kernel_rfl
set_option linter.unusedVariables false in
set_option maxRecDepth 100000 in
set_option maxHeartbeats 2000000 in
theorem walk (w : World) (ht : Tab w ∧ TabP w) (v0 : Value) (l0 : List Nat) (h0 : Rd w v0 l0) (v1 : Value) (l1 : List Nat) (h1 : Rd w v1 l1) (l2 : List Nat) (h2 : Bytes 32 l2) :
    Calls Tryd.prog 5 #[v0, v1, .agg (row8 l2).toArray] w fun e w' => e = .returned (.bool true) ∧ Below w.heap.size w w' := by
  obtain ⟨ua, uc, rfl, _⟩ := h0.shape
  obtain ⟨va, vc, rfl, _⟩ := h1.shape
  have HT := Lib.hid ht.2
  have HTA := Lib.hid ht.1
  obtain ⟨Z0, hZ0⟩ : ∃ L, L = RT.rtc RT.zero (.slice none 0 0) := ⟨_, rfl⟩
  have hz : ∀ w, (zeroValue 27).run Tryd.prog w = .ok (.agg Z0.toArray) w := by rw [hZ0]; exact zeroRt
  have Z68 := Lib.hid (show Z0.length = 68 by rw [hZ0]; exact RT.rtc_len RT.zero_ok _)
  have OKR := bst_ok h0.byte h1.byte l2 2
  have OKR : Ok (newest l0 l1 l2) := OKR
  have N9 := new_len9 l0 l1 l2
  have HP := Lib.hid (fun W u v hu hv (hW : TabP W) => pnewest_any l0 l1 l2 h2 u v W hu hv hW)
  have HR := Lib.hid (fun W u v hu hv (hW : Tab W) => rrnewest_any l0 l1 l2 h2 u v W hu hv hW)
  have HSM := Lib.hid (fun W u v hu hv => sameYes (rrsame_any (newest l0 l1 l2) (newest l0 l1 l2) OKR OKR u v W hu hv (by omega)))
  have XL := Lib.hid (fun u => rtc_len OKR u)
  obtain ⟨XR, hXR⟩ : ∃ X, X = rtc (newest l0 l1 l2) := ⟨_, rfl⟩
  have X1c := Lib.hid (fun ao n c => show ((XR (.slice ao n c)).toArray.all (·.oneCell')) = true by rw [hXR]; exact rt_one _ ao n c)
  obtain ⟨KC, hKC⟩ : ∃ X, X = row8 l2 := ⟨_, rfl⟩
  have K32 := Lib.hid (show KC.length = 32 by rw [hKC, row8_len, h2.1])
  obtain ⟨PL, hPL⟩ : ∃ X, X = newAt l0 l1 l2 := ⟨_, rfl⟩
  obtain ⟨ER, hER⟩ : ∃ X, X = newErr l0 l1 l2 := ⟨_, rfl⟩
  rw [← hXR] at HP HR HSM XL
  rw [← hKC] at HP HR
  rw [← hKC]
  rw [← hPL, ← hER] at HP HR
  obtain ⟨n, hn⟩ : ∃ n, n = (newest l0 l1 l2).pages.length := ⟨_, rfl⟩
  obtain ⟨CS, hCS⟩ : ∃ n, n = pcs (newest l0 l1 l2).pages := ⟨_, rfl⟩
  rw [← hn, ← hCS] at HP HR HSM
  have HU0 := Lib.hid h0
  have HV0 := Lib.hid h1
  obtain ⟨un, hun⟩ : ∃ n, n = l0.length := ⟨_, rfl⟩
  obtain ⟨vn, hvn⟩ : ∃ n, n = l1.length := ⟨_, rfl⟩
  rw [← hun] at HU0 ⊢
  rw [← hvn] at HV0 ⊢
  obtain ⟨w1, hw1⟩ : ∃ x, x = w.alloc (.cells KC.toArray 28) := ⟨_, rfl⟩
  have W1 := Lib.hid (show Below w.heap.size w w1 by rw [hw1]; exact (Below.refl w.heap.size w).alloc (Nat.le_refl _) _)
  have K1 := Lib.hid (show Blk w1 w.heap.size 28 KC by rw [hw1]; exact Blk.new w 28 KC _ rfl)
  have U1 := Lib.hid (HU0.out.below W1.out)
  have V1 := Lib.hid (HV0.out.below W1.out)
  clear hZ0 hXR hKC hPL hER hn hCS hun hvn ht h0 h1 h2 OKR N9
  go_enter Tryd.func5, Tryd.ntmps5
  go_upto_region 1 with fail
  rw [← hw1]
  clear hw1
  go_upto_region 2 with (first
    | ((with_reducible show wpList _ _ _ (Oper.mk _ (.load _ (.tmp 5)) _ _ _ _ :: _) _ _); refine wpList_load_mid rfl 28 (.tmp 5) rfl w.heap.size 0 rfl KC _ K1.out.range Tryd.underlying28 rfl (by rw [K32.out]; exact infoKeyA) ?_)
    | (go_at_call 17; (with_reducible refine (HP.out _ _ _ U1.out V1.out (HT.out.below W1.out)).mono ?_); rintro e w2 ⟨cu, rfl, cu2, b9⟩; have W2 := Lib.hid (W1.out.on b9); have K2 := Lib.hid (K1.out.below b9 K1.out.lt); have U2 := Lib.hid (U1.out.below b9); have V2 := Lib.hid (V1.out.below b9); obtain ⟨ca, cq, rfl, _⟩ := (owned_rd cu2).shape; have P2 := Lib.hid (owned_rd cu2); clear cu2; clear b9)
    | ((with_reducible show wpList _ _ _ (Oper.mk _ (.store _ (.tmp 7) (.tmp 18)) _ _ _ _ :: _) _ _); refine wpList_store_blk rfl 27 (.tmp 7) (.tmp 18) rfl w2.heap.size 0 (XR (.slice ca n cq)) rfl rfl 27 Z0 (Blk.new w2 27 Z0 _ rfl) (by have := XL.out (.slice ca n cq); have := Z68.out; omega) (by rw [XL.out (.slice ca n cq)]; exact infoRtC) (X1c.out _ _ _) ?_; intro w3 b' g'; rw [splice_all _ _ (by have := XL.out (.slice ca n cq); have := Z68.out; omega)] at b'; have bb := alloc_turn (Below.refl _ _) g'; have W3 := Lib.hid (W2.out.on bb); have K3 := Lib.hid (K2.out.below bb K2.out.lt); have U3 := Lib.hid (U2.out.below bb); have V3 := Lib.hid (V2.out.below bb); have P3 := Lib.hid (P2.out.below bb); have C3 := Lib.hid b'; clear b' g' bb))
  obtain ⟨cb, hcb⟩ : ∃ x, x = w2.heap.size := ⟨_, rfl⟩
  rw [← hcb] at C3 ⊢
  clear hcb W1 K1 U1 V1 W2 K2 U2 V2 P2
  go_upto_region 3 with (first
    | ((with_reducible show wpList _ _ _ (Oper.mk _ (.load _ (.tmp 5)) _ _ _ _ :: _) _ _); refine wpList_load_mid rfl 28 (.tmp 5) rfl w.heap.size 0 rfl KC _ K3.out.range Tryd.underlying28 rfl (by rw [K32.out]; exact infoKeyA) ?_)
    | (go_at_call 18; (with_reducible refine (HR.out _ _ _ U3.out V3.out (HTA.out.below W3.out)).mono ?_); rintro e w4 ⟨du, rfl, du2, b9⟩; have W4 := Lib.hid (W3.out.on b9); have K4 := Lib.hid (K3.out.below b9 K3.out.lt); have U4 := Lib.hid (U3.out.below b9); have V4 := Lib.hid (V3.out.below b9); have P4 := Lib.hid (P3.out.below b9); have C4 := Lib.hid (C3.out.below b9 C3.out.lt); obtain ⟨da, dq, rfl, _⟩ := (owned_rd du2).shape; have Q4 := Lib.hid (owned_rd du2); clear du2; clear b9)
    | ((with_reducible show wpList _ _ _ (Oper.mk _ (.store _ (.tmp 10) (.tmp 26)) _ _ _ _ :: _) _ _); refine wpList_store_blk rfl 27 (.tmp 10) (.tmp 26) rfl w4.heap.size 0 (XR (.slice da n dq)) rfl rfl 27 Z0 (Blk.new w4 27 Z0 _ rfl) (by have := XL.out (.slice da n dq); have := Z68.out; omega) (by rw [XL.out (.slice da n dq)]; exact infoRtC) (X1c.out _ _ _) ?_; intro w5 b' g'; rw [splice_all _ _ (by have := XL.out (.slice da n dq); have := Z68.out; omega)] at b'; have bb := alloc_turn (Below.refl _ _) g'; have W5 := Lib.hid (W4.out.on bb); have K5 := Lib.hid (K4.out.below bb K4.out.lt); have U5 := Lib.hid (U4.out.below bb); have V5 := Lib.hid (V4.out.below bb); have P5 := Lib.hid (P4.out.below bb); have C5 := Lib.hid (C4.out.below bb C4.out.lt); have Q5 := Lib.hid (Q4.out.below bb); have D5 := Lib.hid b'; clear b' g' bb))
  obtain ⟨db, hdb⟩ : ∃ x, x = w4.heap.size := ⟨_, rfl⟩
  rw [← hdb] at D5 ⊢
  clear hdb W3 K3 U3 V3 P3 C3 W4 K4 U4 V4 P4 Q4 C4
  go_wp2_with ((fail_if_success (with_reducible show bodyPost _ _ _ _ _ _)); first
    | ((with_reducible show wpList _ _ _ (Oper.mk _ (.load _ (.tmp 7)) _ _ _ _ :: _) _ _); refine wpList_load_mid rfl 27 (.tmp 7) rfl cb 0 rfl (XR (.slice ca n cq)) _ C5.out.range Tryd.underlying27 rfl (by rw [XL.out]; exact infoRtC) ?_)
    | ((with_reducible show wpList _ _ _ (Oper.mk _ (.load _ (.tmp 10)) _ _ _ _ :: _) _ _); refine wpList_load_mid rfl 27 (.tmp 10) rfl db 0 rfl (XR (.slice da n dq)) _ D5.out.range Tryd.underlying27 rfl (by rw [XL.out]; exact infoRtC) ?_)
    | (go_at_call 13; (with_reducible refine ((HSM.out _ _ _ P5.out Q5.out)).mono ?_); rintro e w6 ⟨rfl, b9⟩; have W6 := Lib.hid (W5.out.on b9); have K6 := Lib.hid (K5.out.below b9 K5.out.lt); have U6 := Lib.hid (U5.out.below b9); have V6 := Lib.hid (V5.out.below b9); have P6 := Lib.hid (P5.out.below b9); have C6 := Lib.hid (C5.out.below b9 C5.out.lt); have Q6 := Lib.hid (Q5.out.below b9); have D6 := Lib.hid (D5.out.below b9 D5.out.lt); clear b9)
    | (go_at_call 14; (with_reducible refine (rtawake_any _ (HT.out.below W6.out)).mono ?_); rintro e w7 ⟨rfl, b9⟩; have W7 := Lib.hid (W6.out.on b9); have K7 := Lib.hid (K6.out.below b9 K6.out.lt); have U7 := Lib.hid (U6.out.below b9); have V7 := Lib.hid (V6.out.below b9); have P7 := Lib.hid (P6.out.below b9); have C7 := Lib.hid (C6.out.below b9 C6.out.lt); have Q7 := Lib.hid (Q6.out.below b9); have D7 := Lib.hid (D6.out.below b9 D6.out.lt); clear b9))
  go_ret
  exact ⟨rfl, W7.out⟩
set_option maxRecDepth 100000 in
theorem reads (os : Os) {H : Type} (enc : TypeId × Value → H) : ∃ places, DataW.whole enc Tryd.prog ((World.doorLaid Tryd.prog 400 os).forCall (fun _ _ => 0) ⟨#[], #[.slice none 0 0, .slice none 0 0, .agg (row8 (List.replicate 32 0)).toArray], []⟩).memory Tryd.f5.params.toList Rows.rootNewestSpec.vars false (#[.slice none 0 0, .slice none 0 0, .agg (row8 (List.replicate 32 0)).toArray] : Array Value).toList 8 = some ([.nil, .nil, lit8 (List.replicate 32 0)], [], places) :=
  ⟨[], by kernel_rfl⟩
set_option linter.unusedVariables false in
set_option maxHeartbeats 1000000 in
set_option maxRecDepth 100000 in
theorem lifted (os : Os) (started : os.Started) (H : Type) (enc : TypeId × Value → H) (F : Stop.Interp) :
    ReturnsInHanded {} Tryd.checked os 5 .any ((OpenSpec.ofChange Rows.rootNewestSpec).preRow enc Tryd.prog Tryd.f5 Rows.rootNewestRow.domain false laidB) (((OpenSpec.ofChange Rows.rootNewestSpec).at F).post enc Tryd.prog Tryd.f5 false true false false) := by
  obtain ⟨places, hx⟩ := reads os enc
  refine returnsInHanded_of_row (C := Tryd.checked) (s := OpenSpec.ofChange Rows.rootNewestSpec) own started (by kernel_rfl) Tryd.func5
    (witness_row_atRef (enc := enc) (C := Tryd.checked) false (World.doorLaid Tryd.prog 400 os) #[.slice none 0 0, .slice none 0 0, .agg (row8 (List.replicate 32 0)).toArray] rfl (by kernel_rfl) (by kernel_rfl) (by kernel_rfl)
      (OpenSpec.preRow_of_cond 8 hx (by kernel_rfl) (fun k hk => by cases hk) (by kernel_rfl) (doorB_met os _))) ?_
  intro W base args ds gs before hval0 hW _ hcond hsz0 hL _ _
  have hsz : (DataW.weightsEach Tryd.prog (Tryd.f5.params.toList ++ Rows.rootNewestSpec.plain.varTypes Tryd.prog) (ds ++ gs)).all (· ≤ reachBytes) = true := hsz0
  clear hsz0
  have hval : ∀ (j : Nat) t v, Tryd.f5.params[j]? = some t → args[j]? = some v → Value.okWide Tryd.prog W .any base t v := hval0
  have hW' := hW
  obtain ⟨p, q, hA0, hV, rfl, _, _⟩ := hW
  have hA : DataW.TrodAll enc Tryd.prog W 0 (fun _ => true) true Tryd.f5.params.toList args.toList ds p := hA0
  rw [Tryd.params5] at hA hval hsz
  obtain ⟨v0, vs0, d0, ds0, p0, q0, hargs, rfl, rfl, g0, r0⟩ := trodAll_cons hA
  obtain ⟨v1, vs1, d1, ds1, p1, q1, rfl, rfl, rfl, g1, r1⟩ := trodAll_cons r0
  obtain ⟨v2, vs2, d2, ds2, p2, q2, rfl, rfl, rfl, g2, r2⟩ := trodAll_cons r1
  obtain ⟨rfl, rfl, rfl⟩ := trodAll_nil r2
  obtain rfl : args = #[v0, v1, v2] := by cases args; simp_all
  obtain ⟨rfl, rfl⟩ := trodVars_none hV
  obtain ⟨l0, h0⟩ := open_bytes (hval 0 30 v0 rfl rfl) g0 (fun elems spare e => sized_slice hsz (j := 0) (t := 30) (e := 5) rfl (by rw [← e]; rfl) Tryd.underlying30)
  obtain ⟨l1, h1⟩ := open_bytes (hval 1 30 v1 rfl rfl) g1 (fun elems spare e => sized_slice hsz (j := 1) (t := 30) (e := 5) rfl (by rw [← e]; rfl) Tryd.underlying30)
  obtain ⟨l2, h2, rfl, rfl, rfl⟩ := open_row Tryd.underlying28 Tryd.underlying5 cells5 (hval 2 28 v2 rfl rfl) cells28 g2
  clear hA0 hval0
  have hlt := hW'.lt
  refine (walk W (tabs_of_laid hL) v0 l0 h0 v1 l1 h1 l2 h2).mono fun e W' ⟨he, hb⟩ => ?_
  subst he
  have hargs : DataW.TrodAll enc Tryd.prog W' 0 (fun b => decide (b < W.heap.size)) true _ _ _ _ := (trodAll_cons_mk (Below.trod laidOut (by kernel_rfl) (of_decide_eq_true (by kernel_rfl)) g0 hb (fun x hx => hlt x (by simp [hx]))) (trodAll_cons_mk (Below.trod laidOut (by kernel_rfl) (of_decide_eq_true (by kernel_rfl)) g1 hb (fun x hx => hlt x (by simp [hx]))) (trodAll_cons_mk (shut_row Tryd.underlying28 Tryd.underlying5 cells5 cells28 h2) trodAll_mk0)))
  simp only [List.append_nil] at hW' hargs
  exact ⟨_, rfl, post_law hW' (trodAll_cons_mk (shut_bool Tryd.underlying4 _) trodAll_mk0) hargs rfl hb⟩
theorem over : Rows.rootNewestRow.holds Tryd.pinned (OpenSpec.ofChange Rows.rootNewestSpec) :=
  OpenClaim.holds_of_cond 5 Tryd.f5 rfl rfl rfl rfl rfl rfl rfl ⟨rfl, rfl, rfl, rfl, rfl⟩ rfl rfl rfl rfl rfl (by kernel_rfl) Tryd.func5 (by kernel_rfl)
    (of_decide_eq_true (by kernel_rfl)) (by unfold Func.isWrapper; first | (rw [if_pos (by decide +kernel)]; kernel_rfl) | (rw [if_neg (by decide +kernel)]; exact ⟨rfl, rfl⟩))
    (fun os started H enc _ F => by rw [OpenClaim.pre_eq_preRow]; exact lifted os started H enc F)

/-- The given statement. -/
theorem proved : Rows.RootNewestCardSaid :=
  Claim7.holds_tied_plain_at .later [] _ _ _ _
    over (fun _ h => by cases h) (by kernel_rfl) (fun _ h => by cases h) rootNewest_row_tie rfl ⟨rfl, rfl⟩ (by kernel_rfl) rfl
    (fun f fn hf hfn => by
      obtain rfl : f = 5 := Option.some.inj ((show Tryd.prog.funcNamed "reliquary/reliquarylaw14.RootNewest" = some 5 by kernel_rfl).symm.trans hf) |>.symm
      obtain rfl : fn = Tryd.f5 := (Option.some.inj (Tryd.func5.symm.trans hfn)).symm
      exact ⟨by kernel_rfl, fun j t ht => by
        rw [Tryd.params5] at ht
        have hm : t ∈ [30, 30, 28] := by simpa using Array.mem_of_getElem? ht
        have hall : ([30, 30, 28].all fun u => !Tryd.prog.wantsStandIn u) = true := by kernel_rfl
        exact (show Tryd.prog.wantsStandIn t = false by simpa using List.all_eq_true.1 hall t hm)⟩)
    (by kernel_rfl)
end Go.Proofs.YtenigdbnfepkeaaDoor.rootNewest
