/- RootSames: any two roots are told to be one as the document says; and the law's closed case holds. No condition. -/
import Derived.Test.YtenigdbnfepkeaaDoorRows
import Derived.Test.YtenigdbnfepkeaaDoorRtAwake
import Derived.Test.YtenigdbnfepkeaaDoorRtSm
import Derived.Test.YtenigdbnfepkeaaDoorRtDocB
import Derived.Test.YtenigdbnfepkeaaDoorFactX
import Derived.Test.YtenigdbnfepkeaaDoorShaC
import Derived.Test.YtenigdbnfepkeaaDoorTie
import Derived.Test.YtenigdbnfepkeaaDoorCards
import Derived.SevenTiedAt
import Derived.Test.YtenigdbnfepkeaaDoorRootArg
import Derived.WalkKit
import Derived.ProofKit
import Derived.OpenShut
import Derived.SizedLaws
import Derived.Carry
import Derived.Deep.DeepHandedRow
import Derived.Deep.DeepWitnessRowRef
namespace Go.Proofs.YtenigdbnfepkeaaDoor.rootSames
open Go.ChangeShapes Go.WideShapes Go.ChangeAt Go.RowKit
open RT
theorem own : ownKnob Tryd.prog.godebug = none := by kernel_rfl
set_option linter.unusedVariables false in
set_option maxRecDepth 100000 in
set_option maxHeartbeats 4000000 in
theorem walk (w : World) (ht : TabP w) (r0 : RT.Rt) (v0 : Value) (h0 : RT.Ok r0) (p0 : RdT 33 w v0 r0.pages.length (RT.pcs r0.pages)) (k0 : r0.pages.length ≤ 3909374676536) (r1 : RT.Rt) (v1 : Value) (h1 : RT.Ok r1) (p1 : RdT 33 w v1 r1.pages.length (RT.pcs r1.pages)) (k1 : r1.pages.length ≤ 3909374676536) :
    Calls Tryd.prog 6 #[.agg (RT.rtc r0 v0).toArray, .agg (RT.rtc r1 v1).toArray] w fun e w' => e = .returned (.bool true) ∧ Below w.heap.size w w' := by
  obtain ⟨pa, pq, rfl, _⟩ := p0.shape
  obtain ⟨sa, sq, rfl, _⟩ := p1.shape
  have HT := Lib.hid ht
  obtain ⟨c, hc⟩ : ∃ c : Bool, (c = true ↔ r0 = r1) := by
    by_cases h : r0 = r1
    · exact ⟨true, by simp [h]⟩
    · exact ⟨false, by simp [h]⟩
  have H1 := Lib.hid (fun W u v hu hv => sameIs hc (psame_any r0 r1 h0 h1 u v W hu hv (by omega)))
  have H2 := Lib.hid (fun W u v hu hv => sameIs hc (rrsame_any r0 r1 h0 h1 u v W hu hv (by omega)))
  have H3 := Lib.hid (fun W u v hu hv => sameIs (hc.trans eq_comm) (psame_any r1 r0 h1 h0 u v W hu hv (by omega)))
  have H4 := Lib.hid (fun W u v hu hv => sameYes (psame_any r0 r0 h0 h0 u v W hu hv (by omega)))
  have HC := Lib.hid (fun W hv => rrcopy_any r0 h0 (.slice pa r0.pages.length pq) W hv k0)
  obtain ⟨XR, hXR⟩ : ∃ X, X = rtc r0 := ⟨_, rfl⟩
  obtain ⟨YR, hYR⟩ : ∃ X, X = rtc r1 := ⟨_, rfl⟩
  have XL := Lib.hid (fun u => show (XR u).length = 68 by rw [hXR]; exact rtc_len h0 u)
  have YL := Lib.hid (fun u => show (YR u).length = 68 by rw [hYR]; exact rtc_len h1 u)
  obtain ⟨n, hn⟩ : ∃ n, n = r0.pages.length := ⟨_, rfl⟩
  obtain ⟨CS, hCS⟩ : ∃ n, n = pcs r0.pages := ⟨_, rfl⟩
  obtain ⟨m, hm⟩ : ∃ n, n = r1.pages.length := ⟨_, rfl⟩
  obtain ⟨DS, hDS⟩ : ∃ n, n = pcs r1.pages := ⟨_, rfl⟩
  rw [← hXR, ← hYR] at H1 H2 H3
  rw [← hXR] at H4 HC
  rw [← hXR, ← hYR]
  rw [← hn, ← hCS, ← hm, ← hDS] at H1 H2 H3
  rw [← hn, ← hCS] at H4 HC p0
  rw [← hm, ← hDS] at p1
  rw [← hn, ← hm]
  obtain ⟨XA, hXA⟩ : ∃ x, x = XR (.slice pa n pq) := ⟨_, rfl⟩
  obtain ⟨XB, hXB⟩ : ∃ x, x = YR (.slice sa m sq) := ⟨_, rfl⟩
  have XAL := Lib.hid (show XA.length = 68 by rw [hXA]; exact XL.out _)
  have XBL := Lib.hid (show XB.length = 68 by rw [hXB]; exact YL.out _)
  obtain ⟨w1, hw1⟩ : ∃ x, x = (w.alloc (.cells XA.toArray 27)).alloc (.cells XB.toArray 27) := ⟨_, rfl⟩
  have W1 := Lib.hid (show Below w.heap.size w w1 by rw [hw1]; exact ((Below.refl w.heap.size w).alloc (Nat.le_refl _) _).alloc (by simp) _)
  have A1 := Lib.hid (show Blk w1 w.heap.size 27 XA by rw [hw1]; exact (Blk.new w 27 _ _ rfl).alloc _)
  have B1 := Lib.hid (show Blk w1 (w.heap.size + 1) 27 XB by rw [hw1]; exact Blk.new _ 27 XB _ (by simp))
  have P1 := Lib.hid (p0.below W1.out)
  have Q1 := Lib.hid (p1.below W1.out)
  have H1 := Lib.hid (fun W (hW : Below w1.heap.size w1 W) => H1.out W _ _ (P1.out.below hW) (Q1.out.below hW))
  have H2 := Lib.hid (fun W (hW : Below w1.heap.size w1 W) => H2.out W _ _ (P1.out.below hW) (Q1.out.below hW))
  have H3 := Lib.hid (fun W (hW : Below w1.heap.size w1 W) => H3.out W _ _ (Q1.out.below hW) (P1.out.below hW))
  have H4 := Lib.hid (fun W v (hW : Below w1.heap.size w1 W) hv => H4.out W _ v (P1.out.below hW) hv)
  have HC := Lib.hid (fun W (hW : Below w1.heap.size w1 W) => HC.out W (P1.out.below hW))
  rw [← hXA, ← hXB] at H1 H2 H3
  rw [← hXA] at H4 HC
  rw [← hXA, ← hXB]
  clear hXR hYR hn hCS hm hDS hXA hXB p0 p1 hc h0 h1 ht k0 k1
  go_enter Tryd.func6, Tryd.ntmps6
  go_upto_region 1 with fail
  rw [← hw1]
  clear hw1
  refine wp_region_l (by kernel_rfl) 25 (by decide) (by kernel_rfl) (by kernel_rfl) (by kernel_rfl) [.val (.agg XA.toArray), .val (.agg XB.toArray), .val (.bool c), .val (.agg XA.toArray), .val (.agg XB.toArray), .val (.bool c), .val (.bool true), .val (.bool true), .val (.agg XB.toArray), .val (.agg XA.toArray), .val (.bool c), .val (.agg XA.toArray), .val (.agg XB.toArray), .val (.bool c), .val (.bool true), .val (.bool true), .val (.bool true), .val (.agg XA.toArray), .val (.agg XA.toArray), .mk (fun v w => ∃ ca cq, v = .agg (XR (.slice ca n cq)).toArray ∧ RdT 33 w (.slice ca n cq) n CS) (fun ⟨ca, cq, h1, h2⟩ hb => ⟨ca, cq, h1, h2.below hb⟩), .val (.bool true), .val (.bool true), .val (.bool true), .val (.bool true), .val (.bool true)] ?_ ?_
  · refine ⟨?_, ?_, ?_, ?_, ?_, ?_, ?_, ?_, ?_, ?_, ?_, ?_, ?_, ?_, ?_, ?_, ?_, ?_, ?_, ?_, ?_, ?_, ?_, ?_, ?_, trivial⟩
    · intro a w' hF hB hd
      have e2 : a.eval (.tmp 2) = .pointer (some ⟨w.heap.size, 0, none⟩) := hF 2 (by decide +kernel)
      exact doesL_val rfl (ex_load_part 27 (.tmp 2) rfl w.heap.size 0 e2 XA _ (A1.out.below hB A1.out.lt).range Tryd.underlying27 rfl (by rw [XAL.out]; exact infoRtC)) rfl
    · intro a w' hF hB hd
      have e3 : a.eval (.tmp 3) = .pointer (some ⟨(w.heap.size + 1), 0, none⟩) := hF 3 (by decide +kernel)
      exact doesL_val rfl (ex_load_part 27 (.tmp 3) rfl (w.heap.size + 1) 0 e3 XB _ (B1.out.below hB B1.out.lt).range Tryd.underlying27 rfl (by rw [XBL.out]; exact infoRtC)) rfl
    · intro a w' hF hB hd
      have e5 : a.eval (.tmp 5) = .agg XA.toArray := hd 0 (by decide +kernel)
      have e6 : a.eval (.tmp 6) = .agg XB.toArray := hd 1 (by decide +kernel)
      exact doesL_call rfl (ex_call (vs := #[.agg XA.toArray, .agg XB.toArray]) rfl (by simp only [List.map_toArray, List.map_cons, List.map_nil, e5, e6]) (by go_simp)) ((H1.out w' hB).mono fun e w3 hh => ⟨_, hh.1, rfl, hh.2⟩)
    · intro a w' hF hB hd
      have e2 : a.eval (.tmp 2) = .pointer (some ⟨w.heap.size, 0, none⟩) := hF 2 (by decide +kernel)
      exact doesL_val rfl (ex_load_part 27 (.tmp 2) rfl w.heap.size 0 e2 XA _ (A1.out.below hB A1.out.lt).range Tryd.underlying27 rfl (by rw [XAL.out]; exact infoRtC)) rfl
    · intro a w' hF hB hd
      have e3 : a.eval (.tmp 3) = .pointer (some ⟨(w.heap.size + 1), 0, none⟩) := hF 3 (by decide +kernel)
      exact doesL_val rfl (ex_load_part 27 (.tmp 3) rfl (w.heap.size + 1) 0 e3 XB _ (B1.out.below hB B1.out.lt).range Tryd.underlying27 rfl (by rw [XBL.out]; exact infoRtC)) rfl
    · intro a w' hF hB hd
      have e8 : a.eval (.tmp 8) = .agg XA.toArray := hd 3 (by decide +kernel)
      have e9 : a.eval (.tmp 9) = .agg XB.toArray := hd 4 (by decide +kernel)
      exact doesL_call rfl (ex_call (vs := #[.agg XA.toArray, .agg XB.toArray]) rfl (by simp only [List.map_toArray, List.map_cons, List.map_nil, e8, e9]) (by go_simp)) ((H2.out w' hB).mono fun e w3 hh => ⟨_, hh.1, rfl, hh.2⟩)
    · intro a w' hF hB hd
      have e7 : a.eval (.tmp 7) = .bool c := hd 2 (by decide +kernel)
      have e10 : a.eval (.tmp 10) = .bool c := hd 5 (by decide +kernel)
      exact doesL_val rfl (ex_binOp rfl e7 e10 (by go_simp) (by go_simp)) rfl
    · intro a w' hF hB hd
      have e11 : a.eval (.tmp 11) = .bool true := hd 6 (by decide +kernel)
      exact doesL_val rfl (ex_move rfl e11) rfl
    · intro a w' hF hB hd
      have e12 : a.eval (.tmp 12) = .bool true := hd 7 (by decide +kernel)
      have e3 : a.eval (.tmp 3) = .pointer (some ⟨(w.heap.size + 1), 0, none⟩) := hF 3 (by decide +kernel)
      exact doesL_val (wanted_of rfl (yielded_of rfl e12)) (ex_load_part 27 (.tmp 3) rfl (w.heap.size + 1) 0 e3 XB _ (B1.out.below hB B1.out.lt).range Tryd.underlying27 rfl (by rw [XBL.out]; exact infoRtC)) rfl
    · intro a w' hF hB hd
      have e12 : a.eval (.tmp 12) = .bool true := hd 7 (by decide +kernel)
      have e2 : a.eval (.tmp 2) = .pointer (some ⟨w.heap.size, 0, none⟩) := hF 2 (by decide +kernel)
      exact doesL_val (wanted_of rfl (yielded_of rfl e12)) (ex_load_part 27 (.tmp 2) rfl w.heap.size 0 e2 XA _ (A1.out.below hB A1.out.lt).range Tryd.underlying27 rfl (by rw [XAL.out]; exact infoRtC)) rfl
    · intro a w' hF hB hd
      have e12 : a.eval (.tmp 12) = .bool true := hd 7 (by decide +kernel)
      have e13 : a.eval (.tmp 13) = .agg XB.toArray := hd 8 (by decide +kernel)
      have e14 : a.eval (.tmp 14) = .agg XA.toArray := hd 9 (by decide +kernel)
      exact doesL_call (wanted_of rfl (yielded_of rfl e12)) (ex_call (vs := #[.agg XB.toArray, .agg XA.toArray]) rfl (by simp only [List.map_toArray, List.map_cons, List.map_nil, e13, e14]) (by go_simp)) ((H3.out w' hB).mono fun e w3 hh => ⟨_, hh.1, rfl, hh.2⟩)
    · intro a w' hF hB hd
      have e12 : a.eval (.tmp 12) = .bool true := hd 7 (by decide +kernel)
      have e2 : a.eval (.tmp 2) = .pointer (some ⟨w.heap.size, 0, none⟩) := hF 2 (by decide +kernel)
      exact doesL_val (wanted_of rfl (yielded_of rfl e12)) (ex_load_part 27 (.tmp 2) rfl w.heap.size 0 e2 XA _ (A1.out.below hB A1.out.lt).range Tryd.underlying27 rfl (by rw [XAL.out]; exact infoRtC)) rfl
    · intro a w' hF hB hd
      have e12 : a.eval (.tmp 12) = .bool true := hd 7 (by decide +kernel)
      have e3 : a.eval (.tmp 3) = .pointer (some ⟨(w.heap.size + 1), 0, none⟩) := hF 3 (by decide +kernel)
      exact doesL_val (wanted_of rfl (yielded_of rfl e12)) (ex_load_part 27 (.tmp 3) rfl (w.heap.size + 1) 0 e3 XB _ (B1.out.below hB B1.out.lt).range Tryd.underlying27 rfl (by rw [XBL.out]; exact infoRtC)) rfl
    · intro a w' hF hB hd
      have e12 : a.eval (.tmp 12) = .bool true := hd 7 (by decide +kernel)
      have e16 : a.eval (.tmp 16) = .agg XA.toArray := hd 11 (by decide +kernel)
      have e17 : a.eval (.tmp 17) = .agg XB.toArray := hd 12 (by decide +kernel)
      exact doesL_call (wanted_of rfl (yielded_of rfl e12)) (ex_call (vs := #[.agg XA.toArray, .agg XB.toArray]) rfl (by simp only [List.map_toArray, List.map_cons, List.map_nil, e16, e17]) (by go_simp)) ((H2.out w' hB).mono fun e w3 hh => ⟨_, hh.1, rfl, hh.2⟩)
    · intro a w' hF hB hd
      have e12 : a.eval (.tmp 12) = .bool true := hd 7 (by decide +kernel)
      have e15 : a.eval (.tmp 15) = .bool c := hd 10 (by decide +kernel)
      have e18 : a.eval (.tmp 18) = .bool c := hd 13 (by decide +kernel)
      exact doesL_val (wanted_of rfl (yielded_of rfl e12)) (ex_binOp rfl e15 e18 (by go_simp) (by go_simp)) rfl
    · intro a w' hF hB hd
      have e12 : a.eval (.tmp 12) = .bool true := hd 7 (by decide +kernel)
      have e19 : a.eval (.tmp 19) = .bool true := hd 14 (by decide +kernel)
      exact doesL_val rfl (ex_pick rfl e12 (by simp [e19])) rfl
    · intro a w' hF hB hd
      have e20 : a.eval (.tmp 20) = .bool true := hd 15 (by decide +kernel)
      exact doesL_val rfl (ex_move rfl e20) rfl
    · intro a w' hF hB hd
      have e21 : a.eval (.tmp 21) = .bool true := hd 16 (by decide +kernel)
      have e2 : a.eval (.tmp 2) = .pointer (some ⟨w.heap.size, 0, none⟩) := hF 2 (by decide +kernel)
      exact doesL_val (wanted_of rfl (yielded_of rfl e21)) (ex_load_part 27 (.tmp 2) rfl w.heap.size 0 e2 XA _ (A1.out.below hB A1.out.lt).range Tryd.underlying27 rfl (by rw [XAL.out]; exact infoRtC)) rfl
    · intro a w' hF hB hd
      have e21 : a.eval (.tmp 21) = .bool true := hd 16 (by decide +kernel)
      have e2 : a.eval (.tmp 2) = .pointer (some ⟨w.heap.size, 0, none⟩) := hF 2 (by decide +kernel)
      exact doesL_val (wanted_of rfl (yielded_of rfl e21)) (ex_load_part 27 (.tmp 2) rfl w.heap.size 0 e2 XA _ (A1.out.below hB A1.out.lt).range Tryd.underlying27 rfl (by rw [XAL.out]; exact infoRtC)) rfl
    · intro a w' hF hB hd
      have e21 : a.eval (.tmp 21) = .bool true := hd 16 (by decide +kernel)
      have e23 : a.eval (.tmp 23) = .agg XA.toArray := hd 18 (by decide +kernel)
      exact doesL_call (wanted_of rfl (yielded_of rfl e21)) (ex_call (vs := #[.agg XA.toArray]) rfl (by simp only [List.map_toArray, List.map_cons, List.map_nil, e23]) (by go_simp)) ((HC.out w' hB).mono fun e w3 hh => by
        obtain ⟨cu, rfl, ho, hb⟩ := hh
        obtain ⟨ca, cq, rfl, _⟩ := (owned_rd ho).shape
        exact ⟨_, rfl, ⟨ca, cq, rfl, owned_rd ho⟩, hb⟩)
    · intro a w' hF hB hd
      have e21 : a.eval (.tmp 21) = .bool true := hd 16 (by decide +kernel)
      have e22 : a.eval (.tmp 22) = .agg XA.toArray := hd 17 (by decide +kernel)
      obtain ⟨ca, cq, e24, r24⟩ : ∃ ca cq, a.eval (.tmp 24) = .agg (XR (.slice ca n cq)).toArray ∧ RdT 33 w' (.slice ca n cq) n CS := hd 19 (by decide +kernel)
      exact doesL_call (wanted_of rfl (yielded_of rfl e21)) (ex_call (vs := #[.agg XA.toArray, .agg (XR (.slice ca n cq)).toArray]) rfl (by simp only [List.map_toArray, List.map_cons, List.map_nil, e22, e24]) (by go_simp)) ((H4.out w' _ hB r24).mono fun e w3 hh => ⟨_, hh.1, rfl, hh.2⟩)
    · intro a w' hF hB hd
      have e21 : a.eval (.tmp 21) = .bool true := hd 16 (by decide +kernel)
      have e25 : a.eval (.tmp 25) = .bool true := hd 20 (by decide +kernel)
      exact doesL_val rfl (ex_pick rfl e21 (by simp [e25])) rfl
    · intro a w' hF hB hd
      have e26 : a.eval (.tmp 26) = .bool true := hd 21 (by decide +kernel)
      exact doesL_val rfl (ex_move rfl e26) rfl
    · intro a w' hF hB hd
      have e27 : a.eval (.tmp 27) = .bool true := hd 22 (by decide +kernel)
      exact doesL_call (wanted_of rfl (yielded_of rfl e27)) (ex_call (vs := #[]) rfl (by simp) (by go_simp)) ((rtawake_any w' (HT.out.below (W1.out.on hB))).mono fun e w3 hh => ⟨_, hh.1, rfl, hh.2⟩)
    · intro a w' hF hB hd
      have e27 : a.eval (.tmp 27) = .bool true := hd 22 (by decide +kernel)
      have e28 : a.eval (.tmp 28) = .bool true := hd 23 (by decide +kernel)
      exact doesL_val rfl (ex_pick rfl e27 (by simp [e28])) rfl
  · intro vs w3 hB hv
    have e29 : vs 24 = .bool true := hv 24 (by decide)
    have W3 := Lib.hid (W1.out.on hB)
    clear hv hB
    simp only [List.take_succ_cons, List.take_zero, List.drop_succ_cons, List.drop_zero, putOps, Act.put, List.setIfInBounds_toArray, List.set_cons_zero, List.set_cons_succ, e29]
    generalize vs 0 = y0
    generalize vs 1 = y1
    generalize vs 2 = y2
    generalize vs 3 = y3
    generalize vs 4 = y4
    generalize vs 5 = y5
    generalize vs 6 = y6
    generalize vs 7 = y7
    generalize vs 8 = y8
    generalize vs 9 = y9
    generalize vs 10 = y10
    generalize vs 11 = y11
    generalize vs 12 = y12
    generalize vs 13 = y13
    generalize vs 14 = y14
    generalize vs 15 = y15
    generalize vs 16 = y16
    generalize vs 17 = y17
    generalize vs 18 = y18
    generalize vs 19 = y19
    generalize vs 20 = y20
    generalize vs 21 = y21
    generalize vs 22 = y22
    generalize vs 23 = y23
    go_wp2_with fail
    go_ret
    exact ⟨rfl, W3.out⟩
set_option maxRecDepth 100000 in
theorem reads (os : Os) {H : Type} (enc : TypeId × Value → H) : ∃ places, DataW.whole enc Tryd.prog ((World.doorLaid Tryd.prog 400 os).forCall (fun _ _ => 0) ⟨#[], #[.agg (RT.rtc RT.zero (.slice none 0 0)).toArray, .agg (RT.rtc RT.zero (.slice none 0 0)).toArray], []⟩).memory Tryd.f6.params.toList Rows.rootSamesSpec.vars false (#[.agg (RT.rtc RT.zero (.slice none 0 0)).toArray, .agg (RT.rtc RT.zero (.slice none 0 0)).toArray] : Array Value).toList 8 = some ([litRt, litRt], [], places) :=
  ⟨[], by kernel_rfl⟩
set_option maxRecDepth 100000 in
theorem wok (os : Os) : Input.okWideB Tryd.prog ((World.doorLaid Tryd.prog 400 os).forCall (fun _ _ => 0) ⟨#[], #[.agg (RT.rtc RT.zero (.slice none 0 0)).toArray, .agg (RT.rtc RT.zero (.slice none 0 0)).toArray], []⟩) 6 ⟨#[], #[.agg (RT.rtc RT.zero (.slice none 0 0)).toArray, .agg (RT.rtc RT.zero (.slice none 0 0)).toArray], []⟩ = true := by kernel_rfl
set_option linter.unusedVariables false in
set_option maxHeartbeats 1000000 in
set_option maxRecDepth 100000 in
theorem lifted (os : Os) (started : os.Started) (H : Type) (enc : TypeId × Value → H) (F : Stop.Interp) :
    ReturnsInHanded {} Tryd.checked os 6 .any ((OpenSpec.ofChange Rows.rootSamesSpec).preRow enc Tryd.prog Tryd.f6 Rows.rootSamesRow.domain false laidP) (((OpenSpec.ofChange Rows.rootSamesSpec).at F).post enc Tryd.prog Tryd.f6 false true false false) := by
  obtain ⟨places, hx⟩ := reads os enc
  refine returnsInHanded_of_row (C := Tryd.checked) (s := OpenSpec.ofChange Rows.rootSamesSpec) own started (by kernel_rfl) Tryd.func6
    (witness_row_atRef (enc := enc) (C := Tryd.checked) false (World.doorLaid Tryd.prog 400 os) #[.agg (RT.rtc RT.zero (.slice none 0 0)).toArray, .agg (RT.rtc RT.zero (.slice none 0 0)).toArray] rfl (by kernel_rfl) (by kernel_rfl) (wok os)
      (OpenSpec.preRow_of_cond 8 hx (by kernel_rfl) (fun k hk => by cases hk) (by kernel_rfl) (doorP_met os _))) ?_
  intro W base args ds gs before hval0 hW _ hcond hsz0 hL _ _
  have hsz : (DataW.weightsEach Tryd.prog (Tryd.f6.params.toList ++ Rows.rootSamesSpec.plain.varTypes Tryd.prog) (ds ++ gs)).all (· ≤ reachBytes) = true := hsz0
  clear hsz0
  have hval : ∀ (j : Nat) t v, Tryd.f6.params[j]? = some t → args[j]? = some v → Value.okWide Tryd.prog W .any base t v := hval0
  have hW' := hW
  obtain ⟨p, q, hA0, hV, rfl, _, _⟩ := hW
  have hA : DataW.TrodAll enc Tryd.prog W 0 (fun _ => true) true Tryd.f6.params.toList args.toList ds p := hA0
  rw [Tryd.params6] at hA hval hsz
  obtain ⟨v0, vs0, d0, ds0, p0, q0, hargs, rfl, rfl, g0, r0⟩ := trodAll_cons hA
  obtain ⟨v1, vs1, d1, ds1, p1, q1, rfl, rfl, rfl, g1, r1⟩ := trodAll_cons r0
  obtain ⟨rfl, rfl, rfl⟩ := trodAll_nil r1
  obtain rfl : args = #[v0, v1] := by cases args; simp_all
  obtain ⟨rfl, rfl⟩ := trodVars_none hV
  obtain ⟨rr0, uu0, rfl, hh0, pp0, kk0⟩ := open_root (hval 0 27 v0 rfl rfl) g0 (fun n hn => by simpa using List.all_eq_true.1 hsz n (DataW.weights_mem_each (j := 0) (t := 27) rfl rfl n hn))
  obtain ⟨rr1, uu1, rfl, hh1, pp1, kk1⟩ := open_root (hval 1 27 v1 rfl rfl) g1 (fun n hn => by simpa using List.all_eq_true.1 hsz n (DataW.weights_mem_each (j := 1) (t := 27) rfl rfl n hn))
  clear hA0 hval0
  have hlt := hW'.lt
  refine (walk W (tabP_of_laid hL) rr0 uu0 hh0 pp0 kk0 rr1 uu1 hh1 pp1 kk1).mono fun e W' ⟨he, hb⟩ => ?_
  subst he
  have hargs : DataW.TrodAll enc Tryd.prog W' 0 (fun b => decide (b < W.heap.size)) true _ _ _ _ := (trodAll_cons_mk (Below.trod laidOut (by kernel_rfl) (of_decide_eq_true (by kernel_rfl)) g0 hb (fun x hx => hlt x (by simp [hx]))) (trodAll_cons_mk (Below.trod laidOut (by kernel_rfl) (of_decide_eq_true (by kernel_rfl)) g1 hb (fun x hx => hlt x (by simp [hx]))) trodAll_mk0))
  simp only [List.append_nil] at hW' hargs
  exact ⟨_, rfl, post_law hW' (trodAll_cons_mk (shut_bool Tryd.underlying4 _) trodAll_mk0) hargs rfl hb⟩
theorem over : Rows.rootSamesRow.holds Tryd.pinned (OpenSpec.ofChange Rows.rootSamesSpec) :=
  OpenClaim.holds_of_cond 6 Tryd.f6 rfl rfl rfl rfl rfl rfl rfl ⟨rfl, rfl, rfl, rfl, rfl⟩ rfl rfl rfl rfl rfl (by kernel_rfl) Tryd.func6 (by kernel_rfl)
    (of_decide_eq_true (by kernel_rfl)) (by unfold Func.isWrapper; first | (rw [if_pos (by decide +kernel)]; kernel_rfl) | (rw [if_neg (by decide +kernel)]; exact ⟨rfl, rfl⟩))
    (fun os started H enc _ F => by rw [OpenClaim.pre_eq_preRow]; exact lifted os started H enc F)

/-- The given statement. -/
theorem proved : Rows.RootSamesCardSaid :=
  Claim7.holds_tied_plain_at .later [] _ _ _ _
    over (fun _ h => by cases h) (by kernel_rfl) (fun _ h => by cases h) rootSames_row_tie rfl ⟨rfl, rfl⟩ (by kernel_rfl) rfl
    (fun f fn hf hfn => by
      obtain rfl : f = 6 := Option.some.inj ((show Tryd.prog.funcNamed "reliquary/reliquarylaw14.RootSames" = some 6 by kernel_rfl).symm.trans hf) |>.symm
      obtain rfl : fn = Tryd.f6 := (Option.some.inj (Tryd.func6.symm.trans hfn)).symm
      exact ⟨by kernel_rfl, fun j t ht => by
        rw [Tryd.params6] at ht
        have hm : t ∈ [27, 27] := by simpa using Array.mem_of_getElem? ht
        have hall : ([27, 27].all fun u => !Tryd.prog.wantsStandIn u) = true := by kernel_rfl
        exact (show Tryd.prog.wantsStandIn t = false by simpa using List.all_eq_true.1 hall t hm)⟩)
    (by kernel_rfl)
end Go.Proofs.YtenigdbnfepkeaaDoor.rootSames
