/- For whatever text and whatever two catalogs: the program tells just the document's names, and tells the same of both in either order; a copy is the same. The law is told true. Own work. -/
import Derived.Test.YtkagapgganoomaaRows
import Derived.Test.YtkagapgganoomaaCtAw
import Derived.Test.YtkagapgganoomaaCtSameB
import Derived.Test.YtkagapgganoomaaCtCopy
import Derived.Test.YtkagapgganoomaaCtArg
import Derived.Test.YtkagapgganoomaaFactX
import Derived.Test.YtkagapgganoomaaReg
import Derived.WalkKit
import Derived.ProofKit
import Derived.OpenShut
import Derived.SizedLaws
import Derived.Carry
import Derived.Deep.DeepHandedRow
import Derived.Deep.DeepWitnessRowRef
namespace Go.Proofs.Ytkagapgganoomaa.catalogNames
open Go.ChangeShapes Go.WideShapes Go.ChangeAt Go.RowKit

theorem own : ownKnob Try.prog.godebug = none := by kernel_rfl
set_option linter.unusedVariables false in
set_option maxHeartbeats 8000000 in
theorem walk (w : World) (a0 : ByteArray) (w0 : a0.size ≤ maxLen) (k0 : a0.size ≤ 140737488351232) (c1 : CT.Ct) (v1 : Value) (h1 : CT.Ok c1) (p1 : RdT 34 w v1 c1.snaps.length (CT.sncs c1.snaps)) (k1 : c1.snaps.length ≤ 2513169434916) (c2 : CT.Ct) (v2 : Value) (h2 : CT.Ok c2) (p2 : RdT 34 w v2 c2.snaps.length (CT.sncs c2.snaps)) (k2 : c2.snaps.length ≤ 2513169434916) :
    Calls Try.prog 5 #[.string a0, .agg (CT.ctc c1 v1).toArray, .agg (CT.ctc c2 v2).toArray] w fun e w' => e = .returned (.bool true) ∧ Below w.heap.size w w' := by
  obtain ⟨a1, q1, rfl, -⟩ := p1.shape
  obtain ⟨a2, q2, rfl, -⟩ := p2.shape
  have HNP := Lib.hid (fun W => pname_any a0 W)
  have HNR := Lib.hid (fun W => rname_any a0 W)
  have HAW := Lib.hid (fun W => cawake_any W)
  have HSP := Lib.hid (fun W x y => psame_any c1 c2 h1 h2 (.slice a1 c1.snaps.length q1) (.slice a2 c2.snaps.length q2) W x y (by omega))
  have HSR := Lib.hid (fun W x y => rsame_any c1 c2 h1 h2 (.slice a1 c1.snaps.length q1) (.slice a2 c2.snaps.length q2) W x y (by omega))
  have HSQ := Lib.hid (fun W x y => psame_any c2 c1 h2 h1 (.slice a2 c2.snaps.length q2) (.slice a1 c1.snaps.length q1) W x y (by omega))
  have HSC := Lib.hid (fun u W x y => psame_any c1 c1 h1 h1 (.slice a1 c1.snaps.length q1) u W x y (by omega))
  have HCP := Lib.hid (fun W x => rccopy_any c1 h1 (.slice a1 c1.snaps.length q1) W x k1)
  have hsy : ctEq c2 c1 = ctEq c1 c2 := by
    rw [Bool.eq_iff_iff, ctEq_iff, ctEq_iff]; exact ⟨fun h => h.symm, fun h => h.symm⟩
  rw [hsy] at HSQ
  rw [ctEq_iff.2 rfl] at HSC
  obtain ⟨NV, hNV⟩ : ∃ x, x = CT.isName a0 := ⟨_, rfl⟩
  rw [← hNV] at HNP HNR
  obtain ⟨EV, hEV⟩ : ∃ x, x = ctEq c1 c2 := ⟨_, rfl⟩
  rw [← hEV] at HSP HSR HSQ
  obtain ⟨LA, hLA⟩ : ∃ x, x = CT.ctc c1 (.slice a1 c1.snaps.length q1) := ⟨_, rfl⟩
  obtain ⟨LB, hLB⟩ : ∃ x, x = CT.ctc c2 (.slice a2 c2.snaps.length q2) := ⟨_, rfl⟩
  have LA34 := Lib.hid (show LA.length = 34 by rw [hLA]; exact CT.ctc_len h1.top _)
  have LB34 := Lib.hid (show LB.length = 34 by rw [hLB]; exact CT.ctc_len h2.top _)
  rw [← hLA, ← hLB] at HSP HSR HSQ
  rw [← hLA] at HSC HCP
  rw [← hLA, ← hLB]
  have W2 := Lib.hid (((Below.refl w.heap.size w).alloc (Nat.le_refl _) (.cells LA.toArray 29)).alloc (by simp) (.cells LB.toArray 29))
  have XA := Lib.hid ((Blk.new w 29 LA _ rfl).alloc (.cells LB.toArray 29))
  have XB := Lib.hid (Blk.new (w.alloc (.cells LA.toArray 29)) 29 LB (w.heap.size + 1) (by simp))
  have VA := Lib.hid (p1.below W2.out)
  have VB := Lib.hid (p2.below W2.out)
  obtain ⟨CA, hCA⟩ : ∃ x, x = CT.sncs c1.snaps := ⟨_, rfl⟩
  obtain ⟨CB, hCB⟩ : ∃ x, x = CT.sncs c2.snaps := ⟨_, rfl⟩
  rw [← hCA] at HSP HSR HSQ HSC HCP VA
  rw [← hCB] at HSP HSR HSQ VB
  obtain ⟨n1, hn1⟩ : ∃ x, x = c1.snaps.length := ⟨_, rfl⟩
  obtain ⟨n2, hn2⟩ : ∃ x, x = c2.snaps.length := ⟨_, rfl⟩
  rw [← hn1] at HSP HSR HSQ HSC HCP VA
  rw [← hn2] at HSP HSR HSQ VB
  obtain ⟨w2, hw2⟩ : ∃ x, x = (w.alloc (.cells LA.toArray 29)).alloc (.cells LB.toArray 29) := ⟨_, rfl⟩
  rw [← hw2] at W2 XA XB VA VB
  clear hsy hNV hEV hLA hLB hCA hCB hn1 hn2 h1 h2 p1 p2 k1 k2 k0 w0
  go_enter Try.func5, Try.ntmps5
  go_upto_region 1 with fail
  rw [← hw2]
  clear hw2
  refine wp_region_l (by kernel_rfl) 32 (by decide) (by kernel_rfl) (by kernel_rfl) (by kernel_rfl) [.val (.string a0), .val (.bool NV), .val (.string a0), .val (.bool NV), .val (.bool true), .val (.bool true), .val (.agg LA.toArray), .val (.agg LB.toArray), .val (.bool EV), .val (.agg LA.toArray), .val (.agg LB.toArray), .val (.bool EV), .val (.bool true), .val (.bool true), .val (.bool true), .val (.agg LB.toArray), .val (.agg LA.toArray), .val (.bool EV), .val (.agg LA.toArray), .val (.agg LB.toArray), .val (.bool EV), .val (.bool true), .val (.bool true), .val (.bool true), .val (.agg LA.toArray), .val (.agg LA.toArray), ⟨fun v W => ∃ u, v = .agg (CT.ctc c1 u).toArray ∧ RdT 34 W u n1 CA, fun ⟨u, e, h⟩ k => ⟨u, e, h.below k⟩⟩, .val (.bool true), .val (.bool true), .val (.bool true), .val (.bool true), .val (.bool true)] ?_ ?_
  · refine ⟨?_, ?_, ?_, ?_, ?_, ?_, ?_, ?_, ?_, ?_, ?_, ?_, ?_, ?_, ?_, ?_, ?_, ?_, ?_, ?_, ?_, ?_, ?_, ?_, ?_, ?_, ?_, ?_, ?_, ?_, ?_, ?_, trivial⟩
    · intro a w' hF hB hd
      have e0 : a.eval (.tmp 0) = .string a0 := hF 0 (by decide +kernel)
      exact doesL_val rfl (ex_move rfl e0) rfl
    · intro a w' hF hB hd
      have e7 : a.eval (.tmp 7) = .string a0 := hd 0 (by decide +kernel)
      exact doesL_call rfl (ex_call (vs := #[.string a0]) rfl (by simp only [List.map_toArray, List.map_cons, List.map_nil, e7]) (by go_simp)) ((HNP.out w').mono fun e w3 hh => ⟨_, hh.1, rfl, hh.2⟩)
    · intro a w' hF hB hd
      have e0 : a.eval (.tmp 0) = .string a0 := hF 0 (by decide +kernel)
      exact doesL_val rfl (ex_move rfl e0) rfl
    · intro a w' hF hB hd
      have e9 : a.eval (.tmp 9) = .string a0 := hd 2 (by decide +kernel)
      exact doesL_call rfl (ex_call (vs := #[.string a0]) rfl (by simp only [List.map_toArray, List.map_cons, List.map_nil, e9]) (by go_simp)) ((HNR.out w').mono fun e w3 hh => ⟨_, hh.1, rfl, hh.2⟩)
    · intro a w' hF hB hd
      have e8 : a.eval (.tmp 8) = .bool NV := hd 1 (by decide +kernel)
      have e10 : a.eval (.tmp 10) = .bool NV := hd 3 (by decide +kernel)
      exact doesL_val rfl (ex_binOp rfl e8 e10 (by go_simp) (by rw [run_eql_bool]; simp)) rfl
    · intro a w' hF hB hd
      have e11 : a.eval (.tmp 11) = .bool true := hd 4 (by decide +kernel)
      exact doesL_val rfl (ex_move rfl e11) rfl
    · intro a w' hF hB hd
      have e12 : a.eval (.tmp 12) = .bool true := hd 5 (by decide +kernel)
      have e4 : a.eval (.tmp 4) = .pointer (some ⟨w.heap.size, 0, none⟩) := hF 4 (by decide +kernel)
      exact doesL_val (wanted_of rfl (yielded_of rfl e12)) (ex_load_part 29 (.tmp 4) rfl w.heap.size 0 e4 LA _ ((XA.out.below hB XA.out.lt).range) Try.underlying29 rfl (by rw [LA34.out]; exact infoCtC)) rfl
    · intro a w' hF hB hd
      have e12 : a.eval (.tmp 12) = .bool true := hd 5 (by decide +kernel)
      have e5 : a.eval (.tmp 5) = .pointer (some ⟨(w.heap.size + 1), 0, none⟩) := hF 5 (by decide +kernel)
      exact doesL_val (wanted_of rfl (yielded_of rfl e12)) (ex_load_part 29 (.tmp 5) rfl (w.heap.size + 1) 0 e5 LB _ ((XB.out.below hB XB.out.lt).range) Try.underlying29 rfl (by rw [LB34.out]; exact infoCtC)) rfl
    · intro a w' hF hB hd
      have e12 : a.eval (.tmp 12) = .bool true := hd 5 (by decide +kernel)
      have e13 : a.eval (.tmp 13) = .agg LA.toArray := hd 6 (by decide +kernel)
      have e14 : a.eval (.tmp 14) = .agg LB.toArray := hd 7 (by decide +kernel)
      exact doesL_call (wanted_of rfl (yielded_of rfl e12)) (ex_call (vs := #[.agg LA.toArray, .agg LB.toArray]) rfl (by simp only [List.map_toArray, List.map_cons, List.map_nil, e13, e14]) (by go_simp)) ((HSP.out w' (VA.out.below hB) (VB.out.below hB)).mono fun e w3 hh => ⟨_, hh.1, rfl, hh.2⟩)
    · intro a w' hF hB hd
      have e12 : a.eval (.tmp 12) = .bool true := hd 5 (by decide +kernel)
      have e4 : a.eval (.tmp 4) = .pointer (some ⟨w.heap.size, 0, none⟩) := hF 4 (by decide +kernel)
      exact doesL_val (wanted_of rfl (yielded_of rfl e12)) (ex_load_part 29 (.tmp 4) rfl w.heap.size 0 e4 LA _ ((XA.out.below hB XA.out.lt).range) Try.underlying29 rfl (by rw [LA34.out]; exact infoCtC)) rfl
    · intro a w' hF hB hd
      have e12 : a.eval (.tmp 12) = .bool true := hd 5 (by decide +kernel)
      have e5 : a.eval (.tmp 5) = .pointer (some ⟨(w.heap.size + 1), 0, none⟩) := hF 5 (by decide +kernel)
      exact doesL_val (wanted_of rfl (yielded_of rfl e12)) (ex_load_part 29 (.tmp 5) rfl (w.heap.size + 1) 0 e5 LB _ ((XB.out.below hB XB.out.lt).range) Try.underlying29 rfl (by rw [LB34.out]; exact infoCtC)) rfl
    · intro a w' hF hB hd
      have e12 : a.eval (.tmp 12) = .bool true := hd 5 (by decide +kernel)
      have e16 : a.eval (.tmp 16) = .agg LA.toArray := hd 9 (by decide +kernel)
      have e17 : a.eval (.tmp 17) = .agg LB.toArray := hd 10 (by decide +kernel)
      exact doesL_call (wanted_of rfl (yielded_of rfl e12)) (ex_call (vs := #[.agg LA.toArray, .agg LB.toArray]) rfl (by simp only [List.map_toArray, List.map_cons, List.map_nil, e16, e17]) (by go_simp)) ((HSR.out w' (VA.out.below hB) (VB.out.below hB)).mono fun e w3 hh => ⟨_, hh.1, rfl, hh.2⟩)
    · intro a w' hF hB hd
      have e12 : a.eval (.tmp 12) = .bool true := hd 5 (by decide +kernel)
      have e15 : a.eval (.tmp 15) = .bool EV := hd 8 (by decide +kernel)
      have e18 : a.eval (.tmp 18) = .bool EV := hd 11 (by decide +kernel)
      exact doesL_val (wanted_of rfl (yielded_of rfl e12)) (ex_binOp rfl e15 e18 (by go_simp) (by rw [run_eql_bool]; simp)) rfl
    · intro a w' hF hB hd
      have e12 : a.eval (.tmp 12) = .bool true := hd 5 (by decide +kernel)
      have e19 : a.eval (.tmp 19) = .bool true := hd 12 (by decide +kernel)
      exact doesL_val rfl (ex_pick rfl e12 (by simp [e19])) rfl
    · intro a w' hF hB hd
      have e20 : a.eval (.tmp 20) = .bool true := hd 13 (by decide +kernel)
      exact doesL_val rfl (ex_move rfl e20) rfl
    · intro a w' hF hB hd
      have e21 : a.eval (.tmp 21) = .bool true := hd 14 (by decide +kernel)
      have e5 : a.eval (.tmp 5) = .pointer (some ⟨(w.heap.size + 1), 0, none⟩) := hF 5 (by decide +kernel)
      exact doesL_val (wanted_of rfl (yielded_of rfl e21)) (ex_load_part 29 (.tmp 5) rfl (w.heap.size + 1) 0 e5 LB _ ((XB.out.below hB XB.out.lt).range) Try.underlying29 rfl (by rw [LB34.out]; exact infoCtC)) rfl
    · intro a w' hF hB hd
      have e21 : a.eval (.tmp 21) = .bool true := hd 14 (by decide +kernel)
      have e4 : a.eval (.tmp 4) = .pointer (some ⟨w.heap.size, 0, none⟩) := hF 4 (by decide +kernel)
      exact doesL_val (wanted_of rfl (yielded_of rfl e21)) (ex_load_part 29 (.tmp 4) rfl w.heap.size 0 e4 LA _ ((XA.out.below hB XA.out.lt).range) Try.underlying29 rfl (by rw [LA34.out]; exact infoCtC)) rfl
    · intro a w' hF hB hd
      have e21 : a.eval (.tmp 21) = .bool true := hd 14 (by decide +kernel)
      have e22 : a.eval (.tmp 22) = .agg LB.toArray := hd 15 (by decide +kernel)
      have e23 : a.eval (.tmp 23) = .agg LA.toArray := hd 16 (by decide +kernel)
      exact doesL_call (wanted_of rfl (yielded_of rfl e21)) (ex_call (vs := #[.agg LB.toArray, .agg LA.toArray]) rfl (by simp only [List.map_toArray, List.map_cons, List.map_nil, e22, e23]) (by go_simp)) ((HSQ.out w' (VB.out.below hB) (VA.out.below hB)).mono fun e w3 hh => ⟨_, hh.1, rfl, hh.2⟩)
    · intro a w' hF hB hd
      have e21 : a.eval (.tmp 21) = .bool true := hd 14 (by decide +kernel)
      have e4 : a.eval (.tmp 4) = .pointer (some ⟨w.heap.size, 0, none⟩) := hF 4 (by decide +kernel)
      exact doesL_val (wanted_of rfl (yielded_of rfl e21)) (ex_load_part 29 (.tmp 4) rfl w.heap.size 0 e4 LA _ ((XA.out.below hB XA.out.lt).range) Try.underlying29 rfl (by rw [LA34.out]; exact infoCtC)) rfl
    · intro a w' hF hB hd
      have e21 : a.eval (.tmp 21) = .bool true := hd 14 (by decide +kernel)
      have e5 : a.eval (.tmp 5) = .pointer (some ⟨(w.heap.size + 1), 0, none⟩) := hF 5 (by decide +kernel)
      exact doesL_val (wanted_of rfl (yielded_of rfl e21)) (ex_load_part 29 (.tmp 5) rfl (w.heap.size + 1) 0 e5 LB _ ((XB.out.below hB XB.out.lt).range) Try.underlying29 rfl (by rw [LB34.out]; exact infoCtC)) rfl
    · intro a w' hF hB hd
      have e21 : a.eval (.tmp 21) = .bool true := hd 14 (by decide +kernel)
      have e25 : a.eval (.tmp 25) = .agg LA.toArray := hd 18 (by decide +kernel)
      have e26 : a.eval (.tmp 26) = .agg LB.toArray := hd 19 (by decide +kernel)
      exact doesL_call (wanted_of rfl (yielded_of rfl e21)) (ex_call (vs := #[.agg LA.toArray, .agg LB.toArray]) rfl (by simp only [List.map_toArray, List.map_cons, List.map_nil, e25, e26]) (by go_simp)) ((HSR.out w' (VA.out.below hB) (VB.out.below hB)).mono fun e w3 hh => ⟨_, hh.1, rfl, hh.2⟩)
    · intro a w' hF hB hd
      have e21 : a.eval (.tmp 21) = .bool true := hd 14 (by decide +kernel)
      have e24 : a.eval (.tmp 24) = .bool EV := hd 17 (by decide +kernel)
      have e27 : a.eval (.tmp 27) = .bool EV := hd 20 (by decide +kernel)
      exact doesL_val (wanted_of rfl (yielded_of rfl e21)) (ex_binOp rfl e24 e27 (by go_simp) (by rw [run_eql_bool]; simp)) rfl
    · intro a w' hF hB hd
      have e21 : a.eval (.tmp 21) = .bool true := hd 14 (by decide +kernel)
      have e28 : a.eval (.tmp 28) = .bool true := hd 21 (by decide +kernel)
      exact doesL_val rfl (ex_pick rfl e21 (by simp [e28])) rfl
    · intro a w' hF hB hd
      have e29 : a.eval (.tmp 29) = .bool true := hd 22 (by decide +kernel)
      exact doesL_val rfl (ex_move rfl e29) rfl
    · intro a w' hF hB hd
      have e30 : a.eval (.tmp 30) = .bool true := hd 23 (by decide +kernel)
      have e4 : a.eval (.tmp 4) = .pointer (some ⟨w.heap.size, 0, none⟩) := hF 4 (by decide +kernel)
      exact doesL_val (wanted_of rfl (yielded_of rfl e30)) (ex_load_part 29 (.tmp 4) rfl w.heap.size 0 e4 LA _ ((XA.out.below hB XA.out.lt).range) Try.underlying29 rfl (by rw [LA34.out]; exact infoCtC)) rfl
    · intro a w' hF hB hd
      have e30 : a.eval (.tmp 30) = .bool true := hd 23 (by decide +kernel)
      have e4 : a.eval (.tmp 4) = .pointer (some ⟨w.heap.size, 0, none⟩) := hF 4 (by decide +kernel)
      exact doesL_val (wanted_of rfl (yielded_of rfl e30)) (ex_load_part 29 (.tmp 4) rfl w.heap.size 0 e4 LA _ ((XA.out.below hB XA.out.lt).range) Try.underlying29 rfl (by rw [LA34.out]; exact infoCtC)) rfl
    · intro a w' hF hB hd
      have e30 : a.eval (.tmp 30) = .bool true := hd 23 (by decide +kernel)
      have e32 : a.eval (.tmp 32) = .agg LA.toArray := hd 25 (by decide +kernel)
      exact doesL_call (wanted_of rfl (yielded_of rfl e30)) (ex_call (vs := #[.agg LA.toArray]) rfl (by simp only [List.map_toArray, List.map_cons, List.map_nil, e32]) (by go_simp)) ((HCP.out w' (VA.out.below hB)).mono fun e w3 hh => by obtain ⟨u, he, ho, hb⟩ := hh; exact ⟨_, he, ⟨u, rfl, owned_rd ho⟩, hb⟩)
    · intro a w' hF hB hd
      have e30 : a.eval (.tmp 30) = .bool true := hd 23 (by decide +kernel)
      have e31 : a.eval (.tmp 31) = .agg LA.toArray := hd 24 (by decide +kernel)
      obtain ⟨u, e33, hr⟩ : ∃ u, a.eval (.tmp 33) = .agg (CT.ctc c1 u).toArray ∧ RdT 34 w' u n1 CA := hd 26 (by decide +kernel)
      exact doesL_call (wanted_of rfl (yielded_of rfl e30)) (ex_call (vs := #[.agg LA.toArray, .agg (CT.ctc c1 u).toArray]) rfl (by simp only [List.map_toArray, List.map_cons, List.map_nil, e31, e33]) (by go_simp)) ((HSC.out u w' (VA.out.below hB) hr).mono fun e w3 hh => ⟨_, hh.1, rfl, hh.2⟩)
    · intro a w' hF hB hd
      have e30 : a.eval (.tmp 30) = .bool true := hd 23 (by decide +kernel)
      have e34 : a.eval (.tmp 34) = .bool true := hd 27 (by decide +kernel)
      exact doesL_val rfl (ex_pick rfl e30 (by simp [e34])) rfl
    · intro a w' hF hB hd
      have e35 : a.eval (.tmp 35) = .bool true := hd 28 (by decide +kernel)
      exact doesL_val rfl (ex_move rfl e35) rfl
    · intro a w' hF hB hd
      have e36 : a.eval (.tmp 36) = .bool true := hd 29 (by decide +kernel)
      exact doesL_call (wanted_of rfl (yielded_of rfl e36)) (ex_call (vs := #[]) rfl (by simp) (by go_simp)) ((HAW.out w').mono fun e w3 hh => ⟨_, hh.1, rfl, hh.2⟩)
    · intro a w' hF hB hd
      have e36 : a.eval (.tmp 36) = .bool true := hd 29 (by decide +kernel)
      have e37 : a.eval (.tmp 37) = .bool true := hd 30 (by decide +kernel)
      exact doesL_val rfl (ex_pick rfl e36 (by simp [e37])) rfl
  · intro vs w4 hB hv
    have e38 : vs 31 = .bool true := hv 31 (by decide)
    simp only [List.take_succ_cons, List.take_zero, List.drop_succ_cons, List.drop_zero, putOps, Act.put, List.setIfInBounds_toArray, List.set_cons_zero, List.set_cons_succ, e38]
    have W4 := Lib.hid (W2.out.on hB)
    clear hv e38 hB
    go_wp2_with fail
    go_ret
    exact ⟨rfl, W4.out⟩
set_option linter.unusedVariables false in
set_option maxHeartbeats 400000 in
set_option maxRecDepth 100000 in
theorem lifted (os : Os) (started : os.Started) (H : Type) (enc : TypeId × Value → H) :
    ReturnsInHanded {} Try.checked os 5 .any (Rows.catalogNamesSpec.pre6 enc Try.prog Try.f5 Rows.catalogNamesRow.domain false) (Rows.catalogNamesSpec.post enc Try.prog Try.f5 false true false false) := by
  refine returnsInHanded_of_change_sized (C := Try.checked) own started (by kernel_rfl) Try.func5
    (ChangeSpec.witness6 (enc := enc) (C := Try.checked) false ⟨#[], #[.string ByteArray.empty, .agg (CT.ctc CT.zero (.slice none 0 0)).toArray, .agg (CT.ctc CT.zero (.slice none 0 0)).toArray], []⟩ 8 (by kernel_rfl) (by kernel_rfl) (by kernel_rfl) (by kernel_rfl)) ?_
  intro W base args ds gs before hval0 hW _ hsz0 _
  have hsz : (DataW.weightsEach Try.prog (Try.f5.params.toList ++ Rows.catalogNamesSpec.plain.varTypes Try.prog) (ds ++ gs)).all (· ≤ reachBytes) = true := hsz0
  clear hsz0
  have hval : ∀ (j : Nat) t v, Try.f5.params[j]? = some t → args[j]? = some v → Value.okWide Try.prog W .any base t v := hval0
  have hW' := hW
  obtain ⟨p, q, hA0, hV, rfl, _, _⟩ := hW
  have hA : DataW.TrodAll enc Try.prog W 0 (fun _ => true) true Try.f5.params.toList args.toList ds p := hA0
  rw [Try.params5] at hA hval hsz
  obtain ⟨v0, vs0, d0, ds0, p0, q0, hargs, rfl, rfl, g0, r0⟩ := trodAll_cons hA
  obtain ⟨v1, vs1, d1, ds1, p1, q1, rfl, rfl, rfl, g1, r1⟩ := trodAll_cons r0
  obtain ⟨v2, vs2, d2, ds2, p2, q2, rfl, rfl, rfl, g2, r2⟩ := trodAll_cons r1
  obtain ⟨rfl, rfl, rfl⟩ := trodAll_nil r2
  obtain rfl : args = #[v0, v1, v2] := by cases args; simp_all
  obtain ⟨rfl, rfl⟩ := trodVars_none hV
  obtain ⟨a0, rfl, rfl, rfl, w0⟩ := Go.ChangeMaps.open_string Try.underlying9 (hval 0 9 v0 rfl rfl) g0
  have k0 : a0.size ≤ 140737488351232 := by have := sized_string hsz (j := 0) (t := 9) rfl rfl; simpa [reachBytes] using this
  obtain ⟨cc1, uu1, rfl, hh1, pp1, kk1⟩ := open_cat (hval 1 29 v1 rfl rfl) g1 (fun n hn => by simpa using List.all_eq_true.1 hsz n (DataW.weights_mem_each (j := 1) (t := 29) rfl rfl n hn))
  obtain ⟨cc2, uu2, rfl, hh2, pp2, kk2⟩ := open_cat (hval 2 29 v2 rfl rfl) g2 (fun n hn => by simpa using List.all_eq_true.1 hsz n (DataW.weights_mem_each (j := 2) (t := 29) rfl rfl n hn))
  clear hA0 hval0
  have hlt := hW'.lt
  refine (walk W a0 w0 k0 cc1 uu1 hh1 pp1 kk1 cc2 uu2 hh2 pp2 kk2).mono fun e W' ⟨he, hb⟩ => ?_
  subst he
  have hargs : DataW.TrodAll enc Try.prog W' 0 (fun b => decide (b < W.heap.size)) true _ _ _ _ := (trodAll_cons_mk (Go.ChangeMaps.shut_string Try.underlying9 w0) (trodAll_cons_mk (Below.trod laidOut (by kernel_rfl) (of_decide_eq_true (by kernel_rfl)) g1 hb (fun x hx => hlt x (by simp [hx]))) (trodAll_cons_mk (Below.trod laidOut (by kernel_rfl) (of_decide_eq_true (by kernel_rfl)) g2 hb (fun x hx => hlt x (by simp [hx]))) trodAll_mk0)))
  simp only [List.append_nil] at hW' hargs
  exact ⟨_, rfl, post_law hW' (trodAll_cons_mk (shut_bool Try.underlying4 _) trodAll_mk0) hargs rfl hb⟩
theorem over : Rows.catalogNamesRow.holds Try.pinned (OpenSpec.ofChange Rows.catalogNamesSpec) :=
  OpenClaim.holds_of_wide 5 Try.f5 rfl rfl rfl rfl rfl rfl rfl ⟨rfl, rfl, rfl, rfl, rfl⟩ rfl rfl rfl rfl rfl (by kernel_rfl) Try.func5 (by kernel_rfl)
    (of_decide_eq_true (by kernel_rfl)) (by unfold Func.isWrapper; first | (rw [if_pos (by decide +kernel)]; kernel_rfl) | (rw [if_neg (by decide +kernel)]; exact ⟨rfl, rfl⟩))
    (fun os started H enc _ => lifted os started H enc)

/-- The given statement. -/
theorem proved : Rows.CatalogNamesSaid := over
end Go.Proofs.Ytkagapgganoomaa.catalogNames
