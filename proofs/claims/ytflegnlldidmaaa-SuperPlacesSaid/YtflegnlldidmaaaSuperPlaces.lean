/- SuperPlaces: where everything stands, and how much there is room for, is told as the document says; and the law's closed case holds. No condition. -/
import Derived.Test.YtflegnlldidmaaaRows
import Derived.Test.YtflegnlldidmaaaSuAwake
import Derived.Test.YtflegnlldidmaaaSuB
import Derived.Test.YtflegnlldidmaaaGeoArg
import Derived.Test.YtflegnlldidmaaaMem
import Derived.WalkKit
import Derived.ProofKit
import Derived.OpenShut
import Derived.SizedLaws
import Derived.Carry
import Derived.Deep.DeepHandedRow
import Derived.Deep.DeepWitnessRowRef
namespace Go.Proofs.Ytflegnlldidmaaa.superPlaces
open Go.ChangeShapes Go.WideShapes Go.ChangeAt Go.RowKit
open SU
theorem own : ownKnob Try.prog.godebug = none := by kernel_rfl
theorem cells33 : Try.prog.cellsOf 33 = 2 := by kernel_rfl
theorem cells3 : Try.prog.cellsOf 3 = 1 := by kernel_rfl
set_option linter.unusedVariables false in
set_option maxHeartbeats 4000000 in
set_option maxRecDepth 100000 in
theorem walk (w : World) (a0 b0 : Int) (w0 : (Lit.int .i64 a0).wf = true) (x0 : (Lit.int .i64 b0).wf = true) (a1 : Int) (w1 : (Lit.int .u32 a1).wf = true) (l2 : List Int) (h2 : IntRow .i64 2 l2) :
    Calls Try.prog 4 #[.agg #[.int .i64 a0, .int .i64 b0], .int .u32 a1, .agg (rowI .i64 l2).toArray] w fun e w' => e = .returned (.bool true) ∧ Below w.heap.size w w' := by
  obtain ⟨i0, i1, rfl, _, wi1⟩ := h2.two
  have hw1 : 0 ≤ a1 ∧ a1 ≤ 4294967295 := by simpa [Lit.wf, IntKind.min, IntKind.max, IntKind.signed, IntKind.bits] using w1
  obtain ⟨n, hn1⟩ : ∃ n : Nat, a1 = (n : Int) := ⟨a1.toNat, by omega⟩
  subst hn1
  have hn : n < 4294967296 := by omega
  have XG0 := Lib.hid ((Blk.new w 24 [.int .i64 a0, .int .i64 b0] _ rfl).alloc (.cells #[.int .i64 i0, .int .i64 i1] 33))
  have XI0 := Lib.hid (Blk.new (w.alloc (.cells #[.int .i64 a0, .int .i64 b0] 24)) 33 [.int .i64 i0, .int .i64 i1] (w.heap.size + 1) (by simp))
  have WB0 := Lib.hid (((Below.refl w.heap.size w).alloc (Nat.le_refl _) (.cells #[.int .i64 a0, .int .i64 b0] 24)).alloc (by simp) (.cells #[.int .i64 i0, .int .i64 i1] 33))
  clear hw1 h2
  show Calls Try.prog 4 #[.agg #[.int .i64 a0, .int .i64 b0], .int .u32 (n : Int), .agg #[.int .i64 i0, .int .i64 i1]] w _
  go_enter Try.func4, Try.ntmps4
  go_upto_region 1 with (fail)
  obtain ⟨wz, hwz⟩ : ∃ x, x = (w.alloc (.cells #[.int .i64 a0, .int .i64 b0] 24)).alloc (.cells #[.int .i64 i0, .int .i64 i1] 33) := ⟨_, rfl⟩
  have XG := Lib.hid (show Blk wz w.heap.size 24 [.int .i64 a0, .int .i64 b0] by rw [hwz]; exact XG0.out)
  have XI := Lib.hid (show Blk wz (w.heap.size + 1) 33 [.int .i64 i0, .int .i64 i1] by rw [hwz]; exact XI0.out)
  have WB := Lib.hid (show Below w.heap.size w wz by rw [hwz]; exact WB0.out)
  rw [← hwz]
  clear hwz XG0 XI0 WB0
  refine wp_region_g (by kernel_rfl) 40 (by decide) (by kernel_rfl) (by kernel_rfl) (by kernel_rfl) (wz.heap.size) (Nat.le_refl _) [.val (.pointer (some ⟨w.heap.size + 1, 0, none⟩)), .val (.int .i64 i0), .val (.int .i64 (pair 1 2 i0)), .val (.pointer (some ⟨w.heap.size + 1, 0, none⟩)), .val (.int .i64 i0), .val (.int .i64 (pair 1 2 i0)), .val (.bool true), .val (.bool true), .val (.pointer (some ⟨w.heap.size + 1, 0, none⟩)), .val (.int .i64 i0), .val (.int .i64 (pair 5 1 i0)), .val (.pointer (some ⟨w.heap.size + 1, 0, none⟩)), .val (.int .i64 i0), .val (.int .i64 (pair 5 1 i0)), .val (.bool true), .val (.bool true), .val (.bool true), .val (.agg #[.int .i64 a0, .int .i64 b0]), .val (.int .u32 (n : Int)), .val (.int .i64 (place a0 b0 n)), .val (.agg #[.int .i64 a0, .int .i64 b0]), .val (.int .u32 (n : Int)), .val (.int .i64 (place a0 b0 n)), .val (.bool true), .val (.bool true), .val (.bool true), .val (.agg #[.int .i64 a0, .int .i64 b0]), .val (.pointer (some ⟨w.heap.size + 1, 1, none⟩)), .val (.int .i64 i1), .val (.int .i64 (cap a0 b0 i1)), .val (.agg #[.int .i64 a0, .int .i64 b0]), .val (.pointer (some ⟨w.heap.size + 1, 1, none⟩)), .val (.int .i64 i1), .val (.int .i64 (cap a0 b0 i1)), .val (.bool true), .val (.bool true), .val (.bool true), .val (.bool true), .val (.bool true), .val (.bool true)] (fun _ => 40) ?_ ?_
  · refine ⟨?_, ?_, ?_, ?_, ?_, ?_, ?_, ?_, ?_, ?_, ?_, ?_, ?_, ?_, ?_, ?_, ?_, ?_, ?_, ?_, ?_, ?_, ?_, ?_, ?_, ?_, ?_, ?_, ?_, ?_, ?_, ?_, ?_, ?_, ?_, ?_, ?_, ?_, ?_, ?_, trivial⟩
    · intro a w' hF hB hd
      have e5 : a.eval (.tmp 5) = .pointer (some ⟨w.heap.size + 1, 0, none⟩) := hF 5 (by decide +kernel)
      exact doesG_val rfl (by unfold execOp; simp only [e5]; go_simp) rfl rfl
    · intro a w' hF hB hd
      have e7 : a.eval (.tmp 7) = .pointer (some ⟨w.heap.size + 1, 0, none⟩) := hd 0 (by decide +kernel) (.inr (by decide))
      have c0 := (XI.out.below hB XI.out.lt).cell 0 _ rfl
      exact doesG_val rfl (by unfold execOp; simp only [e7]; go_simp) rfl rfl
    · intro a w' hF hB hd
      have e8 : a.eval (.tmp 8) = .int .i64 i0 := hd 1 (by decide +kernel) (.inr (by decide))
      exact doesG_call rfl (ex_call (vs := #[.int .i64 i0]) rfl (by simp only [List.map_toArray, List.map_cons, List.map_nil, e8]) (by go_simp)) rfl ((suarea_any i0 w').mono fun e w2 hh => ⟨_, hh.1, rfl, hh.2⟩)
    · intro a w' hF hB hd
      have e5 : a.eval (.tmp 5) = .pointer (some ⟨w.heap.size + 1, 0, none⟩) := hF 5 (by decide +kernel)
      exact doesG_val rfl (by unfold execOp; simp only [e5]; go_simp) rfl rfl
    · intro a w' hF hB hd
      have e10 : a.eval (.tmp 10) = .pointer (some ⟨w.heap.size + 1, 0, none⟩) := hd 3 (by decide +kernel) (.inr (by decide))
      have c0 := (XI.out.below hB XI.out.lt).cell 0 _ rfl
      exact doesG_val rfl (by unfold execOp; simp only [e10]; go_simp) rfl rfl
    · intro a w' hF hB hd
      have e11 : a.eval (.tmp 11) = .int .i64 i0 := hd 4 (by decide +kernel) (.inr (by decide))
      exact doesG_call rfl (ex_call (vs := #[.int .i64 i0]) rfl (by simp only [List.map_toArray, List.map_cons, List.map_nil, e11]) (by go_simp)) rfl ((rsuarea_any i0 w').mono fun e w2 hh => ⟨_, hh.1, rfl, hh.2⟩)
    · intro a w' hF hB hd
      have e9 : a.eval (.tmp 9) = .int .i64 (pair 1 2 i0) := hd 2 (by decide +kernel) (.inr (by decide))
      have e12 : a.eval (.tmp 12) = .int .i64 (pair 1 2 i0) := hd 5 (by decide +kernel) (.inr (by decide))
      exact doesG_val rfl (ex_binOp rfl e9 e12 (by go_simp) (by go_simp)) rfl rfl
    · intro a w' hF hB hd
      have e13 : a.eval (.tmp 13) = .bool true := hd 6 (by decide +kernel) (.inr (by decide))
      exact doesG_val rfl (ex_move rfl e13) rfl rfl
    · intro a w' hF hB hd
      have e14 : a.eval (.tmp 14) = .bool true := hd 7 (by decide +kernel) (.inr (by decide))
      have e5 : a.eval (.tmp 5) = .pointer (some ⟨w.heap.size + 1, 0, none⟩) := hF 5 (by decide +kernel)
      exact doesG_val (wanted_of rfl (yielded_of rfl e14)) (by unfold execOp; simp only [e5]; go_simp) rfl rfl
    · intro a w' hF hB hd
      have e14 : a.eval (.tmp 14) = .bool true := hd 7 (by decide +kernel) (.inr (by decide))
      have e15 : a.eval (.tmp 15) = .pointer (some ⟨w.heap.size + 1, 0, none⟩) := hd 8 (by decide +kernel) (.inr (by decide))
      have c0 := (XI.out.below hB XI.out.lt).cell 0 _ rfl
      exact doesG_val (wanted_of rfl (yielded_of rfl e14)) (by unfold execOp; simp only [e15]; go_simp) rfl rfl
    · intro a w' hF hB hd
      have e14 : a.eval (.tmp 14) = .bool true := hd 7 (by decide +kernel) (.inr (by decide))
      have e16 : a.eval (.tmp 16) = .int .i64 i0 := hd 9 (by decide +kernel) (.inr (by decide))
      exact doesG_call (wanted_of rfl (yielded_of rfl e14)) (ex_call (vs := #[.int .i64 i0]) rfl (by simp only [List.map_toArray, List.map_cons, List.map_nil, e16]) (by go_simp)) rfl ((suroot_any i0 w').mono fun e w2 hh => ⟨_, hh.1, rfl, hh.2⟩)
    · intro a w' hF hB hd
      have e14 : a.eval (.tmp 14) = .bool true := hd 7 (by decide +kernel) (.inr (by decide))
      have e5 : a.eval (.tmp 5) = .pointer (some ⟨w.heap.size + 1, 0, none⟩) := hF 5 (by decide +kernel)
      exact doesG_val (wanted_of rfl (yielded_of rfl e14)) (by unfold execOp; simp only [e5]; go_simp) rfl rfl
    · intro a w' hF hB hd
      have e14 : a.eval (.tmp 14) = .bool true := hd 7 (by decide +kernel) (.inr (by decide))
      have e18 : a.eval (.tmp 18) = .pointer (some ⟨w.heap.size + 1, 0, none⟩) := hd 11 (by decide +kernel) (.inr (by decide))
      have c0 := (XI.out.below hB XI.out.lt).cell 0 _ rfl
      exact doesG_val (wanted_of rfl (yielded_of rfl e14)) (by unfold execOp; simp only [e18]; go_simp) rfl rfl
    · intro a w' hF hB hd
      have e14 : a.eval (.tmp 14) = .bool true := hd 7 (by decide +kernel) (.inr (by decide))
      have e19 : a.eval (.tmp 19) = .int .i64 i0 := hd 12 (by decide +kernel) (.inr (by decide))
      exact doesG_call (wanted_of rfl (yielded_of rfl e14)) (ex_call (vs := #[.int .i64 i0]) rfl (by simp only [List.map_toArray, List.map_cons, List.map_nil, e19]) (by go_simp)) rfl ((rsuroot_any i0 w').mono fun e w2 hh => ⟨_, hh.1, rfl, hh.2⟩)
    · intro a w' hF hB hd
      have e14 : a.eval (.tmp 14) = .bool true := hd 7 (by decide +kernel) (.inr (by decide))
      have e17 : a.eval (.tmp 17) = .int .i64 (pair 5 1 i0) := hd 10 (by decide +kernel) (.inr (by decide))
      have e20 : a.eval (.tmp 20) = .int .i64 (pair 5 1 i0) := hd 13 (by decide +kernel) (.inr (by decide))
      exact doesG_val (wanted_of rfl (yielded_of rfl e14)) (ex_binOp rfl e17 e20 (by go_simp) (by go_simp)) rfl rfl
    · intro a w' hF hB hd
      have e14 : a.eval (.tmp 14) = .bool true := hd 7 (by decide +kernel) (.inr (by decide))
      have e21 : a.eval (.tmp 21) = .bool true := hd 14 (by decide +kernel) (.inr (by decide))
      exact doesG_val rfl (ex_pick rfl e14 (by simp [e21])) rfl rfl
    · intro a w' hF hB hd
      have e22 : a.eval (.tmp 22) = .bool true := hd 15 (by decide +kernel) (.inr (by decide))
      exact doesG_val rfl (ex_move rfl e22) rfl rfl
    · intro a w' hF hB hd
      have e23 : a.eval (.tmp 23) = .bool true := hd 16 (by decide +kernel) (.inr (by decide))
      have e3 : a.eval (.tmp 3) = .pointer (some ⟨w.heap.size, 0, none⟩) := hF 3 (by decide +kernel)
      exact doesG_val (wanted_of rfl (yielded_of rfl e23)) (ex_geo rfl e3 (XG.out.below hB XG.out.lt)) rfl rfl
    · intro a w' hF hB hd
      have e23 : a.eval (.tmp 23) = .bool true := hd 16 (by decide +kernel) (.inr (by decide))
      have e1 : a.eval (.tmp 1) = .int .u32 (n : Int) := hF 1 (by decide +kernel)
      exact doesG_val (wanted_of rfl (yielded_of rfl e23)) (ex_move rfl e1) rfl rfl
    · intro a w' hF hB hd
      have e23 : a.eval (.tmp 23) = .bool true := hd 16 (by decide +kernel) (.inr (by decide))
      have e24 : a.eval (.tmp 24) = .agg #[.int .i64 a0, .int .i64 b0] := hd 17 (by decide +kernel) (.inr (by decide))
      have e25 : a.eval (.tmp 25) = .int .u32 (n : Int) := hd 18 (by decide +kernel) (.inr (by decide))
      exact doesG_call (wanted_of rfl (yielded_of rfl e23)) (ex_call (vs := #[.agg #[.int .i64 a0, .int .i64 b0], .int .u32 (n : Int)]) rfl (by simp only [List.map_toArray, List.map_cons, List.map_nil, e24, e25]) (by go_simp)) rfl ((suplace_any a0 b0 n hn w').mono fun e w2 hh => ⟨_, hh.1, rfl, hh.2⟩)
    · intro a w' hF hB hd
      have e23 : a.eval (.tmp 23) = .bool true := hd 16 (by decide +kernel) (.inr (by decide))
      have e3 : a.eval (.tmp 3) = .pointer (some ⟨w.heap.size, 0, none⟩) := hF 3 (by decide +kernel)
      exact doesG_val (wanted_of rfl (yielded_of rfl e23)) (ex_geo rfl e3 (XG.out.below hB XG.out.lt)) rfl rfl
    · intro a w' hF hB hd
      have e23 : a.eval (.tmp 23) = .bool true := hd 16 (by decide +kernel) (.inr (by decide))
      have e1 : a.eval (.tmp 1) = .int .u32 (n : Int) := hF 1 (by decide +kernel)
      exact doesG_val (wanted_of rfl (yielded_of rfl e23)) (ex_move rfl e1) rfl rfl
    · intro a w' hF hB hd
      have e23 : a.eval (.tmp 23) = .bool true := hd 16 (by decide +kernel) (.inr (by decide))
      have e27 : a.eval (.tmp 27) = .agg #[.int .i64 a0, .int .i64 b0] := hd 20 (by decide +kernel) (.inr (by decide))
      have e28 : a.eval (.tmp 28) = .int .u32 (n : Int) := hd 21 (by decide +kernel) (.inr (by decide))
      exact doesG_call (wanted_of rfl (yielded_of rfl e23)) (ex_call (vs := #[.agg #[.int .i64 a0, .int .i64 b0], .int .u32 (n : Int)]) rfl (by simp only [List.map_toArray, List.map_cons, List.map_nil, e27, e28]) (by go_simp)) rfl ((rsuplace_any a0 b0 n hn w').mono fun e w2 hh => ⟨_, hh.1, rfl, hh.2⟩)
    · intro a w' hF hB hd
      have e23 : a.eval (.tmp 23) = .bool true := hd 16 (by decide +kernel) (.inr (by decide))
      have e26 : a.eval (.tmp 26) = .int .i64 (place a0 b0 n) := hd 19 (by decide +kernel) (.inr (by decide))
      have e29 : a.eval (.tmp 29) = .int .i64 (place a0 b0 n) := hd 22 (by decide +kernel) (.inr (by decide))
      exact doesG_val (wanted_of rfl (yielded_of rfl e23)) (ex_binOp rfl e26 e29 (by go_simp) (by go_simp)) rfl rfl
    · intro a w' hF hB hd
      have e23 : a.eval (.tmp 23) = .bool true := hd 16 (by decide +kernel) (.inr (by decide))
      have e30 : a.eval (.tmp 30) = .bool true := hd 23 (by decide +kernel) (.inr (by decide))
      exact doesG_val rfl (ex_pick rfl e23 (by simp [e30])) rfl rfl
    · intro a w' hF hB hd
      have e31 : a.eval (.tmp 31) = .bool true := hd 24 (by decide +kernel) (.inr (by decide))
      exact doesG_val rfl (ex_move rfl e31) rfl rfl
    · intro a w' hF hB hd
      have e32 : a.eval (.tmp 32) = .bool true := hd 25 (by decide +kernel) (.inr (by decide))
      have e3 : a.eval (.tmp 3) = .pointer (some ⟨w.heap.size, 0, none⟩) := hF 3 (by decide +kernel)
      exact doesG_val (wanted_of rfl (yielded_of rfl e32)) (ex_geo rfl e3 (XG.out.below hB XG.out.lt)) rfl rfl
    · intro a w' hF hB hd
      have e32 : a.eval (.tmp 32) = .bool true := hd 25 (by decide +kernel) (.inr (by decide))
      have e5 : a.eval (.tmp 5) = .pointer (some ⟨w.heap.size + 1, 0, none⟩) := hF 5 (by decide +kernel)
      exact doesG_val (wanted_of rfl (yielded_of rfl e32)) (by unfold execOp; simp only [e5]; go_simp) rfl rfl
    · intro a w' hF hB hd
      have e32 : a.eval (.tmp 32) = .bool true := hd 25 (by decide +kernel) (.inr (by decide))
      have e34 : a.eval (.tmp 34) = .pointer (some ⟨w.heap.size + 1, 1, none⟩) := hd 27 (by decide +kernel) (.inr (by decide))
      have c0 := (XI.out.below hB XI.out.lt).cell 1 _ rfl
      exact doesG_val (wanted_of rfl (yielded_of rfl e32)) (by unfold execOp; simp only [e34]; go_simp) rfl rfl
    · intro a w' hF hB hd
      have e32 : a.eval (.tmp 32) = .bool true := hd 25 (by decide +kernel) (.inr (by decide))
      have e33 : a.eval (.tmp 33) = .agg #[.int .i64 a0, .int .i64 b0] := hd 26 (by decide +kernel) (.inr (by decide))
      have e35 : a.eval (.tmp 35) = .int .i64 i1 := hd 28 (by decide +kernel) (.inr (by decide))
      exact doesG_call (wanted_of rfl (yielded_of rfl e32)) (ex_call (vs := #[.agg #[.int .i64 a0, .int .i64 b0], .int .i64 i1]) rfl (by simp only [List.map_toArray, List.map_cons, List.map_nil, e33, e35]) (by go_simp)) rfl ((sucap_any a0 b0 i1 wi1 w').mono fun e w2 hh => ⟨_, hh.1, rfl, hh.2⟩)
    · intro a w' hF hB hd
      have e32 : a.eval (.tmp 32) = .bool true := hd 25 (by decide +kernel) (.inr (by decide))
      have e3 : a.eval (.tmp 3) = .pointer (some ⟨w.heap.size, 0, none⟩) := hF 3 (by decide +kernel)
      exact doesG_val (wanted_of rfl (yielded_of rfl e32)) (ex_geo rfl e3 (XG.out.below hB XG.out.lt)) rfl rfl
    · intro a w' hF hB hd
      have e32 : a.eval (.tmp 32) = .bool true := hd 25 (by decide +kernel) (.inr (by decide))
      have e5 : a.eval (.tmp 5) = .pointer (some ⟨w.heap.size + 1, 0, none⟩) := hF 5 (by decide +kernel)
      exact doesG_val (wanted_of rfl (yielded_of rfl e32)) (by unfold execOp; simp only [e5]; go_simp) rfl rfl
    · intro a w' hF hB hd
      have e32 : a.eval (.tmp 32) = .bool true := hd 25 (by decide +kernel) (.inr (by decide))
      have e38 : a.eval (.tmp 38) = .pointer (some ⟨w.heap.size + 1, 1, none⟩) := hd 31 (by decide +kernel) (.inr (by decide))
      have c0 := (XI.out.below hB XI.out.lt).cell 1 _ rfl
      exact doesG_val (wanted_of rfl (yielded_of rfl e32)) (by unfold execOp; simp only [e38]; go_simp) rfl rfl
    · intro a w' hF hB hd
      have e32 : a.eval (.tmp 32) = .bool true := hd 25 (by decide +kernel) (.inr (by decide))
      have e37 : a.eval (.tmp 37) = .agg #[.int .i64 a0, .int .i64 b0] := hd 30 (by decide +kernel) (.inr (by decide))
      have e39 : a.eval (.tmp 39) = .int .i64 i1 := hd 32 (by decide +kernel) (.inr (by decide))
      exact doesG_call (wanted_of rfl (yielded_of rfl e32)) (ex_call (vs := #[.agg #[.int .i64 a0, .int .i64 b0], .int .i64 i1]) rfl (by simp only [List.map_toArray, List.map_cons, List.map_nil, e37, e39]) (by go_simp)) rfl ((rsucap_any a0 b0 i1 wi1 w').mono fun e w2 hh => ⟨_, hh.1, rfl, hh.2⟩)
    · intro a w' hF hB hd
      have e32 : a.eval (.tmp 32) = .bool true := hd 25 (by decide +kernel) (.inr (by decide))
      have e36 : a.eval (.tmp 36) = .int .i64 (cap a0 b0 i1) := hd 29 (by decide +kernel) (.inr (by decide))
      have e40 : a.eval (.tmp 40) = .int .i64 (cap a0 b0 i1) := hd 33 (by decide +kernel) (.inr (by decide))
      exact doesG_val (wanted_of rfl (yielded_of rfl e32)) (ex_binOp rfl e36 e40 (by go_simp) (by go_simp)) rfl rfl
    · intro a w' hF hB hd
      have e32 : a.eval (.tmp 32) = .bool true := hd 25 (by decide +kernel) (.inr (by decide))
      have e41 : a.eval (.tmp 41) = .bool true := hd 34 (by decide +kernel) (.inr (by decide))
      exact doesG_val rfl (ex_pick rfl e32 (by simp [e41])) rfl rfl
    · intro a w' hF hB hd
      have e42 : a.eval (.tmp 42) = .bool true := hd 35 (by decide +kernel) (.inr (by decide))
      exact doesG_val rfl (ex_move rfl e42) rfl rfl
    · intro a w' hF hB hd
      have e43 : a.eval (.tmp 43) = .bool true := hd 36 (by decide +kernel) (.inr (by decide))
      exact doesG_call (wanted_of rfl (yielded_of rfl e43)) (ex_call (vs := #[]) rfl (by simp) (by go_simp)) rfl ((suawake_any w').mono fun e w2 hh => ⟨_, hh.1, rfl, hh.2⟩)
    · intro a w' hF hB hd
      have e43 : a.eval (.tmp 43) = .bool true := hd 36 (by decide +kernel) (.inr (by decide))
      have e44 : a.eval (.tmp 44) = .bool true := hd 37 (by decide +kernel) (.inr (by decide))
      exact doesG_val rfl (ex_pick rfl e43 (by simp [e44])) rfl rfl
    · intro a w' hF hB hd
      have e45 : a.eval (.tmp 45) = .bool true := hd 38 (by decide +kernel) (.inr (by decide))
      exact doesG_val rfl (ex_assign rfl e45) rfl rfl
  · intro vs w2 hb hv hap
    have e2 : vs 39 = .bool true := hv 39 (by decide) (by decide)
    simp only [List.take_succ_cons, List.take_zero, List.drop_succ_cons, List.drop_zero, putOps, Act.put, List.setIfInBounds_toArray, List.set_cons_zero, List.set_cons_succ, e2]
    have HB := Lib.hid (WB.out.on hb)
    clear hv hap e2 hb
    go_wp2_with fail
    go_ret
    exact ⟨rfl, HB.out⟩
set_option linter.unusedVariables false in
set_option maxHeartbeats 400000 in
set_option maxRecDepth 100000 in
theorem lifted (os : Os) (started : os.Started) (H : Type) (enc : TypeId × Value → H) :
    ReturnsInHanded {} Try.checked os 4 .any (Rows.superPlacesSpec.pre6 enc Try.prog Try.f4 Rows.superPlacesRow.domain false) (Rows.superPlacesSpec.post enc Try.prog Try.f4 false true false false) := by
  refine returnsInHanded_of_change_sized (C := Try.checked) own started (by kernel_rfl) Try.func4
    (ChangeSpec.witness6 (enc := enc) (C := Try.checked) false ⟨#[], #[.agg #[.int .i64 0, .int .i64 0], .int .u32 0, .agg (rowI .i64 (List.replicate 2 0)).toArray], []⟩ 8 (by kernel_rfl) (by kernel_rfl) (by kernel_rfl) (by kernel_rfl)) ?_
  intro W base args ds gs before hval0 hW _ hsz0 _
  have hsz : (DataW.weightsEach Try.prog (Try.f4.params.toList ++ Rows.superPlacesSpec.plain.varTypes Try.prog) (ds ++ gs)).all (· ≤ reachBytes) = true := hsz0
  clear hsz0
  have hval : ∀ (j : Nat) t v, Try.f4.params[j]? = some t → args[j]? = some v → Value.okWide Try.prog W .any base t v := hval0
  have hW' := hW
  obtain ⟨p, q, hA0, hV, rfl, _, _⟩ := hW
  have hA : DataW.TrodAll enc Try.prog W 0 (fun _ => true) true Try.f4.params.toList args.toList ds p := hA0
  rw [Try.params4] at hA hval hsz
  obtain ⟨v0, vs0, d0, ds0, p0, q0, hargs, rfl, rfl, g0, r0⟩ := trodAll_cons hA
  obtain ⟨v1, vs1, d1, ds1, p1, q1, rfl, rfl, rfl, g1, r1⟩ := trodAll_cons r0
  obtain ⟨v2, vs2, d2, ds2, p2, q2, rfl, rfl, rfl, g2, r2⟩ := trodAll_cons r1
  obtain ⟨rfl, rfl, rfl⟩ := trodAll_nil r2
  obtain rfl : args = #[v0, v1, v2] := by cases args; simp_all
  obtain ⟨rfl, rfl⟩ := trodVars_none hV
  obtain ⟨a0, b0, w0, x0, rfl, rfl, rfl⟩ := open_geo (hval 0 24 v0 rfl rfl) g0
  obtain ⟨a1, rfl, rfl, rfl, w1⟩ := open_int Try.underlying32 (hval 1 32 v1 rfl rfl) g1
  obtain ⟨l2, h2, rfl, rfl, rfl⟩ := open_arr Try.underlying33 Try.underlying3 cells3 (hval 2 33 v2 rfl rfl) cells33 g2
  clear hA0 hval0
  have hlt := hW'.lt
  refine (walk W a0 b0 w0 x0 a1 w1 l2 h2).mono fun e W' ⟨he, hb⟩ => ?_
  subst he
  have hargs : DataW.TrodAll enc Try.prog W' 0 (fun b => decide (b < W.heap.size)) true _ _ _ _ := (trodAll_cons_mk (shut_geo w0 x0) (trodAll_cons_mk (shut_int Try.underlying32 w1) (trodAll_cons_mk (shut_arr Try.underlying33 Try.underlying3 cells3 cells33 h2) trodAll_mk0)))
  simp only [List.append_nil] at hW' hargs
  exact ⟨_, rfl, post_law hW' (trodAll_cons_mk (shut_bool Try.underlying4 _) trodAll_mk0) hargs rfl hb⟩
theorem over : Rows.superPlacesRow.holds Try.pinned (OpenSpec.ofChange Rows.superPlacesSpec) :=
  OpenClaim.holds_of_wide 4 Try.f4 rfl rfl rfl rfl rfl rfl rfl ⟨rfl, rfl, rfl, rfl, rfl⟩ rfl rfl rfl rfl rfl (by kernel_rfl) Try.func4 (by kernel_rfl)
    (of_decide_eq_true (by kernel_rfl)) (by unfold Func.isWrapper; first | (rw [if_pos (by decide +kernel)]; kernel_rfl) | (rw [if_neg (by decide +kernel)]; exact ⟨rfl, rfl⟩))
    (fun os started H enc _ => lifted os started H enc)

/-- The given statement. -/
theorem proved : Rows.SuperPlacesSaid := over
end Go.Proofs.Ytflegnlldidmaaa.superPlaces
