/- CellRaises: any calls leave the value that the document says, with the answers that it says, and the count of what was raised. No condition. -/
import Derived.Test.YtglhlhflbomkoaaRows
import Derived.Test.YtglhlhflbomkoaaCellR
import Derived.Test.YtglhlhflbomkoaaU64
import Derived.Test.YtglhlhflbomkoaaInts
import Derived.Test.YtglhlhflbomkoaaFactsT
import Derived.Test.YtglhlhflbomkoaaOwnAt
import Derived.WalkKit
import Derived.ProofKit
import Derived.OpenShut
import Derived.SizedLaws
import Derived.Carry
import Derived.Deep.DeepHandedRow
import Derived.Deep.DeepWitnessRowRef
namespace Go.Proofs.Ytglhlhflbomkoaa.cellRaises
open Go.ChangeShapes Go.WideShapes Go.ChangeAt Go.RowKit

theorem own : ownKnob Try.prog.godebug = none := by kernel_rfl
theorem cells22 : Try.prog.cellsOf 22 = 1 := by kernel_rfl
set_option linter.unusedVariables false in
set_option maxHeartbeats 8000000 in
set_option maxRecDepth 100000 in
theorem walk (w : World) (a0 : Int) (w0 : (Lit.int .u64 a0).wf = true) (v1 : Value) (l1 : List Int) (h1 : Ints .u64 w v1 l1) :
    Calls Try.prog 3 #[.int .u64 a0, v1] w fun e w' => e = .returned (.bool true) ∧ Below w.heap.size w w' := by
  obtain ⟨n, hn, rfl⟩ := u64_nat w0
  obtain ⟨ao, cap, rfl, hcap⟩ := h1.shape
  have H1 := Lib.hid h1
  have HL1 := Lib.hid h1.fits
  have HNN := Lib.hid hn
  have HN := Lib.hid (cnew_ex n w)
  have hz := zeroCellR
  clear h1 hn hcap
  go_enter Try.func3, Try.ntmps3
  go_upto_region 4 with (go_at_call 6; refine HN.out.mono ?_; rintro e w2 ⟨b, hb, rfl, h2, b2⟩; have HBW := Lib.hid hb; have C2 := Lib.hid h2; have B2 := Lib.hid b2; clear hb h2 b2 HN)
  obtain ⟨rb, hrb⟩ : ∃ x, x = w2.heap.size := ⟨_, rfl⟩
  have HRB := Lib.hid (show b < rb by rw [hrb]; exact C2.out.lt)
  have HRW := Lib.hid (show w.heap.size ≤ rb by rw [hrb]; exact B2.out.size)
  have C3 := Lib.hid (C2.out.below ((Below.refl _ _).alloc (Nat.le_refl _) (.cells #[.int .u64 (n : Int), .int .i64 0] 27)))
  have R3 := Lib.hid (Blk.new w2 27 [.int .u64 (n : Int), .int .i64 0] rb hrb)
  have B3 := Lib.hid (B2.out.alloc B2.out.size (.cells #[.int .u64 (n : Int), .int .i64 0] 27))
  rw [← hrb]
  clear hrb C2 B2
  go_wp2_with fail
  go_loopw [7] (fun i wr => ∃ (k m r : Nat), k ≤ l1.length ∧ r ≤ k ∧ i = .int .i64 (k : Int) ∧ m < 18446744073709551616 ∧ Ce wr b m r ∧ Blk wr rb 27 [.int .u64 (m : Int), .int .i64 (r : Int)] ∧ Below w.heap.size w wr) (fun i _ => l1.length - (intOf i).toNat)
  case atStart => exact ⟨0, n, 0, Nat.zero_le _, Nat.zero_le _, rfl, HNN.out, C3.out, R3.out, B3.out⟩
  case round =>
    clear C3 R3 B3
    obtain ⟨k, m, r, hk, hr, rfl, hm0, ce, rbk, bb⟩ := hrel
    have CE := Lib.hid ce
    have RB := Lib.hid rbk
    have BB := Lib.hid bb
    have HM := Lib.hid hm0
    clear ce bb rbk
    by_cases hk2 : k < l1.length
    · obtain ⟨lb, lo, rfl, hc0⟩ := H1.out.at_ k hk2
      have hwq := H1.out.wf k hk2
      have hL := HL1.out
      obtain ⟨q, hq⟩ : ∃ q, q = l1.getD k 0 := ⟨_, rfl⟩
      rw [← hq] at hc0 hwq
      obtain ⟨t, ht2, rfl⟩ := u64_nat hwq
      have HT2 := Lib.hid ht2
      have HLT := Lib.hid hk2
      have HC0 := Lib.hid hc0
      have cl := (BB.out.cell (World.block_lt_of_cell? w _ hc0)).trans hc0
      clear hq hwq hc0 ht2
      by_cases hm : m = 18446744073709551615
      · have HE := Lib.hid (craise_full b m r t wr CE.out hm)
        have HQ : ∀ W, Calls Try.prog 8 #[.agg #[.int .u64 (m : Int), .int .i64 (r : Int)], .int .u64 (t : Int)] W fun e w' => e = .returned (.tuple #[.agg #[.int .u64 ((m : Int)), .int .i64 ((r : Int))], .int .i64 42]) ∧ Below W.heap.size W w' := fun W => rcraise_full m r t W hm
        have RQ := Lib.hid HQ
        clear hm HQ
        go_upto_region 8 with (go_at_call 7; (with_reducible refine HE.out.mono ?_); rintro e wz ⟨rfl, hq⟩; rw [hq]; clear hq wz HE)
        have cl5 := cl
        refine wp_region_s (by kernel_rfl) 11 (by decide) (fun i => [30, 31, 32, 33, 34, 35, 29, 36, 37, 9, 9].getD i 0) (by kernel_rfl) (by kernel_rfl) (by kernel_rfl) (wr.heap.size) (Nat.le_refl _) [.val (.agg #[.int .u64 (m : Int), .int .i64 (r : Int)]), .val (.slice (some ⟨lb, lo, none⟩) l1.length cap), .val (.int .i64 (k : Int)), .val (.pointer (some ⟨lb, lo + k, none⟩)), .val (.int .u64 (t : Int)), .val (.tuple #[.agg #[.int .u64 ((m : Int)), .int .i64 ((r : Int))], .int .i64 42]), .val (.tuple #[.agg #[.int .u64 ((m : Int)), .int .i64 ((r : Int))], .int .i64 42]), .val (.agg #[.int .u64 ((m : Int)), .int .i64 ((r : Int))]), .val (.int .i64 42), .blk 27 [.int .u64 0, .int .i64 0], .blk 27 ([.int .u64 ((m : Int)), .int .i64 ((r : Int))])] (fun j => if j = 9 then 10 else 12) ?_ ?_
        · refine ⟨?_, ?_, ?_, ?_, ?_, ?_, ?_, ?_, ?_, ?_, ?_, trivial⟩
          · intro a w' hF hB hd
            have e6 : a.eval (.tmp 6) = .pointer (some ⟨rb, 0, none⟩) := hF 6 (by decide +kernel)
            exact DoesG.toS (doesG_wp rfl rfl fun K' hK' => wp_load_mid 27 (.tmp 6) rfl rb 0 e6 [.int .u64 (m : Int), .int .i64 (r : Int)] _ (RB.out.below hB RB.out.lt).range Try.underlying27 rfl infoCellR (hK' _ _ rfl (Below.refl _ _))) nofun (by decide +kernel)
          · intro a w' hF hB hd
            have e1 : a.eval (.tmp 1) = .slice (some ⟨lb, lo, none⟩) l1.length cap := hF 1 (by decide +kernel)
            exact DoesG.toS (doesG_val rfl (ex_move rfl e1) rfl rfl) nofun (by decide +kernel)
          · intro a w' hF hB hd
            have e7 : a.eval (.tmp 7) = .int .i64 (k : Int) := hF 7 (by decide +kernel)
            exact DoesG.toS (doesG_val rfl (ex_move rfl e7) rfl rfl) nofun (by decide +kernel)
          · intro a w' hF hB hd
            have e31 : a.eval (.tmp 31) = .slice (some ⟨lb, lo, none⟩) l1.length cap := hd 1 (by decide +kernel) (.inr (by decide))
            have e32 : a.eval (.tmp 32) = .int .i64 (k : Int) := hd 2 (by decide +kernel) (.inr (by decide))
            have f31 : a.tmps[31]?.getD undef = .slice (some ⟨lb, lo, none⟩) l1.length cap := by rw [← Array.getD_eq_getD_getElem?]; exact e31
            have f32 : a.tmps[32]?.getD undef = .int .i64 (k : Int) := by rw [← Array.getD_eq_getD_getElem?]; exact e32
            have hkl := HLT.out
            have hkz : (k : Int) < (l1.length : Int) := by omega
            exact DoesG.toS (doesG_val rfl (v := .pointer (some ⟨lb, lo + k, none⟩)) (by unfold execOp; go_simp) rfl rfl) nofun (by decide +kernel)
          · intro a w' hF hB hd
            have e33 : a.eval (.tmp 33) = .pointer (some ⟨lb, lo + k, none⟩) := hd 3 (by decide +kernel) (.inr (by decide))
            have cw := (hB.cell (World.block_lt_of_cell? _ _ cl5)).trans cl5
            exact DoesG.toS (doesG_val rfl (v := .int .u64 (t : Int)) (by unfold execOp; simp only [e33]; go_simp) rfl rfl) nofun (by decide +kernel)
          · intro a w' hF hB hd
            have e30 : a.eval (.tmp 30) = .agg #[.int .u64 (m : Int), .int .i64 (r : Int)] := hd 0 (by decide +kernel) (.inr (by decide))
            have e34 : a.eval (.tmp 34) = .int .u64 (t : Int) := hd 4 (by decide +kernel) (.inr (by decide))
            exact DoesG.toS (doesG_call rfl (ex_call (vs := #[.agg #[.int .u64 (m : Int), .int .i64 (r : Int)], .int .u64 (t : Int)]) rfl (by simp only [List.map_toArray, List.map_cons, List.map_nil, e30, e34]) (by go_simp)) rfl ((RQ.out w').mono fun e w2 hh => ⟨_, hh.1, rfl, hh.2⟩)) nofun (by decide +kernel)
          · intro a w' hF hB hd
            have e35 : a.eval (.tmp 35) = .tuple #[.agg #[.int .u64 ((m : Int)), .int .i64 ((r : Int))], .int .i64 42] := hd 5 (by decide +kernel) (.inr (by decide))
            exact DoesG.toS (doesG_val rfl (ex_move rfl e35) rfl rfl) nofun (by decide +kernel)
          · intro a w' hF hB hd
            have e29 : a.eval (.tmp 29) = .tuple #[.agg #[.int .u64 ((m : Int)), .int .i64 ((r : Int))], .int .i64 42] := hd 6 (by decide +kernel) (.inr (by decide))
            exact DoesG.toS (doesG_val rfl (v := .agg #[.int .u64 ((m : Int)), .int .i64 ((r : Int))]) (by unfold execOp; simp only [e29]; go_simp) rfl rfl) nofun (by decide +kernel)
          · intro a w' hF hB hd
            have e29 : a.eval (.tmp 29) = .tuple #[.agg #[.int .u64 ((m : Int)), .int .i64 ((r : Int))], .int .i64 42] := hd 6 (by decide +kernel) (.inr (by decide))
            exact DoesG.toS (doesG_val rfl (v := .int .i64 42) (by unfold execOp; simp only [e29]; go_simp) rfl rfl) nofun (by decide +kernel)
          · intro a w' hF hB hd
            exact DoesG.toS (doesG_alloc rfl 27 [.int .u64 0, .int .i64 0] rfl zeroCellR hB.size rfl) nofun (by decide +kernel)
          · intro a w' hF hB hd
            have e9 := hd 9 (by decide +kernel) (.inl (by decide))
            have e36 : a.eval (.tmp 36) = .agg #[.int .u64 ((m : Int)), .int .i64 ((r : Int))] := hd 7 (by decide +kernel) (.inr (by decide))
            exact doesS_store rfl 27 27 9 (.tmp 36) rfl rfl 9 (by decide +kernel) (by decide) [.int .u64 0, .int .i64 0] ([.int .u64 ((m : Int)), .int .i64 ((r : Int))]) rfl rfl rfl e9 e36 (rfl) (infoCellR) (by simp [Value.oneCell']) rfl
        · intro vs w6 hb hss hv hap
          have ee : vs 8 = .int .i64 42 := hv 8 (by decide) (by decide)
          obtain ⟨nb, eb, hbb, hbk⟩ : ∃ c, vs 10 = .pointer (some ⟨c, 0, none⟩) ∧ wr.heap.size ≤ c ∧ Blk w6 c 27 [.int .u64 ((m : Int)), .int .i64 ((r : Int))] := hv 10 (by decide) (by decide)
          have e9 : vs 9 = .pointer (some ⟨nb, 0, none⟩) := by rw [← eb]; exact hss 9 10 (by decide)
          simp only [List.take_succ_cons, List.take_zero, List.drop_succ_cons, List.drop_zero, putOps, Act.put, List.setIfInBounds_toArray, List.set_cons_zero, List.set_cons_succ, ee, e9]
          have hk6 := RB.out.below hb RB.out.lt
          have k0 := hk6.cell 0 _ rfl
          have k1 := hk6.cell 1 _ rfl
          have kf0 := hk6.free 0
          have kf1 := hk6.free 1
          have kb0 := hbk.cell 0 _ rfl
          have kb1 := hbk.cell 1 _ rfl
          have CE6 := Lib.hid (CE.out.below hb)
          have RB6 := Lib.hid hk6
          have BB6 := Lib.hid (BB.out.on hb)
          clear hv hap hss ee eb e9 hb hbb hbk hk6 cl5 cl
          generalize vs 0 = y0 at *
          generalize vs 1 = y1 at *
          generalize vs 2 = y2 at *
          generalize vs 3 = y3 at *
          generalize vs 4 = y4 at *
          generalize vs 5 = y5 at *
          generalize vs 6 = y6 at *
          generalize vs 7 = y7 at *
          go_upto_region 10 with (fail)
          obtain ⟨w7, hw7⟩ : ∃ W, W = (w6.setCell ⟨rb, 0, none⟩ (.int .u64 (m : Int))).setCell ⟨rb, 1, none⟩ (.int .i64 (r : Int)) := ⟨_, rfl⟩
          have g67 : w6.grownBy w7 (some rb) := by rw [hw7]; exact only_set (grownBy_cell w6 rb 0 (.int .u64 (m : Int))) (p := ⟨rb, 1, none⟩) (.inl rfl) (.int .i64 (r : Int))
          have RB7 := Lib.hid (show Blk w7 rb 27 [.int .u64 ((m : Int)), .int .i64 ((r : Int))] by rw [hw7]; exact (RB6.out.set 0 _).set 1 _)
          have CE7 := Lib.hid (CE6.out.grown g67 (fun e => by have := Option.some.inj e; have := HRB.out; omega))
          have BB7 := Lib.hid (BB6.out.grown g67 BB6.out.size (fun j hj => by have : rb = j := Option.some.inj hj; have := HRW.out; omega))
          rw [← hw7]
          clear hw7 g67 k0 k1 kf0 kf1 kb0 kb1
          refine wp_region_g (by kernel_rfl) 17 (by decide) (by kernel_rfl) (by kernel_rfl) (by kernel_rfl) (w7.heap.size) (Nat.le_refl _) [.val (.int .i64 42), .val (.int .i64 42), .val (.bool false), .val (.bool false), .val (.pointer (some ⟨b, 0, none⟩)), .val (.int .u64 (m : Int)), .val (.pointer (some ⟨rb, 0, none⟩)), .val (.int .u64 (m : Int)), .val (.bool false), .val (.bool false), .val (.bool false), .val (.pointer (some ⟨b, 0, none⟩)), .val (.int .i64 (r : Int)), .val (.pointer (some ⟨rb, 1, none⟩)), .val (.int .i64 (r : Int)), .val (.bool false), .val (.bool false)] (fun _ => 17) ?_ ?_
          · refine ⟨?_, ?_, ?_, ?_, ?_, ?_, ?_, ?_, ?_, ?_, ?_, ?_, ?_, ?_, ?_, ?_, ?_, trivial⟩
            · intro a w' hF hB hd
              have e8 : a.eval (.tmp 8) = .int .i64 42 := hF 8 (by decide +kernel)
              exact doesG_val rfl (ex_move rfl e8) rfl rfl
            · intro a w' hF hB hd
              have e10 : a.eval (.tmp 10) = .int .i64 42 := hF 10 (by decide +kernel)
              exact doesG_val rfl (ex_move rfl e10) rfl rfl
            · intro a w' hF hB hd
              have e39 : a.eval (.tmp 39) = .int .i64 42 := hd 0 (by decide +kernel) (.inr (by decide))
              have e40 : a.eval (.tmp 40) = .int .i64 42 := hd 1 (by decide +kernel) (.inr (by decide))
              exact doesG_val rfl (ex_binOp rfl e39 e40 (by go_simp) (by go_simp)) rfl rfl
            · intro a w' hF hB hd
              have e41 : a.eval (.tmp 41) = .bool false := hd 2 (by decide +kernel) (.inr (by decide))
              exact doesG_val rfl (ex_move rfl e41) rfl rfl
            · intro a w' hF hB hd
              have e42 : a.eval (.tmp 42) = .bool false := hd 3 (by decide +kernel) (.inr (by decide))
              have e5 : a.eval (.tmp 5) = .pointer (some ⟨b, 0, none⟩) := hF 5 (by decide +kernel)
              exact doesG_val (wanted_of rfl (yielded_of rfl e42)) (ex_move rfl e5) rfl rfl
            · intro a w' hF hB hd
              have e42 : a.eval (.tmp 42) = .bool false := hd 3 (by decide +kernel) (.inr (by decide))
              have e43 : a.eval (.tmp 43) = .pointer (some ⟨b, 0, none⟩) := hd 4 (by decide +kernel) (.inr (by decide))
              exact doesG_call (wanted_of rfl (yielded_of rfl e42)) (ex_call (vs := #[.pointer (some ⟨b, 0, none⟩)]) rfl (by simp only [List.map_toArray, List.map_cons, List.map_nil, e43]) (by go_simp)) rfl ((cvalue_any b m r w' (CE7.out.below hB)).mono fun e w3 hh => ⟨_, hh.1, rfl, by rw [hh.2]; exact Below.refl _ _⟩)
            · intro a w' hF hB hd
              have e42 : a.eval (.tmp 42) = .bool false := hd 3 (by decide +kernel) (.inr (by decide))
              have e6 : a.eval (.tmp 6) = .pointer (some ⟨rb, 0, none⟩) := hF 6 (by decide +kernel)
              exact doesG_val (wanted_of rfl (yielded_of rfl e42)) (v := .pointer (some ⟨rb, 0, none⟩)) (by unfold execOp; simp only [e6]; go_simp) rfl rfl
            · intro a w' hF hB hd
              have e42 : a.eval (.tmp 42) = .bool false := hd 3 (by decide +kernel) (.inr (by decide))
              have e45 : a.eval (.tmp 45) = .pointer (some ⟨rb, 0, none⟩) := hd 6 (by decide +kernel) (.inr (by decide))
              have cw := (RB7.out.below hB RB7.out.lt).cell 0 _ rfl
              exact doesG_val (wanted_of rfl (yielded_of rfl e42)) (v := .int .u64 (m : Int)) (by unfold execOp; simp only [e45]; go_simp) rfl rfl
            · intro a w' hF hB hd
              have e42 : a.eval (.tmp 42) = .bool false := hd 3 (by decide +kernel) (.inr (by decide))
              have e44 : a.eval (.tmp 44) = .int .u64 (m : Int) := hd 5 (by decide +kernel) (.inr (by decide))
              have e46 : a.eval (.tmp 46) = .int .u64 (m : Int) := hd 7 (by decide +kernel) (.inr (by decide))
              exact doesG_val (wanted_of rfl (yielded_of rfl e42)) (ex_binOp rfl e44 e46 (by go_simp) (by go_simp)) rfl rfl
            · intro a w' hF hB hd
              have e42 : a.eval (.tmp 42) = .bool false := hd 3 (by decide +kernel) (.inr (by decide))
              have e47 : a.eval (.tmp 47) = .bool false := hd 8 (by decide +kernel) (.inr (by decide))
              exact doesG_val rfl (ex_pick rfl e42 (by simp [e47])) rfl rfl
            · intro a w' hF hB hd
              have e48 : a.eval (.tmp 48) = .bool false := hd 9 (by decide +kernel) (.inr (by decide))
              exact doesG_val rfl (ex_move rfl e48) rfl rfl
            · intro a w' hF hB hd
              have e49 : a.eval (.tmp 49) = .bool false := hd 10 (by decide +kernel) (.inr (by decide))
              have e5 : a.eval (.tmp 5) = .pointer (some ⟨b, 0, none⟩) := hF 5 (by decide +kernel)
              exact doesG_val (wanted_of rfl (yielded_of rfl e49)) (ex_move rfl e5) rfl rfl
            · intro a w' hF hB hd
              have e49 : a.eval (.tmp 49) = .bool false := hd 10 (by decide +kernel) (.inr (by decide))
              have e50 : a.eval (.tmp 50) = .pointer (some ⟨b, 0, none⟩) := hd 11 (by decide +kernel) (.inr (by decide))
              exact doesG_call (wanted_of rfl (yielded_of rfl e49)) (ex_call (vs := #[.pointer (some ⟨b, 0, none⟩)]) rfl (by simp only [List.map_toArray, List.map_cons, List.map_nil, e50]) (by go_simp)) rfl ((craised_any b m r w' (CE7.out.below hB)).mono fun e w3 hh => ⟨_, hh.1, rfl, by rw [hh.2]; exact Below.refl _ _⟩)
            · intro a w' hF hB hd
              have e49 : a.eval (.tmp 49) = .bool false := hd 10 (by decide +kernel) (.inr (by decide))
              have e6 : a.eval (.tmp 6) = .pointer (some ⟨rb, 0, none⟩) := hF 6 (by decide +kernel)
              exact doesG_val (wanted_of rfl (yielded_of rfl e49)) (v := .pointer (some ⟨rb, 1, none⟩)) (by unfold execOp; simp only [e6]; go_simp) rfl rfl
            · intro a w' hF hB hd
              have e49 : a.eval (.tmp 49) = .bool false := hd 10 (by decide +kernel) (.inr (by decide))
              have e52 : a.eval (.tmp 52) = .pointer (some ⟨rb, 1, none⟩) := hd 13 (by decide +kernel) (.inr (by decide))
              have cw := (RB7.out.below hB RB7.out.lt).cell 1 _ rfl
              exact doesG_val (wanted_of rfl (yielded_of rfl e49)) (v := .int .i64 (r : Int)) (by unfold execOp; simp only [e52]; go_simp) rfl rfl
            · intro a w' hF hB hd
              have e49 : a.eval (.tmp 49) = .bool false := hd 10 (by decide +kernel) (.inr (by decide))
              have e51 : a.eval (.tmp 51) = .int .i64 (r : Int) := hd 12 (by decide +kernel) (.inr (by decide))
              have e53 : a.eval (.tmp 53) = .int .i64 (r : Int) := hd 14 (by decide +kernel) (.inr (by decide))
              exact doesG_val (wanted_of rfl (yielded_of rfl e49)) (ex_binOp rfl e51 e53 (by go_simp) (by go_simp)) rfl rfl
            · intro a w' hF hB hd
              have e49 : a.eval (.tmp 49) = .bool false := hd 10 (by decide +kernel) (.inr (by decide))
              have e54 : a.eval (.tmp 54) = .bool false := hd 15 (by decide +kernel) (.inr (by decide))
              exact doesG_val rfl (ex_pick rfl e49 (by simp [e54])) rfl rfl
          · intro vs w8 hB hv hap
            have e16 : vs 16 = .bool false := hv 16 (by decide) (by decide)
            simp only [List.take_succ_cons, List.take_zero, List.drop_succ_cons, List.drop_zero, putOps, Act.put, List.setIfInBounds_toArray, List.set_cons_zero, List.set_cons_succ, e16]
            have CE8 := Lib.hid (CE7.out.below hB)
            have RB8 := Lib.hid (RB7.out.below hB RB7.out.lt)
            have BB8 := Lib.hid (BB7.out.on hB)
            clear hv hap e16 hB
            go_wp2_with fail
            exact ⟨⟨k + 1, m, r, by omega, by omega, by go_num, HM.out, CE8.out, RB8.out, BB8.out⟩, by simp [intOf]; omega⟩
      · by_cases ht : t = m + 1
        · have hm : m < 18446744073709551615 := by omega
          have HE := Lib.hid (craise_own t CE.out hm (by have := HL1.out; omega) ht BB.out HBW.out)
          have HQ : ∀ W, Calls Try.prog 8 #[.agg #[.int .u64 (m : Int), .int .i64 (r : Int)], .int .u64 (t : Int)] W fun e w' => e = .returned (.tuple #[.agg #[.int .u64 ((t : Int)), .int .i64 (((r + 1 : Nat) : Int))], .int .i64 0]) ∧ Below W.heap.size W w' := fun W => rcraise_ok m r t W hm (by have := HL1.out; omega) ht
          have RQ := Lib.hid HQ
          clear hm HQ ht
          go_upto_region 8 with (go_at_call 7; (with_reducible refine HE.out.mono ?_); rintro e w5 ⟨rfl, h5, g5, b5⟩; have CE5 := Lib.hid h5; have BB5 := Lib.hid b5; have RB5 := Lib.hid (RB.out.grown g5 (fun e => by have := Option.some.inj e; have := HRB.out; omega)); clear h5 b5 g5 HE)
          have cl5 : w5.cell? ⟨lb, lo + k, none⟩ = some (.int .u64 (t : Int)) := (BB5.out.cell (World.block_lt_of_cell? w _ HC0.out)).trans HC0.out
          refine wp_region_s (by kernel_rfl) 11 (by decide) (fun i => [30, 31, 32, 33, 34, 35, 29, 36, 37, 9, 9].getD i 0) (by kernel_rfl) (by kernel_rfl) (by kernel_rfl) (w5.heap.size) (Nat.le_refl _) [.val (.agg #[.int .u64 (m : Int), .int .i64 (r : Int)]), .val (.slice (some ⟨lb, lo, none⟩) l1.length cap), .val (.int .i64 (k : Int)), .val (.pointer (some ⟨lb, lo + k, none⟩)), .val (.int .u64 (t : Int)), .val (.tuple #[.agg #[.int .u64 ((t : Int)), .int .i64 (((r + 1 : Nat) : Int))], .int .i64 0]), .val (.tuple #[.agg #[.int .u64 ((t : Int)), .int .i64 (((r + 1 : Nat) : Int))], .int .i64 0]), .val (.agg #[.int .u64 ((t : Int)), .int .i64 (((r + 1 : Nat) : Int))]), .val (.int .i64 0), .blk 27 [.int .u64 0, .int .i64 0], .blk 27 ([.int .u64 ((t : Int)), .int .i64 (((r + 1 : Nat) : Int))])] (fun j => if j = 9 then 10 else 12) ?_ ?_
          · refine ⟨?_, ?_, ?_, ?_, ?_, ?_, ?_, ?_, ?_, ?_, ?_, trivial⟩
            · intro a w' hF hB hd
              have e6 : a.eval (.tmp 6) = .pointer (some ⟨rb, 0, none⟩) := hF 6 (by decide +kernel)
              exact DoesG.toS (doesG_wp rfl rfl fun K' hK' => wp_load_mid 27 (.tmp 6) rfl rb 0 e6 [.int .u64 (m : Int), .int .i64 (r : Int)] _ (RB5.out.below hB RB5.out.lt).range Try.underlying27 rfl infoCellR (hK' _ _ rfl (Below.refl _ _))) nofun (by decide +kernel)
            · intro a w' hF hB hd
              have e1 : a.eval (.tmp 1) = .slice (some ⟨lb, lo, none⟩) l1.length cap := hF 1 (by decide +kernel)
              exact DoesG.toS (doesG_val rfl (ex_move rfl e1) rfl rfl) nofun (by decide +kernel)
            · intro a w' hF hB hd
              have e7 : a.eval (.tmp 7) = .int .i64 (k : Int) := hF 7 (by decide +kernel)
              exact DoesG.toS (doesG_val rfl (ex_move rfl e7) rfl rfl) nofun (by decide +kernel)
            · intro a w' hF hB hd
              have e31 : a.eval (.tmp 31) = .slice (some ⟨lb, lo, none⟩) l1.length cap := hd 1 (by decide +kernel) (.inr (by decide))
              have e32 : a.eval (.tmp 32) = .int .i64 (k : Int) := hd 2 (by decide +kernel) (.inr (by decide))
              have f31 : a.tmps[31]?.getD undef = .slice (some ⟨lb, lo, none⟩) l1.length cap := by rw [← Array.getD_eq_getD_getElem?]; exact e31
              have f32 : a.tmps[32]?.getD undef = .int .i64 (k : Int) := by rw [← Array.getD_eq_getD_getElem?]; exact e32
              have hkl := HLT.out
              have hkz : (k : Int) < (l1.length : Int) := by omega
              exact DoesG.toS (doesG_val rfl (v := .pointer (some ⟨lb, lo + k, none⟩)) (by unfold execOp; go_simp) rfl rfl) nofun (by decide +kernel)
            · intro a w' hF hB hd
              have e33 : a.eval (.tmp 33) = .pointer (some ⟨lb, lo + k, none⟩) := hd 3 (by decide +kernel) (.inr (by decide))
              have cw := (hB.cell (World.block_lt_of_cell? _ _ cl5)).trans cl5
              exact DoesG.toS (doesG_val rfl (v := .int .u64 (t : Int)) (by unfold execOp; simp only [e33]; go_simp) rfl rfl) nofun (by decide +kernel)
            · intro a w' hF hB hd
              have e30 : a.eval (.tmp 30) = .agg #[.int .u64 (m : Int), .int .i64 (r : Int)] := hd 0 (by decide +kernel) (.inr (by decide))
              have e34 : a.eval (.tmp 34) = .int .u64 (t : Int) := hd 4 (by decide +kernel) (.inr (by decide))
              exact DoesG.toS (doesG_call rfl (ex_call (vs := #[.agg #[.int .u64 (m : Int), .int .i64 (r : Int)], .int .u64 (t : Int)]) rfl (by simp only [List.map_toArray, List.map_cons, List.map_nil, e30, e34]) (by go_simp)) rfl ((RQ.out w').mono fun e w2 hh => ⟨_, hh.1, rfl, hh.2⟩)) nofun (by decide +kernel)
            · intro a w' hF hB hd
              have e35 : a.eval (.tmp 35) = .tuple #[.agg #[.int .u64 ((t : Int)), .int .i64 (((r + 1 : Nat) : Int))], .int .i64 0] := hd 5 (by decide +kernel) (.inr (by decide))
              exact DoesG.toS (doesG_val rfl (ex_move rfl e35) rfl rfl) nofun (by decide +kernel)
            · intro a w' hF hB hd
              have e29 : a.eval (.tmp 29) = .tuple #[.agg #[.int .u64 ((t : Int)), .int .i64 (((r + 1 : Nat) : Int))], .int .i64 0] := hd 6 (by decide +kernel) (.inr (by decide))
              exact DoesG.toS (doesG_val rfl (v := .agg #[.int .u64 ((t : Int)), .int .i64 (((r + 1 : Nat) : Int))]) (by unfold execOp; simp only [e29]; go_simp) rfl rfl) nofun (by decide +kernel)
            · intro a w' hF hB hd
              have e29 : a.eval (.tmp 29) = .tuple #[.agg #[.int .u64 ((t : Int)), .int .i64 (((r + 1 : Nat) : Int))], .int .i64 0] := hd 6 (by decide +kernel) (.inr (by decide))
              exact DoesG.toS (doesG_val rfl (v := .int .i64 0) (by unfold execOp; simp only [e29]; go_simp) rfl rfl) nofun (by decide +kernel)
            · intro a w' hF hB hd
              exact DoesG.toS (doesG_alloc rfl 27 [.int .u64 0, .int .i64 0] rfl zeroCellR hB.size rfl) nofun (by decide +kernel)
            · intro a w' hF hB hd
              have e9 := hd 9 (by decide +kernel) (.inl (by decide))
              have e36 : a.eval (.tmp 36) = .agg #[.int .u64 ((t : Int)), .int .i64 (((r + 1 : Nat) : Int))] := hd 7 (by decide +kernel) (.inr (by decide))
              exact doesS_store rfl 27 27 9 (.tmp 36) rfl rfl 9 (by decide +kernel) (by decide) [.int .u64 0, .int .i64 0] ([.int .u64 ((t : Int)), .int .i64 (((r + 1 : Nat) : Int))]) rfl rfl rfl e9 e36 (rfl) (infoCellR) (by simp [Value.oneCell']) rfl
          · intro vs w6 hb hss hv hap
            have ee : vs 8 = .int .i64 0 := hv 8 (by decide) (by decide)
            obtain ⟨nb, eb, hbb, hbk⟩ : ∃ c, vs 10 = .pointer (some ⟨c, 0, none⟩) ∧ w5.heap.size ≤ c ∧ Blk w6 c 27 [.int .u64 ((t : Int)), .int .i64 (((r + 1 : Nat) : Int))] := hv 10 (by decide) (by decide)
            have e9 : vs 9 = .pointer (some ⟨nb, 0, none⟩) := by rw [← eb]; exact hss 9 10 (by decide)
            simp only [List.take_succ_cons, List.take_zero, List.drop_succ_cons, List.drop_zero, putOps, Act.put, List.setIfInBounds_toArray, List.set_cons_zero, List.set_cons_succ, ee, e9]
            have hk6 := RB5.out.below hb RB5.out.lt
            have k0 := hk6.cell 0 _ rfl
            have k1 := hk6.cell 1 _ rfl
            have kf0 := hk6.free 0
            have kf1 := hk6.free 1
            have kb0 := hbk.cell 0 _ rfl
            have kb1 := hbk.cell 1 _ rfl
            have CE6 := Lib.hid (CE5.out.below hb)
            have RB6 := Lib.hid hk6
            have BB6 := Lib.hid (BB5.out.on hb)
            clear hv hap hss ee eb e9 hb hbb hbk hk6 cl5 cl
            generalize vs 0 = y0 at *
            generalize vs 1 = y1 at *
            generalize vs 2 = y2 at *
            generalize vs 3 = y3 at *
            generalize vs 4 = y4 at *
            generalize vs 5 = y5 at *
            generalize vs 6 = y6 at *
            generalize vs 7 = y7 at *
            go_upto_region 10 with (fail)
            obtain ⟨w7, hw7⟩ : ∃ W, W = (w6.setCell ⟨rb, 0, none⟩ (.int .u64 (t : Int))).setCell ⟨rb, 1, none⟩ (.int .i64 ((r + 1 : Nat) : Int)) := ⟨_, rfl⟩
            have g67 : w6.grownBy w7 (some rb) := by rw [hw7]; exact only_set (grownBy_cell w6 rb 0 (.int .u64 (t : Int))) (p := ⟨rb, 1, none⟩) (.inl rfl) (.int .i64 ((r + 1 : Nat) : Int))
            have RB7 := Lib.hid (show Blk w7 rb 27 [.int .u64 ((t : Int)), .int .i64 (((r + 1 : Nat) : Int))] by rw [hw7]; exact (RB6.out.set 0 _).set 1 _)
            have CE7 := Lib.hid (CE6.out.grown g67 (fun e => by have := Option.some.inj e; have := HRB.out; omega))
            have BB7 := Lib.hid (BB6.out.grown g67 BB6.out.size (fun j hj => by have : rb = j := Option.some.inj hj; have := HRW.out; omega))
            rw [show ((r : Int) + 1) = ((r + 1 : Nat) : Int) from rfl]
            rw [← hw7]
            clear hw7 g67 k0 k1 kf0 kf1 kb0 kb1
            refine wp_region_g (by kernel_rfl) 17 (by decide) (by kernel_rfl) (by kernel_rfl) (by kernel_rfl) (w7.heap.size) (Nat.le_refl _) [.val (.int .i64 0), .val (.int .i64 0), .val (.bool false), .val (.bool false), .val (.pointer (some ⟨b, 0, none⟩)), .val (.int .u64 (t : Int)), .val (.pointer (some ⟨rb, 0, none⟩)), .val (.int .u64 (t : Int)), .val (.bool false), .val (.bool false), .val (.bool false), .val (.pointer (some ⟨b, 0, none⟩)), .val (.int .i64 ((r + 1 : Nat) : Int)), .val (.pointer (some ⟨rb, 1, none⟩)), .val (.int .i64 ((r + 1 : Nat) : Int)), .val (.bool false), .val (.bool false)] (fun _ => 17) ?_ ?_
            · refine ⟨?_, ?_, ?_, ?_, ?_, ?_, ?_, ?_, ?_, ?_, ?_, ?_, ?_, ?_, ?_, ?_, ?_, trivial⟩
              · intro a w' hF hB hd
                have e8 : a.eval (.tmp 8) = .int .i64 0 := hF 8 (by decide +kernel)
                exact doesG_val rfl (ex_move rfl e8) rfl rfl
              · intro a w' hF hB hd
                have e10 : a.eval (.tmp 10) = .int .i64 0 := hF 10 (by decide +kernel)
                exact doesG_val rfl (ex_move rfl e10) rfl rfl
              · intro a w' hF hB hd
                have e39 : a.eval (.tmp 39) = .int .i64 0 := hd 0 (by decide +kernel) (.inr (by decide))
                have e40 : a.eval (.tmp 40) = .int .i64 0 := hd 1 (by decide +kernel) (.inr (by decide))
                exact doesG_val rfl (ex_binOp rfl e39 e40 (by go_simp) (by go_simp)) rfl rfl
              · intro a w' hF hB hd
                have e41 : a.eval (.tmp 41) = .bool false := hd 2 (by decide +kernel) (.inr (by decide))
                exact doesG_val rfl (ex_move rfl e41) rfl rfl
              · intro a w' hF hB hd
                have e42 : a.eval (.tmp 42) = .bool false := hd 3 (by decide +kernel) (.inr (by decide))
                have e5 : a.eval (.tmp 5) = .pointer (some ⟨b, 0, none⟩) := hF 5 (by decide +kernel)
                exact doesG_val (wanted_of rfl (yielded_of rfl e42)) (ex_move rfl e5) rfl rfl
              · intro a w' hF hB hd
                have e42 : a.eval (.tmp 42) = .bool false := hd 3 (by decide +kernel) (.inr (by decide))
                have e43 : a.eval (.tmp 43) = .pointer (some ⟨b, 0, none⟩) := hd 4 (by decide +kernel) (.inr (by decide))
                exact doesG_call (wanted_of rfl (yielded_of rfl e42)) (ex_call (vs := #[.pointer (some ⟨b, 0, none⟩)]) rfl (by simp only [List.map_toArray, List.map_cons, List.map_nil, e43]) (by go_simp)) rfl ((cvalue_any b t (r + 1) w' (CE7.out.below hB)).mono fun e w3 hh => ⟨_, hh.1, rfl, by rw [hh.2]; exact Below.refl _ _⟩)
              · intro a w' hF hB hd
                have e42 : a.eval (.tmp 42) = .bool false := hd 3 (by decide +kernel) (.inr (by decide))
                have e6 : a.eval (.tmp 6) = .pointer (some ⟨rb, 0, none⟩) := hF 6 (by decide +kernel)
                exact doesG_val (wanted_of rfl (yielded_of rfl e42)) (v := .pointer (some ⟨rb, 0, none⟩)) (by unfold execOp; simp only [e6]; go_simp) rfl rfl
              · intro a w' hF hB hd
                have e42 : a.eval (.tmp 42) = .bool false := hd 3 (by decide +kernel) (.inr (by decide))
                have e45 : a.eval (.tmp 45) = .pointer (some ⟨rb, 0, none⟩) := hd 6 (by decide +kernel) (.inr (by decide))
                have cw := (RB7.out.below hB RB7.out.lt).cell 0 _ rfl
                exact doesG_val (wanted_of rfl (yielded_of rfl e42)) (v := .int .u64 (t : Int)) (by unfold execOp; simp only [e45]; go_simp) rfl rfl
              · intro a w' hF hB hd
                have e42 : a.eval (.tmp 42) = .bool false := hd 3 (by decide +kernel) (.inr (by decide))
                have e44 : a.eval (.tmp 44) = .int .u64 (t : Int) := hd 5 (by decide +kernel) (.inr (by decide))
                have e46 : a.eval (.tmp 46) = .int .u64 (t : Int) := hd 7 (by decide +kernel) (.inr (by decide))
                exact doesG_val (wanted_of rfl (yielded_of rfl e42)) (ex_binOp rfl e44 e46 (by go_simp) (by go_simp)) rfl rfl
              · intro a w' hF hB hd
                have e42 : a.eval (.tmp 42) = .bool false := hd 3 (by decide +kernel) (.inr (by decide))
                have e47 : a.eval (.tmp 47) = .bool false := hd 8 (by decide +kernel) (.inr (by decide))
                exact doesG_val rfl (ex_pick rfl e42 (by simp [e47])) rfl rfl
              · intro a w' hF hB hd
                have e48 : a.eval (.tmp 48) = .bool false := hd 9 (by decide +kernel) (.inr (by decide))
                exact doesG_val rfl (ex_move rfl e48) rfl rfl
              · intro a w' hF hB hd
                have e49 : a.eval (.tmp 49) = .bool false := hd 10 (by decide +kernel) (.inr (by decide))
                have e5 : a.eval (.tmp 5) = .pointer (some ⟨b, 0, none⟩) := hF 5 (by decide +kernel)
                exact doesG_val (wanted_of rfl (yielded_of rfl e49)) (ex_move rfl e5) rfl rfl
              · intro a w' hF hB hd
                have e49 : a.eval (.tmp 49) = .bool false := hd 10 (by decide +kernel) (.inr (by decide))
                have e50 : a.eval (.tmp 50) = .pointer (some ⟨b, 0, none⟩) := hd 11 (by decide +kernel) (.inr (by decide))
                exact doesG_call (wanted_of rfl (yielded_of rfl e49)) (ex_call (vs := #[.pointer (some ⟨b, 0, none⟩)]) rfl (by simp only [List.map_toArray, List.map_cons, List.map_nil, e50]) (by go_simp)) rfl ((craised_any b t (r + 1) w' (CE7.out.below hB)).mono fun e w3 hh => ⟨_, hh.1, rfl, by rw [hh.2]; exact Below.refl _ _⟩)
              · intro a w' hF hB hd
                have e49 : a.eval (.tmp 49) = .bool false := hd 10 (by decide +kernel) (.inr (by decide))
                have e6 : a.eval (.tmp 6) = .pointer (some ⟨rb, 0, none⟩) := hF 6 (by decide +kernel)
                exact doesG_val (wanted_of rfl (yielded_of rfl e49)) (v := .pointer (some ⟨rb, 1, none⟩)) (by unfold execOp; simp only [e6]; go_simp) rfl rfl
              · intro a w' hF hB hd
                have e49 : a.eval (.tmp 49) = .bool false := hd 10 (by decide +kernel) (.inr (by decide))
                have e52 : a.eval (.tmp 52) = .pointer (some ⟨rb, 1, none⟩) := hd 13 (by decide +kernel) (.inr (by decide))
                have cw := (RB7.out.below hB RB7.out.lt).cell 1 _ rfl
                exact doesG_val (wanted_of rfl (yielded_of rfl e49)) (v := .int .i64 ((r + 1 : Nat) : Int)) (by unfold execOp; simp only [e52]; go_simp) rfl rfl
              · intro a w' hF hB hd
                have e49 : a.eval (.tmp 49) = .bool false := hd 10 (by decide +kernel) (.inr (by decide))
                have e51 : a.eval (.tmp 51) = .int .i64 ((r + 1 : Nat) : Int) := hd 12 (by decide +kernel) (.inr (by decide))
                have e53 : a.eval (.tmp 53) = .int .i64 ((r + 1 : Nat) : Int) := hd 14 (by decide +kernel) (.inr (by decide))
                exact doesG_val (wanted_of rfl (yielded_of rfl e49)) (ex_binOp rfl e51 e53 (by go_simp) (by go_simp)) rfl rfl
              · intro a w' hF hB hd
                have e49 : a.eval (.tmp 49) = .bool false := hd 10 (by decide +kernel) (.inr (by decide))
                have e54 : a.eval (.tmp 54) = .bool false := hd 15 (by decide +kernel) (.inr (by decide))
                exact doesG_val rfl (ex_pick rfl e49 (by simp [e54])) rfl rfl
            · intro vs w8 hB hv hap
              have e16 : vs 16 = .bool false := hv 16 (by decide) (by decide)
              simp only [List.take_succ_cons, List.take_zero, List.drop_succ_cons, List.drop_zero, putOps, Act.put, List.setIfInBounds_toArray, List.set_cons_zero, List.set_cons_succ, e16]
              have CE8 := Lib.hid (CE7.out.below hB)
              have RB8 := Lib.hid (RB7.out.below hB RB7.out.lt)
              have BB8 := Lib.hid (BB7.out.on hB)
              clear hv hap e16 hB
              go_wp2_with fail
              exact ⟨⟨k + 1, t, (r + 1), by omega, by omega, by go_num, HT2.out, CE8.out, RB8.out, BB8.out⟩, by simp [intOf]; omega⟩
        · have hm : m < 18446744073709551615 := by omega
          have HE := Lib.hid (craise_not b m r t wr CE.out hm ht)
          have HQ : ∀ W, Calls Try.prog 8 #[.agg #[.int .u64 (m : Int), .int .i64 (r : Int)], .int .u64 (t : Int)] W fun e w' => e = .returned (.tuple #[.agg #[.int .u64 ((m : Int)), .int .i64 ((r : Int))], .int .i64 2]) ∧ Below W.heap.size W w' := fun W => by
              by_cases t0 : t = 0
              · exact rcraise_zero m r t W hm t0
              · exact rcraise_not m r t W hm HT2.out t0 ht
          have RQ := Lib.hid HQ
          clear hm HQ ht
          go_upto_region 8 with (go_at_call 7; (with_reducible refine HE.out.mono ?_); rintro e wz ⟨rfl, hq⟩; rw [hq]; clear hq wz HE)
          have cl5 := cl
          refine wp_region_s (by kernel_rfl) 11 (by decide) (fun i => [30, 31, 32, 33, 34, 35, 29, 36, 37, 9, 9].getD i 0) (by kernel_rfl) (by kernel_rfl) (by kernel_rfl) (wr.heap.size) (Nat.le_refl _) [.val (.agg #[.int .u64 (m : Int), .int .i64 (r : Int)]), .val (.slice (some ⟨lb, lo, none⟩) l1.length cap), .val (.int .i64 (k : Int)), .val (.pointer (some ⟨lb, lo + k, none⟩)), .val (.int .u64 (t : Int)), .val (.tuple #[.agg #[.int .u64 ((m : Int)), .int .i64 ((r : Int))], .int .i64 2]), .val (.tuple #[.agg #[.int .u64 ((m : Int)), .int .i64 ((r : Int))], .int .i64 2]), .val (.agg #[.int .u64 ((m : Int)), .int .i64 ((r : Int))]), .val (.int .i64 2), .blk 27 [.int .u64 0, .int .i64 0], .blk 27 ([.int .u64 ((m : Int)), .int .i64 ((r : Int))])] (fun j => if j = 9 then 10 else 12) ?_ ?_
          · refine ⟨?_, ?_, ?_, ?_, ?_, ?_, ?_, ?_, ?_, ?_, ?_, trivial⟩
            · intro a w' hF hB hd
              have e6 : a.eval (.tmp 6) = .pointer (some ⟨rb, 0, none⟩) := hF 6 (by decide +kernel)
              exact DoesG.toS (doesG_wp rfl rfl fun K' hK' => wp_load_mid 27 (.tmp 6) rfl rb 0 e6 [.int .u64 (m : Int), .int .i64 (r : Int)] _ (RB.out.below hB RB.out.lt).range Try.underlying27 rfl infoCellR (hK' _ _ rfl (Below.refl _ _))) nofun (by decide +kernel)
            · intro a w' hF hB hd
              have e1 : a.eval (.tmp 1) = .slice (some ⟨lb, lo, none⟩) l1.length cap := hF 1 (by decide +kernel)
              exact DoesG.toS (doesG_val rfl (ex_move rfl e1) rfl rfl) nofun (by decide +kernel)
            · intro a w' hF hB hd
              have e7 : a.eval (.tmp 7) = .int .i64 (k : Int) := hF 7 (by decide +kernel)
              exact DoesG.toS (doesG_val rfl (ex_move rfl e7) rfl rfl) nofun (by decide +kernel)
            · intro a w' hF hB hd
              have e31 : a.eval (.tmp 31) = .slice (some ⟨lb, lo, none⟩) l1.length cap := hd 1 (by decide +kernel) (.inr (by decide))
              have e32 : a.eval (.tmp 32) = .int .i64 (k : Int) := hd 2 (by decide +kernel) (.inr (by decide))
              have f31 : a.tmps[31]?.getD undef = .slice (some ⟨lb, lo, none⟩) l1.length cap := by rw [← Array.getD_eq_getD_getElem?]; exact e31
              have f32 : a.tmps[32]?.getD undef = .int .i64 (k : Int) := by rw [← Array.getD_eq_getD_getElem?]; exact e32
              have hkl := HLT.out
              have hkz : (k : Int) < (l1.length : Int) := by omega
              exact DoesG.toS (doesG_val rfl (v := .pointer (some ⟨lb, lo + k, none⟩)) (by unfold execOp; go_simp) rfl rfl) nofun (by decide +kernel)
            · intro a w' hF hB hd
              have e33 : a.eval (.tmp 33) = .pointer (some ⟨lb, lo + k, none⟩) := hd 3 (by decide +kernel) (.inr (by decide))
              have cw := (hB.cell (World.block_lt_of_cell? _ _ cl5)).trans cl5
              exact DoesG.toS (doesG_val rfl (v := .int .u64 (t : Int)) (by unfold execOp; simp only [e33]; go_simp) rfl rfl) nofun (by decide +kernel)
            · intro a w' hF hB hd
              have e30 : a.eval (.tmp 30) = .agg #[.int .u64 (m : Int), .int .i64 (r : Int)] := hd 0 (by decide +kernel) (.inr (by decide))
              have e34 : a.eval (.tmp 34) = .int .u64 (t : Int) := hd 4 (by decide +kernel) (.inr (by decide))
              exact DoesG.toS (doesG_call rfl (ex_call (vs := #[.agg #[.int .u64 (m : Int), .int .i64 (r : Int)], .int .u64 (t : Int)]) rfl (by simp only [List.map_toArray, List.map_cons, List.map_nil, e30, e34]) (by go_simp)) rfl ((RQ.out w').mono fun e w2 hh => ⟨_, hh.1, rfl, hh.2⟩)) nofun (by decide +kernel)
            · intro a w' hF hB hd
              have e35 : a.eval (.tmp 35) = .tuple #[.agg #[.int .u64 ((m : Int)), .int .i64 ((r : Int))], .int .i64 2] := hd 5 (by decide +kernel) (.inr (by decide))
              exact DoesG.toS (doesG_val rfl (ex_move rfl e35) rfl rfl) nofun (by decide +kernel)
            · intro a w' hF hB hd
              have e29 : a.eval (.tmp 29) = .tuple #[.agg #[.int .u64 ((m : Int)), .int .i64 ((r : Int))], .int .i64 2] := hd 6 (by decide +kernel) (.inr (by decide))
              exact DoesG.toS (doesG_val rfl (v := .agg #[.int .u64 ((m : Int)), .int .i64 ((r : Int))]) (by unfold execOp; simp only [e29]; go_simp) rfl rfl) nofun (by decide +kernel)
            · intro a w' hF hB hd
              have e29 : a.eval (.tmp 29) = .tuple #[.agg #[.int .u64 ((m : Int)), .int .i64 ((r : Int))], .int .i64 2] := hd 6 (by decide +kernel) (.inr (by decide))
              exact DoesG.toS (doesG_val rfl (v := .int .i64 2) (by unfold execOp; simp only [e29]; go_simp) rfl rfl) nofun (by decide +kernel)
            · intro a w' hF hB hd
              exact DoesG.toS (doesG_alloc rfl 27 [.int .u64 0, .int .i64 0] rfl zeroCellR hB.size rfl) nofun (by decide +kernel)
            · intro a w' hF hB hd
              have e9 := hd 9 (by decide +kernel) (.inl (by decide))
              have e36 : a.eval (.tmp 36) = .agg #[.int .u64 ((m : Int)), .int .i64 ((r : Int))] := hd 7 (by decide +kernel) (.inr (by decide))
              exact doesS_store rfl 27 27 9 (.tmp 36) rfl rfl 9 (by decide +kernel) (by decide) [.int .u64 0, .int .i64 0] ([.int .u64 ((m : Int)), .int .i64 ((r : Int))]) rfl rfl rfl e9 e36 (rfl) (infoCellR) (by simp [Value.oneCell']) rfl
          · intro vs w6 hb hss hv hap
            have ee : vs 8 = .int .i64 2 := hv 8 (by decide) (by decide)
            obtain ⟨nb, eb, hbb, hbk⟩ : ∃ c, vs 10 = .pointer (some ⟨c, 0, none⟩) ∧ wr.heap.size ≤ c ∧ Blk w6 c 27 [.int .u64 ((m : Int)), .int .i64 ((r : Int))] := hv 10 (by decide) (by decide)
            have e9 : vs 9 = .pointer (some ⟨nb, 0, none⟩) := by rw [← eb]; exact hss 9 10 (by decide)
            simp only [List.take_succ_cons, List.take_zero, List.drop_succ_cons, List.drop_zero, putOps, Act.put, List.setIfInBounds_toArray, List.set_cons_zero, List.set_cons_succ, ee, e9]
            have hk6 := RB.out.below hb RB.out.lt
            have k0 := hk6.cell 0 _ rfl
            have k1 := hk6.cell 1 _ rfl
            have kf0 := hk6.free 0
            have kf1 := hk6.free 1
            have kb0 := hbk.cell 0 _ rfl
            have kb1 := hbk.cell 1 _ rfl
            have CE6 := Lib.hid (CE.out.below hb)
            have RB6 := Lib.hid hk6
            have BB6 := Lib.hid (BB.out.on hb)
            clear hv hap hss ee eb e9 hb hbb hbk hk6 cl5 cl
            generalize vs 0 = y0 at *
            generalize vs 1 = y1 at *
            generalize vs 2 = y2 at *
            generalize vs 3 = y3 at *
            generalize vs 4 = y4 at *
            generalize vs 5 = y5 at *
            generalize vs 6 = y6 at *
            generalize vs 7 = y7 at *
            go_upto_region 10 with (fail)
            obtain ⟨w7, hw7⟩ : ∃ W, W = (w6.setCell ⟨rb, 0, none⟩ (.int .u64 (m : Int))).setCell ⟨rb, 1, none⟩ (.int .i64 (r : Int)) := ⟨_, rfl⟩
            have g67 : w6.grownBy w7 (some rb) := by rw [hw7]; exact only_set (grownBy_cell w6 rb 0 (.int .u64 (m : Int))) (p := ⟨rb, 1, none⟩) (.inl rfl) (.int .i64 (r : Int))
            have RB7 := Lib.hid (show Blk w7 rb 27 [.int .u64 ((m : Int)), .int .i64 ((r : Int))] by rw [hw7]; exact (RB6.out.set 0 _).set 1 _)
            have CE7 := Lib.hid (CE6.out.grown g67 (fun e => by have := Option.some.inj e; have := HRB.out; omega))
            have BB7 := Lib.hid (BB6.out.grown g67 BB6.out.size (fun j hj => by have : rb = j := Option.some.inj hj; have := HRW.out; omega))
            rw [← hw7]
            clear hw7 g67 k0 k1 kf0 kf1 kb0 kb1
            refine wp_region_g (by kernel_rfl) 17 (by decide) (by kernel_rfl) (by kernel_rfl) (by kernel_rfl) (w7.heap.size) (Nat.le_refl _) [.val (.int .i64 2), .val (.int .i64 2), .val (.bool false), .val (.bool false), .val (.pointer (some ⟨b, 0, none⟩)), .val (.int .u64 (m : Int)), .val (.pointer (some ⟨rb, 0, none⟩)), .val (.int .u64 (m : Int)), .val (.bool false), .val (.bool false), .val (.bool false), .val (.pointer (some ⟨b, 0, none⟩)), .val (.int .i64 (r : Int)), .val (.pointer (some ⟨rb, 1, none⟩)), .val (.int .i64 (r : Int)), .val (.bool false), .val (.bool false)] (fun _ => 17) ?_ ?_
            · refine ⟨?_, ?_, ?_, ?_, ?_, ?_, ?_, ?_, ?_, ?_, ?_, ?_, ?_, ?_, ?_, ?_, ?_, trivial⟩
              · intro a w' hF hB hd
                have e8 : a.eval (.tmp 8) = .int .i64 2 := hF 8 (by decide +kernel)
                exact doesG_val rfl (ex_move rfl e8) rfl rfl
              · intro a w' hF hB hd
                have e10 : a.eval (.tmp 10) = .int .i64 2 := hF 10 (by decide +kernel)
                exact doesG_val rfl (ex_move rfl e10) rfl rfl
              · intro a w' hF hB hd
                have e39 : a.eval (.tmp 39) = .int .i64 2 := hd 0 (by decide +kernel) (.inr (by decide))
                have e40 : a.eval (.tmp 40) = .int .i64 2 := hd 1 (by decide +kernel) (.inr (by decide))
                exact doesG_val rfl (ex_binOp rfl e39 e40 (by go_simp) (by go_simp)) rfl rfl
              · intro a w' hF hB hd
                have e41 : a.eval (.tmp 41) = .bool false := hd 2 (by decide +kernel) (.inr (by decide))
                exact doesG_val rfl (ex_move rfl e41) rfl rfl
              · intro a w' hF hB hd
                have e42 : a.eval (.tmp 42) = .bool false := hd 3 (by decide +kernel) (.inr (by decide))
                have e5 : a.eval (.tmp 5) = .pointer (some ⟨b, 0, none⟩) := hF 5 (by decide +kernel)
                exact doesG_val (wanted_of rfl (yielded_of rfl e42)) (ex_move rfl e5) rfl rfl
              · intro a w' hF hB hd
                have e42 : a.eval (.tmp 42) = .bool false := hd 3 (by decide +kernel) (.inr (by decide))
                have e43 : a.eval (.tmp 43) = .pointer (some ⟨b, 0, none⟩) := hd 4 (by decide +kernel) (.inr (by decide))
                exact doesG_call (wanted_of rfl (yielded_of rfl e42)) (ex_call (vs := #[.pointer (some ⟨b, 0, none⟩)]) rfl (by simp only [List.map_toArray, List.map_cons, List.map_nil, e43]) (by go_simp)) rfl ((cvalue_any b m r w' (CE7.out.below hB)).mono fun e w3 hh => ⟨_, hh.1, rfl, by rw [hh.2]; exact Below.refl _ _⟩)
              · intro a w' hF hB hd
                have e42 : a.eval (.tmp 42) = .bool false := hd 3 (by decide +kernel) (.inr (by decide))
                have e6 : a.eval (.tmp 6) = .pointer (some ⟨rb, 0, none⟩) := hF 6 (by decide +kernel)
                exact doesG_val (wanted_of rfl (yielded_of rfl e42)) (v := .pointer (some ⟨rb, 0, none⟩)) (by unfold execOp; simp only [e6]; go_simp) rfl rfl
              · intro a w' hF hB hd
                have e42 : a.eval (.tmp 42) = .bool false := hd 3 (by decide +kernel) (.inr (by decide))
                have e45 : a.eval (.tmp 45) = .pointer (some ⟨rb, 0, none⟩) := hd 6 (by decide +kernel) (.inr (by decide))
                have cw := (RB7.out.below hB RB7.out.lt).cell 0 _ rfl
                exact doesG_val (wanted_of rfl (yielded_of rfl e42)) (v := .int .u64 (m : Int)) (by unfold execOp; simp only [e45]; go_simp) rfl rfl
              · intro a w' hF hB hd
                have e42 : a.eval (.tmp 42) = .bool false := hd 3 (by decide +kernel) (.inr (by decide))
                have e44 : a.eval (.tmp 44) = .int .u64 (m : Int) := hd 5 (by decide +kernel) (.inr (by decide))
                have e46 : a.eval (.tmp 46) = .int .u64 (m : Int) := hd 7 (by decide +kernel) (.inr (by decide))
                exact doesG_val (wanted_of rfl (yielded_of rfl e42)) (ex_binOp rfl e44 e46 (by go_simp) (by go_simp)) rfl rfl
              · intro a w' hF hB hd
                have e42 : a.eval (.tmp 42) = .bool false := hd 3 (by decide +kernel) (.inr (by decide))
                have e47 : a.eval (.tmp 47) = .bool false := hd 8 (by decide +kernel) (.inr (by decide))
                exact doesG_val rfl (ex_pick rfl e42 (by simp [e47])) rfl rfl
              · intro a w' hF hB hd
                have e48 : a.eval (.tmp 48) = .bool false := hd 9 (by decide +kernel) (.inr (by decide))
                exact doesG_val rfl (ex_move rfl e48) rfl rfl
              · intro a w' hF hB hd
                have e49 : a.eval (.tmp 49) = .bool false := hd 10 (by decide +kernel) (.inr (by decide))
                have e5 : a.eval (.tmp 5) = .pointer (some ⟨b, 0, none⟩) := hF 5 (by decide +kernel)
                exact doesG_val (wanted_of rfl (yielded_of rfl e49)) (ex_move rfl e5) rfl rfl
              · intro a w' hF hB hd
                have e49 : a.eval (.tmp 49) = .bool false := hd 10 (by decide +kernel) (.inr (by decide))
                have e50 : a.eval (.tmp 50) = .pointer (some ⟨b, 0, none⟩) := hd 11 (by decide +kernel) (.inr (by decide))
                exact doesG_call (wanted_of rfl (yielded_of rfl e49)) (ex_call (vs := #[.pointer (some ⟨b, 0, none⟩)]) rfl (by simp only [List.map_toArray, List.map_cons, List.map_nil, e50]) (by go_simp)) rfl ((craised_any b m r w' (CE7.out.below hB)).mono fun e w3 hh => ⟨_, hh.1, rfl, by rw [hh.2]; exact Below.refl _ _⟩)
              · intro a w' hF hB hd
                have e49 : a.eval (.tmp 49) = .bool false := hd 10 (by decide +kernel) (.inr (by decide))
                have e6 : a.eval (.tmp 6) = .pointer (some ⟨rb, 0, none⟩) := hF 6 (by decide +kernel)
                exact doesG_val (wanted_of rfl (yielded_of rfl e49)) (v := .pointer (some ⟨rb, 1, none⟩)) (by unfold execOp; simp only [e6]; go_simp) rfl rfl
              · intro a w' hF hB hd
                have e49 : a.eval (.tmp 49) = .bool false := hd 10 (by decide +kernel) (.inr (by decide))
                have e52 : a.eval (.tmp 52) = .pointer (some ⟨rb, 1, none⟩) := hd 13 (by decide +kernel) (.inr (by decide))
                have cw := (RB7.out.below hB RB7.out.lt).cell 1 _ rfl
                exact doesG_val (wanted_of rfl (yielded_of rfl e49)) (v := .int .i64 (r : Int)) (by unfold execOp; simp only [e52]; go_simp) rfl rfl
              · intro a w' hF hB hd
                have e49 : a.eval (.tmp 49) = .bool false := hd 10 (by decide +kernel) (.inr (by decide))
                have e51 : a.eval (.tmp 51) = .int .i64 (r : Int) := hd 12 (by decide +kernel) (.inr (by decide))
                have e53 : a.eval (.tmp 53) = .int .i64 (r : Int) := hd 14 (by decide +kernel) (.inr (by decide))
                exact doesG_val (wanted_of rfl (yielded_of rfl e49)) (ex_binOp rfl e51 e53 (by go_simp) (by go_simp)) rfl rfl
              · intro a w' hF hB hd
                have e49 : a.eval (.tmp 49) = .bool false := hd 10 (by decide +kernel) (.inr (by decide))
                have e54 : a.eval (.tmp 54) = .bool false := hd 15 (by decide +kernel) (.inr (by decide))
                exact doesG_val rfl (ex_pick rfl e49 (by simp [e54])) rfl rfl
            · intro vs w8 hB hv hap
              have e16 : vs 16 = .bool false := hv 16 (by decide) (by decide)
              simp only [List.take_succ_cons, List.take_zero, List.drop_succ_cons, List.drop_zero, putOps, Act.put, List.setIfInBounds_toArray, List.set_cons_zero, List.set_cons_succ, e16]
              have CE8 := Lib.hid (CE7.out.below hB)
              have RB8 := Lib.hid (RB7.out.below hB RB7.out.lt)
              have BB8 := Lib.hid (BB7.out.on hB)
              clear hv hap e16 hB
              go_wp2_with fail
              exact ⟨⟨k + 1, m, r, by omega, by omega, by go_num, HM.out, CE8.out, RB8.out, BB8.out⟩, by simp [intOf]; omega⟩
    · obtain rfl : k = l1.length := by omega
      go_upto_region 12 with (fail)
      refine wp_region_g (by kernel_rfl) 9 (by decide) (by kernel_rfl) (by kernel_rfl) (by kernel_rfl) (wr.heap.size) (Nat.le_refl _) [.val (.pointer (some ⟨b, 0, none⟩)), .val (.int .u64 (m : Int)), .val (.pointer (some ⟨rb, 0, none⟩)), .val (.int .u64 (m : Int)), .val (.bool true), .val (.bool true), .val (.bool true), .val (.bool true), .val (.bool true)] (fun _ => 9) ?_ ?_
      · refine ⟨?_, ?_, ?_, ?_, ?_, ?_, ?_, ?_, ?_, trivial⟩
        · intro a w' hF hB hd
          have e5 : a.eval (.tmp 5) = .pointer (some ⟨b, 0, none⟩) := hF 5 (by decide +kernel)
          exact doesG_val rfl (ex_move rfl e5) rfl rfl
        · intro a w' hF hB hd
          have e56 : a.eval (.tmp 56) = .pointer (some ⟨b, 0, none⟩) := hd 0 (by decide +kernel) (.inr (by decide))
          exact doesG_call rfl (ex_call (vs := #[.pointer (some ⟨b, 0, none⟩)]) rfl (by simp only [List.map_toArray, List.map_cons, List.map_nil, e56]) (by go_simp)) rfl ((cvalue_any b m r w' (CE.out.below hB)).mono fun e w3 hh => ⟨_, hh.1, rfl, by rw [hh.2]; exact Below.refl _ _⟩)
        · intro a w' hF hB hd
          have e6 : a.eval (.tmp 6) = .pointer (some ⟨rb, 0, none⟩) := hF 6 (by decide +kernel)
          exact doesG_val rfl (v := .pointer (some ⟨rb, 0, none⟩)) (by unfold execOp; simp only [e6]; go_simp) rfl rfl
        · intro a w' hF hB hd
          have e58 : a.eval (.tmp 58) = .pointer (some ⟨rb, 0, none⟩) := hd 2 (by decide +kernel) (.inr (by decide))
          have cw := (RB.out.below hB RB.out.lt).cell 0 _ rfl
          exact doesG_val rfl (v := .int .u64 (m : Int)) (by unfold execOp; simp only [e58]; go_simp) rfl rfl
        · intro a w' hF hB hd
          have e57 : a.eval (.tmp 57) = .int .u64 (m : Int) := hd 1 (by decide +kernel) (.inr (by decide))
          have e59 : a.eval (.tmp 59) = .int .u64 (m : Int) := hd 3 (by decide +kernel) (.inr (by decide))
          exact doesG_val rfl (ex_binOp rfl e57 e59 (by go_simp) (by go_simp)) rfl rfl
        · intro a w' hF hB hd
          have e60 : a.eval (.tmp 60) = .bool true := hd 4 (by decide +kernel) (.inr (by decide))
          exact doesG_val rfl (ex_move rfl e60) rfl rfl
        · intro a w' hF hB hd
          have e61 : a.eval (.tmp 61) = .bool true := hd 5 (by decide +kernel) (.inr (by decide))
          exact doesG_call (wanted_of rfl (yielded_of rfl e61)) (ex_call (vs := #[]) rfl (by simp) (by go_simp)) rfl ((cawake_any w').mono fun e w2 hh => ⟨_, hh.1, rfl, hh.2⟩)
        · intro a w' hF hB hd
          have e61 : a.eval (.tmp 61) = .bool true := hd 5 (by decide +kernel) (.inr (by decide))
          have e62 : a.eval (.tmp 62) = .bool true := hd 6 (by decide +kernel) (.inr (by decide))
          exact doesG_val rfl (ex_pick rfl e61 (by simp [e62])) rfl rfl
        · intro a w' hF hB hd
          have e63 : a.eval (.tmp 63) = .bool true := hd 7 (by decide +kernel) (.inr (by decide))
          exact doesG_val rfl (ex_assign rfl e63) rfl rfl
      · intro vs w8 hB hv hap
        have e8 : vs 8 = .bool true := hv 8 (by decide) (by decide)
        simp only [List.take_succ_cons, List.take_zero, List.drop_succ_cons, List.drop_zero, putOps, Act.put, List.setIfInBounds_toArray, List.set_cons_zero, List.set_cons_succ, e8]
        have BB8 := Lib.hid (BB.out.on hB)
        clear hv hap e8 hB
        go_wp2_with fail
        go_ret
        exact ⟨rfl, BB8.out⟩
set_option linter.unusedVariables false in
set_option maxHeartbeats 400000 in
set_option maxRecDepth 100000 in
theorem lifted (os : Os) (started : os.Started) (H : Type) (enc : TypeId × Value → H) :
    ReturnsInHanded {} Try.checked os 3 .any (Rows.cellRaisesSpec.pre6 enc Try.prog Try.f3 Rows.cellRaisesRow.domain false) (Rows.cellRaisesSpec.post enc Try.prog Try.f3 false true false false) := by
  refine returnsInHanded_of_change_sized (C := Try.checked) own started (by kernel_rfl) Try.func3
    (ChangeSpec.witness6 (enc := enc) (C := Try.checked) false ⟨#[], #[.int .u64 0, .slice none 0 0], []⟩ 8 (by kernel_rfl) (by kernel_rfl) (by kernel_rfl) (by kernel_rfl)) ?_
  intro W base args ds gs before hval0 hW _ hsz0 _
  have hsz : (DataW.weightsEach Try.prog (Try.f3.params.toList ++ Rows.cellRaisesSpec.plain.varTypes Try.prog) (ds ++ gs)).all (· ≤ reachBytes) = true := hsz0
  clear hsz0
  have hval : ∀ (j : Nat) t v, Try.f3.params[j]? = some t → args[j]? = some v → Value.okWide Try.prog W .any base t v := hval0
  have hW' := hW
  obtain ⟨p, q, hA0, hV, rfl, _, _⟩ := hW
  have hA : DataW.TrodAll enc Try.prog W 0 (fun _ => true) true Try.f3.params.toList args.toList ds p := hA0
  rw [Try.params3] at hA hval hsz
  obtain ⟨v0, vs0, d0, ds0, p0, q0, hargs, rfl, rfl, g0, r0⟩ := trodAll_cons hA
  obtain ⟨v1, vs1, d1, ds1, p1, q1, rfl, rfl, rfl, g1, r1⟩ := trodAll_cons r0
  obtain ⟨rfl, rfl, rfl⟩ := trodAll_nil r1
  obtain rfl : args = #[v0, v1] := by cases args; simp_all
  obtain ⟨rfl, rfl⟩ := trodVars_none hV
  obtain ⟨a0, rfl, rfl, rfl, w0⟩ := open_int Try.underlying22 (hval 0 22 v0 rfl rfl) g0
  obtain ⟨l1, h1⟩ := open_nums Try.underlying23 Try.underlying22 cells22 (hval 1 23 v1 rfl rfl) g1 (fun elems spare e => sized_slice hsz (j := 1) (t := 23) (e := 22) rfl (by rw [← e]; rfl) Try.underlying23) (of_decide_eq_true (by kernel_rfl))
  clear hA0 hval0
  have hlt := hW'.lt
  refine (walk W a0 w0 v1 l1 h1).mono fun e W' ⟨he, hb⟩ => ?_
  subst he
  have hargs : DataW.TrodAll enc Try.prog W' 0 (fun b => decide (b < W.heap.size)) true _ _ _ _ := (trodAll_cons_mk (shut_int Try.underlying22 w0) (trodAll_cons_mk (Below.trod laidOut (by kernel_rfl) (of_decide_eq_true (by kernel_rfl)) g1 hb (fun x hx => hlt x (by simp [hx]))) trodAll_mk0))
  simp only [List.append_nil] at hW' hargs
  exact ⟨_, rfl, post_law hW' (trodAll_cons_mk (shut_bool Try.underlying4 _) trodAll_mk0) hargs rfl hb⟩
theorem over : Rows.cellRaisesRow.holds Try.pinned (OpenSpec.ofChange Rows.cellRaisesSpec) :=
  OpenClaim.holds_of_wide 3 Try.f3 rfl rfl rfl rfl rfl rfl rfl ⟨rfl, rfl, rfl, rfl, rfl⟩ rfl rfl rfl rfl rfl (by kernel_rfl) Try.func3 (by kernel_rfl)
    (of_decide_eq_true (by kernel_rfl)) (by unfold Func.isWrapper; first | (rw [if_pos (by decide +kernel)]; kernel_rfl) | (rw [if_neg (by decide +kernel)]; exact ⟨rfl, rfl⟩))
    (fun os started H enc _ => lifted os started H enc)

/-- The given statement. -/
theorem proved : Rows.CellRaisesSaid := over
end Go.Proofs.Ytglhlhflbomkoaa.cellRaises
