/- XtsBlock: the first block of a sector, sealed with any keys, is what AES makes of it between two tweaks, and the second one the same with the tweak doubled; and the law's closed case holds. No condition but that the program's two tables hold their constants when the call begins. -/
import Derived.Test.YtmidbmihadhgdaaDoorRows
import Derived.Test.YtmidbmihadhgdaaDoorXtsLaws
import Derived.Test.YtmidbmihadhgdaaDoorXtsTw
import Derived.Test.YtmidbmihadhgdaaDoorFillTo
import Derived.Test.YtmidbmihadhgdaaDoorFactsL
import Derived.Test.YtmidbmihadhgdaaDoorTwiceCalls
import Derived.Deep.DeepCutAuto
import Derived.Test.YtmidbmihadhgdaaDoorDoorAes
import Derived.Test.YtmidbmihadhgdaaDoorTie
import Derived.Test.YtmidbmihadhgdaaDoorCards
import Derived.SevenTiedAt
import Derived.Test.YtmidbmihadhgdaaDoorGridArg
import Derived.Test.YtmidbmihadhgdaaDoorReads
import Derived.Test.YtmidbmihadhgdaaDoorOkLong
import Derived.Test.YtmidbmihadhgdaaDoorMem
import Derived.WalkKit
import Derived.ProofKit
import Derived.OpenShut
import Derived.SizedLaws
import Derived.Carry
import Derived.Deep.DeepHandedRow
import Derived.Deep.DeepWitnessRowRef
namespace Go.Proofs.YtmidbmihadhgdaaDoor.xtsBlock
open Go.ChangeShapes Go.WideShapes Go.ChangeAt Go.RowKit
open AM FM XM
theorem infoKeyX : (Tryd.prog.info? 23).map (·.size) = some 32 := by kernel_rfl
theorem row_part {L : List Nat} {m : Nat} (hL : L.length = m * 32) (i : Nat) (hi : i < m) (j : Nat) (v : Value) (h : (row8 (rowAt L 32 i))[j]? = some v) : (row8 L)[i * 32 + j]? = some v := by
  rw [row8_rowAt, List.getElem?_take] at h
  split at h
  · rw [List.getElem?_drop] at h; exact h
  · cases h
/-- A Cipher; an Xts; what Seal tells. -/
def lcph (K : List Nat) : Last := ⟨fun v w => ∃ c, v = .pointer (some ⟨c, 0, none⟩) ∧ Cph w c K, fun h hb => by obtain ⟨c, e, h⟩ := h; exact ⟨c, e, h.below hb⟩⟩
def lxt (K L : List Nat) : Last := ⟨fun v w => ∃ x, v = .pointer (some ⟨x, 0, none⟩) ∧ Xt w x K L, fun h hb => by obtain ⟨c, e, h⟩ := h; exact ⟨c, e, h.below hb⟩⟩
def lrd (C : List Nat) : Last := ⟨fun v w => ∃ ao cap, v = .slice ao 512 cap ∧ Rd w (.slice ao 512 cap) C, fun h hb => by obtain ⟨a, c, e, h⟩ := h; exact ⟨a, c, e, h.below hb⟩⟩
def ltold (C : List Nat) : Last := ⟨fun v w => ∃ ao cap, v = .tuple #[.slice ao 512 cap, .int .i64 0] ∧ Rd w (.slice ao 512 cap) C, fun h hb => by obtain ⟨a, c, e, h⟩ := h; exact ⟨a, c, e, h.below hb⟩⟩
theorem own : ownKnob Tryd.prog.godebug = none := by kernel_rfl
theorem cells23 : Tryd.prog.cellsOf 23 = 32 := by kernel_rfl
theorem cells24 : Tryd.prog.cellsOf 24 = 64 := by kernel_rfl
theorem cells44 : Tryd.prog.cellsOf 44 = 512 := by kernel_rfl
theorem cells5 : Tryd.prog.cellsOf 5 = 1 := by kernel_rfl
set_option linter.unusedVariables false in
set_option maxHeartbeats 4000000 in
set_option maxRecDepth 100000 in
theorem walk (w : World) (ht : TabX w ∧ TabU w) (l0 : List Nat) (h0 : Bytes (2 * 32) l0) (a1 : Int) (w1 : (Lit.int .u64 a1).wf = true) (l2 : List Nat) (h2 : Bytes 512 l2) :
    Calls Tryd.prog 7 #[.agg (row8 l0).toArray, .int .u64 a1, .agg (row8 l2).toArray] w fun e w' => e = .returned (.bool true) ∧ Below w.heap.size w w' := by
  obtain ⟨n, hn, rfl⟩ : ∃ n : Nat, n < 2 ^ 64 ∧ a1 = (n : Int) := by
    have k : 0 ≤ a1 ∧ a1 ≤ 18446744073709551615 := by simpa [Lit.wf, IntKind.min, IntKind.max, IntKind.signed, IntKind.bits] using w1
    exact ⟨a1.toNat, by omega, by omega⟩
  obtain ⟨K, hK⟩ : ∃ K, K = rowAt l0 32 0 := ⟨_, rfl⟩
  obtain ⟨L, hL⟩ : ∃ L, L = rowAt l0 32 1 := ⟨_, rfl⟩
  have bK : Bytes 32 K := by rw [hK]; exact rowAt_bytes h0 0 (by omega)
  have bL : Bytes 32 L := by rw [hL]; exact rowAt_bytes h0 1 (by omega)
  obtain ⟨k1, hk1⟩ : ∃ k, k = keys K := ⟨_, rfl⟩
  obtain ⟨k2, hk2⟩ : ∃ k, k = keys L := ⟨_, rfl⟩
  have hb1 : ∀ m, Bytes 16 (k1 m) := by rw [hk1]; exact keys_bytes bK
  have hb2 : ∀ m, Bytes 16 (k2 m) := by rw [hk2]; exact keys_bytes bL
  obtain ⟨C, hC⟩ : ∃ C, C = xseal k1 k2 n l2 := ⟨_, rfl⟩
  have hCl : C.length = 512 := by rw [hC]; unfold xseal; rw [sealTo_len hb1 hb2, h2.1]
  have HCB := Lib.hid (fun i (hi : i < 32) => (show blk C i = sb1 k1 (tweak k2 n i) (blk l2 i) by rw [hC]; exact xseal_blk k1 k2 hb1 hb2 n hn l2 h2.1 i hi))
  obtain ⟨D0, hD0⟩ : ∃ D0, D0 = row8 (List.replicate 16 0) := ⟨_, rfl⟩
  have hz : ∀ w, (zeroValue 35).run Tryd.prog w = .ok (.agg D0.toArray) w := by rw [hD0]; exact zero16
  have hd0 : D0.length = 16 := by rw [hD0, row8_len, List.length_replicate]
  have xe : xerr 512 = 0 := by decide
  have w1 := (Below.refl w.heap.size w).alloc (Nat.le_refl _) (.cells (row8 l0).toArray 24)
  have w2 := w1.alloc w1.size (.cells (row8 l2).toArray 44)
  have w3 := w2.alloc w2.size (.cells D0.toArray 35)
  have A0 := Lib.hid (((Blk.new w 24 (row8 l0) _ rfl).alloc (.cells (row8 l2).toArray 44)).alloc (.cells D0.toArray 35))
  have S0 := Lib.hid ((Blk.new (w.alloc (.cells (row8 l0).toArray 24)) 44 (row8 l2) (w.heap.size + 1) (by simp)).alloc (.cells D0.toArray 35))
  have N0 := Lib.hid (Blk.new ((w.alloc (.cells (row8 l0).toArray 24)).alloc (.cells (row8 l2).toArray 44)) 35 D0 (w.heap.size + 1 + 1) (by simp))
  have B0 := Lib.hid w3
  have HPK := Lib.hid (fun W (h : Blk W w.heap.size 24 (row8 l0)) => (show W.rangeAt w.heap.size 0 (row8 K) from range_part h 0 (row8 K) (fun j v hv => by rw [hK] at hv; have := row_part h0.1 0 (by omega) j v hv; simpa using this)))
  have HPL := Lib.hid (fun W (h : Blk W w.heap.size 24 (row8 l0)) => (show W.rangeAt w.heap.size 32 (row8 L) from range_part h 32 (row8 L) (fun j v hv => by rw [hL] at hv; have := row_part h0.1 1 (by omega) j v hv; simpa using this)))
  have K32 := Lib.hid (show (row8 K).length = 32 by rw [row8_len]; exact bK.1)
  have L32 := Lib.hid (show (row8 L).length = 32 by rw [row8_len]; exact bL.1)
  have HX := Lib.hid ht.1
  have HU := Lib.hid ht.2
  have HBK := Lib.hid bK
  have HBL := Lib.hid bL
  have HB1 := Lib.hid hb1
  have HB2 := Lib.hid hb2
  have HK1 := Lib.hid hk1
  have HK2 := Lib.hid hk2
  have HC := Lib.hid hC
  have HCL := Lib.hid hCl
  have HD := Lib.hid hD0
  have HXE := Lib.hid xe
  have HN := Lib.hid hn
  have H2 := Lib.hid h2
  clear hK hL bK bL hb1 hb2 hk1 hk2 hC hCl hD0 xe w1 w2 w3 ht hn h0 h2
  go_enter Tryd.func7, Tryd.ntmps7
  go_upto_region 3 with (fail)
  go_loopw [8] (fun x wr => ∃ k : Nat, k ≤ 8 ∧ x = .int .i64 (k : Int) ∧ Blk wr w.heap.size 24 (row8 l0) ∧ Blk wr (w.heap.size + 1) 44 (row8 l2) ∧ Blk wr (w.heap.size + 1 + 1) 35 (row8 (numTo n k)) ∧ Below w.heap.size w wr) (fun x _ => 8 - (intOf x).toNat)
  case atStart => exact ⟨0, by omega, rfl, A0.out, S0.out, by rw [numTo_zero, ← HD.out]; exact N0.out, B0.out⟩
  case round =>
    clear A0 S0 N0 B0
    obtain ⟨k, hk, rfl, a0, s0, n0, b0⟩ := hrel
    by_cases h8 : k < 8
    · have h8I : (k : Int) < 8 := by omega
      have d := n0.cell k _ (row8_val _ k (by rw [numTo_len]; omega))
      have f := n0.free k
      have hs := shr_num n k
      have q1 : (0 : Int) ≤ 8 * (k : Int) := by omega
      have q2 : (8 * (k : Int)).toNat = 8 * k := by omega
      have A1 := Lib.hid a0
      have S1 := Lib.hid s0
      have N1 := Lib.hid n0
      have B1 := Lib.hid b0
      clear a0 s0 n0 b0
      go_wp2_with fail
      have nt := N1.out.set k (.int .u8 ((n / 256 ^ k % 256 : Nat) : Int))
      rw [row8_set, numTo_step n k h8] at nt
      exact ⟨⟨k + 1, by omega, by go_num, A1.out.other ⟨w.heap.size + 1 + 1, k, none⟩ _ (by simp <;> omega), S1.out.other ⟨w.heap.size + 1 + 1, k, none⟩ _ (by simp <;> omega), nt, B1.out.setCell (p := ⟨w.heap.size + 1 + 1, k, none⟩) (by simp <;> omega) _⟩, by simp [intOf]; omega⟩
    · obtain rfl : k = 8 := by omega
      obtain ⟨M, hM⟩ : ∃ M, M = num n := ⟨_, rfl⟩
      rw [numTo_all, ← hM] at n0
      have HMB := Lib.hid (show Bytes 16 M by rw [hM]; exact num_bytes n)
      have HM := Lib.hid hM
      have A1 := Lib.hid a0
      have S1 := Lib.hid s0
      have N1 := Lib.hid n0
      have B1 := Lib.hid b0
      have HX1 := Lib.hid (HX.out.below b0)
      have HU1 := Lib.hid (HU.out.below b0)
      clear hM a0 s0 n0 b0 h8 hk
      go_upto_region 6 with (fail)
      refine wp_region_l (by kernel_rfl) 6 (by decide) (by kernel_rfl) (by kernel_rfl) (by kernel_rfl) [.val (.pointer (some ⟨w.heap.size, 0, none⟩)), .val (.agg (row8 K).toArray), lcph K, .val (.pointer (some ⟨w.heap.size, 32, none⟩)), .val (.agg (row8 L).toArray), lcph L] ?_ ?_
      · refine ⟨?_, ?_, ?_, ?_, ?_, ?_, trivial⟩
        · intro a w' hF hB hd
          have e3 : a.eval (.tmp 3) = .pointer (some ⟨w.heap.size, 0, none⟩) := hF 3 (by decide +kernel)
          exact doesL_val rfl (v := .pointer (some ⟨w.heap.size, 0, none⟩)) (by unfold execOp; simp only [e3]; go_simp) rfl
        · intro a w' hF hB hd
          have e30 : a.eval (.tmp 30) = .pointer (some ⟨w.heap.size, 0, none⟩) := hd 0 (by decide +kernel)
          exact doesL_wp rfl fun K' hK' => wp_load_mid 23 (.tmp 30) rfl w.heap.size 0 e30 (row8 K) _ (HPK.out _ (A1.out.below hB A1.out.lt)) Tryd.underlying23 rfl (by rw [K32.out]; exact infoKeyX) (hK' _ _ rfl (Below.refl _ _))
        · intro a w' hF hB hd
          have e31 : a.eval (.tmp 31) = .agg (row8 K).toArray := hd 1 (by decide +kernel)
          exact doesL_call rfl (ex_call (vs := #[.agg (row8 K).toArray]) rfl (by simp only [List.map_toArray, List.map_cons, List.map_nil, e31]) (by go_simp)) ((cph_new K HBK.out w' (HX1.out.below hB)).mono fun e w2 hh => by
            obtain ⟨c, _, rfl, h, hb⟩ := hh
            exact ⟨_, rfl, ⟨c, rfl, h⟩, hb⟩)
        · intro a w' hF hB hd
          have e3 : a.eval (.tmp 3) = .pointer (some ⟨w.heap.size, 0, none⟩) := hF 3 (by decide +kernel)
          exact doesL_val rfl (v := .pointer (some ⟨w.heap.size, 32, none⟩)) (by unfold execOp; simp only [e3]; go_simp) rfl
        · intro a w' hF hB hd
          have e33 : a.eval (.tmp 33) = .pointer (some ⟨w.heap.size, 32, none⟩) := hd 3 (by decide +kernel)
          exact doesL_wp rfl fun K' hK' => wp_load_mid 23 (.tmp 33) rfl w.heap.size 32 e33 (row8 L) _ (HPL.out _ (A1.out.below hB A1.out.lt)) Tryd.underlying23 rfl (by rw [L32.out]; exact infoKeyX) (hK' _ _ rfl (Below.refl _ _))
        · intro a w' hF hB hd
          have e34 : a.eval (.tmp 34) = .agg (row8 L).toArray := hd 4 (by decide +kernel)
          exact doesL_call rfl (ex_call (vs := #[.agg (row8 L).toArray]) rfl (by simp only [List.map_toArray, List.map_cons, List.map_nil, e34]) (by go_simp)) ((cph_new L HBL.out w' (HX1.out.below hB)).mono fun e w2 hh => by
            obtain ⟨c, _, rfl, h, hb⟩ := hh
            exact ⟨_, rfl, ⟨c, rfl, h⟩, hb⟩)
      · intro vs w4 hB hv
        obtain ⟨c1, e32, p1⟩ : (lcph K).holds (vs 2) w4 := hv 2 (by decide)
        obtain ⟨c2, e35, p2⟩ : (lcph L).holds (vs 5) w4 := hv 5 (by decide)
        simp only [List.take_succ_cons, List.take_zero, List.drop_succ_cons, List.drop_zero, putOps, Act.put, List.setIfInBounds_toArray, List.set_cons_zero, List.set_cons_succ, e32, e35]
        have P1 := Lib.hid p1
        have P2 := Lib.hid p2
        have A4 := Lib.hid (A1.out.below hB A1.out.lt)
        have S4 := Lib.hid (S1.out.below hB S1.out.lt)
        have N4 := Lib.hid (N1.out.below hB N1.out.lt)
        have B4 := Lib.hid (B1.out.on hB)
        have HX4 := Lib.hid (HX1.out.below hB)
        have HU4 := Lib.hid (HU1.out.below hB)
        clear hv e32 e35 hB p1 p2 A1 S1 N1 B1 HX1 HU1
        generalize vs 0 = v0 at *
        generalize vs 1 = v1 at *
        generalize vs 3 = v3 at *
        generalize vs 4 = v4 at *
        go_upto_region 7 with (fail)
        refine wp_region_l (by kernel_rfl) 12 (by decide) (by kernel_rfl) (by kernel_rfl) (by kernel_rfl) [.val (.pointer (some ⟨w.heap.size, 0, none⟩)), .val (.agg (row8 K).toArray), .val (.pointer (some ⟨w.heap.size, 32, none⟩)), .val (.agg (row8 L).toArray), lxt K L, .val (.int .u64 (n : Int)), .val (.slice (some ⟨w.heap.size + 1, 0, none⟩) 512 512), ltold C, ltold C, lrd C, .val (.int .i64 0), lrd C] ?_ ?_
        · refine ⟨?_, ?_, ?_, ?_, ?_, ?_, ?_, ?_, ?_, ?_, ?_, ?_, trivial⟩
          · intro a w' hF hB hd
            have e3 : a.eval (.tmp 3) = .pointer (some ⟨w.heap.size, 0, none⟩) := hF 3 (by decide +kernel)
            exact doesL_val rfl (v := .pointer (some ⟨w.heap.size, 0, none⟩)) (by unfold execOp; simp only [e3]; go_simp) rfl
          · intro a w' hF hB hd
            have e37 : a.eval (.tmp 37) = .pointer (some ⟨w.heap.size, 0, none⟩) := hd 0 (by decide +kernel)
            exact doesL_wp rfl fun K' hK' => wp_load_mid 23 (.tmp 37) rfl w.heap.size 0 e37 (row8 K) _ (HPK.out _ (A4.out.below hB A4.out.lt)) Tryd.underlying23 rfl (by rw [K32.out]; exact infoKeyX) (hK' _ _ rfl (Below.refl _ _))
          · intro a w' hF hB hd
            have e3 : a.eval (.tmp 3) = .pointer (some ⟨w.heap.size, 0, none⟩) := hF 3 (by decide +kernel)
            exact doesL_val rfl (v := .pointer (some ⟨w.heap.size, 32, none⟩)) (by unfold execOp; simp only [e3]; go_simp) rfl
          · intro a w' hF hB hd
            have e39 : a.eval (.tmp 39) = .pointer (some ⟨w.heap.size, 32, none⟩) := hd 2 (by decide +kernel)
            exact doesL_wp rfl fun K' hK' => wp_load_mid 23 (.tmp 39) rfl w.heap.size 32 e39 (row8 L) _ (HPL.out _ (A4.out.below hB A4.out.lt)) Tryd.underlying23 rfl (by rw [L32.out]; exact infoKeyX) (hK' _ _ rfl (Below.refl _ _))
          · intro a w' hF hB hd
            have e38 : a.eval (.tmp 38) = .agg (row8 K).toArray := hd 1 (by decide +kernel)
            have e40 : a.eval (.tmp 40) = .agg (row8 L).toArray := hd 3 (by decide +kernel)
            exact doesL_call rfl (ex_call (vs := #[.agg (row8 K).toArray, .agg (row8 L).toArray]) rfl (by simp only [List.map_toArray, List.map_cons, List.map_nil, e38, e40]) (by go_simp)) ((xt_new K L HBK.out HBL.out w' (HX4.out.below hB)).mono fun e w2 hh => by
              obtain ⟨x, _, rfl, h, hb⟩ := hh
              exact ⟨_, rfl, ⟨x, rfl, h⟩, hb⟩)
          · intro a w' hF hB hd
            have e1 : a.eval (.tmp 1) = .int .u64 (n : Int) := hF 1 (by decide +kernel)
            exact doesL_val rfl (ex_move rfl e1) rfl
          · intro a w' hF hB hd
            have e5 : a.eval (.tmp 5) = .pointer (some ⟨w.heap.size + 1, 0, none⟩) := hF 5 (by decide +kernel)
            exact doesL_val rfl (v := .slice (some ⟨w.heap.size + 1, 0, none⟩) 512 512) (by unfold execOp; simp only [e5]; go_simp) rfl
          · intro a w' hF hB hd
            obtain ⟨x, e41, hxt⟩ : (lxt K L).holds (a.eval (.tmp 41)) w' := hd 4 (by decide +kernel)
            have e42 : a.eval (.tmp 42) = .int .u64 (n : Int) := hd 5 (by decide +kernel)
            have e43 : a.eval (.tmp 43) = .slice (some ⟨w.heap.size + 1, 0, none⟩) 512 512 := hd 6 (by decide +kernel)
            have r := blk_rd_at (S4.out.below hB S4.out.lt) H2.out.2 0 512 512 (by rw [H2.out.1]; omega) (Nat.le_refl _) (by rw [H2.out.1]; omega)
            rw [List.drop_zero, List.take_of_length_le (by rw [H2.out.1]; omega)] at r
            have s := xt_seal x K L n HN.out _ l2 w' r hxt (HX4.out.below hB)
            rw [H2.out.1, HXE.out, if_pos rfl, ← HK1.out, ← HK2.out, ← HC.out] at s
            exact doesL_call rfl (ex_call (vs := #[.pointer (some ⟨x, 0, none⟩), .int .u64 (n : Int), .slice (some ⟨w.heap.size + 1, 0, none⟩) 512 512]) rfl (by simp only [List.map_toArray, List.map_cons, List.map_nil, e41, e42, e43]) (by go_simp)) (s.mono fun e w2 hh => by
              obtain ⟨y, rfl, hr, hb⟩ := hh
              obtain ⟨ao, cap, rfl, _⟩ := hr.shape
              rw [HCL.out] at hr ⊢
              exact ⟨_, rfl, ⟨ao, cap, rfl, hr⟩, hb⟩)
          · intro a w' hF hB hd
            have h44 : (ltold C).holds (a.eval (.tmp 44)) w' := hd 7 (by decide +kernel)
            exact doesL_val rfl (v := a.eval (.tmp 44)) (ex_move rfl rfl) h44
          · intro a w' hF hB hd
            obtain ⟨ao, cap, e36, r⟩ : (ltold C).holds (a.eval (.tmp 36)) w' := hd 8 (by decide +kernel)
            exact doesL_val rfl (v := .slice ao 512 cap) (by unfold execOp; simp only [e36]; go_simp) ⟨ao, cap, rfl, r⟩
          · intro a w' hF hB hd
            obtain ⟨ao, cap, e36, r⟩ : (ltold C).holds (a.eval (.tmp 36)) w' := hd 8 (by decide +kernel)
            exact doesL_val rfl (v := .int .i64 0) (by unfold execOp; simp only [e36]; go_simp) rfl
          · intro a w' hF hB hd
            have h45 : (lrd C).holds (a.eval (.tmp 45)) w' := hd 9 (by decide +kernel)
            exact doesL_val rfl (v := a.eval (.tmp 45)) (ex_assign rfl rfl) h45
        · intro vs w5 hB hv
          obtain ⟨yo, yc, e44, r5⟩ : (lrd C).holds (vs 11) w5 := hv 11 (by decide)
          have e46 : vs 10 = .int .i64 0 := hv 10 (by decide)
          simp only [List.take_succ_cons, List.take_zero, List.drop_succ_cons, List.drop_zero, putOps, Act.put, List.setIfInBounds_toArray, List.set_cons_zero, List.set_cons_succ, e44, e46]
          have R5 := Lib.hid r5
          have P15 := Lib.hid (P1.out.below hB)
          have P25 := Lib.hid (P2.out.below hB)
          have S5 := Lib.hid (S4.out.below hB S4.out.lt)
          have N5 := Lib.hid (N4.out.below hB N4.out.lt)
          have B5 := Lib.hid (B4.out.on hB)
          have HX5 := Lib.hid (HX4.out.below hB)
          have HU5 := Lib.hid (HU4.out.below hB)
          clear hv e44 e46 hB r5 P1 P2 A4 S4 N4 B4 HX4 HU4
          generalize vs 0 = u0 at *
          generalize vs 1 = u1 at *
          generalize vs 2 = u2 at *
          generalize vs 3 = u3 at *
          generalize vs 4 = u4 at *
          generalize vs 5 = u5 at *
          generalize vs 6 = u6 at *
          generalize vs 7 = u7 at *
          generalize vs 8 = u8 at *
          generalize vs 9 = u9 at *
          obtain ⟨T, hT⟩ : ∃ T, T = enc k2 M := ⟨_, rfl⟩
          have hT0 : T = tweak k2 n 0 := by rw [hT, HM.out]; rfl
          have M16 := Lib.hid (show (row8 M).length = 16 by rw [row8_len]; exact HMB.out.1)
          have T16 := Lib.hid (show (row8 T).length = 16 by rw [hT, row8_len]; exact (enc_bytes HB2.out _).1)
          have HT0 := Lib.hid hT0
          have HEN := Lib.hid (cph_enc L c2 M HMB.out w5 P25.out HX5.out)
          rw [show rk (sched L) = k2 from HK2.out.symm, ← hT] at HEN
          clear hT hT0
          go_upto_region 12 with (first
            | (refine wpList_load_mid rfl 35 (.tmp 7) rfl (w.heap.size + 1 + 1) 0 rfl (row8 M) _ N5.out.range Tryd.underlying35 rfl (by rw [M16.out]; exact info16) ?_)
            | (go_at_call 17; (with_reducible refine HEN.out.mono ?_); rintro e w6 ⟨rfl, b6⟩; have R6 := Lib.hid (R5.out.below b6); have P6 := Lib.hid (P15.out.below b6); have S6 := Lib.hid (S5.out.below b6 S5.out.lt); have B6 := Lib.hid (B5.out.on b6); clear b6)
            | (refine wpList_store_blk rfl 35 (.tmp 13) (.tmp 56) rfl w6.heap.size 0 (row8 T) rfl rfl 35 D0 (Blk.new w6 35 D0 _ rfl) (by rw [T16.out, hd0]; exact Nat.le_refl _) (by rw [T16.out]; exact info16) (row8_one _) ?_; intro w7 b7 g7; rw [splice_all _ _ (by rw [T16.out, hd0])] at b7; have T7 := Lib.hid b7; have hbw : Below w6.heap.size w6 w7 := alloc_turn (Below.refl _ _) g7; have R7 := Lib.hid (R6.out.below hbw); have P7 := Lib.hid (P6.out.below hbw); have S7 := Lib.hid (S6.out.below hbw S6.out.lt); have B7 := Lib.hid (B6.out.on hbw); clear b7 g7 hbw))
          obtain ⟨tb, htb⟩ : ∃ b, b = w6.heap.size := ⟨_, rfl⟩
          have hts : w.heap.size + 1 < tb := by rw [htb]; exact S6.out.lt
          have hct : c1 < tb := by rw [htb]; exact P6.out.lt
          have hyt : ∀ g, (Value.slice yo 512 yc).ownBlock = some g → g < tb := fun g hg => by
            rw [htb]
            obtain ⟨ad, had, hcell⟩ := R6.out.at_ 0 (by rw [HCL.out]; omega)
            have := World.block_lt_of_cell? w6 _ hcell
            subst had
            have hb : ad.block = g := Option.some.inj hg
            rw [← hb]
            simpa [add_block] using this
          rw [← htb, HT0.out] at T7
          rw [← htb]
          have HYT := Lib.hid hyt
          clear htb hyt R6 P6 S6 B6 R5 P15 P25 S5 N5 B5 HX5 HU5 HEN
          go_loopw [14] (fun x wr => ∃ i : Nat, i ≤ 2 ∧ x = .int .i64 (i : Int) ∧ Rd wr (.slice yo 512 yc) C ∧ Cph wr c1 K ∧ Blk wr (w.heap.size + 1) 44 (row8 l2) ∧ Blk wr tb 35 (row8 (tweak k2 n i)) ∧ Below w.heap.size w wr) (fun x _ => 2 - (intOf x).toNat)
          case atStart => exact ⟨0, by omega, rfl, R7.out, P7.out, S7.out, T7.out, B7.out⟩
          case round =>
            clear R7 P7 S7 T7 B7
            obtain ⟨i, hi, rfl, r0, p0, s0, t0, b0⟩ := hrel
            by_cases hi2 : i < 2
            · have hiI : (i : Int) < 2 := by omega
              obtain ⟨E, hE⟩ : ∃ E, E = tweak k2 n i := ⟨_, rfl⟩
              have bE : Bytes 16 E := by rw [hE]; exact tweak_bytes HB2.out n i
              rw [← hE] at t0
              obtain ⟨pb, hpb⟩ : ∃ b, b = wr.heap.size := ⟨_, rfl⟩
              have htp : tb < pb := by rw [hpb]; exact t0.lt
              have hbw := (Below.refl wr.heap.size wr).alloc (Nat.le_refl _) (.cells D0.toArray 35)
              have R1 := Lib.hid (r0.below hbw)
              have P1 := Lib.hid (p0.below hbw)
              have S1 := Lib.hid (s0.below hbw s0.lt)
              have T1 := Lib.hid (t0.below hbw t0.lt)
              have B1 := Lib.hid (b0.on hbw)
              have Q1 := Lib.hid (Blk.new wr 35 D0 pb hpb)
              have HPB := Lib.hid hpb
              have HE := Lib.hid hE
              have HBE := Lib.hid bE
              clear hE bE hpb hbw r0 p0 s0 t0 b0
              go_upto_region 16 with (fail)
              rw [← HPB.out]
              go_loopw [16] (fun x wq => ∃ j : Nat, j ≤ 16 ∧ x = .int .i64 (j : Int) ∧ Rd wq (.slice yo 512 yc) C ∧ Cph wq c1 K ∧ Blk wq (w.heap.size + 1) 44 (row8 l2) ∧ Blk wq tb 35 (row8 E) ∧ Blk wq pb 35 (row8 (fillTo (fun j => gb l2 (16 * i + j) ^^^ gb E j) 16 j)) ∧ Below w.heap.size w wq) (fun x _ => 16 - (intOf x).toNat)
              case atStart => exact ⟨0, by omega, rfl, R1.out, P1.out, S1.out, T1.out, by rw [fillTo_zero, ← HD.out]; exact Q1.out, B1.out⟩
              case round =>
                clear R1 P1 S1 T1 Q1 B1
                obtain ⟨j, hj, rfl, r1, p1, s1, t1, q1, b1⟩ := hrel
                by_cases hj16 : j < 16
                · have hjI : (j : Int) < 16 := by omega
                  obtain ⟨x, hx⟩ : ∃ x, x = gb l2 (16 * i + j) := ⟨_, rfl⟩
                  obtain ⟨y, hy⟩ : ∃ y, y = gb E j := ⟨_, rfl⟩
                  have lx : x < 256 := by rw [hx]; exact H2.out.2 _
                  have ly : y < 256 := by rw [hy]; exact HBE.out.2 _
                  have d1 := s1.cell (16 * i + j) _ (row8_val _ _ (by rw [H2.out.1]; omega))
                  have d2 := t1.cell j _ (row8_val _ _ (by rw [HBE.out.1]; exact hj16))
                  have d3 := q1.cell j _ (row8_val _ _ (by rw [fillTo_len]; exact hj16))
                  have f3 := q1.free j
                  have HST := Lib.hid (show (fillTo (fun j => gb l2 (16 * i + j) ^^^ gb E j) 16 j).set j (x ^^^ y) = fillTo (fun j => gb l2 (16 * i + j) ^^^ gb E j) 16 (j + 1) by rw [hx, hy]; exact fillTo_step (fun j => gb l2 (16 * i + j) ^^^ gb E j) 16 j hj16)
                  rw [← hx] at d1
                  rw [← hy] at d2
                  have hxr := u8_xor_nat x y lx ly
                  have z0 : (0 : Int) ≤ 16 * (i : Int) + (j : Int) := by omega
                  have z1 : 16 * (i : Int) + (j : Int) < 512 := by omega
                  have z2 : (16 * (i : Int) + (j : Int)).toNat = 16 * i + j := by omega
                  have R2 := Lib.hid r1
                  have P2 := Lib.hid p1
                  have S2 := Lib.hid s1
                  have T2 := Lib.hid t1
                  have Q2 := Lib.hid q1
                  have B2 := Lib.hid b1
                  clear r1 p1 s1 t1 q1 b1 hx hy
                  go_upto_region 18 with (fail)
                  go_region
                  have q3 := (Q2.out.set j (.int .u8 ((x ^^^ y : Nat) : Int))).drew
                  rw [row8_set, HST.out] at q3
                  have gw0 := only_set (World.grownBy.refl wr (some pb)) (p := ⟨pb, j, none⟩) (.inl rfl) (.int .u8 ((x ^^^ y : Nat) : Int))
                  have gw : wr.grownBy (wr.setCell ⟨pb, j, none⟩ (.int .u8 ((x ^^^ y : Nat) : Int))).drew (some pb) := ⟨gw0.os, gw0.tape, gw0.output, gw0.size, gw0.block⟩
                  have R3 := Lib.hid (R2.out.grown gw (by
                    cases e : (Value.slice yo 512 yc).ownBlock with
                    | none => exact .inl rfl
                    | some g => refine .inr fun q => ?_; injection q with q; have := HYT.out g e; omega))
                  have P3 := Lib.hid (P2.out.grown gw (fun q => by have e : c1 = pb := Option.some.inj q; omega))
                  have S3 := Lib.hid (S2.out.grown gw (fun q => by have e : w.heap.size + 1 = pb := Option.some.inj q; omega))
                  have T3 := Lib.hid (T2.out.grown gw (fun q => by have e : tb = pb := Option.some.inj q; omega))
                  have Q3 := Lib.hid q3
                  have B3 := Lib.hid (B2.out.setCell (p := ⟨pb, j, none⟩) (by simp <;> omega) (.int .u8 ((x ^^^ y : Nat) : Int))).drew
                  clear q3 gw gw0 d1 d2 d3 f3 R2 P2 S2 T2 Q2 B2
                  go_wp2_with fail
                  exact ⟨⟨j + 1, by omega, by go_num, R3.out, P3.out, S3.out, T3.out, Q3.out, B3.out⟩, by simp [intOf]; omega⟩
                · obtain rfl : j = 16 := by omega
                  obtain ⟨D, hD⟩ : ∃ D, D = ax (blk l2 i) E := ⟨_, rfl⟩
                  have bD : Bytes 16 D := by rw [hD]; exact ax_bytes (blk_bytes H2.out.2 i (by rw [H2.out.1]; omega)) HBE.out
                  rw [fillTo_all, show (List.range 16).map (fun j => gb l2 (16 * i + j) ^^^ gb E j) = D from bytes_ext (n := 16) (by simp) bD.1 fun j hj => by
                    rw [gb_map, if_pos hj, hD]; unfold ax; rw [row_get _ _ hj]; unfold blk; rw [gb_take _ _ _ hj, gb_drop]] at q1
                  obtain ⟨F, hF⟩ : ∃ F, F = enc k1 D := ⟨_, rfl⟩
                  have bF : Bytes 16 F := by rw [hF]; exact enc_bytes HB1.out _
                  have HCF := Lib.hid (fun j (hj : j < 16) => (show gb C (16 * i + j) = gb F j ^^^ gb E j by
                    have h : gb (blk C i) j = gb (sb1 k1 (tweak k2 n i) (blk l2 i)) j := by rw [HCB.out i (by omega)]
                    unfold blk sb1 at h
                    rw [gb_take _ _ _ hj, gb_drop] at h
                    rw [h, ← HE.out, hF, hD]
                    unfold ax; rw [row_get _ _ hj]; rfl))
                  have HEN := Lib.hid (cph_enc K c1 D bD wr p1 (HX.out.below b1))
                  rw [show rk (sched K) = k1 from HK1.out.symm, ← hF] at HEN
                  have D16 := Lib.hid (show (row8 D).length = 16 by rw [row8_len]; exact bD.1)
                  have F16 := Lib.hid (show (row8 F).length = 16 by rw [row8_len]; exact bF.1)
                  have HBF := Lib.hid bF
                  have R2 := Lib.hid r1
                  have P2 := Lib.hid p1
                  have S2 := Lib.hid s1
                  have T2 := Lib.hid t1
                  have Q2 := Lib.hid q1
                  have B2 := Lib.hid b1
                  clear r1 p1 s1 t1 q1 b1 hD bD hF bF
                  go_upto_region 21 with (first
                    | (refine wpList_load_mid rfl 35 (.tmp 15) rfl pb 0 rfl (row8 D) _ Q2.out.range Tryd.underlying35 rfl (by rw [D16.out]; exact info16) ?_)
                    | (go_at_call 17; (with_reducible refine HEN.out.mono ?_); rintro e w8 ⟨rfl, b8⟩; have R8 := Lib.hid (R2.out.below b8); have P8 := Lib.hid (P2.out.below b8); have S8 := Lib.hid (S2.out.below b8 S2.out.lt); have T8 := Lib.hid (T2.out.below b8 T2.out.lt); have Q8 := Lib.hid (Q2.out.below b8 Q2.out.lt); have B8 := Lib.hid (B2.out.on b8); clear b8)
                    | (refine wpList_store_blk rfl 35 (.tmp 15) (.tmp 79) rfl pb 0 (row8 F) rfl rfl 35 (row8 D) Q8.out (by rw [D16.out, F16.out]; exact Nat.le_refl _) (by rw [F16.out]; exact info16) (row8_one _) ?_; intro w9 b9 g9; rw [splice_all _ _ (by rw [D16.out, F16.out])] at b9; have Q9 := Lib.hid b9; have R9 := Lib.hid (R8.out.grown g9 (by
                        cases e : (Value.slice yo 512 yc).ownBlock with
                        | none => exact .inl rfl
                        | some g => refine .inr fun q => ?_; injection q with q; have := HYT.out g e; omega)); have P9 := Lib.hid (P8.out.grown g9 (fun q => by have e : c1 = pb := Option.some.inj q; omega)); have S9 := Lib.hid (S8.out.grown g9 (fun q => by have e : w.heap.size + 1 = pb := Option.some.inj q; omega)); have T9 := Lib.hid (T8.out.grown g9 (fun q => by have e : tb = pb := Option.some.inj q; omega)); have B9 := Lib.hid (B8.out.grown g9 B8.out.size (fun q hq => by have e : pb = q := Option.some.inj hq; omega)); clear b9 g9))
                  clear R2 P2 S2 T2 Q2 B2 R8 P8 S8 T8 Q8 B8 HEN
                  go_loopw [17] (fun x wq => ∃ j : Nat, j ≤ 16 ∧ x = .int .i64 (j : Int) ∧ Rd wq (.slice yo 512 yc) C ∧ Cph wq c1 K ∧ Blk wq (w.heap.size + 1) 44 (row8 l2) ∧ Blk wq tb 35 (row8 E) ∧ Blk wq pb 35 (row8 F) ∧ Below w.heap.size w wq) (fun x _ => 16 - (intOf x).toNat)
                  case atStart => exact ⟨0, by omega, rfl, R9.out, P9.out, S9.out, T9.out, Q9.out, B9.out⟩
                  case round =>
                    clear R9 P9 S9 T9 Q9 B9 hj hj16
                    obtain ⟨j, hj, rfl, r1, p1, s1, t1, q1, b1⟩ := hrel
                    by_cases hj16 : j < 16
                    · have hjI : (j : Int) < 16 := by omega
                      obtain ⟨x, hx⟩ : ∃ x, x = gb F j := ⟨_, rfl⟩
                      obtain ⟨y, hy⟩ : ∃ y, y = gb E j := ⟨_, rfl⟩
                      have lx : x < 256 := by rw [hx]; exact HBF.out.2 _
                      have ly : y < 256 := by rw [hy]; exact HBE.out.2 _
                      obtain ⟨ad, had, d1⟩ := r1.at_ (16 * i + j) (by rw [HCL.out]; omega)
                      subst had
                      rw [HCF.out j hj16, ← hx, ← hy] at d1
                      have d2 := q1.cell j _ (row8_val _ _ (by rw [HBF.out.1]; exact hj16))
                      have d3 := t1.cell j _ (row8_val _ _ (by rw [HBE.out.1]; exact hj16))
                      rw [← hx] at d2
                      rw [← hy] at d3
                      have hxr := u8_xor_nat x y lx ly
                      have z0 : (0 : Int) ≤ 16 * (i : Int) + (j : Int) := by omega
                      have z1 : 16 * (i : Int) + (j : Int) < 512 := by omega
                      have z2 : (16 * (i : Int) + (j : Int)).toNat = 16 * i + j := by omega
                      have R2 := Lib.hid r1
                      have P2 := Lib.hid p1
                      have S2 := Lib.hid s1
                      have T2 := Lib.hid t1
                      have Q2 := Lib.hid q1
                      have B2 := Lib.hid b1
                      clear r1 p1 s1 t1 q1 b1 hx hy
                      go_upto_region 23 with (fail)
                      go_big_quiet (fail)
                      have R3 := Lib.hid (show Rd (wr.drewN nq) (.slice (some ad) 512 yc) C from R2.out.keep fun _ _ _ => rfl)
                      have P3 := Lib.hid (show Cph (wr.drewN nq) c1 K from P2.out)
                      have S3 := Lib.hid (show Blk (wr.drewN nq) (w.heap.size + 1) 44 (row8 l2) from S2.out)
                      have T3 := Lib.hid (show Blk (wr.drewN nq) tb 35 (row8 E) from T2.out)
                      have Q3 := Lib.hid (show Blk (wr.drewN nq) pb 35 (row8 F) from Q2.out)
                      have B3 := Lib.hid (below_dN B2.out nq)
                      clear d1 d2 d3 R2 P2 S2 T2 Q2 B2
                      generalize wr.drewN nq = wd at *
                      go_wp2_with fail
                      exact ⟨⟨j + 1, by omega, by go_num, R3.out, P3.out, S3.out, T3.out, Q3.out, B3.out⟩, by simp [intOf]; omega⟩
                    · obtain rfl : j = 16 := by omega
                      obtain ⟨G, hG⟩ : ∃ G, G = tw E := ⟨_, rfl⟩
                      have hG2 : G = tweak k2 n (i + 1) := by rw [hG, HE.out]; rfl
                      have bG : Bytes 16 G := by rw [hG2]; exact tweak_bytes HB2.out n _
                      have HTW := Lib.hid (twice_any E HBE.out wr)
                      rw [← hG] at HTW
                      have E16 := Lib.hid (show (row8 E).length = 16 by rw [row8_len]; exact HBE.out.1)
                      have G16 := Lib.hid (show (row8 G).length = 16 by rw [row8_len]; exact bG.1)
                      have HG2 := Lib.hid hG2
                      have R2 := Lib.hid r1
                      have P2 := Lib.hid p1
                      have S2 := Lib.hid s1
                      have T2 := Lib.hid t1
                      have B2 := Lib.hid b1
                      clear r1 p1 s1 t1 q1 b1 hG hG2 bG
                      go_wp2_with (first
                        | (refine wpList_load_mid rfl 35 (.tmp 13) rfl tb 0 rfl (row8 E) _ T2.out.range Tryd.underlying35 rfl (by rw [E16.out]; exact info16) ?_)
                        | (go_at_call 18; (with_reducible refine HTW.out.mono ?_); rintro e w8 ⟨rfl, b8⟩; have R8 := Lib.hid (R2.out.below b8); have P8 := Lib.hid (P2.out.below b8); have S8 := Lib.hid (S2.out.below b8 S2.out.lt); have T8 := Lib.hid (T2.out.below b8 T2.out.lt); have B8 := Lib.hid (B2.out.on b8); clear b8)
                        | (refine wpList_store_blk rfl 35 (.tmp 13) (.tmp 100) rfl tb 0 (row8 G) rfl rfl 35 (row8 E) T8.out (by rw [E16.out, G16.out]; exact Nat.le_refl _) (by rw [G16.out]; exact info16) (row8_one _) ?_; intro w9 b9 g9; rw [splice_all _ _ (by rw [E16.out, G16.out])] at b9; rw [HG2.out] at b9; have T9 := Lib.hid b9; have R9 := Lib.hid (R8.out.grown g9 (by
                            cases e : (Value.slice yo 512 yc).ownBlock with
                            | none => exact .inl rfl
                            | some g => refine .inr fun q => ?_; injection q with q; have := HYT.out g e; omega)); have P9 := Lib.hid (P8.out.grown g9 (fun q => by have e : c1 = tb := Option.some.inj q; omega)); have S9 := Lib.hid (S8.out.grown g9 (fun q => by have e : w.heap.size + 1 = tb := Option.some.inj q; omega)); have B9 := Lib.hid (B8.out.grown g9 B8.out.size (fun q hq => by have e : tb = q := Option.some.inj hq; omega)); clear b9 g9))
                      exact ⟨⟨i + 1, by omega, by go_num, R9.out, P9.out, S9.out, T9.out, B9.out⟩, by simp [intOf]; omega⟩
            · have hiI : ¬ (i : Int) < 2 := by omega
              obtain rfl : i = 2 := by omega
              have B1 := Lib.hid b0
              clear r0 p0 s0 t0 b0
              go_wp2_with (go_at_call 9; (with_reducible refine (xawake_any _ (HX.out.below B1.out) (HU.out.below B1.out)).mono ?_); rintro e wa ⟨rfl, ba⟩; have Ba := Lib.hid (B1.out.on ba); clear ba)
              go_ret
              exact ⟨rfl, Ba.out⟩
set_option maxRecDepth 100000 in
theorem reads (os : Os) {H : Type} (enc : TypeId × Value → H) : ∃ places, DataW.whole enc Tryd.prog ((World.doorLaid Tryd.prog 400 os).forCall (fun _ _ => 0) ⟨#[], #[.agg (row8 (List.replicate 64 0)).toArray, .int .u64 0, .agg (row8 (List.replicate 512 0)).toArray], []⟩).memory Tryd.f7.params.toList Rows.xtsBlockSpec.vars false (#[.agg (row8 (List.replicate 64 0)).toArray, .int .u64 0, .agg (row8 (List.replicate 512 0)).toArray] : Array Value).toList 8 = some ([litG 2 32 (List.replicate 64 0), .lit (.int .u64 0), lit8 (List.replicate 512 0)], [], places) := by
  rw [Tryd.params7]
  exact ⟨[], reads_whole (reads_cons (by kernel_rfl) (reads_cons (by kernel_rfl) (reads_row Tryd.underlying44 Tryd.underlying5 cells5 cells44 (bytes_zero 512) rfl)))⟩
theorem cellTypes44 : Tryd.prog.cellTypes Tryd.prog.depth 44 = some (List.replicate 512 5) := by kernel_rfl
theorem wok (os : Os) : Input.okWideB Tryd.prog ((World.doorLaid Tryd.prog 400 os).forCall (fun _ _ => 0) ⟨#[], #[.agg (row8 (List.replicate 64 0)).toArray, .int .u64 0, .agg (row8 (List.replicate 512 0)).toArray], []⟩) 7 ⟨#[], #[.agg (row8 (List.replicate 64 0)).toArray, .int .u64 0, .agg (row8 (List.replicate 512 0)).toArray], []⟩ = true :=
  okInput Tryd.func7 (by kernel_rfl) (by kernel_rfl) fun j t v ht hv => match j, t, v, ht, hv with
    | 0, t, v, ht, hv => by cases ht; cases hv; exact (by kernel_rfl)
    | 1, t, v, ht, hv => by cases ht; cases hv; exact (by kernel_rfl)
    | 2, t, v, ht, hv => by cases ht; cases hv; exact (okWideB_row Tryd.underlying44 Tryd.underlying5 cells44 cellTypes44 (bytes_zero 512))
    | j + 3, t, v, ht, hv => by rw [Tryd.params7] at ht; cases ht
theorem wsz (os : Os) {H : Type} (enc : TypeId × Value → H) : (OpenSpec.ofChange Rows.xtsBlockSpec).bare.sizedB enc Tryd.prog Tryd.f7 false ((World.doorLaid Tryd.prog 400 os).forCall (fun _ _ => 0) ⟨#[], #[.agg (row8 (List.replicate 64 0)).toArray, .int .u64 0, .agg (row8 (List.replicate 512 0)).toArray], []⟩).memory #[.agg (row8 (List.replicate 64 0)).toArray, .int .u64 0, .agg (row8 (List.replicate 512 0)).toArray] 8 = true := by
  obtain ⟨places, hx⟩ := reads os enc
  unfold ChangeSpec.sizedB
  rw [show (OpenSpec.ofChange Rows.xtsBlockSpec).bare.vars = Rows.xtsBlockSpec.vars from rfl, hx]
  kernel_rfl
set_option linter.unusedVariables false in
set_option maxHeartbeats 1000000 in
set_option maxRecDepth 100000 in
theorem lifted (os : Os) (started : os.Started) (H : Type) (enc : TypeId × Value → H) (F : Stop.Interp) :
    ReturnsInHanded {} Tryd.checked os 7 .any ((OpenSpec.ofChange Rows.xtsBlockSpec).preRow enc Tryd.prog Tryd.f7 Rows.xtsBlockRow.domain false laidXU) (((OpenSpec.ofChange Rows.xtsBlockSpec).at F).post enc Tryd.prog Tryd.f7 false true false false) := by
  obtain ⟨places, hx⟩ := reads os enc
  refine returnsInHanded_of_row (C := Tryd.checked) (s := OpenSpec.ofChange Rows.xtsBlockSpec) own started (by kernel_rfl) Tryd.func7
    (witness_row_atRef (enc := enc) (C := Tryd.checked) false (World.doorLaid Tryd.prog 400 os) #[.agg (row8 (List.replicate 64 0)).toArray, .int .u64 0, .agg (row8 (List.replicate 512 0)).toArray] rfl (by kernel_rfl) (by kernel_rfl) (wok os)
      (OpenSpec.preRow_of_cond 8 hx (by kernel_rfl) (fun k hk => by cases hk) (wsz os enc) (doorXU_met os _))) ?_
  intro W base args ds gs before hval0 hW _ hcond hsz0 hL _ _
  have hsz : (DataW.weightsEach Tryd.prog (Tryd.f7.params.toList ++ Rows.xtsBlockSpec.plain.varTypes Tryd.prog) (ds ++ gs)).all (· ≤ reachBytes) = true := hsz0
  clear hsz0
  have hval : ∀ (j : Nat) t v, Tryd.f7.params[j]? = some t → args[j]? = some v → Value.okWide Tryd.prog W .any base t v := hval0
  have hW' := hW
  obtain ⟨p, q, hA0, hV, rfl, _, _⟩ := hW
  have hA : DataW.TrodAll enc Tryd.prog W 0 (fun _ => true) true Tryd.f7.params.toList args.toList ds p := hA0
  rw [Tryd.params7] at hA hval hsz
  obtain ⟨v0, vs0, d0, ds0, p0, q0, hargs, rfl, rfl, g0, r0⟩ := trodAll_cons hA
  obtain ⟨v1, vs1, d1, ds1, p1, q1, rfl, rfl, rfl, g1, r1⟩ := trodAll_cons r0
  obtain ⟨v2, vs2, d2, ds2, p2, q2, rfl, rfl, rfl, g2, r2⟩ := trodAll_cons r1
  obtain ⟨rfl, rfl, rfl⟩ := trodAll_nil r2
  obtain rfl : args = #[v0, v1, v2] := by cases args; simp_all
  obtain ⟨rfl, rfl⟩ := trodVars_none hV
  obtain ⟨l0, h0, rfl, rfl, rfl⟩ := open_grid Tryd.underlying24 Tryd.underlying23 Tryd.underlying5 cells5 cells23 (hval 0 24 v0 rfl rfl) cells24 g0
  obtain ⟨a1, rfl, rfl, rfl, w1⟩ := open_int Tryd.underlying25 (hval 1 25 v1 rfl rfl) g1
  obtain ⟨l2, h2, rfl, rfl, rfl⟩ := open_row Tryd.underlying44 Tryd.underlying5 cells5 (hval 2 44 v2 rfl rfl) cells44 g2
  clear hA0 hval0
  have hlt := hW'.lt
  refine (walk W (tabsXU_of_laid hL) l0 h0 a1 w1 l2 h2).mono fun e W' ⟨he, hb⟩ => ?_
  subst he
  have hargs : DataW.TrodAll enc Tryd.prog W' 0 (fun b => decide (b < W.heap.size)) true _ _ _ _ := (trodAll_cons_mk (shut_grid Tryd.underlying24 Tryd.underlying23 Tryd.underlying5 cells5 cells23 cells24 h0) (trodAll_cons_mk (shut_int Tryd.underlying25 w1) (trodAll_cons_mk (shut_row Tryd.underlying44 Tryd.underlying5 cells5 cells44 h2) trodAll_mk0)))
  simp only [List.append_nil] at hW' hargs
  exact ⟨_, rfl, post_law hW' (trodAll_cons_mk (shut_bool Tryd.underlying4 _) trodAll_mk0) hargs rfl hb⟩

theorem over : Rows.xtsBlockRow.holds Tryd.pinned (OpenSpec.ofChange Rows.xtsBlockSpec) :=
  OpenClaim.holds_of_cond 7 Tryd.f7 rfl rfl rfl rfl rfl rfl rfl ⟨rfl, rfl, rfl, rfl, rfl⟩ rfl rfl rfl rfl rfl (by kernel_rfl) Tryd.func7 (by kernel_rfl)
    (of_decide_eq_true (by kernel_rfl)) (by unfold Func.isWrapper; first | (rw [if_pos (by decide +kernel)]; kernel_rfl) | (rw [if_neg (by decide +kernel)]; exact ⟨rfl, rfl⟩))
    (fun os started H enc _ F => by rw [OpenClaim.pre_eq_preRow]; exact lifted os started H enc F)

/-- The given statement. -/
theorem proved : Rows.XtsBlockCardSaid :=
  Claim7.holds_tied_plain_at .later [] _ _ _ _
    over (fun _ h => by cases h) (by kernel_rfl) (fun _ h => by cases h) xtsBlock_row_tie rfl ⟨rfl, rfl⟩ (by kernel_rfl) rfl
    (fun f fn hf hfn => by
      obtain rfl : f = 7 := Option.some.inj ((show Tryd.prog.funcNamed "reliquary/reliquarylaw07.XtsBlock" = some 7 by kernel_rfl).symm.trans hf) |>.symm
      obtain rfl : fn = Tryd.f7 := (Option.some.inj (Tryd.func7.symm.trans hfn)).symm
      exact ⟨by kernel_rfl, fun j t ht => by
        rw [Tryd.params7] at ht
        have hm : t ∈ [24, 25, 44] := by simpa using Array.mem_of_getElem? ht
        have hall : ([24, 25, 44].all fun u => !Tryd.prog.wantsStandIn u) = true := by kernel_rfl
        exact (show Tryd.prog.wantsStandIn t = false by simpa using List.all_eq_true.1 hall t hm)⟩)
    (by kernel_rfl)
end Go.Proofs.YtmidbmihadhgdaaDoor.xtsBlock
