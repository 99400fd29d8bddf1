/- Sixteen bytes doubled as the document says: a contract for every sixteen bytes. -/
import Derived.Test.YtmidbmihadhgdaaDoorTwiceCalls
import Derived.WalkKit
import Derived.BigRegion

import Derived.StillTailTactics
namespace Go.Proofs.YtmidbmihadhgdaaDoor
open Go.ChangeShapes Go.WideShapes Go.ChangeAt Go.RowKit
open FM
set_option maxRecDepth 100000 in
set_option maxHeartbeats 400000 in
theorem rtwice_any (l : List Nat) (hl : Bytes 16 l) (w : World) :
    Calls Tryd.prog 46 #[.agg (row8 l).toArray] w fun e w' => e = .returned (.agg (row8 (tw l)).toArray) ∧ Below w.heap.size w w' := by
  have HL := Lib.hid hl
  clear hl
  go_enter Tryd.func46, Tryd.ntmps46
  go_wp2_with fail
  have b0 : Blk (((w.alloc (.cells (row8 l).toArray 35)).alloc (.cells (row8 (twTo l 0)).toArray 35)).alloc (.cells (row8 (twTo l 0)).toArray 35)) w.heap.size 35 (row8 l) := ((Blk.new w _ _ _ rfl).alloc _).alloc _
  have b1 : Blk (((w.alloc (.cells (row8 l).toArray 35)).alloc (.cells (row8 (twTo l 0)).toArray 35)).alloc (.cells (row8 (twTo l 0)).toArray 35)) (w.heap.size + 1) 35 (row8 (twTo l 0)) := (Blk.new _ _ _ _ (by simp)).alloc _
  have b2 : Blk (((w.alloc (.cells (row8 l).toArray 35)).alloc (.cells (row8 (twTo l 0)).toArray 35)).alloc (.cells (row8 (twTo l 0)).toArray 35)) (w.heap.size + 1 + 1) 35 (row8 (twTo l 0)) := Blk.new _ _ _ _ (by simp)
  have bb : Below w.heap.size w (((w.alloc (.cells (row8 l).toArray 35)).alloc (.cells (row8 (twTo l 0)).toArray 35)).alloc (.cells (row8 (twTo l 0)).toArray 35)) := (((Below.refl _ _).alloc (Nat.le_refl _) _).alloc (by simp) _).alloc (by simp; omega) _
  go_loopw [4] (fun i wr => ∃ k : Nat, k ≤ 16 ∧ i = .int .i64 k ∧ Blk wr w.heap.size 35 (row8 l) ∧ Blk wr (w.heap.size + 1) 35 (row8 (twTo l 0)) ∧ Blk wr (w.heap.size + 1 + 1) 35 (row8 (twTo l k)) ∧ Below w.heap.size w wr) (fun i _ => 16 - (intOf i).toNat)
  case atStart => exact ⟨0, Nat.zero_le _, rfl, b0, b1, b2, bb⟩
  case round =>
    clear b0 b1 b2 bb
    obtain ⟨k, hk, rfl, b0, b1, b2, bb⟩ := hrel
    by_cases hlt : k < 16
    · have hb := HL.out.2 k
      have hcell := b2.cell k _ (row8_val (twTo l k) k (by rw [twTo_len]; exact hlt))
      have hfree := b2.free k
      have hsrc := b0.cell k _ (row8_val l k (by rw [HL.out.1]; exact hlt))
      have hcast : Hid ((gb l k : Int) * 2 % 256 = (((gb l k * 2 % 256 : Nat)) : Int)) := Lib.hid (by omega)
      have B0 := Lib.hid b0
      have B1 := Lib.hid b1
      have B2 := Lib.hid b2
      have BB := Lib.hid bb
      clear b0 b1 b2 bb
      by_cases h0 : k = 0
      · subst h0
        go_wp2_with fail
        go_roundw
        case rel => exact ⟨1, by omega, rfl, B0.out.other _ _ (by simp <;> omega), B1.out.other _ _ (by simp <;> omega), by have := B2.out.set 0 (.int .u8 ((gb l 0 * 2 % 256 : Nat) : Int)); rw [row8_set] at this; rw [hcast.out]; simp only [twTo, car, Nat.or_zero]; exact this, BB.out.setCell (by simp; omega) _⟩
        case measure => simp [intOf]
      · have h1 : 0 < k := by omega
        clear h0
        go_upto_region 7 with (fail)
        rw [hcast.out]
        have n2 := B2.out.set k (.int .u8 ((gb l k * 2 % 256 : Nat) : Int))
        rw [row8_set] at n2
        have n0 := B0.out.other ⟨w.heap.size + 1 + 1, k, none⟩ (.int .u8 ((gb l k * 2 % 256 : Nat) : Int)) (by simp <;> omega)
        have n1 := B1.out.other ⟨w.heap.size + 1 + 1, k, none⟩ (.int .u8 ((gb l k * 2 % 256 : Nat) : Int)) (by simp <;> omega)
        have nb := BB.out.setCell (p := ⟨w.heap.size + 1 + 1, k, none⟩) (by simp; omega) (.int .u8 ((gb l k * 2 % 256 : Nat) : Int))
        clear hcell hfree hsrc B0 B1 B2 BB
        generalize wr.setCell ⟨w.heap.size + 1 + 1, k, none⟩ (.int .u8 ((gb l k * 2 % 256 : Nat) : Int)) = w2 at *
        have hc2 := n2.cell k _ (row8_val _ k (by rw [List.length_set, twTo_len]; exact hlt))
        rw [gb_set _ _ _ _ (by rw [twTo_len]; exact hlt), if_pos rfl] at hc2
        have hf2 := n2.free k
        have hs2 := n0.cell (k - 1) _ (row8_val l (k - 1) (by rw [HL.out.1]; omega))
        have N0 := Lib.hid n0
        have N1 := Lib.hid n1
        have N2 := Lib.hid n2
        have NB := Lib.hid nb
        clear n0 n1 n2 nb
        have hb1 := HL.out.2 (k - 1)
        have hor := u8_or_nat (gb l k * 2 % 256) (gb l (k - 1) / 128) (by omega) (by omega)
        have e1 : (((gb l k * 2 % 256 : Nat)) : Int) = (gb l k : Int) * 2 % 256 := by omega
        have e2 : (((gb l (k - 1) / 128 : Nat)) : Int) = (gb l (k - 1) : Int) / 128 := by omega
        rw [e1, e2] at hor
        have HO := Lib.hid hor
        have hcar : car l k = gb l (k - 1) / 128 := by cases k with
          | zero => omega
          | succ j => rfl
        have HC := Lib.hid hcar
        clear hor e1 e2 hcar
        go_region
        go_wp2_with fail
        go_roundw
        case rel =>
          refine ⟨k + 1, by omega, by go_num, ?_⟩
          rw [HO.out]
          refine ⟨(N0.out.other _ _ (by simp <;> omega)).drew, (N1.out.other _ _ (by simp <;> omega)).drew, ?_, (NB.out.setCell (by simp; omega) _).drew⟩
          have := (N2.out.set k (.int .u8 ((gb l k * 2 % 256 ||| gb l (k - 1) / 128 : Nat) : Int))).drew
          rw [row8_set, List.set_set] at this
          simp only [twTo, HC.out]; exact this
        case measure => simp [intOf]; omega
    · obtain rfl : k = 16 := by omega
      have hb := twTo_bytes l HL.out.2 16 (by omega)
      have h15 := HL.out.2 15
      have hs := b0.cell 15 _ (row8_val l 15 (by rw [HL.out.1]; omega))
      have hcell := b2.cell 0 _ (row8_val (twTo l 16) 0 (by rw [twTo_len]; omega))
      have hfree := b2.free 0
      have htl : (row8 (tw l)).length = 16 := by rw [row8_len]; exact (tw_bytes l HL.out.2).1
      have HTL := Lib.hid htl
      have hzl : (row8 (twTo l 0)).length = 16 := by rw [row8_len]; exact twTo_len l 0
      have HZL := Lib.hid hzl
      clear htl hzl
      by_cases hc : car l 16 = 1
      · have htw : tw l = (twTo l 16).set 0 (gb (twTo l 16) 0 ^^^ 135) := by unfold tw; rw [if_pos hc]
        have ht : ((gb l 15 : Int) / 128 == 1) = true := by have : gb l 15 / 128 = 1 := hc; simp; omega
        have hx : bits .xor .u8 ((gb (twTo l 16) 0 : Nat) : Int) 135 = ((gb (twTo l 16) 0 ^^^ 135 : Nat) : Int) := u8_xor_nat (gb (twTo l 16) 0) 135 (hb.2 0) (by omega)
        have HX := Lib.hid hx
        have HT := Lib.hid htw
        have B0 := Lib.hid b0
        have B1 := Lib.hid b1
        have B2 := Lib.hid b2
        have BB := Lib.hid bb
        clear hx hc htw hb b0 b1 b2 bb
        go_upto_region 10 with (fail)
        rw [HX.out]
        have n2 := B2.out.set 0 (.int .u8 ((gb (twTo l 16) 0 ^^^ 135 : Nat) : Int))
        rw [row8_set, ← HT.out] at n2
        have n1 := B1.out.other ⟨w.heap.size + 1 + 1, 0, none⟩ (.int .u8 ((gb (twTo l 16) 0 ^^^ 135 : Nat) : Int)) (by simp <;> omega)
        have nb := BB.out.setCell (p := ⟨w.heap.size + 1 + 1, 0, none⟩) (by simp; omega) (.int .u8 ((gb (twTo l 16) 0 ^^^ 135 : Nat) : Int))
        clear hcell hfree hs B0 B1 B2 BB
        generalize wr.setCell ⟨w.heap.size + 1 + 1, 0, none⟩ (.int .u8 ((gb (twTo l 16) 0 ^^^ 135 : Nat) : Int)) = w2 at *
        have N1 := Lib.hid n1
        have N2 := Lib.hid n2
        have NB := Lib.hid nb
        clear n1 n2 nb
        go_wp2_with (first | (refine wpList_load_mid rfl 35 (.tmp 3) rfl (w.heap.size + 1 + 1) 0 rfl (row8 (tw l)) _ N2.out.range Tryd.underlying35 rfl (by rw [HTL.out]; exact info16) ?_) | (refine wpList_store_mid rfl 35 (.tmp 2) (.tmp 36) rfl (w.heap.size + 1) 0 (row8 (tw l)).toArray rfl rfl (N1.out.there _ (by rw [HZL.out, List.size_toArray, HTL.out])) (by rw [List.size_toArray, HTL.out]; exact info16) (row8_one _) ?_))
        have fin := N1.out.whole (row8 (tw l)) (by rw [HZL.out, HTL.out])
        exact bodyPost_ret (v := .agg (row8 (tw l)).toArray) (results_mid rfl _ _ (w.heap.size + 1) (row8 (tw l)) _ rfl fin.range Tryd.underlying35 rfl (by rw [HTL.out]; exact info16)) rfl ⟨rfl, below_setCells (w.heap.size + 1) (by omega) _ 0 _ NB.out⟩
      · have htw : tw l = twTo l 16 := by unfold tw; rw [if_neg hc]
        have ht : ((gb l 15 : Int) / 128 == 1) = false := by have : ¬ gb l 15 / 128 = 1 := hc; simp; omega
        rw [← htw] at b2
        have N1 := Lib.hid b1
        have N2 := Lib.hid b2
        have NB := Lib.hid bb
        clear hc htw hb b0 b1 b2 bb hcell hfree
        go_wp2_with (first | (refine wpList_load_mid rfl 35 (.tmp 3) rfl (w.heap.size + 1 + 1) 0 rfl (row8 (tw l)) _ N2.out.range Tryd.underlying35 rfl (by rw [HTL.out]; exact info16) ?_) | (refine wpList_store_mid rfl 35 (.tmp 2) (.tmp 36) rfl (w.heap.size + 1) 0 (row8 (tw l)).toArray rfl rfl (N1.out.there _ (by rw [HZL.out, List.size_toArray, HTL.out])) (by rw [List.size_toArray, HTL.out]; exact info16) (row8_one _) ?_))
        have fin := N1.out.whole (row8 (tw l)) (by rw [HZL.out, HTL.out])
        exact bodyPost_ret (v := .agg (row8 (tw l)).toArray) (results_mid rfl _ _ (w.heap.size + 1) (row8 (tw l)) _ rfl fin.range Tryd.underlying35 rfl (by rw [HTL.out]; exact info16)) rfl ⟨rfl, below_setCells (w.heap.size + 1) (by omega) _ 0 _ NB.out⟩
end Go.Proofs.YtmidbmihadhgdaaDoor
