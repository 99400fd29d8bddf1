/- The words that a block makes, in the program: contract. Own work. -/
import Derived.Test.YtllhljhbnopafaaDoorShaTurn
namespace Go.Proofs.YtllhljhbnopafaaDoor
open Go.ChangeShapes Go.WideShapes Go.ChangeAt Go.RowKit
open SM
theorem infoBlk : (Tryd.prog.info? 58).map (·.size) = some 64 := by kernel_rfl
theorem infoWds : (Tryd.prog.info? 65).map (·.size) = some 64 := by kernel_rfl
theorem infoSt : (Tryd.prog.info? 57).map (·.size) = some 8 := by kernel_rfl
set_option maxRecDepth 100000 in
set_option maxHeartbeats 1000000 in
theorem spread_any (l : List Nat) (hl : Bytes 64 l) (w : World) :
    Calls Tryd.prog 32 #[.agg (row8 l).toArray] w fun e w' => e = .returned (.agg (row32 (wTo l 64)).toArray) ∧ Below w.heap.size w w' := by
  have HV := Lib.hid hl
  clear hl
  have hlen : (row8 l).length = 64 := by rw [row8_len]; exact HV.out.1
  have HLEN := Lib.hid hlen
  clear hlen
  go_enter Tryd.func32, Tryd.ntmps32
  go_wp2_with fail
  go_loopw [9] (fun i wr => ∃ k : Nat, k ≤ 16 ∧ i = .int .i64 k ∧ Blk wr w.heap.size 58 (row8 l) ∧ Blk wr (w.heap.size + 1) 65 (row32 (List.replicate 64 0)) ∧ Blk wr (w.heap.size + 1 + 1) 65 (row32 (wTo l k)) ∧ Below w.heap.size w wr) (fun i _ => 16 - (intOf i).toNat)
  case atStart => exact ⟨0, Nat.zero_le _, rfl, ((Blk.new w _ _ _ rfl).alloc _).alloc _, (Blk.new _ _ _ _ (by simp)).alloc _, Blk.new _ _ _ _ (by simp), (((Below.refl _ _).alloc (Nat.le_refl _) _).alloc (by simp) _).alloc (by simp; omega) _⟩
  case round =>
    obtain ⟨k, hk, rfl, b0, b1, b2, bb⟩ := hrel
    by_cases hlt : k < 16
    · have c0 := b0.cell (4 * k) _ (row8_val l (4 * k) (by rw [HV.out.1]; omega))
      have c1 := b0.cell (4 * k + 1) _ (row8_val l (4 * k + 1) (by rw [HV.out.1]; omega))
      have c2 := b0.cell (4 * k + 2) _ (row8_val l (4 * k + 2) (by rw [HV.out.1]; omega))
      have c3 := b0.cell (4 * k + 3) _ (row8_val l (4 * k + 3) (by rw [HV.out.1]; omega))
      have g0 := HV.out.2 (4 * k)
      have g1 := HV.out.2 (4 * k + 1)
      have g2 := HV.out.2 (4 * k + 2)
      have g3 := HV.out.2 (4 * k + 3)
      have hfree := b2.free k
      have hcell := b2.cell k _ (row32_val _ k (by rw [(wTo_w HV.out.2 k).1]; omega))
      have B0 := Lib.hid b0
      have B1 := Lib.hid b1
      have B2 := Lib.hid b2
      have BB := Lib.hid bb
      clear b0 b1 b2 bb
      have q0 : (0 : Int) ≤ 4 * (k : Int) := by omega
      have q1 : 4 * (k : Int) ≤ 4 * (k : Int) + 4 := by omega
      have q2 : 4 * (k : Int) + 4 ≤ 64 := by omega
      have q3 : (4 * (k : Int)).toNat = 4 * k := by omega
      have q4 : (4 * (k : Int) + 4).toNat = 4 * k + 4 := by omega
      go_upto_region 6 with (fail)
      go_region
      go_wp2_with fail
      refine ⟨⟨k + 1, by omega, by go_num, (B0.out.other _ _ (by simp <;> omega)).drew, (B1.out.other _ _ (by simp <;> omega)).drew, ?_, (BB.out.setCell (by simp; omega) _).drew⟩, by simp [intOf]; omega⟩
      rw [be4_bits _ _ _ _ g0 g1 g2 g3]
      have := (B2.out.set k (.int .u32 ((be4 l (4 * k) : Nat) : Int))).drew
      rw [row32_set] at this
      unfold wTo
      rw [if_pos hlt]
      exact this
    · obtain rfl : k = 16 := by omega
      go_wp2_with fail
      go_loopw [6] (fun i wr => ∃ j : Nat, j ≤ 48 ∧ i = .int .i64 ((j : Int) + 16) ∧ Blk wr (w.heap.size + 1) 65 (row32 (List.replicate 64 0)) ∧ Blk wr (w.heap.size + 1 + 1) 65 (row32 (wTo l (j + 16))) ∧ Below w.heap.size w wr) (fun i _ => 64 - (intOf i).toNat)
      case atStart => exact ⟨0, Nat.zero_le _, rfl, b1, b2, bb⟩
      case round =>
        clear b0 b1 b2 bb
        obtain ⟨j, hj, rfl, b1, b2, bb⟩ := hrel
        by_cases hjt : j < 48
        · have hw := wTo_w HV.out.2 (j + 16)
          obtain ⟨ws, hws⟩ : ∃ ws, ws = wTo l (j + 16) := ⟨_, rfl⟩
          rw [← hws] at hw b2
          have c2 := b2.cell (j + 14) _ (row32_val _ _ (by rw [hw.1]; omega))
          have c15 := b2.cell (j + 1) _ (row32_val _ _ (by rw [hw.1]; omega))
          have c7 := b2.cell (j + 9) _ (row32_val _ _ (by rw [hw.1]; omega))
          have c16 := b2.cell j _ (row32_val _ _ (by rw [hw.1]; omega))
          have cj := b2.cell (j + 16) _ (row32_val _ _ (by rw [hw.1]; omega))
          have hfree := b2.free (j + 16)
          have g2 := hw.2 (j + 14)
          have g15 := hw.2 (j + 1)
          have g7 := hw.2 (j + 9)
          have g16 := hw.2 j
          have B1 := Lib.hid b1
          have B2 := Lib.hid b2
          have BB := Lib.hid bb
          have HW := Lib.hid hw
          have HWS := Lib.hid hws
          clear b1 b2 bb hw hws
          go_upto_region 11 with (fail)
          go_big_quiet ((go_at_call 33; refine quiet_any (right_c _ _ ?_ ?_ ?_ _) ?_ <;> first | omega | exact ⟨_, rfl⟩))
          rw [s0_bits _ (by assumption)]
          revert nq
          intro n1
          go_upto_region 12 with (fail)
          go_big_quiet ((go_at_call 33; refine quiet_any (right_c _ _ ?_ ?_ ?_ _) ?_ <;> first | omega | exact ⟨_, rfl⟩))
          rw [s1_bits _ (by assumption)]
          go_upto_region 13 with (fail)
          have n1' : Blk ((wr.drewN n1).drewN nq) (w.heap.size + 1) 65 (row32 (List.replicate 64 0)) := B1.out
          have n2 : Blk ((wr.drewN n1).drewN nq) (w.heap.size + 1 + 1) 65 (row32 ws) := B2.out
          have nb : Below w.heap.size w ((wr.drewN n1).drewN nq) := below_drewN (below_drewN BB.out n1) nq
          generalize (wr.drewN n1).drewN nq = w2 at *
          clear c2 c15 c7 c16 cj hfree B1 B2 BB
          have c7 := n2.cell (j + 9) _ (row32_val _ _ (by rw [HW.out.1]; omega))
          have c16 := n2.cell j _ (row32_val _ _ (by rw [HW.out.1]; omega))
          have cj := n2.cell (j + 16) _ (row32_val _ _ (by rw [HW.out.1]; omega))
          have hfree := n2.free (j + 16)
          have N1 := Lib.hid n1'
          have N2 := Lib.hid n2
          have NB := Lib.hid nb
          clear n1' n2 nb
          go_region
          go_wp2_with fail
          have hval : ((((s1 (gb ws (j + 14)) : Nat) : Int) + ((gb ws (j + 9) : Nat) : Int) + ((s0 (gb ws (j + 1)) : Nat) : Int) + ((gb ws j : Nat) : Int)) % 4294967296) = ((wn ws (j + 16) : Nat) : Int) := by
            unfold wn; simp
          rw [hval]
          refine ⟨⟨j + 1, by omega, by congr 1 <;> omega, (N1.out.other _ _ (by simp <;> omega)).drew, ?_, (NB.out.setCell (by simp; omega) _).drew⟩, by simp [intOf]; omega⟩
          have := (N2.out.set (j + 16) (.int .u32 ((wn ws (j + 16) : Nat) : Int))).drew
          rw [row32_set, HWS.out] at this
          rw [show j + 1 + 16 = (j + 16) + 1 by omega]
          unfold wTo
          rw [if_neg (by omega)]
          rw [HWS.out]
          exact this
        · obtain rfl : j = 48 := by omega
          have hw := wTo_w HV.out.2 64
          obtain ⟨ws, hws⟩ : ∃ ws, ws = wTo l 64 := ⟨_, rfl⟩
          have hws' : ws = wTo l (48 + 16) := hws
          rw [← hws'] at b2
          rw [← hws] at hw
          have h64 : (row32 ws).length = 64 := by rw [row32_len]; exact hw.1
          have B1 := Lib.hid b1
          have B2 := Lib.hid b2
          have BB := Lib.hid bb
          have HWS := Lib.hid hws
          have H8 := Lib.hid h64
          clear b1 b2 bb hw hws hws' h64
          go_wp2_with (first | (refine wpList_load_mid rfl 65 (.tmp 3) rfl (w.heap.size + 1 + 1) 0 rfl (row32 ws) _ B2.out.range Tryd.underlying65 rfl (by rw [H8.out]; exact infoWds) ?_) | (refine wpList_store_mid rfl 65 (.tmp 2) (.tmp 96) rfl (w.heap.size + 1) 0 (row32 ws).toArray rfl rfl (B1.out.there _ (by rw [List.size_toArray, H8.out]; rfl)) (by rw [List.size_toArray, H8.out]; exact infoWds) (row32_one _) ?_))
          have fin := B1.out.whole (row32 ws) (by rw [H8.out]; rfl)
          exact bodyPost_ret (v := .agg (row32 ws).toArray) (results_mid rfl _ _ (w.heap.size + 1) (row32 ws) _ rfl fin.range Tryd.underlying65 rfl (by rw [H8.out]; exact infoWds)) rfl ⟨by rw [HWS.out], below_setCells (w.heap.size + 1) (by omega) _ 0 _ BB.out⟩
end Go.Proofs.YtllhljhbnopafaaDoor
