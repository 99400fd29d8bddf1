/- A block, in the program: contract. Own work. -/
import Derived.Test.YtllhljhbnopafaaDoorShaSpread
namespace Go.Proofs.YtllhljhbnopafaaDoor
open Go.ChangeShapes Go.WideShapes Go.ChangeAt Go.RowKit
open SM
/-- The program's table lies in its place. -/
def TabP (w : World) : Prop := ∀ t, t < 64 → w.cell? ⟨1, t, none⟩ = some (.int .u32 ((gb kk t : Nat) : Int))
theorem TabP.lt {w : World} (h : TabP w) : 1 < w.heap.size := World.block_lt_of_cell? w _ (h 0 (by omega))
theorem TabP.keep {w w' : World} (h : TabP w) (hk : w'.heap[1]? = w.heap[1]?) : TabP w' := fun t ht => by
  rw [World.cell?_of_block (w := w) hk]; exact h t ht
theorem TabP.below {w w' : World} (h : TabP w) (hb : Below w.heap.size w w') : TabP w' := h.keep (hb.block _ h.lt)
theorem TabP.grown {w w' : World} {b : Nat} (h : TabP w) (hb : w.grownBy w' (some b)) (hne : b ≠ 1) : TabP w' := h.keep (hb.block _ h.lt (by simp; omega))
theorem infoW1 : (Tryd.prog.info? 53).map (·.size) = some 1 := by kernel_rfl
theorem aggW1 : ∀ w, (isAgg 53).run Tryd.prog w = .ok false w := fun w => by simp [go_sem]
theorem row32_eight (x : List Nat) (h : x.length = 8) : (row32 x).toArray = #[.int .u32 (gb x 0 : Nat), .int .u32 (gb x 1 : Nat), .int .u32 (gb x 2 : Nat), .int .u32 (gb x 3 : Nat), .int .u32 (gb x 4 : Nat), .int .u32 (gb x 5 : Nat), .int .u32 (gb x 6 : Nat), .int .u32 (gb x 7 : Nat)] := by
  match x, h with
  | [a, b, c, d, e, f, g, i], _ => rfl
set_option maxRecDepth 100000 in
set_option maxHeartbeats 1000000 in
theorem after_any (h l : List Nat) (hh : Words 8 h) (hl : Bytes 64 l) (w : World) (ht : TabP w) :
    Calls Tryd.prog 28 #[.agg (row32 h).toArray, .agg (row8 l).toArray] w fun e w' => e = .returned (.agg (row32 (blk h l)).toArray) ∧ Below w.heap.size w w' := by
  have HV := Lib.hid hl
  have HH := Lib.hid hh
  have HT := Lib.hid ht
  clear hl hh ht
  have H8 := Lib.hid (show (row32 h).length = 8 by rw [row32_len]; exact HH.out.1)
  have H64 := Lib.hid (show (row8 l).length = 64 by rw [row8_len]; exact HV.out.1)
  go_enter Tryd.func28, Tryd.ntmps28
  go_upto_region 1 with (fail)
  have b0 : Blk (((w.alloc (.cells (row32 h).toArray 57)).alloc (.cells (row8 l).toArray 58)).alloc (.cells (row32 (List.replicate 8 0)).toArray 57)) w.heap.size 57 (row32 h) := ((Blk.new w _ _ _ rfl).alloc _).alloc _
  have b1 : Blk (((w.alloc (.cells (row32 h).toArray 57)).alloc (.cells (row8 l).toArray 58)).alloc (.cells (row32 (List.replicate 8 0)).toArray 57)) (w.heap.size + 1) 58 (row8 l) := (Blk.new _ _ _ _ (by simp)).alloc _
  have b2 : Blk (((w.alloc (.cells (row32 h).toArray 57)).alloc (.cells (row8 l).toArray 58)).alloc (.cells (row32 (List.replicate 8 0)).toArray 57)) (w.heap.size + 1 + 1) 57 (row32 (List.replicate 8 0)) := Blk.new _ _ _ _ (by simp)
  have bb : Below w.heap.size w (((w.alloc (.cells (row32 h).toArray 57)).alloc (.cells (row8 l).toArray 58)).alloc (.cells (row32 (List.replicate 8 0)).toArray 57)) := (((Below.refl _ _).alloc (Nat.le_refl _) _).alloc (by simp) _).alloc (by simp; omega) _
  have hw1 : ((w.alloc (.cells (row32 h).toArray 57)).alloc (.cells (row8 l).toArray 58)).alloc (.cells (row32 (List.replicate 8 0)).toArray 57) = ((w.alloc (.cells (row32 h).toArray 57)).alloc (.cells (row8 l).toArray 58)).alloc (.cells #[.int .u32 0, .int .u32 0, .int .u32 0, .int .u32 0, .int .u32 0, .int .u32 0, .int .u32 0, .int .u32 0] 57) := rfl
  rw [hw1] at b0 b1 b2 bb
  generalize ((w.alloc (.cells (row32 h).toArray 57)).alloc (.cells (row8 l).toArray 58)).alloc (.cells #[.int .u32 0, .int .u32 0, .int .u32 0, .int .u32 0, .int .u32 0, .int .u32 0, .int .u32 0, .int .u32 0] 57) = w1 at *
  clear hw1
  have x0 := b0.cell 0 _ (row32_val _ _ (by rw [HH.out.1]; omega))
  have x1 := b0.cell 1 _ (row32_val _ _ (by rw [HH.out.1]; omega))
  have x2 := b0.cell 2 _ (row32_val _ _ (by rw [HH.out.1]; omega))
  have x3 := b0.cell 3 _ (row32_val _ _ (by rw [HH.out.1]; omega))
  have x4 := b0.cell 4 _ (row32_val _ _ (by rw [HH.out.1]; omega))
  have x5 := b0.cell 5 _ (row32_val _ _ (by rw [HH.out.1]; omega))
  have x6 := b0.cell 6 _ (row32_val _ _ (by rw [HH.out.1]; omega))
  have x7 := b0.cell 7 _ (row32_val _ _ (by rw [HH.out.1]; omega))
  have B0 := Lib.hid b0
  have B1 := Lib.hid b1
  have B2 := Lib.hid b2
  have BB := Lib.hid bb
  clear b0 b1 b2 bb
  go_quiet (fail)
  revert nq
  intro n1
  go_upto_region 2 with (fail)
  go_quiet (fail)
  have b0 : Blk ((w1.drewN n1).drewN nq) w.heap.size 57 (row32 h) := B0.out
  have b1 : Blk ((w1.drewN n1).drewN nq) (w.heap.size + 1) 58 (row8 l) := B1.out
  have b2 : Blk ((w1.drewN n1).drewN nq) (w.heap.size + 1 + 1) 57 (row32 (List.replicate 8 0)) := B2.out
  have bb : Below w.heap.size w ((w1.drewN n1).drewN nq) := below_drewN (below_drewN BB.out n1) nq
  generalize (w1.drewN n1).drewN nq = w2 at *
  clear B0 B1 B2 BB x0 x1 x2 x3 x4 x5 x6 x7
  have B0 := Lib.hid b0
  have B1 := Lib.hid b1
  have B2 := Lib.hid b2
  have BB := Lib.hid bb
  clear b0 b1 b2 bb
  go_wp2_with (first
    | (refine wpList_load_mid rfl 58 (.tmp 3) rfl (w.heap.size + 1) 0 rfl (row8 l) _ B1.out.range Tryd.underlying58 rfl (by rw [H64.out]; exact infoBlk) ?_)
    | (go_at_call 32; refine Calls.mono (spread_any l HV.out _) ?_; rintro e w3 ⟨rfl, hb3⟩; have C0 := Lib.hid (B0.out.below hb3 B0.out.lt); have C2 := Lib.hid (B2.out.below hb3 B2.out.lt); have CC := Lib.hid (BB.out.on hb3); clear hb3))
  have hw := wTo_w HV.out.2 64
  obtain ⟨ws, hws⟩ : ∃ ws, ws = wTo l 64 := ⟨_, rfl⟩
  rw [← hws] at hw ⊢
  have HW := Lib.hid hw
  have HWS := Lib.hid hws
  clear hw hws B0 B1 B2 BB
  go_loopw [37, 5, 6, 7, 8, 9, 10, 11, 12] (fun i a b c d e f g j wr => ∃ t : Nat, t ≤ 64 ∧ i = .int .i64 t ∧ a = .int .u32 (gb (xTo h ws t) 0 : Nat) ∧ b = .int .u32 (gb (xTo h ws t) 1 : Nat) ∧ c = .int .u32 (gb (xTo h ws t) 2 : Nat) ∧ d = .int .u32 (gb (xTo h ws t) 3 : Nat) ∧ e = .int .u32 (gb (xTo h ws t) 4 : Nat) ∧ f = .int .u32 (gb (xTo h ws t) 5 : Nat) ∧ g = .int .u32 (gb (xTo h ws t) 6 : Nat) ∧ j = .int .u32 (gb (xTo h ws t) 7 : Nat) ∧ Blk wr w.heap.size 57 (row32 h) ∧ Blk wr (w.heap.size + 1 + 1) 57 (row32 (List.replicate 8 0)) ∧ Below w.heap.size w wr) (fun i _ _ _ _ _ _ _ _ _ => 64 - (intOf i).toNat)
  case atStart => exact ⟨0, Nat.zero_le _, rfl, rfl, rfl, rfl, rfl, rfl, rfl, rfl, rfl, C0.out, C2.out, CC.out⟩
  case round =>
    clear C0 C2 CC
    obtain ⟨t, ht, rfl, rfl, rfl, rfl, rfl, rfl, rfl, rfl, rfl, b0, b2, bb⟩ := hrel
    have hxw := xTo_w (w := ws) HH.out t
    obtain ⟨x, hx⟩ : ∃ x, x = xTo h ws t := ⟨_, rfl⟩
    rw [← hx] at hxw ⊢
    by_cases htt : t < 64
    · have hk := HT.out.below bb t htt
      have hkw := kk_w.2 t
      have hww := HW.out.2 t
      have hix := run_index_row 65 53 64 (row32 ws).toArray t (.int .u32 ((gb ws t : Nat) : Int)) Tryd.underlying65 htt infoW1 aggW1 (by have := row32_val ws t (by rw [HW.out.1]; omega); simpa using this)
      have y0 := hxw.2 0
      have y1 := hxw.2 1
      have y2 := hxw.2 2
      have y3 := hxw.2 3
      have y4 := hxw.2 4
      have y5 := hxw.2 5
      have y6 := hxw.2 6
      have y7 := hxw.2 7
      have B0 := Lib.hid b0
      have B2 := Lib.hid b2
      have BB := Lib.hid bb
      have HX := Lib.hid hx
      clear b0 b2 bb hx hxw
      go_upto_region 6 with (fail)
      go_big_quiet ((go_at_call 33; refine quiet_any (right_c _ _ ?_ ?_ ?_ _) ?_ <;> first | omega | exact ⟨_, rfl⟩))
      rw [S1_bits _ (by assumption), ch_bits _ _ _ (by assumption) (by assumption) (by assumption)]
      have hT1 := t1_val x (gb kk t) (gb ws t)
      have hT2 := t2_val x
      have hT3 := t1_w x (gb kk t) (gb ws t)
      have HR := Lib.hid (show xTo h ws (t + 1) = rnd x (gb kk t) (gb ws t) by rw [HX.out]; rfl)
      have HA := Lib.hid (show ((((t1 x (gb kk t) (gb ws t) : Nat) : Int) + ((t2 x : Nat) : Int)) % 4294967296) = ((gb (rnd x (gb kk t) (gb ws t)) 0 : Nat) : Int) by unfold rnd gb; simp)
      have HE := Lib.hid (show ((((gb x 3 : Nat) : Int) + ((t1 x (gb kk t) (gb ws t) : Nat) : Int)) % 4294967296) = ((gb (rnd x (gb kk t) (gb ws t)) 4 : Nat) : Int) by unfold rnd gb; simp)
      have HT2 := Lib.hid hT2
      obtain ⟨T1, hT⟩ : ∃ T1, T1 = t1 x (gb kk t) (gb ws t) := ⟨_, rfl⟩
      rw [← hT] at hT1 hT3 HA HE
      rw [hT1]
      clear hT hT1 hT2
      go_wp2_with (go_at_call 33; refine Calls.mono (right_c _ _ (by assumption) (by omega) (by omega) _) ?_; rintro e w' ⟨rfl, rfl⟩)
      rw [S0_bits _ (by assumption), mj_bits _ _ _ (by assumption) (by assumption) (by assumption), HT2.out, HA.out, HE.out]
      refine ⟨⟨t + 1, by omega, by go_num, ?_, ?_, ?_, ?_, ?_, ?_, ?_, ?_, B0.out, B2.out, below_drewN BB.out nq⟩, by simp [intOf]; omega⟩ <;> rw [HR.out] <;> rfl
    · obtain rfl : t = 64 := by omega
      have h8x := row32_eight x hxw.1
      have H8X := Lib.hid h8x
      have HX := Lib.hid hx
      have HXW := Lib.hid hxw
      have B0 := Lib.hid b0
      have B2 := Lib.hid b2
      have BB := Lib.hid bb
      clear h8x hx hxw b0 b2 bb
      go_wp2_with fail
      rw [← H8X.out]
      go_loopw [108] (fun i wq => ∃ t : Nat, t ≤ 8 ∧ i = .int .i64 t ∧ Blk wq w.heap.size 57 (row32 (aTo h x t)) ∧ Blk wq (w.heap.size + 1 + 1) 57 (row32 (List.replicate 8 0)) ∧ Below w.heap.size w wq) (fun i _ => 8 - (intOf i).toNat)
      case atStart => exact ⟨0, Nat.zero_le _, rfl, B0.out, B2.out, BB.out⟩
      case round =>
        clear B0 B2 BB
        obtain ⟨t, ht, rfl, b0, b2, bb⟩ := hrel
        have haw := aTo_w (x := x) HH.out t
        by_cases htt : t < 8
        · obtain ⟨y, hy⟩ : ∃ y, y = aTo h x t := ⟨_, rfl⟩
          rw [← hy] at b0 haw
          have c0 := b0.cell t _ (row32_val _ _ (by rw [haw.1]; omega))
          have hix := run_index_row 54 53 8 (row32 x).toArray t (.int .u32 ((gb x t : Nat) : Int)) Tryd.underlying54 htt infoW1 aggW1 (by have := row32_val x t (by rw [HXW.out.1]; omega); simpa using this)
          have hfree := b0.free t
          have g0 := haw.2 t
          have gx := HXW.out.2 t
          have B0 := Lib.hid b0
          have B2 := Lib.hid b2
          have BB := Lib.hid bb
          have HY := Lib.hid hy
          clear b0 b2 bb hy haw
          go_wp2_with fail
          have hval : (((gb y t : Nat) : Int) + ((gb x t : Nat) : Int)) % 4294967296 = (((gb y t + gb x t) % 4294967296 : Nat) : Int) := by simp
          rw [hval]
          refine ⟨⟨t + 1, by omega, by go_num, ?_, (B2.out.other _ _ (by simp <;> omega)), (BB.out.setCell (by simp) _)⟩, by simp [intOf]; omega⟩
          have := (B0.out.set t (.int .u32 (((gb y t + gb x t) % 4294967296 : Nat) : Int)))
          rw [row32_set, HY.out] at this
          unfold aTo
          rw [HY.out]
          exact this
        · obtain rfl : t = 8 := by omega
          have hb : aTo h x 8 = blk h l := by unfold blk; rw [HX.out, HWS.out]
          rw [hb] at b0 haw
          have h8 : (row32 (blk h l)).length = 8 := by rw [row32_len]; exact haw.1
          obtain ⟨y, hy⟩ : ∃ y, y = blk h l := ⟨_, rfl⟩
          rw [← hy] at b0 haw h8
          have HYB := Lib.hid hy
          have B0 := Lib.hid b0
          have B2 := Lib.hid b2
          have BB := Lib.hid bb
          have H8y := Lib.hid h8
          clear b0 b2 bb hy haw h8 hb
          go_wp2_with (first | (refine wpList_load_mid rfl 57 (.tmp 2) rfl w.heap.size 0 rfl (row32 y) _ B0.out.range Tryd.underlying57 rfl (by rw [H8y.out]; exact infoSt) ?_) | (refine wpList_store_mid rfl 57 (.tmp 4) (.tmp 119) rfl (w.heap.size + 1 + 1) 0 (row32 y).toArray rfl rfl (B2.out.there _ (by rw [List.size_toArray, H8y.out]; rfl)) (by rw [List.size_toArray, H8y.out]; exact infoSt) (row32_one _) ?_))
          have fin := B2.out.whole (row32 y) (by rw [H8y.out]; rfl)
          exact bodyPost_ret (v := .agg (row32 y).toArray) (results_mid rfl _ _ (w.heap.size + 1 + 1) (row32 y) _ rfl fin.range Tryd.underlying57 rfl (by rw [H8y.out]; exact infoSt)) rfl ⟨by rw [HYB.out], below_setCells (w.heap.size + 1 + 1) (by omega) _ 0 _ BB.out⟩
end Go.Proofs.YtllhljhbnopafaaDoor
