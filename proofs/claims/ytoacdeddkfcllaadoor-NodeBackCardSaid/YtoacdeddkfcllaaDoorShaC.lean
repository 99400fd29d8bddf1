/- Texts of one subject in one file: ShaTurn, ShaSpread, ShaAfter, DoorP. Own work. -/
import Derived.Test.YtoacdeddkfcllaaDoorShaA
import Derived.ProofKit
import Derived.LaidMore
import Derived.OpenShut
import Derived.Stop.Joined
import Derived.Lib.LaidTab
/- Words turned to the right, in the program: contracts. Own work. -/
namespace Go.Proofs.YtoacdeddkfcllaaDoor
open Go.ChangeShapes Go.WideShapes Go.ChangeAt Go.RowKit
open SM
theorem low5 (n : Nat) (h1 : 1 ≤ n) (h2 : n < 32) : bits .and .u64 (IntKind.u64.wrap (-(n : Int))) 31 = ((32 - n : Nat) : Int) := by
  have e : IntKind.u64.wrap (-(n : Int)) = ((18446744073709551616 - n : Nat) : Int) := by rw [IntKind.wrap_u64]; omega
  have h := u64_and_nat (18446744073709551616 - n) 31 (by omega) (by omega)
  rw [e]
  refine h.trans ?_
  rw [show (31 : Nat) = 2 ^ 5 - 1 from rfl, Nat.and_two_pow_sub_one_eq_mod]
  omega
theorem rot_any (x n : Nat) (hx : x < 4294967296) (h1 : 1 ≤ n) (h2 : n < 32) (w : World) :
    Calls Tryd.prog 54 #[.int .u32 x, .int .i64 (-(n : Int))] w fun e w' => e = .returned (.int .u32 (rr x n)) ∧ w' = w := by
  go_enter Tryd.func54, Tryd.ntmps54
  go_upto_region 2 with (fail)
  rw [low5 n h1 h2]
  obtain ⟨m, hm⟩ : ∃ m, m = 32 - n := ⟨_, rfl⟩
  rw [← hm]
  have m1 : 1 ≤ m := by omega
  have m2 : m < 32 := by omega
  go_wp2_with fail
  go_ret
  refine ⟨?_, rfl⟩
  have e0 : 32 - (32 - n) = n := by omega
  have e1 : ((x : Int) / 2 ^ n) = ((x / 2 ^ n : Nat) : Int) := by simp
  have e2 : ((x : Int) * 2 ^ (32 - n) % 4294967296) = ((x * 2 ^ (32 - n) % 4294967296 : Nat) : Int) := by simp
  show Ending.returned (Value.int IntKind.u32 (bits BinOp.or IntKind.u32 ((x : Int) * 2 ^ (32 - n) % 4294967296) ((x : Int) / 2 ^ (32 - (32 - n))))) = _
  rw [e0, e1, e2, u32_or_nat _ _ (Nat.mod_lt _ (by omega)) (Nat.lt_of_le_of_lt (Nat.div_le_self _ _) hx), Nat.or_comm]
  rfl
theorem right_q (x n : Nat) (hx : x < 4294967296) (h1 : 1 ≤ n) (h2 : n < 32) (w : World) :
    Calls Tryd.prog 52 #[.int .u32 x, .int .i64 n] w fun e w' => e = .returned (.int .u32 (rr x n)) ∧ w' = w := by
  go_enter Tryd.func52, Tryd.ntmps52
  go_wp2_with (go_at_call 54; refine Calls.mono (rot_any x n hx h1 h2 _) ?_; rintro e w' ⟨rfl, rfl⟩)
  go_ret
  exact ⟨rfl, rfl⟩
theorem right_c (x : Nat) (c : Int) (hx : x < 4294967296) (h1 : 1 ≤ c) (h2 : c < 32) (w : World) :
    Calls Tryd.prog 52 #[.int .u32 x, .int .i64 c] w fun e w' => e = .returned (.int .u32 (rr x c.toNat)) ∧ w' = w := by
  obtain ⟨n, rfl⟩ : ∃ n : Nat, c = n := ⟨c.toNat, by omega⟩
  rw [Int.toNat_natCast]
  exact right_q x n hx (by omega) (by omega) w
end Go.Proofs.YtoacdeddkfcllaaDoor
/- The words that a block makes, in the program: contract. Own work. -/
namespace Go.Proofs.YtoacdeddkfcllaaDoor
open Go.ChangeShapes Go.WideShapes Go.ChangeAt Go.RowKit
open SM
theorem infoBlk : (Tryd.prog.info? 72).map (·.size) = some 64 := by kernel_rfl
theorem infoWds : (Tryd.prog.info? 85).map (·.size) = some 64 := by kernel_rfl
theorem infoSt : (Tryd.prog.info? 70).map (·.size) = some 8 := by kernel_rfl
set_option maxRecDepth 100000 in
set_option maxHeartbeats 1000000 in
theorem spread_any (l : List Nat) (hl : Bytes 64 l) (w : World) :
    Calls Tryd.prog 51 #[.agg (row8 l).toArray] w fun e w' => e = .returned (.agg (row32 (wTo l 64)).toArray) ∧ Below w.heap.size w w' := by
  have HV := Lib.hid hl
  clear hl
  have hlen : (row8 l).length = 64 := by rw [row8_len]; exact HV.out.1
  have HLEN := Lib.hid hlen
  clear hlen
  go_enter Tryd.func51, Tryd.ntmps51
  go_wp2_with fail
  go_loopw [9] (fun i wr => ∃ k : Nat, k ≤ 16 ∧ i = .int .i64 k ∧ Blk wr w.heap.size 72 (row8 l) ∧ Blk wr (w.heap.size + 1) 85 (row32 (List.replicate 64 0)) ∧ Blk wr (w.heap.size + 1 + 1) 85 (row32 (wTo l k)) ∧ Below w.heap.size w wr) (fun i _ => 16 - (intOf i).toNat)
  case atStart => exact ⟨0, Nat.zero_le _, rfl, ((Blk.new w _ _ _ rfl).alloc _).alloc _, (Blk.new _ _ _ _ (by simp)).alloc _, Blk.new _ _ _ _ (by simp), (((Below.refl _ _).alloc (Nat.le_refl _) _).alloc (by simp) _).alloc (by simp; omega) _⟩
  case round =>
    obtain ⟨k, hk, rfl, b0, b1, b2, bb⟩ := hrel
    by_cases hlt : k < 16
    · have c0 := b0.cell (4 * k) _ (row8_val l (4 * k) (by rw [HV.out.1]; omega))
      have c1 := b0.cell (4 * k + 1) _ (row8_val l (4 * k + 1) (by rw [HV.out.1]; omega))
      have c2 := b0.cell (4 * k + 2) _ (row8_val l (4 * k + 2) (by rw [HV.out.1]; omega))
      have c3 := b0.cell (4 * k + 3) _ (row8_val l (4 * k + 3) (by rw [HV.out.1]; omega))
      have g0 := HV.out.2 (4 * k)
      have g1 := HV.out.2 (4 * k + 1)
      have g2 := HV.out.2 (4 * k + 2)
      have g3 := HV.out.2 (4 * k + 3)
      have hfree := b2.free k
      have hcell := b2.cell k _ (row32_val _ k (by rw [(wTo_w HV.out.2 k).1]; omega))
      have B0 := Lib.hid b0
      have B1 := Lib.hid b1
      have B2 := Lib.hid b2
      have BB := Lib.hid bb
      clear b0 b1 b2 bb
      have q0 : (0 : Int) ≤ 4 * (k : Int) := by omega
      have q1 : 4 * (k : Int) ≤ 4 * (k : Int) + 4 := by omega
      have q2 : 4 * (k : Int) + 4 ≤ 64 := by omega
      have q3 : (4 * (k : Int)).toNat = 4 * k := by omega
      have q4 : (4 * (k : Int) + 4).toNat = 4 * k + 4 := by omega
      go_upto_region 6 with (fail)
      go_region
      go_wp2_with fail
      refine ⟨⟨k + 1, by omega, by go_num, (B0.out.other _ _ (by simp <;> omega)).drew, (B1.out.other _ _ (by simp <;> omega)).drew, ?_, (BB.out.setCell (by simp; omega) _).drew⟩, by simp [intOf]; omega⟩
      rw [be4_bits _ _ _ _ g0 g1 g2 g3]
      have := (B2.out.set k (.int .u32 ((be4 l (4 * k) : Nat) : Int))).drew
      rw [row32_set] at this
      unfold wTo
      rw [if_pos hlt]
      exact this
    · obtain rfl : k = 16 := by omega
      go_wp2_with fail
      go_loopw [6] (fun i wr => ∃ j : Nat, j ≤ 48 ∧ i = .int .i64 ((j : Int) + 16) ∧ Blk wr (w.heap.size + 1) 85 (row32 (List.replicate 64 0)) ∧ Blk wr (w.heap.size + 1 + 1) 85 (row32 (wTo l (j + 16))) ∧ Below w.heap.size w wr) (fun i _ => 64 - (intOf i).toNat)
      case atStart => exact ⟨0, Nat.zero_le _, rfl, b1, b2, bb⟩
      case round =>
        clear b0 b1 b2 bb
        obtain ⟨j, hj, rfl, b1, b2, bb⟩ := hrel
        by_cases hjt : j < 48
        · have hw := wTo_w HV.out.2 (j + 16)
          obtain ⟨ws, hws⟩ : ∃ ws, ws = wTo l (j + 16) := ⟨_, rfl⟩
          rw [← hws] at hw b2
          have c2 := b2.cell (j + 14) _ (row32_val _ _ (by rw [hw.1]; omega))
          have c15 := b2.cell (j + 1) _ (row32_val _ _ (by rw [hw.1]; omega))
          have c7 := b2.cell (j + 9) _ (row32_val _ _ (by rw [hw.1]; omega))
          have c16 := b2.cell j _ (row32_val _ _ (by rw [hw.1]; omega))
          have cj := b2.cell (j + 16) _ (row32_val _ _ (by rw [hw.1]; omega))
          have hfree := b2.free (j + 16)
          have g2 := hw.2 (j + 14)
          have g15 := hw.2 (j + 1)
          have g7 := hw.2 (j + 9)
          have g16 := hw.2 j
          have B1 := Lib.hid b1
          have B2 := Lib.hid b2
          have BB := Lib.hid bb
          have HW := Lib.hid hw
          have HWS := Lib.hid hws
          clear b1 b2 bb hw hws
          go_upto_region 11 with (fail)
          go_big_quiet ((go_at_call 52; refine quiet_any (right_c _ _ ?_ ?_ ?_ _) ?_ <;> first | omega | exact ⟨_, rfl⟩))
          rw [s0_bits _ (by assumption)]
          revert nq
          intro n1
          go_upto_region 12 with (fail)
          go_big_quiet ((go_at_call 52; refine quiet_any (right_c _ _ ?_ ?_ ?_ _) ?_ <;> first | omega | exact ⟨_, rfl⟩))
          rw [s1_bits _ (by assumption)]
          go_upto_region 13 with (fail)
          have n1' : Blk ((wr.drewN n1).drewN nq) (w.heap.size + 1) 85 (row32 (List.replicate 64 0)) := B1.out
          have n2 : Blk ((wr.drewN n1).drewN nq) (w.heap.size + 1 + 1) 85 (row32 ws) := B2.out
          have nb : Below w.heap.size w ((wr.drewN n1).drewN nq) := below_drewN (below_drewN BB.out n1) nq
          generalize (wr.drewN n1).drewN nq = w2 at *
          clear c2 c15 c7 c16 cj hfree B1 B2 BB
          have c7 := n2.cell (j + 9) _ (row32_val _ _ (by rw [HW.out.1]; omega))
          have c16 := n2.cell j _ (row32_val _ _ (by rw [HW.out.1]; omega))
          have cj := n2.cell (j + 16) _ (row32_val _ _ (by rw [HW.out.1]; omega))
          have hfree := n2.free (j + 16)
          have N1 := Lib.hid n1'
          have N2 := Lib.hid n2
          have NB := Lib.hid nb
          clear n1' n2 nb
          go_region
          go_wp2_with fail
          have hval : ((((s1 (gb ws (j + 14)) : Nat) : Int) + ((gb ws (j + 9) : Nat) : Int) + ((s0 (gb ws (j + 1)) : Nat) : Int) + ((gb ws j : Nat) : Int)) % 4294967296) = ((wn ws (j + 16) : Nat) : Int) := by
            unfold wn; simp
          rw [hval]
          refine ⟨⟨j + 1, by omega, by congr 1 <;> omega, (N1.out.other _ _ (by simp <;> omega)).drew, ?_, (NB.out.setCell (by simp; omega) _).drew⟩, by simp [intOf]; omega⟩
          have := (N2.out.set (j + 16) (.int .u32 ((wn ws (j + 16) : Nat) : Int))).drew
          rw [row32_set, HWS.out] at this
          rw [show j + 1 + 16 = (j + 16) + 1 by omega]
          unfold wTo
          rw [if_neg (by omega)]
          rw [HWS.out]
          exact this
        · obtain rfl : j = 48 := by omega
          have hw := wTo_w HV.out.2 64
          obtain ⟨ws, hws⟩ : ∃ ws, ws = wTo l 64 := ⟨_, rfl⟩
          have hws' : ws = wTo l (48 + 16) := hws
          rw [← hws'] at b2
          rw [← hws] at hw
          have h64 : (row32 ws).length = 64 := by rw [row32_len]; exact hw.1
          have B1 := Lib.hid b1
          have B2 := Lib.hid b2
          have BB := Lib.hid bb
          have HWS := Lib.hid hws
          have H8 := Lib.hid h64
          clear b1 b2 bb hw hws hws' h64
          go_wp2_with (first | (refine wpList_load_mid rfl 85 (.tmp 3) rfl (w.heap.size + 1 + 1) 0 rfl (row32 ws) _ B2.out.range Tryd.underlying85 rfl (by rw [H8.out]; exact infoWds) ?_) | (refine wpList_store_mid rfl 85 (.tmp 2) (.tmp 96) rfl (w.heap.size + 1) 0 (row32 ws).toArray rfl rfl (B1.out.there _ (by rw [List.size_toArray, H8.out]; rfl)) (by rw [List.size_toArray, H8.out]; exact infoWds) (row32_one _) ?_))
          have fin := B1.out.whole (row32 ws) (by rw [H8.out]; rfl)
          exact bodyPost_ret (v := .agg (row32 ws).toArray) (results_mid rfl _ _ (w.heap.size + 1) (row32 ws) _ rfl fin.range Tryd.underlying85 rfl (by rw [H8.out]; exact infoWds)) rfl ⟨by rw [HWS.out], below_setCells (w.heap.size + 1) (by omega) _ 0 _ BB.out⟩
end Go.Proofs.YtoacdeddkfcllaaDoor
/- A block, in the program: contract. Own work. -/
namespace Go.Proofs.YtoacdeddkfcllaaDoor
open Go.ChangeShapes Go.WideShapes Go.ChangeAt Go.RowKit
open SM
/-- The program's table lies in its place. -/
def TabP (w : World) : Prop := ∀ t, t < 64 → w.cell? ⟨1, t, none⟩ = some (.int .u32 ((gb kk t : Nat) : Int))
theorem TabP.lt {w : World} (h : TabP w) : 1 < w.heap.size := World.block_lt_of_cell? w _ (h 0 (by omega))
theorem TabP.keep {w w' : World} (h : TabP w) (hk : w'.heap[1]? = w.heap[1]?) : TabP w' := fun t ht => by
  rw [World.cell?_of_block (w := w) hk]; exact h t ht
theorem TabP.below {w w' : World} (h : TabP w) (hb : Below w.heap.size w w') : TabP w' := h.keep (hb.block _ h.lt)
theorem TabP.grown {w w' : World} {b : Nat} (h : TabP w) (hb : w.grownBy w' (some b)) (hne : b ≠ 1) : TabP w' := h.keep (hb.block _ h.lt (by simp; omega))
theorem infoW1 : (Tryd.prog.info? 22).map (·.size) = some 1 := by kernel_rfl
theorem aggW1 : ∀ w, (isAgg 22).run Tryd.prog w = .ok false w := fun w => by simp [go_sem]
theorem row32_eight (x : List Nat) (h : x.length = 8) : (row32 x).toArray = #[.int .u32 (gb x 0 : Nat), .int .u32 (gb x 1 : Nat), .int .u32 (gb x 2 : Nat), .int .u32 (gb x 3 : Nat), .int .u32 (gb x 4 : Nat), .int .u32 (gb x 5 : Nat), .int .u32 (gb x 6 : Nat), .int .u32 (gb x 7 : Nat)] := by
  match x, h with
  | [a, b, c, d, e, f, g, i], _ => rfl
set_option maxRecDepth 100000 in
set_option maxHeartbeats 1000000 in
theorem after_any (h l : List Nat) (hh : Words 8 h) (hl : Bytes 64 l) (w : World) (ht : TabP w) :
    Calls Tryd.prog 43 #[.agg (row32 h).toArray, .agg (row8 l).toArray] w fun e w' => e = .returned (.agg (row32 (blk h l)).toArray) ∧ Below w.heap.size w w' := by
  have HV := Lib.hid hl
  have HH := Lib.hid hh
  have HT := Lib.hid ht
  clear hl hh ht
  have H8 := Lib.hid (show (row32 h).length = 8 by rw [row32_len]; exact HH.out.1)
  have H64 := Lib.hid (show (row8 l).length = 64 by rw [row8_len]; exact HV.out.1)
  go_enter Tryd.func43, Tryd.ntmps43
  go_upto_region 1 with (fail)
  have b0 : Blk (((w.alloc (.cells (row32 h).toArray 70)).alloc (.cells (row8 l).toArray 72)).alloc (.cells (row32 (List.replicate 8 0)).toArray 70)) w.heap.size 70 (row32 h) := ((Blk.new w _ _ _ rfl).alloc _).alloc _
  have b1 : Blk (((w.alloc (.cells (row32 h).toArray 70)).alloc (.cells (row8 l).toArray 72)).alloc (.cells (row32 (List.replicate 8 0)).toArray 70)) (w.heap.size + 1) 72 (row8 l) := (Blk.new _ _ _ _ (by simp)).alloc _
  have b2 : Blk (((w.alloc (.cells (row32 h).toArray 70)).alloc (.cells (row8 l).toArray 72)).alloc (.cells (row32 (List.replicate 8 0)).toArray 70)) (w.heap.size + 1 + 1) 70 (row32 (List.replicate 8 0)) := Blk.new _ _ _ _ (by simp)
  have bb : Below w.heap.size w (((w.alloc (.cells (row32 h).toArray 70)).alloc (.cells (row8 l).toArray 72)).alloc (.cells (row32 (List.replicate 8 0)).toArray 70)) := (((Below.refl _ _).alloc (Nat.le_refl _) _).alloc (by simp) _).alloc (by simp; omega) _
  have hw1 : ((w.alloc (.cells (row32 h).toArray 70)).alloc (.cells (row8 l).toArray 72)).alloc (.cells (row32 (List.replicate 8 0)).toArray 70) = ((w.alloc (.cells (row32 h).toArray 70)).alloc (.cells (row8 l).toArray 72)).alloc (.cells #[.int .u32 0, .int .u32 0, .int .u32 0, .int .u32 0, .int .u32 0, .int .u32 0, .int .u32 0, .int .u32 0] 70) := rfl
  rw [hw1] at b0 b1 b2 bb
  generalize ((w.alloc (.cells (row32 h).toArray 70)).alloc (.cells (row8 l).toArray 72)).alloc (.cells #[.int .u32 0, .int .u32 0, .int .u32 0, .int .u32 0, .int .u32 0, .int .u32 0, .int .u32 0, .int .u32 0] 70) = w1 at *
  clear hw1
  have x0 := b0.cell 0 _ (row32_val _ _ (by rw [HH.out.1]; omega))
  have x1 := b0.cell 1 _ (row32_val _ _ (by rw [HH.out.1]; omega))
  have x2 := b0.cell 2 _ (row32_val _ _ (by rw [HH.out.1]; omega))
  have x3 := b0.cell 3 _ (row32_val _ _ (by rw [HH.out.1]; omega))
  have x4 := b0.cell 4 _ (row32_val _ _ (by rw [HH.out.1]; omega))
  have x5 := b0.cell 5 _ (row32_val _ _ (by rw [HH.out.1]; omega))
  have x6 := b0.cell 6 _ (row32_val _ _ (by rw [HH.out.1]; omega))
  have x7 := b0.cell 7 _ (row32_val _ _ (by rw [HH.out.1]; omega))
  have B0 := Lib.hid b0
  have B1 := Lib.hid b1
  have B2 := Lib.hid b2
  have BB := Lib.hid bb
  clear b0 b1 b2 bb
  go_quiet (fail)
  revert nq
  intro n1
  go_upto_region 2 with (fail)
  go_quiet (fail)
  have b0 : Blk ((w1.drewN n1).drewN nq) w.heap.size 70 (row32 h) := B0.out
  have b1 : Blk ((w1.drewN n1).drewN nq) (w.heap.size + 1) 72 (row8 l) := B1.out
  have b2 : Blk ((w1.drewN n1).drewN nq) (w.heap.size + 1 + 1) 70 (row32 (List.replicate 8 0)) := B2.out
  have bb : Below w.heap.size w ((w1.drewN n1).drewN nq) := below_drewN (below_drewN BB.out n1) nq
  generalize (w1.drewN n1).drewN nq = w2 at *
  clear B0 B1 B2 BB x0 x1 x2 x3 x4 x5 x6 x7
  have B0 := Lib.hid b0
  have B1 := Lib.hid b1
  have B2 := Lib.hid b2
  have BB := Lib.hid bb
  clear b0 b1 b2 bb
  go_wp2_with (first
    | (refine wpList_load_mid rfl 72 (.tmp 3) rfl (w.heap.size + 1) 0 rfl (row8 l) _ B1.out.range Tryd.underlying72 rfl (by rw [H64.out]; exact infoBlk) ?_)
    | (go_at_call 51; refine Calls.mono (spread_any l HV.out _) ?_; rintro e w3 ⟨rfl, hb3⟩; have C0 := Lib.hid (B0.out.below hb3 B0.out.lt); have C2 := Lib.hid (B2.out.below hb3 B2.out.lt); have CC := Lib.hid (BB.out.on hb3); clear hb3))
  have hw := wTo_w HV.out.2 64
  obtain ⟨ws, hws⟩ : ∃ ws, ws = wTo l 64 := ⟨_, rfl⟩
  rw [← hws] at hw ⊢
  have HW := Lib.hid hw
  have HWS := Lib.hid hws
  clear hw hws B0 B1 B2 BB
  go_loopw [37, 5, 6, 7, 8, 9, 10, 11, 12] (fun i a b c d e f g j wr => ∃ t : Nat, t ≤ 64 ∧ i = .int .i64 t ∧ a = .int .u32 (gb (xTo h ws t) 0 : Nat) ∧ b = .int .u32 (gb (xTo h ws t) 1 : Nat) ∧ c = .int .u32 (gb (xTo h ws t) 2 : Nat) ∧ d = .int .u32 (gb (xTo h ws t) 3 : Nat) ∧ e = .int .u32 (gb (xTo h ws t) 4 : Nat) ∧ f = .int .u32 (gb (xTo h ws t) 5 : Nat) ∧ g = .int .u32 (gb (xTo h ws t) 6 : Nat) ∧ j = .int .u32 (gb (xTo h ws t) 7 : Nat) ∧ Blk wr w.heap.size 70 (row32 h) ∧ Blk wr (w.heap.size + 1 + 1) 70 (row32 (List.replicate 8 0)) ∧ Below w.heap.size w wr) (fun i _ _ _ _ _ _ _ _ _ => 64 - (intOf i).toNat)
  case atStart => exact ⟨0, Nat.zero_le _, rfl, rfl, rfl, rfl, rfl, rfl, rfl, rfl, rfl, C0.out, C2.out, CC.out⟩
  case round =>
    clear C0 C2 CC
    obtain ⟨t, ht, rfl, rfl, rfl, rfl, rfl, rfl, rfl, rfl, rfl, b0, b2, bb⟩ := hrel
    have hxw := xTo_w (w := ws) HH.out t
    obtain ⟨x, hx⟩ : ∃ x, x = xTo h ws t := ⟨_, rfl⟩
    rw [← hx] at hxw ⊢
    by_cases htt : t < 64
    · have hk := HT.out.below bb t htt
      have hkw := kk_w.2 t
      have hww := HW.out.2 t
      have hix := run_index_row 85 22 64 (row32 ws).toArray t (.int .u32 ((gb ws t : Nat) : Int)) Tryd.underlying85 htt infoW1 aggW1 (by have := row32_val ws t (by rw [HW.out.1]; omega); simpa using this)
      have y0 := hxw.2 0
      have y1 := hxw.2 1
      have y2 := hxw.2 2
      have y3 := hxw.2 3
      have y4 := hxw.2 4
      have y5 := hxw.2 5
      have y6 := hxw.2 6
      have y7 := hxw.2 7
      have B0 := Lib.hid b0
      have B2 := Lib.hid b2
      have BB := Lib.hid bb
      have HX := Lib.hid hx
      clear b0 b2 bb hx hxw
      go_upto_region 6 with (fail)
      go_big_quiet ((go_at_call 52; refine quiet_any (right_c _ _ ?_ ?_ ?_ _) ?_ <;> first | omega | exact ⟨_, rfl⟩))
      rw [S1_bits _ (by assumption), ch_bits _ _ _ (by assumption) (by assumption) (by assumption)]
      have hT1 := t1_val x (gb kk t) (gb ws t)
      have hT2 := t2_val x
      have hT3 := t1_w x (gb kk t) (gb ws t)
      have HR := Lib.hid (show xTo h ws (t + 1) = rnd x (gb kk t) (gb ws t) by rw [HX.out]; rfl)
      have HA := Lib.hid (show ((((t1 x (gb kk t) (gb ws t) : Nat) : Int) + ((t2 x : Nat) : Int)) % 4294967296) = ((gb (rnd x (gb kk t) (gb ws t)) 0 : Nat) : Int) by unfold rnd gb; simp)
      have HE := Lib.hid (show ((((gb x 3 : Nat) : Int) + ((t1 x (gb kk t) (gb ws t) : Nat) : Int)) % 4294967296) = ((gb (rnd x (gb kk t) (gb ws t)) 4 : Nat) : Int) by unfold rnd gb; simp)
      have HT2 := Lib.hid hT2
      obtain ⟨T1, hT⟩ : ∃ T1, T1 = t1 x (gb kk t) (gb ws t) := ⟨_, rfl⟩
      rw [← hT] at hT1 hT3 HA HE
      rw [hT1]
      clear hT hT1 hT2
      go_wp2_with (go_at_call 52; refine Calls.mono (right_c _ _ (by assumption) (by omega) (by omega) _) ?_; rintro e w' ⟨rfl, rfl⟩)
      rw [S0_bits _ (by assumption), mj_bits _ _ _ (by assumption) (by assumption) (by assumption), HT2.out, HA.out, HE.out]
      refine ⟨⟨t + 1, by omega, by go_num, ?_, ?_, ?_, ?_, ?_, ?_, ?_, ?_, B0.out, B2.out, below_drewN BB.out nq⟩, by simp [intOf]; omega⟩ <;> rw [HR.out] <;> rfl
    · obtain rfl : t = 64 := by omega
      have h8x := row32_eight x hxw.1
      have H8X := Lib.hid h8x
      have HX := Lib.hid hx
      have HXW := Lib.hid hxw
      have B0 := Lib.hid b0
      have B2 := Lib.hid b2
      have BB := Lib.hid bb
      clear h8x hx hxw b0 b2 bb
      go_wp2_with fail
      rw [← H8X.out]
      go_loopw [108] (fun i wq => ∃ t : Nat, t ≤ 8 ∧ i = .int .i64 t ∧ Blk wq w.heap.size 70 (row32 (aTo h x t)) ∧ Blk wq (w.heap.size + 1 + 1) 70 (row32 (List.replicate 8 0)) ∧ Below w.heap.size w wq) (fun i _ => 8 - (intOf i).toNat)
      case atStart => exact ⟨0, Nat.zero_le _, rfl, B0.out, B2.out, BB.out⟩
      case round =>
        clear B0 B2 BB
        obtain ⟨t, ht, rfl, b0, b2, bb⟩ := hrel
        have haw := aTo_w (x := x) HH.out t
        by_cases htt : t < 8
        · obtain ⟨y, hy⟩ : ∃ y, y = aTo h x t := ⟨_, rfl⟩
          rw [← hy] at b0 haw
          have c0 := b0.cell t _ (row32_val _ _ (by rw [haw.1]; omega))
          have hix := run_index_row 67 22 8 (row32 x).toArray t (.int .u32 ((gb x t : Nat) : Int)) Tryd.underlying67 htt infoW1 aggW1 (by have := row32_val x t (by rw [HXW.out.1]; omega); simpa using this)
          have hfree := b0.free t
          have g0 := haw.2 t
          have gx := HXW.out.2 t
          have B0 := Lib.hid b0
          have B2 := Lib.hid b2
          have BB := Lib.hid bb
          have HY := Lib.hid hy
          clear b0 b2 bb hy haw
          go_wp2_with fail
          have hval : (((gb y t : Nat) : Int) + ((gb x t : Nat) : Int)) % 4294967296 = (((gb y t + gb x t) % 4294967296 : Nat) : Int) := by simp
          rw [hval]
          refine ⟨⟨t + 1, by omega, by go_num, ?_, (B2.out.other _ _ (by simp <;> omega)), (BB.out.setCell (by simp) _)⟩, by simp [intOf]; omega⟩
          have := (B0.out.set t (.int .u32 (((gb y t + gb x t) % 4294967296 : Nat) : Int)))
          rw [row32_set, HY.out] at this
          unfold aTo
          rw [HY.out]
          exact this
        · obtain rfl : t = 8 := by omega
          have hb : aTo h x 8 = blk h l := by unfold blk; rw [HX.out, HWS.out]
          rw [hb] at b0 haw
          have h8 : (row32 (blk h l)).length = 8 := by rw [row32_len]; exact haw.1
          obtain ⟨y, hy⟩ : ∃ y, y = blk h l := ⟨_, rfl⟩
          rw [← hy] at b0 haw h8
          have HYB := Lib.hid hy
          have B0 := Lib.hid b0
          have B2 := Lib.hid b2
          have BB := Lib.hid bb
          have H8y := Lib.hid h8
          clear b0 b2 bb hy haw h8 hb
          go_wp2_with (first | (refine wpList_load_mid rfl 70 (.tmp 2) rfl w.heap.size 0 rfl (row32 y) _ B0.out.range Tryd.underlying70 rfl (by rw [H8y.out]; exact infoSt) ?_) | (refine wpList_store_mid rfl 70 (.tmp 4) (.tmp 119) rfl (w.heap.size + 1 + 1) 0 (row32 y).toArray rfl rfl (B2.out.there _ (by rw [List.size_toArray, H8y.out]; rfl)) (by rw [List.size_toArray, H8y.out]; exact infoSt) (row32_one _) ?_))
          have fin := B2.out.whole (row32 y) (by rw [H8y.out]; rfl)
          exact bodyPost_ret (v := .agg (row32 y).toArray) (results_mid rfl _ _ (w.heap.size + 1 + 1) (row32 y) _ rfl fin.range Tryd.underlying70 rfl (by rw [H8y.out]; exact infoSt)) rfl ⟨by rw [HYB.out], below_setCells (w.heap.size + 1 + 1) (by omega) _ 0 _ BB.out⟩
end Go.Proofs.YtoacdeddkfcllaaDoor
/- The program's table of words, as the row lists it: what the condition gives, and that the door's own heap meets it. Own work. -/
namespace Go.Proofs.YtoacdeddkfcllaaDoor
open Go.ChangeShapes Go.WideShapes Go.ChangeAt Go.RowKit
def laidP : List (String × DataW Unit) := [("reliquary/sha.constants", Rows.laid_reliquary_sha_constants)]
theorem gP : Tryd.prog.globalNamed "reliquary/sha.constants" = some 1 := by kernel_rfl
theorem tP : (Tryd.prog.globals[1]?).map (·.type) = some 83 := by kernel_rfl
theorem cellsW' : Tryd.prog.cellsOf 22 = 1 := by kernel_rfl
theorem cellsW64' : Tryd.prog.cellsOf 83 = 64 := by kernel_rfl
theorem laid_tabP : (Rows.laid_reliquary_sha_constants : DataW Unit) = Lib.tabData .u32 (SM.kk.map fun n : Nat => (n : Int)) := rfl
theorem tabP_of_laid {W : World} (h : laidMetH Tryd.prog laidP W) : TabP W := by
  rw [MakeChecks.laidMetH_plain _ _ _ (by kernel_rfl)] at h
  unfold laidP at h
  rw [laid_tabP] at h
  have ht := Lib.tabIs_of_head gP tP Tryd.underlying83 Tryd.underlying22 cellsW' cellsW64' h
  intro t htt
  have hc := ht.cell gP t (by rw [List.length_map]; exact htt)
  rw [hc]
  unfold gb
  rw [List.getD_eq_getElem?_getD, List.getD_eq_getElem?_getD, List.getElem?_map, List.getElem?_eq_getElem (by exact htt)]
  rfl
theorem doorP_met (os : Os) (args : Array Value) : laidMetH Tryd.prog laidP ((World.doorLaid Tryd.prog 400 os).forCall (fun _ _ => 0) ⟨#[], args, []⟩).memory :=
  laidMetH_of_parts3 (fuel := 8) (laidMet_of_run' 8 (by kernel_rfl) (by kernel_rfl)) (by kernel_rfl) (by kernel_rfl)
end Go.Proofs.YtoacdeddkfcllaaDoor
