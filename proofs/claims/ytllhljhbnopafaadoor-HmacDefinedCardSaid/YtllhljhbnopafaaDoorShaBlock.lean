/- A block of the document's answer: contract. -/
import Derived.Test.YtllhljhbnopafaaDoorShaBits
import Derived.Test.YtllhljhbnopafaaDoorRdCut
namespace Go.Proofs.YtllhljhbnopafaaDoor
open Go.ChangeShapes Go.WideShapes Go.ChangeAt Go.RowKit
open SM
theorem be4_bits (a b c d : Nat) (ha : a < 256) (hb : b < 256) (hc : c < 256) (hd : d < 256) :
    bits .or .u32 (bits .or .u32 (bits .or .u32 ((a : Int) * 16777216) ((b : Int) * 65536)) ((c : Int) * 256)) (d : Int) = ((((a * 16777216 ||| b * 65536) ||| c * 256) ||| d : Nat) : Int) := by
  have e0 : ((a : Int) * 16777216) = ((a * 16777216 : Nat) : Int) := by simp
  have e1 : ((b : Int) * 65536) = ((b * 65536 : Nat) : Int) := by simp
  have e2 : ((c : Int) * 256) = ((c * 256 : Nat) : Int) := by simp
  rw [e0, e1, e2, u32_or_nat _ _ (by omega) (by omega), u32_or_nat _ _ (or_w (by omega) (by omega)) (by omega), u32_or_nat _ _ (or_w (or_w (by omega) (by omega)) (by omega)) (by omega)]
theorem rr_q (x n : Nat) (hx : x < 4294967296) (h1 : 1 ≤ n) (h2 : n < 32) (w : World) :
    Calls Tryd.prog 31 #[.int .u32 x, .int .u64 n] w fun e w' => e = .returned (.int .u32 (rr x n)) ∧ w' = w :=
  (rr_any x n hx h1 h2 w).mono fun _ _ h => ⟨h.1, h.2.symm⟩
theorem rr_c (x : Nat) (c : Int) (hx : x < 4294967296) (h1 : 1 ≤ c) (h2 : c < 32) (w : World) :
    Calls Tryd.prog 31 #[.int .u32 x, .int .u64 c] w fun e w' => e = .returned (.int .u32 (rr x c.toNat)) ∧ w' = w := by
  obtain ⟨n, rfl⟩ : ∃ n : Nat, c = n := ⟨c.toNat, by omega⟩
  rw [Int.toNat_natCast]
  exact rr_q x n hx (by omega) (by omega) w
theorem quiet_any {P : Program} {f : FuncId} {args : Array Value} {w : World} {v : Value} {C : World → Prop} (h : Calls P f args w fun e w' => e = .returned v ∧ w' = w) (hC : C w) : Calls P f args w fun e w'' => e = .returned v ∧ C w'' :=
  h.mono fun _ _ ⟨he, hm⟩ => ⟨he, hm ▸ hC⟩
theorem below_drewN {B : Nat} {a w : World} (h : Below B a w) (n : Nat) : Below B a (w.drewN n) := ⟨h.os, h.tape, h.output, h.size, h.block⟩
theorem s1_bits (x : Nat) (hx : x < 4294967296) : bits .xor .u32 (bits .xor .u32 ((rr x 17 : Nat) : Int) ((rr x 19 : Nat) : Int)) ((x : Int) / 1024) = ((s1 x : Nat) : Int) := by
  have e : ((x : Int) / 1024) = ((x / 1024 : Nat) : Int) := by simp
  rw [e, u32_xor_nat _ _ (rr_w 17 hx) (rr_w 19 hx), u32_xor_nat _ _ (xor_w (rr_w 17 hx) (rr_w 19 hx)) (by omega)]; rfl
theorem s0_bits (x : Nat) (hx : x < 4294967296) : bits .xor .u32 (bits .xor .u32 ((rr x 7 : Nat) : Int) ((rr x 18 : Nat) : Int)) ((x : Int) / 8) = ((s0 x : Nat) : Int) := by
  have e : ((x : Int) / 8) = ((x / 8 : Nat) : Int) := by simp
  rw [e, u32_xor_nat _ _ (rr_w 7 hx) (rr_w 18 hx), u32_xor_nat _ _ (xor_w (rr_w 7 hx) (rr_w 18 hx)) (by omega)]; rfl
theorem S0_bits (x : Nat) (hx : x < 4294967296) : bits .xor .u32 (bits .xor .u32 ((rr x 2 : Nat) : Int) ((rr x 13 : Nat) : Int)) ((rr x 22 : Nat) : Int) = ((S0 x : Nat) : Int) := by
  rw [u32_xor_nat _ _ (rr_w 2 hx) (rr_w 13 hx), u32_xor_nat _ _ (xor_w (rr_w 2 hx) (rr_w 13 hx)) (rr_w 22 hx)]; rfl
theorem S1_bits (x : Nat) (hx : x < 4294967296) : bits .xor .u32 (bits .xor .u32 ((rr x 6 : Nat) : Int) ((rr x 11 : Nat) : Int)) ((rr x 25 : Nat) : Int) = ((S1 x : Nat) : Int) := by
  rw [u32_xor_nat _ _ (rr_w 6 hx) (rr_w 11 hx), u32_xor_nat _ _ (xor_w (rr_w 6 hx) (rr_w 11 hx)) (rr_w 25 hx)]; rfl
theorem ch_bits (e f g : Nat) (he : e < 4294967296) (hf : f < 4294967296) (hg : g < 4294967296) : bits .xor .u32 (bits .and .u32 (e : Int) (f : Int)) (bits .and .u32 (bits .xor .u32 (if IntKind.u32.signed = true then -1 else IntKind.u32.max) (e : Int)) (g : Int)) = ((ch e f g : Nat) : Int) := by
  have m : (if IntKind.u32.signed = true then (-1 : Int) else IntKind.u32.max) = ((4294967295 : Nat) : Int) := by decide
  rw [m, u32_xor_nat _ _ (by omega) he, u32_and_nat _ _ he hf, u32_and_nat _ _ (xor_w (by omega) he) hg, u32_xor_nat _ _ (and_w he) (and_w (xor_w (by omega) he))]; rfl
theorem t1_val (x : List Nat) (k w : Nat) : ((((gb x 7 : Nat) : Int) + ((S1 (gb x 4) : Nat) : Int) + ((ch (gb x 4) (gb x 5) (gb x 6) : Nat) : Int) + (k : Int)) % 4294967296 + (w : Int)) % 4294967296 = ((t1 x k w : Nat) : Int) := by
  unfold t1; omega
theorem t2_val (x : List Nat) : (((S0 (gb x 0) : Nat) : Int) + ((mj (gb x 0) (gb x 1) (gb x 2) : Nat) : Int)) % 4294967296 = ((t2 x : Nat) : Int) := by
  unfold t2; omega
theorem rnd_agg (x : List Nat) (k w T1 T2 : Nat) (h1 : T1 = t1 x k w) (h2 : T2 = t2 x) :
    Value.agg #[.int .u32 (((T1 : Int) + (T2 : Int)) % 4294967296), .int .u32 (gb x 0 : Nat), .int .u32 (gb x 1 : Nat), .int .u32 (gb x 2 : Nat), .int .u32 ((((gb x 3 : Nat) : Int) + (T1 : Int)) % 4294967296), .int .u32 (gb x 4 : Nat), .int .u32 (gb x 5 : Nat), .int .u32 (gb x 6 : Nat)] = .agg (row32 (rnd x k w)).toArray := by
  subst h1; subst h2
  unfold row32 rnd
  simp
theorem mj_bits (a b c : Nat) (ha : a < 4294967296) (hb : b < 4294967296) (hc : c < 4294967296) : bits .xor .u32 (bits .xor .u32 (bits .and .u32 (a : Int) (b : Int)) (bits .and .u32 (a : Int) (c : Int))) (bits .and .u32 (b : Int) (c : Int)) = ((mj a b c : Nat) : Int) := by
  rw [u32_and_nat _ _ ha hb, u32_and_nat _ _ ha hc, u32_and_nat _ _ hb hc, u32_xor_nat _ _ (and_w ha) (and_w ha), u32_xor_nat _ _ (xor_w (and_w ha) (and_w ha)) (and_w hb)]; rfl
theorem add_succ (a : Addr) (n : Nat) : a.add (n + 1) = ⟨a.block, a.off + (n + 1), none⟩ := by simp [Addr.add]
set_option maxRecDepth 100000 in
set_option maxHeartbeats 1000000 in
theorem rblock_any (h l : List Nat) (hh : Words 8 h) (hl : l.length = 64) (v : Value) (w : World) (hv : Rd w v l) (ht : Tab w) :
    Calls Tryd.prog 27 #[.agg (row32 h).toArray, v] w fun e w' => e = .returned (.agg (row32 (blk h l)).toArray) ∧ Below w.heap.size w w' := by
  obtain ⟨ao, cap, rfl, hcap⟩ := hv.shape
  obtain ⟨ad, rfl, _⟩ := hv.at_ 0 (by omega)
  have HV := Lib.hid hv
  have HH := Lib.hid hh
  have HT := Lib.hid ht
  have HL := Lib.hid hl
  rw [hl] at hcap HV ⊢
  clear hv hh ht
  have hf := HV.out.fits
  go_enter Tryd.func27, Tryd.ntmps27
  go_wp2_with fail
  go_loopw [6] (fun i wr => ∃ k : Nat, k ≤ 16 ∧ i = .int .i64 k ∧ Blk wr w.heap.size 54 (row32 h) ∧ Blk wr (w.heap.size + 1) 54 (row32 (List.replicate 8 0)) ∧ Blk wr (w.heap.size + 1 + 1) 63 (row32 (wTo l k)) ∧ Below w.heap.size w wr) (fun i _ => 16 - (intOf i).toNat)
  case atStart => exact ⟨0, Nat.zero_le _, rfl, ((Blk.new w _ _ _ rfl).alloc _).alloc _, (Blk.new _ _ _ _ (by simp)).alloc _, Blk.new _ _ _ _ (by simp), (((Below.refl _ _).alloc (Nat.le_refl _) _).alloc (by simp) _).alloc (by simp; omega) _⟩
  case round =>
    obtain ⟨k, hk, rfl, b0, b1, b2, bb⟩ := hrel
    by_cases hlt : k < 16
    · have c := HV.out.below bb
      obtain ⟨_, e0, c0⟩ := c.at_ (4 * k) (by omega)
      obtain ⟨_, e1, c1⟩ := c.at_ (4 * k + 1) (by omega)
      obtain ⟨_, e2, c2⟩ := c.at_ (4 * k + 2) (by omega)
      obtain ⟨_, e3, c3⟩ := c.at_ (4 * k + 3) (by omega)
      cases e0; cases e1; cases e2; cases e3
      have g0 := HV.out.byte (4 * k)
      have g1 := HV.out.byte (4 * k + 1)
      have g2 := HV.out.byte (4 * k + 1 + 1)
      have g3 := HV.out.byte (4 * k + 2 + 1)
      rw [add_succ] at c1
      rw [show 4 * k + 2 = 4 * k + 1 + 1 from rfl, add_succ] at c2
      rw [show 4 * k + 3 = 4 * k + 2 + 1 from rfl, add_succ] at c3
      have hfree := b2.free k
      have hcell := b2.cell k _ (row32_val _ k (by rw [(wTo_w HV.out.byte k).1]; omega))
      have B0 := Lib.hid b0
      have B1 := Lib.hid b1
      have B2 := Lib.hid b2
      have BB := Lib.hid bb
      clear b0 b1 b2 bb c
      go_upto_region 5 with (fail)
      go_region
      go_wp2_with fail
      refine ⟨⟨k + 1, by omega, by go_num, (B0.out.other _ _ (by simp <;> omega)).drew, (B1.out.other _ _ (by simp <;> omega)).drew, ?_, (BB.out.setCell (by simp; omega) _).drew⟩, by simp [intOf]; omega⟩
      rw [be4_bits _ _ _ _ g0 g1 g2 g3]
      have := (B2.out.set k (.int .u32 ((be4 l (4 * k) : Nat) : Int))).drew
      rw [row32_set] at this
      unfold wTo
      rw [if_pos hlt]
      exact this
    · obtain rfl : k = 16 := by omega
      go_wp2_with fail
      go_loopw [7] (fun i wr => ∃ j : Nat, j ≤ 48 ∧ i = .int .i64 ((j : Int) + 16) ∧ Blk wr w.heap.size 54 (row32 h) ∧ Blk wr (w.heap.size + 1) 54 (row32 (List.replicate 8 0)) ∧ Blk wr (w.heap.size + 1 + 1) 63 (row32 (wTo l (j + 16))) ∧ Below w.heap.size w wr) (fun i _ => 64 - (intOf i).toNat)
      case atStart => exact ⟨0, Nat.zero_le _, rfl, b0, b1, b2, bb⟩
      case round =>
        clear b0 b1 b2 bb
        obtain ⟨j, hj, rfl, b0, b1, b2, bb⟩ := hrel
        by_cases hjt : j < 48
        · have hw := wTo_w HV.out.byte (j + 16)
          obtain ⟨ws, hws⟩ : ∃ ws, ws = wTo l (j + 16) := ⟨_, rfl⟩
          rw [← hws] at hw b2
          have c2 := b2.cell (j + 14) _ (row32_val _ _ (by rw [hw.1]; omega))
          have c15 := b2.cell (j + 1) _ (row32_val _ _ (by rw [hw.1]; omega))
          have c7 := b2.cell (j + 9) _ (row32_val _ _ (by rw [hw.1]; omega))
          have c16 := b2.cell j _ (row32_val _ _ (by rw [hw.1]; omega))
          have cj := b2.cell (j + 16) _ (row32_val _ _ (by rw [hw.1]; omega))
          have hfree := b2.free (j + 16)
          have g2 := hw.2 (j + 14)
          have g15 := hw.2 (j + 1)
          have g7 := hw.2 (j + 9)
          have g16 := hw.2 j
          have B0 := Lib.hid b0
          have B1 := Lib.hid b1
          have B2 := Lib.hid b2
          have BB := Lib.hid bb
          have HW := Lib.hid hw
          have HWS := Lib.hid hws
          clear b0 b1 b2 bb hw hws
          go_upto_region 9 with (fail)
          go_big_quiet ((go_at_call 31; refine quiet_any (rr_c _ _ ?_ ?_ ?_ _) ?_ <;> first | omega | exact ⟨_, rfl⟩))
          rw [s1_bits _ (by assumption)]
          revert nq
          intro n1
          go_upto_region 10 with (fail)
          go_big_quiet ((go_at_call 31; refine quiet_any (rr_c _ _ ?_ ?_ ?_ _) ?_ <;> first | omega | exact ⟨_, rfl⟩))
          rw [s0_bits _ (by assumption)]
          go_upto_region 11 with (fail)
          have n0 : Blk ((wr.drewN n1).drewN nq) w.heap.size 54 (row32 h) := B0.out
          have n1' : Blk ((wr.drewN n1).drewN nq) (w.heap.size + 1) 54 (row32 (List.replicate 8 0)) := B1.out
          have n2 : Blk ((wr.drewN n1).drewN nq) (w.heap.size + 1 + 1) 63 (row32 ws) := B2.out
          have nb : Below w.heap.size w ((wr.drewN n1).drewN nq) := below_drewN (below_drewN BB.out n1) nq
          generalize (wr.drewN n1).drewN nq = w2 at *
          clear c2 c15 c7 c16 cj hfree B0 B1 B2 BB
          have c7 := n2.cell (j + 9) _ (row32_val _ _ (by rw [HW.out.1]; omega))
          have c16 := n2.cell j _ (row32_val _ _ (by rw [HW.out.1]; omega))
          have cj := n2.cell (j + 16) _ (row32_val _ _ (by rw [HW.out.1]; omega))
          have hfree := n2.free (j + 16)
          have N0 := Lib.hid n0
          have N1 := Lib.hid n1'
          have N2 := Lib.hid n2
          have NB := Lib.hid nb
          clear n0 n1' n2 nb
          go_region
          go_wp2_with fail
          have hval : ((((s1 (gb ws (j + 14)) : Nat) : Int) + ((gb ws (j + 9) : Nat) : Int) + ((s0 (gb ws (j + 1)) : Nat) : Int) + ((gb ws j : Nat) : Int)) % 4294967296) = ((wn ws (j + 16) : Nat) : Int) := by
            unfold wn; simp
          rw [hval]
          refine ⟨⟨j + 1, by omega, by congr 1 <;> omega, (N0.out.other _ _ (by simp <;> omega)).drew, (N1.out.other _ _ (by simp <;> omega)).drew, ?_, (NB.out.setCell (by simp; omega) _).drew⟩, by simp [intOf]; omega⟩
          have := (N2.out.set (j + 16) (.int .u32 ((wn ws (j + 16) : Nat) : Int))).drew
          rw [row32_set, HWS.out] at this
          rw [show j + 1 + 16 = (j + 16) + 1 by omega]
          unfold wTo
          rw [if_neg (by omega)]
          rw [HWS.out]
          exact this
        · obtain rfl : j = 48 := by omega
          have hx0 : w.heap.size + 1 + 1 < wr.heap.size := b2.lt
          have h64 : (row32 h).length = 8 := by rw [row32_len]; exact HH.out.1
          have hw := wTo_w HV.out.byte 64
          obtain ⟨ws, hws⟩ : ∃ ws, ws = wTo l 64 := ⟨_, rfl⟩
          have hws' : ws = wTo l (48 + 16) := hws
          rw [← hws'] at b2
          rw [← hws] at hw
          have B0 := Lib.hid b0
          have B1 := Lib.hid b1
          have B2 := Lib.hid b2
          have BB := Lib.hid bb
          have HW := Lib.hid hw
          have HWS := Lib.hid hws
          have H8 := Lib.hid h64
          clear b0 b1 b2 bb hw hws hws' h64
          go_wp2_with (first | (refine wpList_load_mid rfl 54 (.tmp 2) rfl w.heap.size 0 rfl (row32 h) _ B0.out.range Tryd.underlying54 rfl (by rw [H8.out]; exact infoW8) ?_) | (refine wpList_store_mid rfl 54 (.tmp 10) (.tmp 113) rfl wr.heap.size 0 (row32 h).toArray rfl rfl ((Blk.new wr 54 (row32 (List.replicate 8 0)) _ rfl).there _ (by rw [List.size_toArray, H8.out]; rfl)) (by rw [List.size_toArray, H8.out]; exact infoW8) (row32_one _) ?_))
          have nx := (Blk.new wr 54 (row32 (List.replicate 8 0)) _ rfl).whole (row32 h) (by rw [H8.out]; rfl)
          have n0 := Blk.others wr.heap.size (by omega) (row32 h) 0 _ (B0.out.alloc (.cells (row32 (List.replicate 8 0)).toArray 54))
          have n1 := Blk.others wr.heap.size (by omega) (row32 h) 0 _ (B1.out.alloc (.cells (row32 (List.replicate 8 0)).toArray 54))
          have n2 := Blk.others wr.heap.size (by omega) (row32 h) 0 _ (B2.out.alloc (.cells (row32 (List.replicate 8 0)).toArray 54))
          have nb := below_setCells wr.heap.size (by omega) (row32 h) 0 _ (BB.out.alloc (by omega) (.cells (row32 (List.replicate 8 0)).toArray 54))
          clear B0 B1 B2 BB
          obtain ⟨xb, hxb⟩ : ∃ xb, xb = wr.heap.size := ⟨_, rfl⟩
          rw [← hxb] at n0 n1 n2 nx nb hx0 ⊢
          clear hxb
          go_loopw [11] (fun i wq => ∃ t : Nat, t ≤ 64 ∧ i = .int .i64 t ∧ Blk wq w.heap.size 54 (row32 h) ∧ Blk wq (w.heap.size + 1) 54 (row32 (List.replicate 8 0)) ∧ Blk wq (w.heap.size + 1 + 1) 63 (row32 ws) ∧ Blk wq xb 54 (row32 (xTo h ws t)) ∧ Below w.heap.size w wq) (fun i _ => 64 - (intOf i).toNat)
          case atStart => exact ⟨0, Nat.zero_le _, rfl, n0, n1, n2, nx, nb⟩
          case round =>
            clear n0 n1 n2 nx nb
            obtain ⟨t, ht, rfl, b0, b1, b2, bx, bb⟩ := hrel
            have hxw := xTo_w (w := ws) HH.out t
            obtain ⟨x, hx⟩ : ∃ x, x = xTo h ws t := ⟨_, rfl⟩
            rw [← hx] at bx hxw
            by_cases htt : t < 64
            · have hk := HT.out.below bb t htt
              have hkw := kk_w.2 t
              have cw := b2.cell t _ (row32_val _ _ (by rw [HW.out.1]; omega))
              have hww := HW.out.2 t
              have x0 := bx.cell 0 _ (row32_val _ _ (by rw [hxw.1]; omega))
              have x1 := bx.cell 1 _ (row32_val _ _ (by rw [hxw.1]; omega))
              have x2 := bx.cell 2 _ (row32_val _ _ (by rw [hxw.1]; omega))
              have x3 := bx.cell 3 _ (row32_val _ _ (by rw [hxw.1]; omega))
              have x4 := bx.cell 4 _ (row32_val _ _ (by rw [hxw.1]; omega))
              have x5 := bx.cell 5 _ (row32_val _ _ (by rw [hxw.1]; omega))
              have x6 := bx.cell 6 _ (row32_val _ _ (by rw [hxw.1]; omega))
              have x7 := bx.cell 7 _ (row32_val _ _ (by rw [hxw.1]; omega))
              have y0 := hxw.2 0
              have y1 := hxw.2 1
              have y2 := hxw.2 2
              have y3 := hxw.2 3
              have y4 := hxw.2 4
              have y5 := hxw.2 5
              have y6 := hxw.2 6
              have y7 := hxw.2 7
              have B0 := Lib.hid b0
              have B1 := Lib.hid b1
              have B2 := Lib.hid b2
              have BX := Lib.hid bx
              have BB := Lib.hid bb
              have HX := Lib.hid hx
              have HXW := Lib.hid hxw
              clear b0 b1 b2 bx bb hx hxw
              go_upto_region 16 with (fail)
              go_quiet (fail)
              revert nq
              intro n1
              go_upto_region 17 with (fail)
              go_big_quiet ((go_at_call 31; refine quiet_any (rr_c _ _ ?_ ?_ ?_ _) ?_ <;> first | omega | exact ⟨_, rfl⟩))
              revert nq
              intro n2
              rw [S1_bits _ (by omega), ch_bits _ _ _ (by omega) (by omega) (by omega)]
              have hT1 := t1_val x (gb kk t) (gb ws t)
              have hT2 := t2_val x
              have hT3 := t1_w x (gb kk t) (gb ws t)
              have HR := Lib.hid (show row32 (xTo h ws (t + 1)) = row32 (rnd x (gb kk t) (gb ws t)) by rw [HX.out]; rfl)
              have HL8 := Lib.hid (show (row32 (rnd x (gb kk t) (gb ws t))).length = 8 from rfl)
              have HRA := Lib.hid (fun T1 T2 => rnd_agg x (gb kk t) (gb ws t) T1 T2)
              obtain ⟨T1, hT⟩ : ∃ T1, T1 = t1 x (gb kk t) (gb ws t) := ⟨_, rfl⟩
              obtain ⟨T2, hU⟩ : ∃ T2, T2 = t2 x := ⟨_, rfl⟩
              obtain ⟨X, hX⟩ : ∃ X, X = rnd x (gb kk t) (gb ws t) := ⟨_, rfl⟩
              rw [← hT] at hT1 hT3
              rw [← hU] at hT2
              rw [← hX] at HR HL8 HRA
              have HTT := Lib.hid hT
              have HUU := Lib.hid hU
              have HT2 := Lib.hid hT2
              rw [hT1]
              clear hT hU hT1 hT2 hX
              go_upto_region 19 with (first | (go_at_call 31; refine Calls.mono (rr_c _ _ (by omega) (by omega) (by omega) _) ?_; rintro e w' ⟨rfl, rfl⟩))
              rw [S0_bits _ (by omega), mj_bits _ _ _ (by omega) (by omega) (by omega), HT2.out]
              have n0 : Blk (wr.drewN (n1 + n2)) w.heap.size 54 (row32 h) := B0.out
              have n1' : Blk (wr.drewN (n1 + n2)) (w.heap.size + 1) 54 (row32 (List.replicate 8 0)) := B1.out
              have n2' : Blk (wr.drewN (n1 + n2)) (w.heap.size + 1 + 1) 63 (row32 ws) := B2.out
              have nx : Blk (wr.drewN (n1 + n2)) xb 54 (row32 x) := BX.out
              have nb : Below w.heap.size w (wr.drewN (n1 + n2)) := below_drewN BB.out (n1 + n2)
              generalize wr.drewN (n1 + n2) = w2 at *
              clear hk hkw cw hww x0 x1 x2 x3 x4 x5 x6 x7 B0 B1 B2 BX BB
              have x3 := nx.cell 3 _ (row32_val _ _ (by rw [HXW.out.1]; omega))
              have h8 : (row32 x).length = 8 := by rw [row32_len]; exact HXW.out.1
              have N0 := Lib.hid n0
              have N1 := Lib.hid n1'
              have N2 := Lib.hid n2'
              have NX := Lib.hid nx
              have NB := Lib.hid nb
              have H8x := Lib.hid h8
              clear n0 n1' n2' nx nb h8
              go_wp2_with (first | (refine wpList_store_mid rfl 54 (.tmp 10) (.tmp 191) rfl xb 0 (row32 X).toArray rfl (HRA.out T1 T2 HTT.out HUU.out) (NX.out.there _ (by rw [H8x.out, List.size_toArray, HL8.out])) (by rw [List.size_toArray, HL8.out]; exact infoW8) (row32_one _) ?_))
              refine ⟨⟨t + 1, by omega, by go_num, Blk.others xb (by omega) _ 0 _ N0.out, Blk.others xb (by omega) _ 0 _ N1.out, Blk.others xb (by omega) _ 0 _ N2.out, ?_, below_setCells xb (by omega) _ 0 _ NB.out⟩, by simp [intOf]; omega⟩
              rw [HR.out]
              exact NX.out.whole (row32 X) (by rw [HL8.out, H8x.out])
            · obtain rfl : t = 64 := by omega
              rw [hx] at bx
              have hxw' := xTo_w (w := ws) HH.out 64
              clear hx hxw x
              obtain ⟨x, hx⟩ : ∃ x, x = xTo h ws 64 := ⟨_, rfl⟩
              rw [← hx] at bx hxw'
              have HX := Lib.hid hx
              have HXW := Lib.hid hxw'
              clear hx hxw'
              go_wp2_with fail
              go_loopw [20] (fun i wq => ∃ t : Nat, t ≤ 8 ∧ i = .int .i64 t ∧ Blk wq w.heap.size 54 (row32 (aTo h x t)) ∧ Blk wq (w.heap.size + 1) 54 (row32 (List.replicate 8 0)) ∧ Blk wq xb 54 (row32 x) ∧ Below w.heap.size w wq) (fun i _ => 8 - (intOf i).toNat)
              case atStart => exact ⟨0, Nat.zero_le _, rfl, b0, b1, bx, bb⟩
              case round =>
                clear b0 b1 b2 bx bb
                obtain ⟨t, ht, rfl, b0, b1, bx, bb⟩ := hrel
                have haw := aTo_w (x := x) HH.out t
                by_cases htt : t < 8
                · obtain ⟨y, hy⟩ : ∃ y, y = aTo h x t := ⟨_, rfl⟩
                  rw [← hy] at b0 haw
                  have c0 := b0.cell t _ (row32_val _ _ (by rw [haw.1]; omega))
                  have cx := bx.cell t _ (row32_val _ _ (by rw [HXW.out.1]; omega))
                  have hfree := b0.free t
                  have g0 := haw.2 t
                  have gx := HXW.out.2 t
                  have B0 := Lib.hid b0
                  have B1 := Lib.hid b1
                  have BX := Lib.hid bx
                  have BB := Lib.hid bb
                  have HY := Lib.hid hy
                  clear b0 b1 bx bb hy haw
                  go_upto_region 23 with (fail)
                  go_region
                  go_wp2_with fail
                  have hval : (((gb y t : Nat) : Int) + ((gb x t : Nat) : Int)) % 4294967296 = (((gb y t + gb x t) % 4294967296 : Nat) : Int) := by simp
                  rw [hval]
                  refine ⟨⟨t + 1, by omega, by go_num, ?_, (B1.out.other _ _ (by simp <;> omega)).drew, (BX.out.other _ _ (by simp <;> omega)).drew, (BB.out.setCell (by simp) _).drew⟩, by simp [intOf]; omega⟩
                  have := (B0.out.set t (.int .u32 (((gb y t + gb x t) % 4294967296 : Nat) : Int))).drew
                  rw [row32_set, HY.out] at this
                  unfold aTo
                  rw [HY.out]
                  exact this
                · obtain rfl : t = 8 := by omega
                  have hb : aTo h x 8 = blk h l := by unfold blk; rw [HX.out, HWS.out]
                  rw [hb] at b0 haw
                  have h8 : (row32 (blk h l)).length = 8 := by rw [row32_len]; exact haw.1
                  obtain ⟨y, hy⟩ : ∃ y, y = blk h l := ⟨_, rfl⟩
                  rw [← hy] at b0 haw h8
                  have HYB := Lib.hid hy
                  have B0 := Lib.hid b0
                  have B1 := Lib.hid b1
                  have BB := Lib.hid bb
                  have H8y := Lib.hid h8
                  clear b0 b1 bx bb hy haw h8 hb
                  go_wp2_with (first | (refine wpList_load_mid rfl 54 (.tmp 2) rfl w.heap.size 0 rfl (row32 y) _ B0.out.range Tryd.underlying54 rfl (by rw [H8y.out]; exact infoW8) ?_) | (refine wpList_store_mid rfl 54 (.tmp 4) (.tmp 204) rfl (w.heap.size + 1) 0 (row32 y).toArray rfl rfl (B1.out.there _ (by rw [List.size_toArray, H8y.out]; rfl)) (by rw [List.size_toArray, H8y.out]; exact infoW8) (row32_one _) ?_))
                  have fin := B1.out.whole (row32 y) (by rw [H8y.out]; rfl)
                  exact bodyPost_ret (v := .agg (row32 y).toArray) (results_mid rfl _ _ (w.heap.size + 1) (row32 y) _ rfl fin.range Tryd.underlying54 rfl (by rw [H8y.out]; exact infoW8)) rfl ⟨by rw [HYB.out], below_setCells (w.heap.size + 1) (by omega) _ 0 _ BB.out⟩
end Go.Proofs.YtllhljhbnopafaaDoor
