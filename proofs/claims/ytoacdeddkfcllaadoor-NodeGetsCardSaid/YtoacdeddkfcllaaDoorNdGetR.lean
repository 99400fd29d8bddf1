/- A node that is read out of bytes by the document's answer: contract. Work ahead for stage 15. Own work. -/
import Derived.Test.YtoacdeddkfcllaaDoorNdGetM
import Derived.Test.YtoacdeddkfcllaaDoorShaB
import Derived.Test.YtoacdeddkfcllaaDoorReg
import Derived.Test.YtoacdeddkfcllaaDoorEqX
import Derived.BigRegion
namespace Go.Proofs.YtoacdeddkfcllaaDoor
open Go.ChangeShapes Go.WideShapes Go.ChangeAt Go.RowKit
open RT
theorem infoNd : (Tryd.prog.info? 28).map (·.size) = some 264 := by kernel_rfl
theorem zeroNd (w : World) : (zeroValue 28).run Tryd.prog w = .ok (.agg (pcs ND.zn).toArray) w := by kernel_rfl
theorem builtNd : Tryd.prog.built 28 [] = some (pcs ND.zn).toArray := by kernel_rfl
theorem builtRfN : Tryd.prog.built 26 [] = some (pc ND.zp).toArray := by kernel_rfl
set_option maxRecDepth 100000 in
set_option maxHeartbeats 4000000 in
theorem nrget_any (b : List Nat) (v : Value) (w : World) (hv : Rd w v b) : Calls Tryd.prog 14 #[v] w fun e w' => e = .returned (.tuple #[.agg (pcs (ND.got b)).toArray, .int .i64 (ND.gerr b)]) ∧ Below w.heap.size w w' := by
  obtain ⟨va, vc, rfl, hvc⟩ := hv.shape
  obtain ⟨bl, hbl⟩ : ∃ n, n = b.length := ⟨_, rfl⟩
  obtain ⟨G, hG⟩ : ∃ G : Ending → World → Prop, G = fun e w' => e = .returned (.tuple #[.agg (pcs (ND.got b)).toArray, .int .i64 (ND.gerr b)]) ∧ Below w.heap.size w w' := ⟨_, rfl⟩
  obtain ⟨Z0, hZ0⟩ : ∃ L, L = pcs ND.zn := ⟨_, rfl⟩
  have hz : ∀ w, (zeroValue 28).run Tryd.prog w = .ok (.agg Z0.toArray) w := by rw [hZ0]; exact zeroNd
  have hbz : Tryd.prog.built 28 [] = some Z0.toArray := by rw [hZ0]; exact builtNd
  have Z264 := Lib.hid (show Z0.length = 264 by rw [hZ0]; exact ND.pcs_len8 ND.zn_ok)
  have Z1 := Lib.hid (show Z0.toArray.all (·.oneCell') = true by rw [hZ0, List.all_toArray, List.all_eq_true]; exact pcs_one' _)
  have HNO := Lib.hid (fun (h : ND.okN b = false) W (hW : Below w.heap.size w W) => (show G (.returned (.tuple #[.agg Z0.toArray, .int .i64 4])) W by
    rw [hG, hZ0]
    show _ ∧ _
    rw [(ND.got_no h).1, (ND.got_no h).2]
    exact ⟨rfl, hW⟩))
  have HYES := Lib.hid (fun (h : ND.okN b = true) W (hW : Below w.heap.size w W) => (show G (.returned (.tuple #[.agg (pcs (ND.reads b)).toArray, .int .i64 0])) W by
    rw [hG]
    show _ ∧ _
    rw [(ND.got_yes h).1, (ND.got_yes h).2]
    exact ⟨rfl, hW⟩))
  have HZ0 := Lib.hid hZ0
  have HV := Lib.hid hv
  have HBL := Lib.hid hbl
  rw [← hG]
  rw [← hbl] at HV hvc ⊢
  obtain ⟨w1, hw1⟩ : ∃ x, x = (w.alloc (.cells Z0.toArray 28)).alloc (.cells Z0.toArray 28) := ⟨_, rfl⟩
  have W1 := Lib.hid (show Below w.heap.size w w1 by rw [hw1]; exact ((Below.refl w.heap.size w).alloc (Nat.le_refl _) _).alloc (by simp) _)
  have R1 := Lib.hid (show Blk w1 w.heap.size 28 Z0 by rw [hw1]; exact (Blk.new w 28 Z0 _ rfl).alloc _)
  have X1 := Lib.hid (show Blk w1 (w.heap.size + 1) 28 Z0 by rw [hw1]; exact Blk.new _ 28 Z0 _ (by simp))
  have HRET := Lib.hid (fun (fn : Func) (hf : fn.results = #[.cell 2 28, .tmp 3]) (tmps : Array Value) (L : List Value) (hl : L.length = 264) W (hW : Blk W w.heap.size 28 L) (h4 : tmps.getD 2 undef = .pointer (some ⟨w.heap.size, 0, none⟩)) => (results_mid2 (P := Tryd.prog) hf tmps W w.heap.size L _ h4 hW.range Tryd.underlying28 rfl (by rw [hl]; exact infoNd)))
  clear hv hbl hG hZ0
  by_cases hlen : bl = 288
  · subst hlen
    have H288 := Lib.hid (show Bytes 288 b from ⟨HBL.out.symm, HV.out.byte⟩)
    obtain ⟨ad, rfl, _⟩ := HV.out.at_ 0 (by rw [← HBL.out]; decide)
    have hlz : ((288 : Nat) : Int) = 288 := rfl
    have X1' := Lib.hid (show Blk w1 (w.heap.size + 1) 28 (pcs (ND.rws b 0)) by show Blk w1 _ _ (pcs (ND.rows b 0 ND.zp)); rw [ND.rows_zero, ← HZ0.out]; exact X1.out)
    go_enter Tryd.func14, Tryd.ntmps14
    go_upto_region 2 with fail
    rw [← hw1]
    clear hw1
    go_wp2_with fail
    go_loopw [5] (fun i wr => ∃ k : Nat, k ≤ 8 ∧ i = .int .i64 (k : Int) ∧ (∀ j, j < k → ND.mayP (ND.pAt b j) = true) ∧ Blk wr w.heap.size 28 Z0 ∧ Blk wr (w.heap.size + 1) 28 (pcs (ND.rws b k)) ∧ Below w.heap.size w wr) (fun i _ => 8 - (intOf i).toNat)
    case atStart => exact ⟨0, by decide, rfl, fun j h => absurd h (Nat.not_lt_zero j), R1.out, X1'.out, W1.out⟩
    case round =>
      clear X1 X1' R1 W1
      obtain ⟨k, hk, rfl, hm, hr, hx, hw⟩ := hrel
      have HM := Lib.hid hm
      have R2 := Lib.hid hr
      have X2 := Lib.hid hx
      have W2 := Lib.hid hw
      clear hm hr hx hw
      by_cases hlt : k < 8
      · have hklt : (k : Int) < 8 := by omega
        have hk0 : (0 : Int) ≤ (k : Int) := by omega
        have hkt : ((k : Int)).toNat = k := Int.toNat_natCast k
        have a1 : IntKind.i64.wrap (36 * (k : Int)) = ((k * 36 : Nat) : Int) := by rw [IntKind.wrap_i64]; omega
        have a2 : IntKind.i64.wrap (((k * 36 : Nat) : Int) + 36) = ((k * 36 + 36 : Nat) : Int) := by rw [IntKind.wrap_i64]; omega
        have hrw : ND.rws b k = ND.rows b k ND.zp := if_pos hlt
        rw [hrw] at X2
        have RS := Lib.hid (show Rd w (.slice (some (ad.add (k * 36))) 36 (vc - k * 36)) ((b.drop (k * 36)).take 36) from by
          have q := HV.out.drop (k * 36) (by rw [← HBL.out]; omega)
          rw [if_neg (show ¬ vc = k * 36 by have := hvc; omega)] at q
          have q2 := q.take 36 (by rw [List.length_drop, ← HBL.out]; omega)
          exact q2)
        have g : ∀ j, j < 36 → gb ((b.drop (k * 36)).take 36) j = gb b (k * 36 + j) := fun j hj => by rw [gb_take _ _ _ hj, gb_drop]
        obtain ⟨A, hA⟩ : ∃ A, A = ad.add (k * 36) := ⟨_, rfl⟩
        have c := RS.out.below W2.out
        have l36 : ((b.drop (k * 36)).take 36).length = 36 := by rw [List.length_take, List.length_drop, ← HBL.out]; omega
        obtain ⟨_, e0, c0⟩ := c.at_ 0 (by rw [l36]; decide)
        obtain ⟨_, e1, c1⟩ := c.at_ 1 (by rw [l36]; decide)
        obtain ⟨_, e2, c2⟩ := c.at_ 2 (by rw [l36]; decide)
        obtain ⟨_, e3, c3⟩ := c.at_ 3 (by rw [l36]; decide)
        cases e0; cases e1; cases e2; cases e3
        rw [g 0 (by decide), Nat.add_zero] at c0
        rw [g 1 (by decide)] at c1
        rw [g 2 (by decide)] at c2
        rw [g 3 (by decide)] at c3
        rw [← hA] at c0 c1 c2 c3
        rw [show A.add 0 = A from rfl] at c0
        rw [show A.add 1 = ⟨A.block, A.off + 1, none⟩ from add_succ A 0] at c1
        rw [show A.add 2 = ⟨A.block, A.off + 2, none⟩ from add_succ A 1] at c2
        rw [show A.add 3 = ⟨A.block, A.off + 3, none⟩ from add_succ A 2] at c3
        have g0 := H288.out.2 (k * 36)
        have g1 := H288.out.2 (k * 36 + 1)
        have g2 := H288.out.2 (k * 36 + 2)
        have g3 := H288.out.2 (k * 36 + 3)
        have hb4 := ND.at_bits H288.out hlt
        generalize gb b (k * 36) = y0 at c0 g0 hb4
        generalize gb b (k * 36 + 1) = y1 at c1 g1 hb4
        generalize gb b (k * 36 + 2) = y2 at c2 g2 hb4
        generalize gb b (k * 36 + 3) = y3 at c3 g3 hb4
        have HB4 := Lib.hid hb4
        have hfree := X2.out.free (k * 33)
        have hok := ND.rows_ok H288.out hlt ND.zp_ok
        have hcell := X2.out.cell (k * 33) _ (ND.pcs_at (k := k) hok (by rw [ND.rows_len hlt]; exact hlt))
        have h36 : k * 36 + 36 - k * 36 = 36 := by omega
        go_upto_region 8 with fail
        rw [h36]
        rw [← hA]
        rw [← hA] at RS
        clear g l36 hb4 c hrw a1 a2 h36 hA
        go_region
        rw [be4_bits _ _ _ _ g0 g1 g2 g3, HB4.out]
        obtain ⟨n, hn⟩ : ∃ n, n = (ND.pAt b k).at_ := ⟨_, rfl⟩
        obtain ⟨S, hS⟩ : ∃ S, S = (b.drop (4 + k * 36)).take 32 := ⟨_, rfl⟩
        have BS := Lib.hid (show Bytes 32 S by rw [hS]; exact ND.cutN H288.out _ _ (by omega))
        have hnb : n < 4294967296 := by rw [hn]; exact (ND.pAt_ok H288.out hlt).1
        have HN := Lib.hid hn
        have HS := Lib.hid hS
        have HPF := Lib.hid (show ND.part n S 32 = ND.pAt b k by rw [hn, hS]; exact ND.part_full b k (by rw [← hS]; exact BS.out.1))
        have HGS := Lib.hid (fun m (hm : m < 32) => (show gb S m = gb b (k * 36 + (m + 4)) by rw [hS, gb_take _ _ _ hm, gb_drop]; congr 1; omega))
        rw [← hn]
        obtain ⟨w3, hw3⟩ : ∃ x, x = (wr.setCell ⟨w.heap.size + 1, k * 33, none⟩ (.int .u32 (n : Int))).drew := ⟨_, rfl⟩
        have R3 := Lib.hid (show Blk w3 w.heap.size 28 Z0 by rw [hw3]; exact (R2.out.other ⟨w.heap.size + 1, k * 33, none⟩ (.int .u32 (n : Int)) (by simp)).drew)
        have X3 := Lib.hid (show Blk w3 (w.heap.size + 1) 28 (pcs (ND.rows b k (ND.part n S 0))) by
          rw [hw3]
          have q := (X2.out.set (k * 33) (.int .u32 (n : Int))).drew
          have e := ND.rows_set H288.out hlt ND.zp_ok (j := 0) (by decide) (.int .u32 (n : Int)) (q := ND.part n S 0) rfl
          rw [Nat.add_zero] at e
          rw [e] at q
          exact q)
        have W3 := Lib.hid (show Below w.heap.size w w3 by rw [hw3]; exact (W2.out.setCell (p := ⟨w.heap.size + 1, k * 33, none⟩) (by simp) (.int .u32 (n : Int))).drew)
        rw [← hw3]
        clear hw3 hn hS c0 c1 c2 c3 hfree hcell hok HB4 X2 R2 W2
        go_wp2_with fail
        go_loopw [7] (fun j wq => ∃ m : Nat, m ≤ 32 ∧ j = .int .i64 (m : Int) ∧ Blk wq w.heap.size 28 Z0 ∧ Blk wq (w.heap.size + 1) 28 (pcs (ND.rows b k (ND.part n S m))) ∧ Below w.heap.size w wq) (fun j _ => 32 - (intOf j).toNat)
        case atStart => exact ⟨0, by decide, rfl, R3.out, X3.out, W3.out⟩
        case round =>
          clear X3 R3 W3
          obtain ⟨m, hm, rfl, hr, hx, hw⟩ := hrel
          have R4 := Lib.hid hr
          have X4 := Lib.hid hx
          have W4 := Lib.hid hw
          clear hr hx hw
          by_cases hmt : m < 32
          · have hmlt : (m : Int) < 32 := by omega
            have hm0 : (0 : Int) ≤ (m : Int) := by omega
            have hmn : ((m : Int)).toNat = m := Int.toNat_natCast m
            have a4 : IntKind.i64.wrap (4 + (m : Int)) = ((m + 4 : Nat) : Int) := by rw [IntKind.wrap_i64]; omega
            have l36 : ((b.drop (k * 36)).take 36).length = 36 := by rw [List.length_take, List.length_drop, ← HBL.out]; omega
            obtain ⟨_, e4, c4⟩ := (RS.out.below W4.out).at_ (m + 4) (by rw [l36]; omega)
            cases e4
            rw [gb_take _ _ _ (by omega), gb_drop, ← HGS.out m hmt, show A.add (m + 4) = ⟨A.block, A.off + (m + 4), none⟩ from add_succ A (m + 3)] at c4
            have hok := ND.rows_ok H288.out hlt (ND.part_ok hnb BS.out (j := m) (by omega))
            have hfree := X4.out.free (k * 33 + 1 + m)
            obtain ⟨y, hy⟩ : ∃ y, (pcs (ND.rows b k (ND.part n S m)))[k * 33 + 1 + m]? = some y := ⟨_, List.getElem?_eq_getElem (by rw [pcs_len hok, ND.rows_len hlt]; omega)⟩
            have hcell := X4.out.cell _ _ hy
            clear l36 hok hy
            go_upto_region 12 with fail
            go_region
            obtain ⟨w4, hw4⟩ : ∃ x, x = (wr.setCell ⟨w.heap.size + 1, k * 33 + 1 + m, none⟩ (.int .u8 (gb S m : Int))).drew := ⟨_, rfl⟩
            have R5 := Lib.hid (show Blk w4 w.heap.size 28 Z0 by rw [hw4]; exact (R4.out.other ⟨w.heap.size + 1, k * 33 + 1 + m, none⟩ (.int .u8 (gb S m : Int)) (by simp)).drew)
            have X5 := Lib.hid (show Blk w4 (w.heap.size + 1) 28 (pcs (ND.rows b k (ND.part n S (m + 1)))) by
              rw [hw4]
              have q := (X4.out.set (k * 33 + 1 + m) (.int .u8 (gb S m : Int))).drew
              have e := ND.rows_set H288.out hlt (ND.part_ok hnb BS.out (j := m) (by omega)) (j := 1 + m) (by omega) (.int .u8 (gb S m : Int)) (ND.part_set BS.out.1 hmt)
              rw [← Nat.add_assoc] at e
              rw [e] at q
              exact q)
            have W5 := Lib.hid (show Below w.heap.size w w4 by rw [hw4]; exact (W4.out.setCell (p := ⟨w.heap.size + 1, k * 33 + 1 + m, none⟩) (by simp) (.int .u8 (gb S m : Int))).drew)
            rw [← hw4]
            clear hw4 hfree hcell c4 a4 R4 X4 W4
            go_wp2_with fail
            exact ⟨⟨m + 1, by omega, by go_num, R5.out, X5.out, W5.out⟩, by simp [intOf]; omega⟩
          · obtain rfl : m = 32 := by omega
            rw [HPF.out] at X4
            have hpk := ND.pAt_ok H288.out hlt
            have HPK := Lib.hid hpk
            have ck := X4.out.cell (k * 33) _ (by rw [← Nat.add_zero (k * 33), ND.rows_cell H288.out hlt hpk (by decide)]; rfl)
            rw [← HN.out] at ck
            have RG := Lib.hid (range_part X4.out (k * 33) (pc (ND.pAt b k)) fun j u hu => by
              have hj : j < 33 := by
                rw [← pc_len hpk]
                rcases Nat.lt_or_ge j (pc (ND.pAt b k)).length with q | q
                · exact q
                · rw [List.getElem?_eq_none q] at hu; cases hu
              rw [ND.rows_cell H288.out hlt hpk hj]; exact hu)
            rw [ND.rws_next b hlt] at X4
            have hbr := builtRfN
            clear hpk
            go_upto_region 13 with fail
            by_cases hn0 : n = 0
            · subst hn0
              obtain ⟨E, hE⟩ : ∃ E, E = pgEq (ND.pAt b k) ND.zp := ⟨_, rfl⟩
              have HC := Lib.hid (fun W => run_neq_ref HPK.out ND.zp_ok W)
              rw [← hE] at HC
              cases E with
              | true =>
                have hmk : ND.mayP (ND.pAt b k) = true := ND.mayP_iff.2 (.inr (pgEq_iff.1 hE.symm))
                clear hE
                go_wp2_with ((fail_if_success (with_reducible show bodyPost _ _ _ _ _ _)); first
                  | ((with_reducible show wpList _ _ _ (Oper.mk _ (.load _ (.tmp 69)) _ _ _ _ :: _) _ _); refine wpList_loadW 26 (.tmp 69) rfl (w.heap.size + 1) (k * 33) rfl (pc (ND.pAt b k)) _ RG.out Tryd.underlying26 rfl (by rw [pc_len HPK.out]; exact infoRf) rfl ?_)
                  | ((with_reducible show wpList _ _ _ (Oper.mk (some 71) (.build _ _) _ _ _ _ :: _) _ _); refine wpList_wanted rfl (.agg (pc ND.zp).toArray) (ex_build rfl hbr) ?_)
                  | ((with_reducible show wpList _ _ _ (Oper.mk _ (.binOp _ _ (.tmp 70) (.tmp 71) _) _ _ _ _ :: _) _ _); refine wpList_binW (.tmp 70) (.tmp 71) .neq 26 26 rfl (.agg (pc (ND.pAt b k)).toArray) (.agg (pc ND.zp).toArray) _ rfl rfl (run_eqGuard_agg (P := Tryd.prog) (w := _) .neq 26 _ _ _ _ eqTypeRf) (HC.out _) rfl ?_))
                exact ⟨⟨k + 1, by omega, by go_num, fun j hj => by
                  rcases Nat.lt_or_ge j k with q | q
                  · exact HM.out j q
                  · obtain rfl : j = k := by omega
                    exact hmk, R4.out, X4.out, W4.out⟩, by simp [intOf]; omega⟩
              | false =>
                have hmk : ND.mayP (ND.pAt b k) = false := by
                  unfold ND.mayP
                  rw [← hE, ← HN.out]; rfl
                have HF := Lib.hid (HNO.out (ND.okN_bad hlt hmk))
                clear hE hmk HNO HYES
                go_wp2_with ((fail_if_success (with_reducible show bodyPost _ _ _ _ _ _)); first
                  | ((with_reducible show wpList _ _ _ (Oper.mk _ (.load _ (.tmp 69)) _ _ _ _ :: _) _ _); refine wpList_loadW 26 (.tmp 69) rfl (w.heap.size + 1) (k * 33) rfl (pc (ND.pAt b k)) _ RG.out Tryd.underlying26 rfl (by rw [pc_len HPK.out]; exact infoRf) rfl ?_)
                  | ((with_reducible show wpList _ _ _ (Oper.mk (some 71) (.build _ _) _ _ _ _ :: _) _ _); refine wpList_wanted rfl (.agg (pc ND.zp).toArray) (ex_build rfl hbr) ?_)
                  | ((with_reducible show wpList _ _ _ (Oper.mk _ (.binOp _ _ (.tmp 70) (.tmp 71) _) _ _ _ _ :: _) _ _); refine wpList_binW (.tmp 70) (.tmp 71) .neq 26 26 rfl (.agg (pc (ND.pAt b k)).toArray) (.agg (pc ND.zp).toArray) _ rfl rfl (run_eqGuard_agg (P := Tryd.prog) (w := _) .neq 26 _ _ _ _ eqTypeRf) (HC.out _) rfl ?_)
                  | ((with_reducible show wpList _ _ _ (Oper.mk (some 74) (.build _ _) _ _ _ _ :: _) _ _); refine wpList_wanted rfl (.agg Z0.toArray) (ex_build rfl hbz) ?_)
                  | ((with_reducible show wpList _ _ _ (Oper.mk _ (.store _ (.tmp 2) (.tmp 74)) _ _ _ _ :: _) _ _); (refine wpList_store_blk rfl 28 (.tmp 2) (.tmp 74) rfl w.heap.size 0 Z0 rfl rfl 28 Z0 R4.out (Nat.le_of_eq (by simp only [Nat.zero_add])) (by rw [Z264.out]; exact infoNd) Z1.out ?_; intro w8 b8 g8; rw [splice_all _ _ rfl] at b8; have X8 := Lib.hid b8; have W8 := Lib.hid (W4.out.grown g8 W4.out.size (fun g hg => by have := Option.some.inj hg; omega)); clear b8 g8)))
                refine bodyPost_ret (HRET.out _ rfl _ Z0 Z264.out _ X8.out rfl) rfl ?_
                exact HF.out _ W8.out
            · have hne : ((n : Int) == 0) = false := by simpa using hn0
              have hmk : ND.mayP (ND.pAt b k) = true := ND.mayP_iff.2 (.inl (by rw [← HN.out]; exact hn0))
              clear RG
              go_wp2_with fail
              exact ⟨⟨k + 1, by omega, by go_num, fun j hj => by
                rcases Nat.lt_or_ge j k with q | q
                · exact HM.out j q
                · obtain rfl : j = k := by omega
                  exact hmk, R4.out, X4.out, W4.out⟩, by simp [intOf]; omega⟩
      · obtain rfl : k = 8 := by omega
        have HF := Lib.hid (HYES.out (ND.okN_good H288.out.1 HM.out))
        have hrw : ND.rws b 8 = ND.reads b := rfl
        rw [hrw] at X2
        obtain ⟨L, hL⟩ : ∃ L, L = pcs (ND.reads b) := ⟨_, rfl⟩
        have L264 := Lib.hid (show L.length = 264 by rw [hL]; exact ND.pcs_len8 (ND.reads_ok H288.out))
        have L1 := Lib.hid (show L.toArray.all (·.oneCell') = true by rw [hL, List.all_toArray, List.all_eq_true]; exact pcs_one' _)
        rw [← hL] at X2 HF
        clear hL hrw HNO HYES
        go_wp2_with ((fail_if_success (with_reducible show bodyPost _ _ _ _ _ _)); first
          | (refine wpList_load_mid rfl 28 (.tmp 4) rfl (w.heap.size + 1) 0 rfl L _ X2.out.range Tryd.underlying28 rfl (by rw [L264.out]; exact infoNd) ?_)
          | (refine wpList_store_blk rfl 28 (.tmp 2) (.tmp 75) rfl w.heap.size 0 L rfl rfl 28 Z0 R2.out (Nat.le_of_eq (by rw [Nat.zero_add, L264.out, Z264.out])) (by rw [L264.out]; exact infoNd) L1.out ?_; intro w8 b8 g8; rw [splice_all _ _ (by rw [L264.out, Z264.out])] at b8; have X8 := Lib.hid b8; have W8 := Lib.hid (W2.out.grown g8 W2.out.size (fun g hg => by have := Option.some.inj hg; omega)); clear b8 g8))
        refine bodyPost_ret (HRET.out _ rfl _ L L264.out _ X8.out rfl) rfl ?_
        exact HF.out _ W8.out
  · have HF := Lib.hid (HNO.out (ND.okN_short (by rw [← HBL.out]; exact hlen)))
    have hne : ((bl : Int) == 288) = false := by simp; omega
    have hne2 : ¬ (bl : Int) = 288 := by omega
    clear HNO HYES
    go_enter Tryd.func14, Tryd.ntmps14
    go_upto_region 2 with fail
    rw [← hw1]
    clear hw1
    go_wp2_with ((fail_if_success (with_reducible show bodyPost _ _ _ _ _ _)); first
      | (refine wpList_load_mid rfl 28 (.tmp 4) rfl (w.heap.size + 1) 0 rfl Z0 _ X1.out.range Tryd.underlying28 rfl (by rw [Z264.out]; exact infoNd) ?_)
      | (refine wpList_store_blk rfl 28 (.tmp 2) (.tmp 11) rfl w.heap.size 0 Z0 rfl rfl 28 Z0 R1.out (Nat.le_of_eq (by simp only [Nat.zero_add])) (by rw [Z264.out]; exact infoNd) Z1.out ?_; intro w8 b8 g8; rw [splice_all _ _ rfl] at b8; have X8 := Lib.hid b8; have W8 := Lib.hid (W1.out.grown g8 W1.out.size (fun g hg => by have := Option.some.inj hg; omega)); clear b8 g8))
    refine bodyPost_ret (HRET.out _ rfl _ Z0 Z264.out _ X8.out rfl) rfl ?_
    exact HF.out _ W8.out
end Go.Proofs.YtoacdeddkfcllaaDoor
