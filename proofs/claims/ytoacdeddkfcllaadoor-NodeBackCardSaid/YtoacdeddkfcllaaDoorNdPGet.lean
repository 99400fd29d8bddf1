/- A node that the program reads out of bytes: contract. Own work. -/
import Derived.Test.YtoacdeddkfcllaaDoorNdPBase
import Derived.Test.YtoacdeddkfcllaaDoorNdGetM
import Derived.Test.YtoacdeddkfcllaaDoorRdrT
import Derived.Test.YtoacdeddkfcllaaDoorFillX
import Derived.Test.YtoacdeddkfcllaaDoorEqX
namespace Go.Proofs.YtoacdeddkfcllaaDoor
open Go.ChangeShapes Go.WideShapes Go.ChangeAt Go.RowKit
open RT
theorem pcs_splice {b : List Nat} (h : Bytes 288 b) {i : Nat} (hi : i < 8) {p : Pg} (hp : Pok p) {q : Pg} (hq : Pok q) : splice (pcs (ND.rows b i p)) (i * 33) (pc q) = pcs (ND.rows b i q) := by
  have e1 := ND.firsts_len h (i := i) (by omega)
  unfold splice ND.rows
  rw [pcs_app, pcs_app, ND.pcs_cons, ND.pcs_cons, ← e1, List.take_left' rfl, pc_len hq]
  congr 2
  rw [← List.drop_drop, List.drop_left' rfl, List.drop_left' (pc_len hp)]
theorem built_refN (n : Int) {K : List Nat} (hK : Bytes 32 K) : Tryd.prog.built 26 [(0, .int .u32 n), (1, .agg (row8 K).toArray)] = some (.int .u32 n :: row8 K).toArray := by
  have hz : (pc ND.zp).length = 33 := pc_len ND.zp_ok
  have e : Tryd.prog.built 26 [(0, .int .u32 n), (1, .agg (row8 K).toArray)] = Instr.fill (#[(0, 1), (1, 32)][·]?) (pc ND.zp).toArray [(0, .int .u32 n), (1, .agg (row8 K).toArray)] := by kernel_rfl
  rw [e, fill_step _ 0 0 1 rfl (.int .u32 n) [.int .u32 n] rfl rfl (pc ND.zp) (by rw [hz]; decide), fill_step _ 1 1 32 rfl (.agg (row8 K).toArray) (row8 K) rfl (by rw [row8_len, hK.1]) _ (by rw [length_splice _ _ _ (by rw [hz]; exact (show 0 + 1 ≤ 33 by decide)), hz]; exact (show 1 + 32 ≤ 33 by decide)), fill_nil]
  have e1 : (row8 K).length = 32 := by rw [row8_len]; exact hK.1
  have e2 : (row8 (List.replicate 32 0)).length = 32 := by rw [row8_len, List.length_replicate]
  have e3 : splice (splice (pc ND.zp) 0 [.int .u32 n]) 1 (row8 K) = .int .u32 n :: row8 K := by
    unfold splice pc ND.zp
    rw [e1]
    show [Value.int .u32 n] ++ (row8 K ++ List.drop 32 (row8 (List.replicate 32 0))) = _
    rw [List.drop_of_length_le (by rw [e2]; exact Nat.le_refl _), List.append_nil]
    rfl
  rw [e3]
theorem infoSmP : (Tryd.prog.info? 24).map (·.size) = some 32 := by kernel_rfl
set_option maxRecDepth 100000 in
set_option maxHeartbeats 4000000 in
theorem npget_any (b : List Nat) (v : Value) (w : World) (hv : Rd w v b) : Calls Tryd.prog 13 #[v] w fun e w' => e = .returned (.tuple #[.agg (pcs (ND.got b)).toArray, .int .i64 (ND.gerr b)]) ∧ Below w.heap.size w w' := by
  obtain ⟨va, vc, rfl, hvc⟩ := hv.shape
  obtain ⟨bl, hbl⟩ : ∃ n, n = b.length := ⟨_, rfl⟩
  obtain ⟨G, hG⟩ : ∃ G : Ending → World → Prop, G = fun e w' => e = .returned (.tuple #[.agg (pcs (ND.got b)).toArray, .int .i64 (ND.gerr b)]) ∧ Below w.heap.size w w' := ⟨_, rfl⟩
  obtain ⟨Z0, hZ0⟩ : ∃ L, L = pcs ND.zn := ⟨_, rfl⟩
  have hz : ∀ w, (zeroValue 28).run Tryd.prog w = .ok (.agg Z0.toArray) w := by rw [hZ0]; exact zeroNdP
  have hbz : Tryd.prog.built 28 [] = some Z0.toArray := by rw [hZ0]; exact builtNdP
  have Z264 := Lib.hid (show Z0.length = 264 by rw [hZ0]; exact ND.pcs_len8 ND.zn_ok)
  have Z1 := Lib.hid (show Z0.toArray.all (·.oneCell') = true by rw [hZ0, List.all_toArray, List.all_eq_true]; exact pcs_one' _)
  have HNO := Lib.hid (fun (h : ND.okN b = false) W (hW : Below w.heap.size w W) => (show G (.returned (.tuple #[.agg Z0.toArray, .int .i64 4])) W by
    rw [hG, hZ0]
    show _ ∧ _
    rw [(ND.got_no h).1, (ND.got_no h).2]
    exact ⟨rfl, hW⟩))
  have HYES := Lib.hid (fun (h : ND.okN b = true) W (hW : Below w.heap.size w W) => (show G (.returned (.tuple #[.agg (pcs (ND.reads b)).toArray, .int .i64 0])) W by
    rw [hG]
    show _ ∧ _
    rw [(ND.got_yes h).1, (ND.got_yes h).2]
    exact ⟨rfl, hW⟩))
  have HZ0 := Lib.hid hZ0
  have HV := Lib.hid hv
  have HBL := Lib.hid hbl
  rw [← hG]
  rw [← hbl] at HV hvc ⊢
  have HRET := Lib.hid (fun (fn : Func) (hf : fn.results = #[.cell 2 28, .tmp 3]) (tmps : Array Value) (L : List Value) (hl : L.length = 264) W (hW : Blk W w.heap.size 28 L) (h4 : tmps.getD 2 undef = .pointer (some ⟨w.heap.size, 0, none⟩)) => (results_mid2 (P := Tryd.prog) hf tmps W w.heap.size L _ h4 hW.range Tryd.underlying28 rfl (by rw [hl]; exact infoNdP)))
  clear hv hbl hG hZ0
  by_cases hlen : bl = 288
  · subst hlen
    have H288 := Lib.hid (show Bytes 288 b from ⟨HBL.out.symm, HV.out.byte⟩)
    obtain ⟨w1, hw1⟩ : ∃ x, x = (w.alloc (.cells Z0.toArray 28)).alloc (.cells Z0.toArray 28) := ⟨_, rfl⟩
    have W1 := Lib.hid (show Below w.heap.size w w1 by rw [hw1]; exact ((Below.refl w.heap.size w).alloc (Nat.le_refl _) _).alloc (by simp) _)
    have R1 := Lib.hid (show Blk w1 w.heap.size 28 Z0 by rw [hw1]; exact (Blk.new w 28 Z0 _ rfl).alloc _)
    have X1 := Lib.hid (show Blk w1 (w.heap.size + 1) 28 Z0 by rw [hw1]; exact Blk.new _ 28 Z0 _ (by simp))
    have S1 := Lib.hid (show w1.heap.size = w.heap.size + 2 by rw [hw1]; simp)
    have X1' := Lib.hid (show Blk w1 (w.heap.size + 1) 28 (pcs (ND.rws b 0)) by show Blk w1 _ _ (pcs (ND.rows b 0 ND.zp)); rw [ND.rows_zero, ← HZ0.out]; exact X1.out)
    have HRD := Lib.hid (read_any w1 (.slice va 288 vc) b (HV.out.below W1.out))
    have hlz : ((288 : Nat) : Int) = 288 := rfl
    go_enter Tryd.func13, Tryd.ntmps13
    go_upto_region 4 with fail
    rw [← hw1]
    clear hw1
    go_wp2_with (go_at_call 25; (with_reducible refine HRD.out.mono ?_); rintro e w2 ⟨rb, rfl, k2, b2, hrb⟩; have K2 := Lib.hid k2; have W2 := Lib.hid (W1.out.on b2); have R2 := Lib.hid (R1.out.below b2 R1.out.lt); have X2 := Lib.hid (X1'.out.below b2 X1'.out.lt); have HRB := Lib.hid (show w.heap.size + 2 ≤ rb by rw [← S1.out]; exact hrb); clear k2 b2 hrb)
    obtain ⟨N, hN⟩ : ∃ N : Nat → Prop, N = fun g => w1.heap.size ≤ g ∧ g < w2.heap.size := ⟨_, rfl⟩
    rw [← hN] at K2
    have HNN := Lib.hid (fun g (hg : N g) => (show w.heap.size + 2 ≤ g by rw [hN] at hg; rw [← S1.out]; exact hg.1))
    clear hN
    go_loopw [13] (fun i wr => ∃ k : Nat, k ≤ 8 ∧ i = .int .i64 (k : Int) ∧ (∀ j, j < k → ND.mayP (ND.pAt b j) = true) ∧ Rdr N wr rb (b.drop (k * 36)) 0 ∧ Blk wr w.heap.size 28 Z0 ∧ Blk wr (w.heap.size + 1) 28 (pcs (ND.rws b k)) ∧ Below w.heap.size w wr) (fun i _ => 8 - (intOf i).toNat)
    case atStart => exact ⟨0, by decide, rfl, fun j h => absurd h (Nat.not_lt_zero j), by rw [Nat.zero_mul, List.drop_zero]; exact K2.out, R2.out, X2.out, W2.out⟩
    case round =>
      clear X1 X1' R1 W1 K2 R2 X2 W2 HRD S1
      obtain ⟨k, hk, rfl, hm, hr, h0, hx, hw⟩ := hrel
      have HM := Lib.hid hm
      have K3 := Lib.hid hr
      have R3 := Lib.hid h0
      have X3 := Lib.hid hx
      have W3 := Lib.hid hw
      clear hm hr h0 hx hw
      by_cases hlt : k < 8
      · have hklt : (k : Int) < 8 := by omega
        have hk0 : (0 : Int) ≤ (k : Int) := by omega
        have hkt : ((k : Int)).toNat = k := Int.toNat_natCast k
        have hrw : ND.rws b k = ND.rows b k ND.zp := if_pos hlt
        rw [hrw] at X3
        have HU := Lib.hid (u32_rd K3.out (by rw [List.length_drop, ← HBL.out]; omega))
        have HTK := Lib.hid (fun W (h : Rdr N W rb ((b.drop (k * 36)).drop 4) 0) => take_rd h 32 (by rw [List.length_drop, List.length_drop, ← HBL.out]; omega) 32 rfl)
        have hpk := ND.pAt_ok H288.out hlt
        obtain ⟨AT, hAT⟩ : ∃ n, n = num ((b.drop (k * 36)).take 4) := ⟨_, rfl⟩
        obtain ⟨SS, hSS⟩ : ∃ s, s = ((b.drop (k * 36)).drop 4).take 32 := ⟨_, rfl⟩
        have hpe : ND.pAt b k = ⟨AT, SS⟩ := by
          rw [hAT, hSS]
          unfold ND.pAt
          rw [List.drop_drop, Nat.add_comm]
        have BM := Lib.hid (show Bytes 32 SS by have q := hpk.2; rw [hpe] at q; exact q)
        obtain ⟨PG, hPG⟩ : ∃ x, x = pc (ND.pAt b k) := ⟨_, rfl⟩
        have HBU := Lib.hid (show Tryd.prog.built 26 [(0, .int .u32 (AT : Int)), (1, .agg (row8 SS).toArray)] = some PG.toArray by rw [hPG, hpe]; exact built_refN _ BM.out)
        have PGL := Lib.hid (show PG.length = 33 by rw [hPG]; exact pc_len hpk)
        have PG1 := Lib.hid (show (PG.toArray.all (·.oneCell')) = true by rw [hPG]; exact one_pg _)
        have HSP := Lib.hid (show splice (pcs (ND.rows b k ND.zp)) (k * 33) PG = pcs (ND.rows b k (ND.pAt b k)) by rw [hPG]; exact pcs_splice H288.out hlt ND.zp_ok hpk)
        have HRG := Lib.hid (fun W (h : Blk W (w.heap.size + 1) 28 (pcs (ND.rows b k (ND.pAt b k)))) => (show W.rangeAt (w.heap.size + 1) (k * 33) PG by
          rw [hPG]
          exact range_part h (k * 33) (pc (ND.pAt b k)) fun j u hu => by
            have hj : j < 33 := by
              rw [← pc_len hpk]
              rcases Nat.lt_or_ge j (pc (ND.pAt b k)).length with q | q
              · exact q
              · rw [List.getElem?_eq_none q] at hu; cases hu
            rw [ND.rows_cell H288.out hlt hpk hj]; exact hu))
        have HMB := Lib.hid (fun W => npmay_any (ND.pAt b k) hpk W)
        have HRL := Lib.hid (show (pcs (ND.rows b k ND.zp)).length = 264 by rw [pcs_len (ND.rows_ok H288.out hlt ND.zp_ok), ND.rows_len hlt])
        obtain ⟨E, hE⟩ : ∃ E, E = ND.mayP (ND.pAt b k) := ⟨_, rfl⟩
        rw [← hPG, ← hE] at HMB
        have HE := Lib.hid hE
        have HDN := Lib.hid (show ((b.drop (k * 36)).drop 4).drop 32 = b.drop ((k + 1) * 36) by rw [List.drop_drop, List.drop_drop]; congr 1; omega)
        rw [← hAT] at HU
        rw [← hSS] at HTK
        obtain ⟨l0, hl0⟩ : ∃ l, l = b.drop (k * 36) := ⟨_, rfl⟩
        rw [← hl0] at K3 HU HTK HDN
        obtain ⟨l1, hl1⟩ : ∃ l, l = l0.drop 4 := ⟨_, rfl⟩
        rw [← hl1] at HU HTK HDN
        obtain ⟨l2, hl2⟩ : ∃ l, l = l1.drop 32 := ⟨_, rfl⟩
        rw [← hl2] at HTK HDN
        obtain ⟨RW, hRW⟩ : ∃ l, l = pcs (ND.rows b k ND.zp) := ⟨_, rfl⟩
        rw [← hRW] at X3 HSP HRL
        obtain ⟨RV, hRV⟩ : ∃ l, l = pcs (ND.rows b k (ND.pAt b k)) := ⟨_, rfl⟩
        rw [← hRV] at HSP HRG
        have HRV := Lib.hid (show RV = pcs (ND.rws b (k + 1)) by rw [hRV, ND.rws_next b hlt])
        clear hAT hSS hpe hPG hE hl0 hl1 hl2 hRW hRV hpk hrw
        go_upto_region 9 with (first
          | (go_at_call 26; (with_reducible refine HU.out.mono ?_); rintro e w4 ⟨rfl, k4, g4⟩; have K4 := Lib.hid k4; have R4 := Lib.hid (R3.out.grown g4 (fun e => by have := HRB.out; have := Option.some.inj e; omega)); have X4 := Lib.hid (X3.out.grown g4 (fun e => by have := HRB.out; have := Option.some.inj e; omega)); have W4 := Lib.hid (W3.out.grown g4 W3.out.size (fun g hg => by have := HRB.out; have := Option.some.inj hg; omega)); clear k4 g4)
          | (go_at_call 27; (with_reducible refine (HTK.out _ K4.out).mono ?_); rintro e w5 ⟨v5, rfl, o5, k5, g5⟩; obtain ⟨va5, vc5, rfl, _⟩ := o5.rd.shape; obtain ⟨vb5, rfl⟩ := own_at o5 (by rw [BM.out.1]; decide); have O5 := Lib.hid (own_range o5); have K5 := Lib.hid k5; have R5 := Lib.hid (R4.out.grown g5 (fun e => by have := HRB.out; have := Option.some.inj e; omega)); have X5 := Lib.hid (X4.out.grown g5 (fun e => by have := HRB.out; have := Option.some.inj e; omega)); have W5 := Lib.hid (W4.out.grown g5 W4.out.size (fun g hg => by have := HRB.out; have := Option.some.inj hg; omega)); rw [BM.out.1]; clear k5 g5 o5)
          | ((with_reducible show wpList _ _ _ (Oper.mk _ (.sliceToArrayPointer _ _) _ _ _ _ :: _) _ _); refine wpList_s2aR rfl rfl Tryd.underlying24 rfl (Nat.le_refl _) ?_)
          | ((with_reducible show wpList _ _ _ (Oper.mk _ (.load _ (.tmp 21)) _ _ _ _ :: _) _ _); refine wpList_load_mid rfl 24 (.tmp 21) rfl vb5 0 rfl (row8 SS) _ O5.out Tryd.underlying24 rfl (by rw [row8_len, BM.out.1]; exact infoSmP) ?_)
          | ((with_reducible show wpList _ _ _ (Oper.mk (some 23) (.build _ _) _ _ _ _ :: _) _ _); refine wpList_wanted rfl (.agg PG.toArray) (ex_build rfl (by simpa [Act.eval, Act.put] using HBU.out)) ?_)
          | ((with_reducible show wpList _ _ _ (Oper.mk _ (.store _ (.tmp 24) (.tmp 23)) _ _ _ _ :: _) _ _); refine wpList_store_blk rfl 26 (.tmp 24) (.tmp 23) rfl (w.heap.size + 1) (k * 33) PG rfl rfl 28 RW X5.out (by rw [PGL.out, HRL.out]; omega) (by rw [PGL.out]; exact infoRf) PG1.out ?_; intro w6 b6 g6; rw [HSP.out] at b6; have X6 := Lib.hid b6; have W6 := Lib.hid (W5.out.grown g6 W5.out.size (fun g hg => by have := Option.some.inj hg; omega)); have R6 := Lib.hid (R5.out.grown g6 (fun e => by have := Option.some.inj e; omega)); have K6 := Lib.hid (K5.out.past g6 (fun e => by have := HRB.out; have := Option.some.inj e; omega) (fun g hg e => by have := HNN.out g hg; have := Option.some.inj e; omega)); clear b6 g6))
        have RG6 := Lib.hid (HRG.out _ X6.out)
        rw [HDN.out] at K6
        rw [HRV.out] at X6
        clear K3 R3 X3 W3 K4 R4 X4 W4 K5 R5 X5 W5 O5 HU HTK HBU HSP HRG HRL HDN HRV
        cases E with
        | true =>
          go_wp2_with (first
            | ((with_reducible show wpList _ _ _ (Oper.mk _ (.load _ (.tmp 26)) _ _ _ _ :: _) _ _); refine wpList_load_mid rfl 26 (.tmp 26) rfl (w.heap.size + 1) (k * 33) rfl PG _ RG6.out Tryd.underlying26 rfl (by rw [PGL.out]; exact infoRf) ?_)
            | (go_at_call 28; (with_reducible refine (HMB.out _).mono ?_); rintro e w7 ⟨rfl, b7⟩; have K7 := Lib.hid (K6.out.below b7); have R7 := Lib.hid (R6.out.below b7 R6.out.lt); have X7 := Lib.hid (X6.out.below b7 X6.out.lt); have W7 := Lib.hid (W6.out.on b7); clear b7))
          exact ⟨⟨k + 1, by omega, by go_num, fun j hj => by
            rcases Nat.lt_or_ge j k with q | q
            · exact HM.out j q
            · obtain rfl : j = k := by omega
              exact HE.out.symm, K7.out, R7.out, X7.out, W7.out⟩, by simp [intOf]; omega⟩
        | false =>
          have HF := Lib.hid (HNO.out (ND.okN_bad hlt HE.out.symm))
          clear HNO HYES
          go_wp2_with ((fail_if_success (with_reducible show bodyPost _ _ _ _ _ _)); first
            | ((with_reducible show wpList _ _ _ (Oper.mk _ (.load _ (.tmp 26)) _ _ _ _ :: _) _ _); refine wpList_load_mid rfl 26 (.tmp 26) rfl (w.heap.size + 1) (k * 33) rfl PG _ RG6.out Tryd.underlying26 rfl (by rw [PGL.out]; exact infoRf) ?_)
            | (go_at_call 28; (with_reducible refine (HMB.out _).mono ?_); rintro e w7 ⟨rfl, b7⟩; have R7 := Lib.hid (R6.out.below b7 R6.out.lt); have W7 := Lib.hid (W6.out.on b7); clear b7)
            | ((with_reducible show wpList _ _ _ (Oper.mk (some 30) (.build _ _) _ _ _ _ :: _) _ _); refine wpList_wanted rfl (.agg Z0.toArray) (ex_build0 rfl hbz) ?_)
            | ((with_reducible show wpList _ _ _ (Oper.mk _ (.store _ (.tmp 2) (.tmp 30)) _ _ _ _ :: _) _ _); (refine wpList_store_blk rfl 28 (.tmp 2) (.tmp 30) rfl w.heap.size 0 Z0 rfl rfl 28 Z0 R7.out (Nat.le_of_eq (by simp only [Nat.zero_add])) (by rw [Z264.out]; exact infoNdP) Z1.out ?_; intro w8 b8 g8; rw [splice_all _ _ rfl] at b8; have X8 := Lib.hid b8; have W8 := Lib.hid (W7.out.grown g8 W7.out.size (fun g hg => by have := Option.some.inj hg; omega)); clear b8 g8)))
          refine bodyPost_ret (HRET.out _ rfl _ Z0 Z264.out _ X8.out rfl) rfl ?_
          exact HF.out _ W8.out
      · obtain rfl : k = 8 := by omega
        have HF := Lib.hid (HYES.out (ND.okN_good H288.out.1 HM.out))
        have hrw : ND.rws b 8 = ND.reads b := rfl
        rw [hrw] at X3
        obtain ⟨L, hL⟩ : ∃ L, L = pcs (ND.reads b) := ⟨_, rfl⟩
        have L264 := Lib.hid (show L.length = 264 by rw [hL]; exact ND.pcs_len8 (ND.reads_ok H288.out))
        have L1 := Lib.hid (show L.toArray.all (·.oneCell') = true by rw [hL, List.all_toArray, List.all_eq_true]; exact pcs_one' _)
        rw [← hL] at X3 HF
        clear hL hrw HNO HYES
        go_wp2_with ((fail_if_success (with_reducible show bodyPost _ _ _ _ _ _)); first
          | ((with_reducible show wpList _ _ _ (Oper.mk _ (.load _ (.tmp 4)) _ _ _ _ :: _) _ _); refine wpList_load_mid rfl 28 (.tmp 4) rfl (w.heap.size + 1) 0 rfl L _ X3.out.range Tryd.underlying28 rfl (by rw [L264.out]; exact infoNdP) ?_)
          | ((with_reducible show wpList _ _ _ (Oper.mk _ (.store _ (.tmp 2) (.tmp 32)) _ _ _ _ :: _) _ _); refine wpList_store_blk rfl 28 (.tmp 2) (.tmp 32) rfl w.heap.size 0 L rfl rfl 28 Z0 R3.out (Nat.le_of_eq (by rw [Nat.zero_add, L264.out, Z264.out])) (by rw [L264.out]; exact infoNdP) L1.out ?_; intro w8 b8 g8; rw [splice_all _ _ (by rw [L264.out, Z264.out])] at b8; have X8 := Lib.hid b8; have W8 := Lib.hid (W3.out.grown g8 W3.out.size (fun g hg => by have := Option.some.inj hg; omega)); clear b8 g8))
        refine bodyPost_ret (HRET.out _ rfl _ L L264.out _ X8.out rfl) rfl ?_
        exact HF.out _ W8.out
  · have HF := Lib.hid (HNO.out (ND.okN_short (by rw [← HBL.out]; exact hlen)))
    have hne : ((bl : Int) == 288) = false := by simp; omega
    have hne2 : ¬ (bl : Int) = 288 := by omega
    obtain ⟨w1, hw1⟩ : ∃ x, x = w.alloc (.cells Z0.toArray 28) := ⟨_, rfl⟩
    have W1 := Lib.hid (show Below w.heap.size w w1 by rw [hw1]; exact (Below.refl w.heap.size w).alloc (Nat.le_refl _) _)
    have R1 := Lib.hid (show Blk w1 w.heap.size 28 Z0 by rw [hw1]; exact Blk.new w 28 Z0 _ rfl)
    clear HNO HYES
    go_enter Tryd.func13, Tryd.ntmps13
    go_upto_region 1 with fail
    rw [← hw1]
    clear hw1
    go_wp2_with ((fail_if_success (with_reducible show bodyPost _ _ _ _ _ _)); first
      | ((with_reducible show wpList _ _ _ (Oper.mk (some 10) (.build _ _) _ _ _ _ :: _) _ _); refine wpList_wanted rfl (.agg Z0.toArray) (ex_build0 rfl hbz) ?_)
      | ((with_reducible show wpList _ _ _ (Oper.mk _ (.store _ (.tmp 2) (.tmp 10)) _ _ _ _ :: _) _ _); refine wpList_store_blk rfl 28 (.tmp 2) (.tmp 10) rfl w.heap.size 0 Z0 rfl rfl 28 Z0 R1.out (Nat.le_of_eq (by simp only [Nat.zero_add])) (by rw [Z264.out]; exact infoNdP) Z1.out ?_; intro w8 b8 g8; rw [splice_all _ _ rfl] at b8; have X8 := Lib.hid b8; have W8 := Lib.hid (W1.out.grown g8 W1.out.size (fun g hg => by have := Option.some.inj hg; omega)); clear b8 g8))
    refine bodyPost_ret (HRET.out _ rfl _ Z0 Z264.out _ X8.out rfl) rfl ?_
    exact HF.out _ W8.out
end Go.Proofs.YtoacdeddkfcllaaDoor
