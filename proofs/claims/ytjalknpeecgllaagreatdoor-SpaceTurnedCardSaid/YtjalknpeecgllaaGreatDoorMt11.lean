/- Texts of 6 subjects in one file: NdPX, SpQB, SpJ, SpSame, SpQC, SpBeg. Own work. -/
import Derived.Test.YtjalknpeecgllaaGreatDoorMt10
import Derived.Test.YtjalknpeecgllaaGreatDoorMt1
import Derived.Test.YtjalknpeecgllaaGreatDoorMt2
import Derived.Test.YtjalknpeecgllaaGreatDoorMt7
import Derived.Test.YtjalknpeecgllaaGreatDoorMt6
import Derived.Test.YtjalknpeecgllaaGreatDoorMt5
import Derived.Test.YtjalknpeecgllaaGreatDoorMt9
section
namespace Go.Proofs.YtjalknpeecgllaaGreatDoor
open Go.ChangeShapes Go.WideShapes Go.ChangeAt Go.RowKit
open RT
theorem pcs_splice {b : List Nat} (h : Bytes 288 b) {i : Nat} (hi : i < 8) {p : Pg} (hp : Pok p) {q : Pg} (hq : Pok q) : splice (pcs (ND.rows b i p)) (i * 33) (pc q) = pcs (ND.rows b i q) := by
  have e1 := ND.firsts_len h (i := i) (by omega)
  unfold splice ND.rows
  rw [pcs_app, pcs_app, ND.pcs_cons, ND.pcs_cons, <- e1, List.take_left' rfl, pc_len hq]
  congr 2
  rw [<- List.drop_drop, List.drop_left' rfl, List.drop_left' (pc_len hp)]
theorem built_refN (n : Int) {K : List Nat} (hK : Bytes 32 K) : Tryz.prog.built 49 [(0, .int .u32 n), (1, .agg (row8 K).toArray)] = some (.int .u32 n :: row8 K).toArray := by
  have hz : (pc ND.zp).length = 33 := pc_len ND.zp_ok
  have e : Tryz.prog.built 49 [(0, .int .u32 n), (1, .agg (row8 K).toArray)] = Instr.fill (#[(0, 1), (1, 32)][·]?) (pc ND.zp).toArray [(0, .int .u32 n), (1, .agg (row8 K).toArray)] := by kernel_rfl
  rw [e, fill_step _ 0 0 1 rfl (.int .u32 n) [.int .u32 n] rfl rfl (pc ND.zp) (by rw [hz]; decide), fill_step _ 1 1 32 rfl (.agg (row8 K).toArray) (row8 K) rfl (by rw [row8_len, hK.1]) _ (by rw [length_splice _ _ _ (by rw [hz]; exact (show 0 + 1 <= 33 by decide)), hz]; exact (show 1 + 32 <= 33 by decide)), fill_nil]
  have e1 : (row8 K).length = 32 := by rw [row8_len]; exact hK.1
  have e2 : (row8 (List.replicate 32 0)).length = 32 := by rw [row8_len, List.length_replicate]
  have e3 : splice (splice (pc ND.zp) 0 [.int .u32 n]) 1 (row8 K) = .int .u32 n :: row8 K := by
    unfold splice pc ND.zp
    rw [e1]
    show [Value.int .u32 n] ++ (row8 K ++ List.drop 32 (row8 (List.replicate 32 0))) = _
    rw [List.drop_of_length_le (by rw [e2]; exact Nat.le_refl _), List.append_nil]
    rfl
  rw [e3]
theorem infoSmP : (Tryz.prog.info? 47).map (·.size) = some 32 := by kernel_rfl
set_option maxRecDepth 100000 in
set_option maxHeartbeats 4000000 in
theorem npget_any (b : List Nat) (v : Value) (w : World) (hv : Rd w v b) : Calls Tryz.prog 46 #[v] w fun e w' => e = .returned (.tuple #[.agg (pcs (ND.got b)).toArray, .int .i64 (ND.gerr b)]) /\ Below w.heap.size w w' := by
  obtain ⟨va, vc, rfl, hvc⟩ := hv.shape
  obtain ⟨bl, hbl⟩ : ∃ n, n = b.length := ⟨_, rfl⟩
  obtain ⟨G, hG⟩ : ∃ G : Ending -> World -> Prop, G = fun e w' => e = .returned (.tuple #[.agg (pcs (ND.got b)).toArray, .int .i64 (ND.gerr b)]) /\ Below w.heap.size w w' := ⟨_, rfl⟩
  obtain ⟨Z0, hZ0⟩ : ∃ L, L = pcs ND.zn := ⟨_, rfl⟩
  have hz : ∀ w, (zeroValue 51).run Tryz.prog w = .ok (.agg Z0.toArray) w := by rw [hZ0]; exact zeroNdP
  have hbz : Tryz.prog.built 51 [] = some Z0.toArray := by rw [hZ0]; exact builtNdP
  have Z264 := Lib.hid (show Z0.length = 264 by rw [hZ0]; exact ND.pcs_len8 ND.zn_ok)
  have Z1 := Lib.hid (show Z0.toArray.all (·.oneCell') = true by rw [hZ0, List.all_toArray, List.all_eq_true]; exact pcs_one' _)
  have HNO := Lib.hid (fun (h : ND.okN b = false) W (hW : Below w.heap.size w W) => (show G (.returned (.tuple #[.agg Z0.toArray, .int .i64 4])) W by
    rw [hG, hZ0]
    show _ /\ _
    rw [(ND.got_no h).1, (ND.got_no h).2]
    exact ⟨rfl, hW⟩))
  have HYES := Lib.hid (fun (h : ND.okN b = true) W (hW : Below w.heap.size w W) => (show G (.returned (.tuple #[.agg (pcs (ND.reads b)).toArray, .int .i64 0])) W by
    rw [hG]
    show _ /\ _
    rw [(ND.got_yes h).1, (ND.got_yes h).2]
    exact ⟨rfl, hW⟩))
  have HZ0 := Lib.hid hZ0
  have HV := Lib.hid hv
  have HBL := Lib.hid hbl
  rw [<- hG]
  rw [<- hbl] at HV hvc ⊢
  have HRET := Lib.hid (fun (fn : Func) (hf : fn.results = #[.cell 2 51, .tmp 3]) (tmps : Array Value) (L : List Value) (hl : L.length = 264) W (hW : Blk W w.heap.size 51 L) (h4 : tmps.getD 2 undef = .pointer (some ⟨w.heap.size, 0, none⟩)) => (results_mid2 (P := Tryz.prog) hf tmps W w.heap.size L _ h4 hW.range Tryz.underlying51 rfl (by rw [hl]; exact infoNdP)))
  clear hv hbl hG hZ0
  by_cases hlen : bl = 288
  . subst hlen
    have H288 := Lib.hid (show Bytes 288 b from ⟨HBL.out.symm, HV.out.byte⟩)
    obtain ⟨w1, hw1⟩ : ∃ x, x = (w.alloc (.cells Z0.toArray 51)).alloc (.cells Z0.toArray 51) := ⟨_, rfl⟩
    have W1 := Lib.hid (show Below w.heap.size w w1 by rw [hw1]; exact ((Below.refl w.heap.size w).alloc (Nat.le_refl _) _).alloc (by simp) _)
    have R1 := Lib.hid (show Blk w1 w.heap.size 51 Z0 by rw [hw1]; exact (Blk.new w 51 Z0 _ rfl).alloc _)
    have X1 := Lib.hid (show Blk w1 (w.heap.size + 1) 51 Z0 by rw [hw1]; exact Blk.new _ 51 Z0 _ (by simp))
    have S1 := Lib.hid (show w1.heap.size = w.heap.size + 2 by rw [hw1]; simp)
    have X1' := Lib.hid (show Blk w1 (w.heap.size + 1) 51 (pcs (ND.rws b 0)) by show Blk w1 _ _ (pcs (ND.rows b 0 ND.zp)); rw [ND.rows_zero, <- HZ0.out]; exact X1.out)
    have HRD := Lib.hid (read_any w1 (.slice va 288 vc) b (HV.out.below W1.out))
    have hlz : ((288 : Nat) : Int) = 288 := rfl
    go_enter Tryz.func46, Tryz.ntmps46
    go_upto_region 4 with fail
    rw [<- hw1]
    clear hw1
    go_wp2_with (go_at_call 87; (with_reducible refine HRD.out.mono ?_); rintro e w2 ⟨rb, rfl, k2, b2, hrb⟩; have K2 := Lib.hid k2; have W2 := Lib.hid (W1.out.on b2); have R2 := Lib.hid (R1.out.below b2 R1.out.lt); have X2 := Lib.hid (X1'.out.below b2 X1'.out.lt); have HRB := Lib.hid (show w.heap.size + 2 <= rb by rw [<- S1.out]; exact hrb); clear k2 b2 hrb)
    obtain ⟨N, hN⟩ : ∃ N : Nat -> Prop, N = fun g => w1.heap.size <= g /\ g < w2.heap.size := ⟨_, rfl⟩
    rw [<- hN] at K2
    have HNN := Lib.hid (fun g (hg : N g) => (show w.heap.size + 2 <= g by rw [hN] at hg; rw [<- S1.out]; exact hg.1))
    clear hN
    go_loopw [13] (fun i wr => ∃ k : Nat, k <= 8 /\ i = .int .i64 (k : Int) /\ (∀ j, j < k -> ND.mayP (ND.pAt b j) = true) /\ Rdr N wr rb (b.drop (k * 36)) 0 /\ Blk wr w.heap.size 51 Z0 /\ Blk wr (w.heap.size + 1) 51 (pcs (ND.rws b k)) /\ Below w.heap.size w wr) (fun i _ => 8 - (intOf i).toNat)
    case atStart => exact ⟨0, by decide, rfl, fun j h => absurd h (Nat.not_lt_zero j), by rw [Nat.zero_mul, List.drop_zero]; exact K2.out, R2.out, X2.out, W2.out⟩
    case round =>
      clear X1 X1' R1 W1 K2 R2 X2 W2 HRD S1
      obtain ⟨k, hk, rfl, hm, hr, h0, hx, hw⟩ := hrel
      have HM := Lib.hid hm
      have K3 := Lib.hid hr
      have R3 := Lib.hid h0
      have X3 := Lib.hid hx
      have W3 := Lib.hid hw
      clear hm hr h0 hx hw
      by_cases hlt : k < 8
      . have hklt : (k : Int) < 8 := by omega
        have hk0 : (0 : Int) <= (k : Int) := by omega
        have hkt : ((k : Int)).toNat = k := Int.toNat_natCast k
        have hrw : ND.rws b k = ND.rows b k ND.zp := if_pos hlt
        rw [hrw] at X3
        have HU := Lib.hid (u32_rd K3.out (by rw [List.length_drop, <- HBL.out]; omega))
        have HTK := Lib.hid (fun W (h : Rdr N W rb ((b.drop (k * 36)).drop 4) 0) => take_rd h 32 (by rw [List.length_drop, List.length_drop, <- HBL.out]; omega) 32 rfl)
        have hpk := ND.pAt_ok H288.out hlt
        obtain ⟨AT, hAT⟩ : ∃ n, n = num ((b.drop (k * 36)).take 4) := ⟨_, rfl⟩
        obtain ⟨SS, hSS⟩ : ∃ s, s = ((b.drop (k * 36)).drop 4).take 32 := ⟨_, rfl⟩
        have hpe : ND.pAt b k = ⟨AT, SS⟩ := by
          rw [hAT, hSS]
          unfold ND.pAt
          rw [List.drop_drop, Nat.add_comm]
        have BM := Lib.hid (show Bytes 32 SS by have q := hpk.2; rw [hpe] at q; exact q)
        obtain ⟨PG, hPG⟩ : ∃ x, x = pc (ND.pAt b k) := ⟨_, rfl⟩
        have HBU := Lib.hid (show Tryz.prog.built 49 [(0, .int .u32 (AT : Int)), (1, .agg (row8 SS).toArray)] = some PG.toArray by rw [hPG, hpe]; exact built_refN _ BM.out)
        have PGL := Lib.hid (show PG.length = 33 by rw [hPG]; exact pc_len hpk)
        have PG1 := Lib.hid (show (PG.toArray.all (·.oneCell')) = true by rw [hPG]; exact one_pg _)
        have HSP := Lib.hid (show splice (pcs (ND.rows b k ND.zp)) (k * 33) PG = pcs (ND.rows b k (ND.pAt b k)) by rw [hPG]; exact pcs_splice H288.out hlt ND.zp_ok hpk)
        have HRG := Lib.hid (fun W (h : Blk W (w.heap.size + 1) 51 (pcs (ND.rows b k (ND.pAt b k)))) => (show W.rangeAt (w.heap.size + 1) (k * 33) PG by
          rw [hPG]
          exact range_part h (k * 33) (pc (ND.pAt b k)) fun j u hu => by
            have hj : j < 33 := by
              rw [<- pc_len hpk]
              rcases Nat.lt_or_ge j (pc (ND.pAt b k)).length with q | q
              . exact q
              . rw [List.getElem?_eq_none q] at hu; cases hu
            rw [ND.rows_cell H288.out hlt hpk hj]; exact hu))
        have HMB := Lib.hid (fun W => npmay_any (ND.pAt b k) hpk W)
        have HRL := Lib.hid (show (pcs (ND.rows b k ND.zp)).length = 264 by rw [pcs_len (ND.rows_ok H288.out hlt ND.zp_ok), ND.rows_len hlt])
        obtain ⟨E, hE⟩ : ∃ E, E = ND.mayP (ND.pAt b k) := ⟨_, rfl⟩
        rw [<- hPG, <- hE] at HMB
        have HE := Lib.hid hE
        have HDN := Lib.hid (show ((b.drop (k * 36)).drop 4).drop 32 = b.drop ((k + 1) * 36) by rw [List.drop_drop, List.drop_drop]; congr 1; omega)
        rw [<- hAT] at HU
        rw [<- hSS] at HTK
        obtain ⟨l0, hl0⟩ : ∃ l, l = b.drop (k * 36) := ⟨_, rfl⟩
        rw [<- hl0] at K3 HU HTK HDN
        obtain ⟨l1, hl1⟩ : ∃ l, l = l0.drop 4 := ⟨_, rfl⟩
        rw [<- hl1] at HU HTK HDN
        obtain ⟨l2, hl2⟩ : ∃ l, l = l1.drop 32 := ⟨_, rfl⟩
        rw [<- hl2] at HTK HDN
        obtain ⟨RW, hRW⟩ : ∃ l, l = pcs (ND.rows b k ND.zp) := ⟨_, rfl⟩
        rw [<- hRW] at X3 HSP HRL
        obtain ⟨RV, hRV⟩ : ∃ l, l = pcs (ND.rows b k (ND.pAt b k)) := ⟨_, rfl⟩
        rw [<- hRV] at HSP HRG
        have HRV := Lib.hid (show RV = pcs (ND.rws b (k + 1)) by rw [hRV, ND.rws_next b hlt])
        clear hAT hSS hpe hPG hE hl0 hl1 hl2 hRW hRV hpk hrw
        go_upto_region 9 with (first
          | (go_at_call 88; (with_reducible refine HU.out.mono ?_); rintro e w4 ⟨rfl, k4, g4⟩; have K4 := Lib.hid k4; have R4 := Lib.hid (R3.out.grown g4 (fun e => by have := HRB.out; have := Option.some.inj e; omega)); have X4 := Lib.hid (X3.out.grown g4 (fun e => by have := HRB.out; have := Option.some.inj e; omega)); have W4 := Lib.hid (W3.out.grown g4 W3.out.size (fun g hg => by have := HRB.out; have := Option.some.inj hg; omega)); clear k4 g4)
          | (go_at_call 89; (with_reducible refine (HTK.out _ K4.out).mono ?_); rintro e w5 ⟨v5, rfl, o5, k5, g5⟩; obtain ⟨va5, vc5, rfl, _⟩ := o5.rd.shape; obtain ⟨vb5, rfl⟩ := own_at o5 (by rw [BM.out.1]; decide); have O5 := Lib.hid (own_range o5); have K5 := Lib.hid k5; have R5 := Lib.hid (R4.out.grown g5 (fun e => by have := HRB.out; have := Option.some.inj e; omega)); have X5 := Lib.hid (X4.out.grown g5 (fun e => by have := HRB.out; have := Option.some.inj e; omega)); have W5 := Lib.hid (W4.out.grown g5 W4.out.size (fun g hg => by have := HRB.out; have := Option.some.inj hg; omega)); rw [BM.out.1]; clear k5 g5 o5)
          | ((with_reducible show wpList _ _ _ (Oper.mk _ (.sliceToArrayPointer _ _) _ _ _ _ :: _) _ _); refine wpList_s2aR rfl rfl Tryz.underlying47 rfl (Nat.le_refl _) ?_)
          | ((with_reducible show wpList _ _ _ (Oper.mk _ (.load _ (.tmp 21)) _ _ _ _ :: _) _ _); refine wpList_load_mid rfl 47 (.tmp 21) rfl vb5 0 rfl (row8 SS) _ O5.out Tryz.underlying47 rfl (by rw [row8_len, BM.out.1]; exact infoSmP) ?_)
          | ((with_reducible show wpList _ _ _ (Oper.mk (some 23) (.build _ _) _ _ _ _ :: _) _ _); refine wpList_wanted rfl (.agg PG.toArray) (ex_build rfl (by simpa [Act.eval, Act.put] using HBU.out)) ?_)
          | ((with_reducible show wpList _ _ _ (Oper.mk _ (.store _ (.tmp 24) (.tmp 23)) _ _ _ _ :: _) _ _); refine wpList_store_blk rfl 49 (.tmp 24) (.tmp 23) rfl (w.heap.size + 1) (k * 33) PG rfl rfl 51 RW X5.out (by rw [PGL.out, HRL.out]; omega) (by rw [PGL.out]; exact infoRf) PG1.out ?_; intro w6 b6 g6; rw [HSP.out] at b6; have X6 := Lib.hid b6; have W6 := Lib.hid (W5.out.grown g6 W5.out.size (fun g hg => by have := Option.some.inj hg; omega)); have R6 := Lib.hid (R5.out.grown g6 (fun e => by have := Option.some.inj e; omega)); have K6 := Lib.hid (K5.out.past g6 (fun e => by have := HRB.out; have := Option.some.inj e; omega) (fun g hg e => by have := HNN.out g hg; have := Option.some.inj e; omega)); clear b6 g6))
        have RG6 := Lib.hid (HRG.out _ X6.out)
        rw [HDN.out] at K6
        rw [HRV.out] at X6
        clear K3 R3 X3 W3 K4 R4 X4 W4 K5 R5 X5 W5 O5 HU HTK HBU HSP HRG HRL HDN HRV
        cases E with
        | true =>
          go_wp2_with (first
            | ((with_reducible show wpList _ _ _ (Oper.mk _ (.load _ (.tmp 26)) _ _ _ _ :: _) _ _); refine wpList_load_mid rfl 49 (.tmp 26) rfl (w.heap.size + 1) (k * 33) rfl PG _ RG6.out Tryz.underlying49 rfl (by rw [PGL.out]; exact infoRf) ?_)
            | (go_at_call 90; (with_reducible refine (HMB.out _).mono ?_); rintro e w7 ⟨rfl, b7⟩; have K7 := Lib.hid (K6.out.below b7); have R7 := Lib.hid (R6.out.below b7 R6.out.lt); have X7 := Lib.hid (X6.out.below b7 X6.out.lt); have W7 := Lib.hid (W6.out.on b7); clear b7))
          exact ⟨⟨k + 1, by omega, by go_num, fun j hj => by
            rcases Nat.lt_or_ge j k with q | q
            . exact HM.out j q
            . obtain rfl : j = k := by omega
              exact HE.out.symm, K7.out, R7.out, X7.out, W7.out⟩, by simp [intOf]; omega⟩
        | false =>
          have HF := Lib.hid (HNO.out (ND.okN_bad hlt HE.out.symm))
          clear HNO HYES
          go_wp2_with ((fail_if_success (with_reducible show bodyPost _ _ _ _ _ _)); first
            | ((with_reducible show wpList _ _ _ (Oper.mk _ (.load _ (.tmp 26)) _ _ _ _ :: _) _ _); refine wpList_load_mid rfl 49 (.tmp 26) rfl (w.heap.size + 1) (k * 33) rfl PG _ RG6.out Tryz.underlying49 rfl (by rw [PGL.out]; exact infoRf) ?_)
            | (go_at_call 90; (with_reducible refine (HMB.out _).mono ?_); rintro e w7 ⟨rfl, b7⟩; have R7 := Lib.hid (R6.out.below b7 R6.out.lt); have W7 := Lib.hid (W6.out.on b7); clear b7)
            | ((with_reducible show wpList _ _ _ (Oper.mk (some 30) (.build _ _) _ _ _ _ :: _) _ _); refine wpList_wanted rfl (.agg Z0.toArray) (ex_build0 rfl hbz) ?_)
            | ((with_reducible show wpList _ _ _ (Oper.mk _ (.store _ (.tmp 2) (.tmp 30)) _ _ _ _ :: _) _ _); (refine wpList_store_blk rfl 51 (.tmp 2) (.tmp 30) rfl w.heap.size 0 Z0 rfl rfl 51 Z0 R7.out (Nat.le_of_eq (by simp only [Nat.zero_add])) (by rw [Z264.out]; exact infoNdP) Z1.out ?_; intro w8 b8 g8; rw [splice_all _ _ rfl] at b8; have X8 := Lib.hid b8; have W8 := Lib.hid (W7.out.grown g8 W7.out.size (fun g hg => by have := Option.some.inj hg; omega)); clear b8 g8)))
          refine bodyPost_ret (HRET.out _ rfl _ Z0 Z264.out _ X8.out rfl) rfl ?_
          exact HF.out _ W8.out
      . obtain rfl : k = 8 := by omega
        have HF := Lib.hid (HYES.out (ND.okN_good H288.out.1 HM.out))
        have hrw : ND.rws b 8 = ND.reads b := rfl
        rw [hrw] at X3
        obtain ⟨L, hL⟩ : ∃ L, L = pcs (ND.reads b) := ⟨_, rfl⟩
        have L264 := Lib.hid (show L.length = 264 by rw [hL]; exact ND.pcs_len8 (ND.reads_ok H288.out))
        have L1 := Lib.hid (show L.toArray.all (·.oneCell') = true by rw [hL, List.all_toArray, List.all_eq_true]; exact pcs_one' _)
        rw [<- hL] at X3 HF
        clear hL hrw HNO HYES
        go_wp2_with ((fail_if_success (with_reducible show bodyPost _ _ _ _ _ _)); first
          | ((with_reducible show wpList _ _ _ (Oper.mk _ (.load _ (.tmp 4)) _ _ _ _ :: _) _ _); refine wpList_load_mid rfl 51 (.tmp 4) rfl (w.heap.size + 1) 0 rfl L _ X3.out.range Tryz.underlying51 rfl (by rw [L264.out]; exact infoNdP) ?_)
          | ((with_reducible show wpList _ _ _ (Oper.mk _ (.store _ (.tmp 2) (.tmp 32)) _ _ _ _ :: _) _ _); refine wpList_store_blk rfl 51 (.tmp 2) (.tmp 32) rfl w.heap.size 0 L rfl rfl 51 Z0 R3.out (Nat.le_of_eq (by rw [Nat.zero_add, L264.out, Z264.out])) (by rw [L264.out]; exact infoNdP) L1.out ?_; intro w8 b8 g8; rw [splice_all _ _ (by rw [L264.out, Z264.out])] at b8; have X8 := Lib.hid b8; have W8 := Lib.hid (W3.out.grown g8 W3.out.size (fun g hg => by have := Option.some.inj hg; omega)); clear b8 g8))
        refine bodyPost_ret (HRET.out _ rfl _ L L264.out _ X8.out rfl) rfl ?_
        exact HF.out _ W8.out
  . have HF := Lib.hid (HNO.out (ND.okN_short (by rw [<- HBL.out]; exact hlen)))
    have hne : ((bl : Int) == 288) = false := by simp; omega
    have hne2 : ¬ (bl : Int) = 288 := by omega
    obtain ⟨w1, hw1⟩ : ∃ x, x = w.alloc (.cells Z0.toArray 51) := ⟨_, rfl⟩
    have W1 := Lib.hid (show Below w.heap.size w w1 by rw [hw1]; exact (Below.refl w.heap.size w).alloc (Nat.le_refl _) _)
    have R1 := Lib.hid (show Blk w1 w.heap.size 51 Z0 by rw [hw1]; exact Blk.new w 51 Z0 _ rfl)
    clear HNO HYES
    go_enter Tryz.func46, Tryz.ntmps46
    go_upto_region 1 with fail
    rw [<- hw1]
    clear hw1
    go_wp2_with ((fail_if_success (with_reducible show bodyPost _ _ _ _ _ _)); first
      | ((with_reducible show wpList _ _ _ (Oper.mk (some 10) (.build _ _) _ _ _ _ :: _) _ _); refine wpList_wanted rfl (.agg Z0.toArray) (ex_build0 rfl hbz) ?_)
      | ((with_reducible show wpList _ _ _ (Oper.mk _ (.store _ (.tmp 2) (.tmp 10)) _ _ _ _ :: _) _ _); refine wpList_store_blk rfl 51 (.tmp 2) (.tmp 10) rfl w.heap.size 0 Z0 rfl rfl 51 Z0 R1.out (Nat.le_of_eq (by simp only [Nat.zero_add])) (by rw [Z264.out]; exact infoNdP) Z1.out ?_; intro w8 b8 g8; rw [splice_all _ _ rfl] at b8; have X8 := Lib.hid b8; have W8 := Lib.hid (W1.out.grown g8 W1.out.size (fun g hg => by have := Option.some.inj hg; omega)); clear b8 g8))
    refine bodyPost_ret (HRET.out _ rfl _ Z0 Z264.out _ X8.out rfl) rfl ?_
    exact HF.out _ W8.out
end Go.Proofs.YtjalknpeecgllaaGreatDoor
namespace Go.Proofs.YtjalknpeecgllaaGreatDoor
open Go.ChangeShapes Go.WideShapes Go.ChangeAt Go.RowKit
open SM
set_option maxRecDepth 100000 in
set_option maxHeartbeats 1000000 in
theorem npsum_any (b : List Nat) (v : Value) (w : World) (hv : Rd w v b) (ht : TabP w) : Calls Tryz.prog 22 #[v] w fun e w' => e = .returned (.agg (row8 (sha ([110, 111, 100, 101] ++ b))).toArray) /\ Below w.heap.size w w' := by
  have hfit := hv.fits
  obtain ⟨va, vc, rfl, hvc⟩ := hv.shape
  obtain ⟨M, hM⟩ : ∃ M, M = sha ([110, 111, 100, 101] ++ b) := ⟨_, rfl⟩
  obtain ⟨D0, hD0⟩ : ∃ D, D = row8 (List.replicate 32 0) := ⟨_, rfl⟩
  have hz : ∀ w, (zeroValue 47).run Tryz.prog w = .ok (.agg D0.toArray) w := by rw [hD0]; exact zeroSmN
  have hd0 : D0.length = 32 := by rw [hD0, row8_len, List.length_replicate]
  have M32 := Lib.hid (show (row8 M).length = 32 by rw [row8_len, hM]; exact (sha_bytes _).1)
  obtain ⟨w1, hw1⟩ : ∃ x, x = w.alloc (.cells D0.toArray 47) := ⟨_, rfl⟩
  have W1 := Lib.hid (show Below w.heap.size w w1 by rw [hw1]; exact (Below.refl w.heap.size w).alloc (Nat.le_refl _) (.cells D0.toArray 47))
  have R1 := Lib.hid (show Blk w1 w.heap.size 47 D0 by rw [hw1]; exact Blk.new w 47 D0 _ rfl)
  have b12 := (Below.refl w1.heap.size w1).alloc (Nat.le_refl _) (.cells (row8 [110, 111, 100, 101]).toArray 5 (4, 5))
  have W2 := Lib.hid (W1.out.on b12)
  have R2 := Lib.hid (R1.out.below b12 R1.out.lt)
  have HOF := Lib.hid (of_two_at (b := w1.heap.size + 1) (w := w1.alloc (.cells (row8 [110, 111, 100, 101]).toArray 5 (4, 5))) (S := M) (by simp) (rd_const w1 [110, 111, 100, 101] (small_bytes (by decide)) (by decide) 4 rfl w1.heap.size rfl (4, 5)) ((hv.below W1.out).alloc _) (ht.below W2.out) (by show 4 + _ <= _; omega) hM)
  have kc := fun (w : World) (C : Array Value) (n c : Nat) => Lib.run_convert_bytes_const (P := Tryz.prog) w 46 5 C n c Tryz.underlying46 Tryz.underlying5
  rw [<- hM]
  clear hM hD0 ht hv b12 hfit hvc
  go_enter Tryz.func22, Tryz.ntmps22
  go_upto_region 1 with fail
  rw [<- hw1]
  clear hw1
  go_wp2_with (first
    | (go_at_call 54; (refine HOF.out.mono ?_); rintro e w4 ⟨rfl, b4⟩; have W4 := Lib.hid (W2.out.on b4); have R4 := Lib.hid (R2.out.below b4 R2.out.lt); clear b4)
    | ((with_reducible show wpList _ _ _ (Oper.mk _ (.store _ (.tmp 2) (.tmp 7)) _ _ _ _ :: _) _ _); refine wpList_store_blk rfl 47 (.tmp 2) (.tmp 7) rfl w.heap.size 0 (row8 M) rfl rfl 47 D0 R4.out (by rw [M32.out, hd0]; exact Nat.le_refl _) (by rw [M32.out]; exact infoS) (row8_one _) ?_; intro w5 b5 g5; rw [splice_all _ _ (by rw [M32.out, hd0])] at b5; have U5 := Lib.hid b5; have W5 := Lib.hid (W4.out.grown g5 W4.out.size (fun g hg => by have := Option.some.inj hg; omega)); clear b5 g5))
  exact bodyPost_ret (results_mid rfl _ _ w.heap.size (row8 M) _ rfl U5.out.range Tryz.underlying47 rfl (by rw [M32.out]; exact infoS)) rfl ⟨rfl, W5.out⟩
set_option maxRecDepth 100000 in
set_option maxHeartbeats 1000000 in
theorem nppage_any (b : List Nat) (v : Value) (w : World) (hv : Rd w v b) (ht : TabP w) : Calls Tryz.prog 21 #[v] w fun e w' => e = .returned (.agg (row8 (sha ([112, 97, 103, 101] ++ b))).toArray) /\ Below w.heap.size w w' := by
  have hfit := hv.fits
  obtain ⟨va, vc, rfl, hvc⟩ := hv.shape
  obtain ⟨M, hM⟩ : ∃ M, M = sha ([112, 97, 103, 101] ++ b) := ⟨_, rfl⟩
  obtain ⟨D0, hD0⟩ : ∃ D, D = row8 (List.replicate 32 0) := ⟨_, rfl⟩
  have hz : ∀ w, (zeroValue 47).run Tryz.prog w = .ok (.agg D0.toArray) w := by rw [hD0]; exact zeroSmN
  have hd0 : D0.length = 32 := by rw [hD0, row8_len, List.length_replicate]
  have M32 := Lib.hid (show (row8 M).length = 32 by rw [row8_len, hM]; exact (sha_bytes _).1)
  obtain ⟨w1, hw1⟩ : ∃ x, x = w.alloc (.cells D0.toArray 47) := ⟨_, rfl⟩
  have W1 := Lib.hid (show Below w.heap.size w w1 by rw [hw1]; exact (Below.refl w.heap.size w).alloc (Nat.le_refl _) (.cells D0.toArray 47))
  have R1 := Lib.hid (show Blk w1 w.heap.size 47 D0 by rw [hw1]; exact Blk.new w 47 D0 _ rfl)
  have b12 := (Below.refl w1.heap.size w1).alloc (Nat.le_refl _) (.cells (row8 [112, 97, 103, 101]).toArray 5 (4, 5))
  have W2 := Lib.hid (W1.out.on b12)
  have R2 := Lib.hid (R1.out.below b12 R1.out.lt)
  have HOF := Lib.hid (of_two_at (b := w1.heap.size + 1) (w := w1.alloc (.cells (row8 [112, 97, 103, 101]).toArray 5 (4, 5))) (S := M) (by simp) (rd_const w1 [112, 97, 103, 101] (small_bytes (by decide)) (by decide) 4 rfl w1.heap.size rfl (4, 5)) ((hv.below W1.out).alloc _) (ht.below W2.out) (by show 4 + _ <= _; omega) hM)
  have kc := fun (w : World) (C : Array Value) (n c : Nat) => Lib.run_convert_bytes_const (P := Tryz.prog) w 46 5 C n c Tryz.underlying46 Tryz.underlying5
  rw [<- hM]
  clear hM hD0 ht hv b12 hfit hvc
  go_enter Tryz.func21, Tryz.ntmps21
  go_upto_region 1 with fail
  rw [<- hw1]
  clear hw1
  go_wp2_with (first
    | (go_at_call 54; (refine HOF.out.mono ?_); rintro e w4 ⟨rfl, b4⟩; have W4 := Lib.hid (W2.out.on b4); have R4 := Lib.hid (R2.out.below b4 R2.out.lt); clear b4)
    | ((with_reducible show wpList _ _ _ (Oper.mk _ (.store _ (.tmp 2) (.tmp 7)) _ _ _ _ :: _) _ _); refine wpList_store_blk rfl 47 (.tmp 2) (.tmp 7) rfl w.heap.size 0 (row8 M) rfl rfl 47 D0 R4.out (by rw [M32.out, hd0]; exact Nat.le_refl _) (by rw [M32.out]; exact infoS) (row8_one _) ?_; intro w5 b5 g5; rw [splice_all _ _ (by rw [M32.out, hd0])] at b5; have U5 := Lib.hid b5; have W5 := Lib.hid (W4.out.grown g5 W4.out.size (fun g hg => by have := Option.some.inj hg; omega)); clear b5 g5))
  exact bodyPost_ret (results_mid rfl _ _ w.heap.size (row8 M) _ rfl U5.out.range Tryz.underlying47 rfl (by rw [M32.out]; exact infoS)) rfl ⟨rfl, W5.out⟩
theorem hof_three {w : World} {u v : Value} {l m n k S : List Nat} (hu : Rd w u l) (hv : Rds w v [m, n, k]) (ht : TabP w) (hn : m.length + n.length + k.length <= 1152921504606846900) (hS : S = mac l (m ++ n ++ k)) :
    Calls Tryz.prog 79 #[u, v] w fun e w' => e = .returned (.agg (row8 S).toArray) /\ Below w.heap.size w w' := by
  have e : [m, n, k].flatten = m ++ n ++ k := by simp
  have h1 := hof_any l [m, n, k] (by rw [e, List.length_append, List.length_append]; exact hn) u _ _ hu hv ht
  rw [e, <- hS] at h1
  exact h1
set_option maxRecDepth 100000 in
set_option maxHeartbeats 2000000 in
theorem npleaf_any (key : List Nat) (hkey : Bytes 32 key) (at_ : Nat) (ha : at_ < 4294967296) (b : List Nat) (v : Value) (w : World) (hv : Rd w v b) (ht : TabP w) : Calls Tryz.prog 55 #[.agg (row8 key).toArray, .int .u32 (at_ : Int), v] w fun e w' => e = .returned (.agg (row8 (mac key ([108, 101, 97, 102] ++ be at_ 4 ++ b))).toArray) /\ Below w.heap.size w w' := by
  have hfit := hv.fits
  obtain ⟨va, vc, rfl, hvc⟩ := hv.shape
  obtain ⟨bl, hbl⟩ : ∃ n, n = b.length := ⟨_, rfl⟩
  rw [<- hbl] at hfit hv ⊢
  obtain ⟨M, hM⟩ : ∃ M, M = mac key ([108, 101, 97, 102] ++ be at_ 4 ++ b) := ⟨_, rfl⟩
  obtain ⟨KC, hKC⟩ : ∃ L, L = row8 key := ⟨_, rfl⟩
  obtain ⟨D0, hD0⟩ : ∃ D, D = row8 (List.replicate 32 0) := ⟨_, rfl⟩
  have hz : ∀ w, (zeroValue 47).run Tryz.prog w = .ok (.agg D0.toArray) w := by rw [hD0]; exact zeroSmN
  have hd0 : D0.length = 32 := by rw [hD0, row8_len, List.length_replicate]
  have M32 := Lib.hid (show (row8 M).length = 32 by rw [row8_len, hM]; exact (sha_bytes _).1)
  have HKC := Lib.hid (show (KC.drop 0).take 32 = row8 key by rw [hKC, List.drop_zero, List.take_of_length_le (by rw [row8_len, hkey.1]; exact Nat.le_refl _)])
  have HKY := Lib.hid hkey
  have HV := Lib.hid hv
  have HBL := Lib.hid hbl
  have HMA := Lib.hid (show ∀ (u x : Value) W, Below w.heap.size w W -> Rd W u key -> Rds W x [[108, 101, 97, 102], be at_ 4, b] -> Calls Tryz.prog 79 #[u, x] W fun e w' => e = .returned (.agg (row8 M).toArray) /\ Below W.heap.size W w' from fun u x W hW hu hx =>
    hof_three hu hx (ht.below hW) (by rw [be_len]; show 4 + 4 + _ <= _; omega) hM)
  have HN4 := Lib.hid (fun W => put32_any at_ ha W)
  rw [<- hM, <- hKC]
  obtain ⟨w1, hw1⟩ : ∃ x, x = (w.alloc (.cells KC.toArray 23)).alloc (.cells D0.toArray 47) := ⟨_, rfl⟩
  have W1 := Lib.hid (show Below w.heap.size w w1 by rw [hw1]; exact ((Below.refl w.heap.size w).alloc (Nat.le_refl _) _).alloc (by simp) _)
  have K1 := Lib.hid (show Blk w1 w.heap.size 23 KC by rw [hw1]; exact (Blk.new w 23 KC _ rfl).alloc _)
  have R1 := Lib.hid (show Blk w1 (w.heap.size + 1) 47 D0 by rw [hw1]; exact Blk.new _ 47 D0 _ (by simp))
  clear hM hKC hD0 hv ht hkey hfit hvc hbl
  go_enter Tryz.func55, Tryz.ntmps55
  go_upto_region 1 with fail
  rw [<- hw1]
  clear hw1
  refine wp_region_c (by kernel_rfl) 8 (by decide) (by kernel_rfl) (by kernel_rfl) (by kernel_rfl) w1.heap.size rfl [.val (.slice (some ⟨w.heap.size, 0, none⟩) 32 32), .lit ([108, 101, 97, 102]), .rd ([108, 101, 97, 102]), .val (.int .u32 (at_ : Int)), .rd (be at_ 4), .val (.slice va bl vc), .rds [[108, 101, 97, 102], be at_ 4, b], .val (.agg (row8 M).toArray)] ?_ ?_
  . refine ⟨?_, ?_, ?_, ?_, ?_, ?_, ?_, ?_, trivial⟩
    . intro a w' hF hB hd
      have e3 : a.eval (.tmp 3) = .pointer (some ⟨w.heap.size, 0, none⟩) := hF 3 (by decide +kernel)
      exact doesC_val rfl (v := .slice (some ⟨w.heap.size, 0, none⟩) 32 32) (by unfold execOp; simp only [e3]; go_simp) rfl
    . intro a w' hF hB hd
      refine doesC_wp hB.below.size rfl fun K hK => ?_
      unfold Oper.wp execOp
      go_simp
      exact hK _ _ ⟨_, rfl, hB.below.size, (own_new w' [108, 101, 97, 102] (small_bytes (by decide)) (by decide) rfl (Nat.le_refl _)).rd, by simp⟩ ((Below.refl _ _).alloc (Nat.le_refl _) _)
    . intro a w' hF hB hd
      exact doesC_mark rfl (.tmp 8) rfl [108, 101, 97, 102] (hd 1 (by decide +kernel))
    . intro a w' hF hB hd
      have e1 : a.eval (.tmp 1) = .int .u32 (at_ : Int) := hF 1 (by decide +kernel)
      exact doesC_val rfl (ex_move rfl e1) rfl
    . intro a w' hF hB hd
      have e10 : a.eval (.tmp 10) = .int .u32 (at_ : Int) := hd 3 (by decide +kernel)
      exact doesC_call hB.below.size rfl (ex_call (vs := #[.int .u32 (at_ : Int)]) rfl (by simp only [List.map_toArray, List.map_cons, List.map_nil, e10]) (by go_simp)) ((HN4.out w').mono fun e w3 hh => by
        obtain ⟨v, rfl, ho, hb⟩ := hh
        exact ⟨v, rfl, ho.rd, hb⟩)
    . intro a w' hF hB hd
      have e2 : a.eval (.tmp 2) = .slice va bl vc := hF 2 (by decide +kernel)
      exact doesC_val rfl (ex_move rfl e2) rfl
    . intro a w' hF hB hd
      have e9 : Rd w' (a.eval (.tmp 9)) [108, 101, 97, 102] := hd 2 (by decide +kernel)
      obtain ⟨a9, c9, q9, _⟩ := e9.shape
      rw [q9] at e9
      have f9 : a.tmps[9]?.getD undef = .slice a9 4 c9 := by rw [<- Array.getD_eq_getD_getElem?]; exact q9
      have e11 : Rd w' (a.eval (.tmp 11)) (be at_ 4) := hd 4 (by decide +kernel)
      obtain ⟨a11, c11, q11, _⟩ := e11.shape
      rw [q11] at e11
      rw [be_len] at q11 e11
      have f11 : a.tmps[11]?.getD undef = .slice a11 4 c11 := by rw [<- Array.getD_eq_getD_getElem?]; exact q11
      have q12 : a.eval (.tmp 12) = .slice va bl vc := hd 5 (by decide +kernel)
      have e12 : Rd w' (.slice va bl vc) b := HV.out.below (W1.out.on hB.below)
      have f12 : a.tmps[12]?.getD undef = .slice va bl vc := by rw [<- Array.getD_eq_getD_getElem?]; exact q12
      have R := Lib.hid (rds_three e9 e11 e12 rfl)
      clear q9 q11 q12 e9 e11 e12 hd
      refine doesC_wp hB.below.size rfl fun K hK => ?_
      unfold Oper.wp execOp
      go_simp
      exact hK _ _ R.out ((Below.refl _ _).alloc (Nat.le_refl _) _)
    . intro a w' hF hB hd
      have e7 : a.eval (.tmp 7) = .slice (some ⟨w.heap.size, 0, none⟩) 32 32 := hd 0 (by decide +kernel)
      have e13 : Rds w' (a.eval (.tmp 13)) [[108, 101, 97, 102], be at_ 4, b] := hd 6 (by decide +kernel)
      exact doesC_call hB.below.size rfl (ex_call (vs := #[.slice (some ⟨w.heap.size, 0, none⟩) 32 32, a.eval (.tmp 13)]) rfl (by simp only [List.map_toArray, List.map_cons, List.map_nil, e7]) (by go_simp)) ((HMA.out _ _ w' (W1.out.on hB.below) (rd_part (K1.out.below hB.below K1.out.lt) HKY.out HKC.out (by decide)) e13).mono fun e w3 hh => ⟨_, hh.1, rfl, hh.2⟩)
  . intro vs w4 hB hv
    have e7 : vs 7 = .agg (row8 M).toArray := hv 7 (by decide)
    simp only [List.take_succ_cons, List.take_zero, List.drop_succ_cons, List.drop_zero, putOps, Act.put, List.setIfInBounds_toArray, List.set_cons_zero, List.set_cons_succ, e7]
    have W4 := Lib.hid (W1.out.on hB.below)
    have R4 := Lib.hid (R1.out.below hB.below R1.out.lt)
    clear hv e7 hB
    go_wp2_with ((with_reducible show wpList _ _ _ (Oper.mk _ (.store _ (.tmp 6) (.tmp 14)) _ _ _ _ :: _) _ _); refine wpList_store_blk rfl 47 (.tmp 6) (.tmp 14) rfl (w.heap.size + 1) 0 (row8 M) rfl rfl 47 D0 R4.out (by rw [M32.out, hd0]; exact Nat.le_refl _) (by rw [M32.out]; exact infoS) (row8_one _) ?_; intro w5 b5 g5; rw [splice_all _ _ (by rw [M32.out, hd0])] at b5; have U5 := Lib.hid b5; have W5 := Lib.hid (W4.out.grown g5 W4.out.size (fun g hg => by have := Option.some.inj hg; omega)); clear b5 g5)
    exact bodyPost_ret (results_mid rfl _ _ (w.heap.size + 1) (row8 M) _ rfl U5.out.range Tryz.underlying47 rfl (by rw [M32.out]; exact infoS)) rfl ⟨rfl, W5.out⟩
end Go.Proofs.YtjalknpeecgllaaGreatDoor
end

section
namespace Go.Proofs.YtjalknpeecgllaaGreatDoor
open Go.ChangeShapes Go.WideShapes Go.ChangeAt Go.RowKit
open RT XM AM SM
set_option maxHeartbeats 400000 in
theorem spleaf_any (s : Option Addr) (n : Nat) (w : World) : Calls Tryz.prog 43 #[.pointer s, .int .u32 (n : Int)] w fun e w' => ∃ b0 b1, e = .returned (.func (.func 84) #[] #[.pointer (some ⟨b0, 0, none⟩), .pointer (some ⟨b1, 0, none⟩)]) /\ w.heap.size <= b0 /\ w.heap.size <= b1 /\ Blk w' b0 28 [.pointer s] /\ Blk w' b1 45 [.int .u32 (n : Int)] /\ Below w.heap.size w w' := by
  have B0 := Lib.hid ((Blk.new w 28 [.pointer s] _ rfl).alloc (.cells #[.int .u32 (n : Int)] 45))
  have B1 := Lib.hid (Blk.new (w.alloc (.cells #[.pointer s] 28)) 45 [.int .u32 (n : Int)] (w.heap.size + 1) (by simp))
  have W1 := Lib.hid (((Below.refl w.heap.size w).alloc (Nat.le_refl _) (.cells #[.pointer s] 28)).alloc (by simp) (.cells #[.int .u32 (n : Int)] 45))
  have hmf := fun (fn : Fn) (first cap : Array Value) (w : World) => run_makeFunc fn first cap w
  go_enter Tryz.func43, Tryz.ntmps43
  go_wp2_with fail
  go_ret
  exact ⟨w.heap.size, w.heap.size + 1, rfl, Nat.le_refl _, Nat.le_succ _, B0.out, B1.out, W1.out⟩
set_option maxHeartbeats 400000 in
theorem sppadded_any (s ba : Option Addr) (bl bc : Nat) (w : World) : Calls Tryz.prog 51 #[.pointer s, .slice ba bl bc] w fun e w' => ∃ b0 b1, e = .returned (.func (.func 93) #[] #[.pointer (some ⟨b1, 0, none⟩), .pointer (some ⟨b0, 0, none⟩)]) /\ w.heap.size <= b0 /\ w.heap.size <= b1 /\ Blk w' b0 28 [.pointer s] /\ Blk w' b1 46 [.slice ba bl bc] /\ Below w.heap.size w w' := by
  have B0 := Lib.hid ((Blk.new w 28 [.pointer s] _ rfl).alloc (.cells #[.slice ba bl bc] 46))
  have B1 := Lib.hid (Blk.new (w.alloc (.cells #[.pointer s] 28)) 46 [.slice ba bl bc] (w.heap.size + 1) (by simp))
  have W1 := Lib.hid (((Below.refl w.heap.size w).alloc (Nat.le_refl _) (.cells #[.pointer s] 28)).alloc (by simp) (.cells #[.slice ba bl bc] 46))
  have hmf := fun (fn : Fn) (first cap : Array Value) (w : World) => run_makeFunc fn first cap w
  go_enter Tryz.func51, Tryz.ntmps51
  go_wp2_with fail
  go_ret
  exact ⟨w.heap.size, w.heap.size + 1, rfl, Nat.le_refl _, Nat.le_succ _, B0.out, B1.out, W1.out⟩
set_option maxRecDepth 100000 in
set_option maxHeartbeats 1000000 in
theorem spleaf1_any {Z : Nat -> Prop} {s d : Nat} {p : SP.Sp} (hp : SP.Ok p) (n : Nat) (hn : n < 4294967296) (b : List Nat) (v : Value) (b0 b1 : Nat) (w : World) (h : Spa Z w s d p) (h0 : Blk w b0 28 [.pointer (some ⟨s, 0, none⟩)]) (h1 : Blk w b1 45 [.int .u32 (n : Int)]) (hv : Rd w v b) (ht : TabP w) :
    Calls Tryz.prog 84 #[v, .pointer (some ⟨b0, 0, none⟩), .pointer (some ⟨b1, 0, none⟩)] w fun e w' => e = .returned (.agg (row8 (SP.leaf p n b)).toArray) /\ Below w.heap.size w w' := by
  have HTG := Lib.hid (fun W (hW : Below w.heap.size w W) => (show W.rangeAt s 4 (row8 p.tag) from (h.below hW).tag))
  have HLF := Lib.hid (fun W (hW : Below w.heap.size w W) => (show Calls Tryz.prog 55 #[.agg (row8 p.tag).toArray, .int .u32 (n : Int), v] W fun e w' => e = .returned (.agg (row8 (SP.leaf p n b)).toArray) /\ Below W.heap.size W w' from npleaf_any p.tag hp.tag n hn b v W (hv.below hW) (ht.below hW)))
  have TC32 := Lib.hid (show (row8 p.tag).length = 32 by rw [row8_len]; exact hp.tag.1)
  obtain ⟨TC, hTC⟩ : ∃ x, x = row8 p.tag := ⟨_, rfl⟩
  rw [<- hTC] at HTG HLF TC32
  have LM32 := Lib.hid (show (row8 (SP.leaf p n b)).length = 32 by rw [row8_len]; exact (mac_bytes _ _).1)
  have LM1 := Lib.hid (row8_one (SP.leaf p n b))
  obtain ⟨LM, hLM⟩ : ∃ x, x = row8 (SP.leaf p n b) := ⟨_, rfl⟩
  rw [<- hLM] at HLF LM32 LM1 ⊢
  obtain ⟨D0, hD0⟩ : ∃ D, D = row8 (List.replicate 32 0) := ⟨_, rfl⟩
  have hz : ∀ w, (zeroValue 47).run Tryz.prog w = .ok (.agg D0.toArray) w := by rw [hD0]; exact zeroSmN
  have hd0 : D0.length = 32 := by rw [hD0, row8_len, List.length_replicate]
  obtain ⟨w1, hw1⟩ : ∃ x, x = w.alloc (.cells D0.toArray 47) := ⟨_, rfl⟩
  have W1 := Lib.hid (show Below w.heap.size w w1 by rw [hw1]; exact (Below.refl w.heap.size w).alloc (Nat.le_refl _) (.cells D0.toArray 47))
  have R1 := Lib.hid (show Blk w1 w.heap.size 47 D0 by rw [hw1]; exact Blk.new w 47 D0 _ rfl)
  have HB0 := Lib.hid h0
  have HB1 := Lib.hid h1
  clear hTC hLM hD0 hp h h0 h1 hv ht
  go_enter Tryz.func84, Tryz.ntmps84
  go_upto_region 1 with fail
  rw [<- hw1]
  clear hw1
  refine wp_region_l (by kernel_rfl) 7 (by decide) (by kernel_rfl) (by kernel_rfl) (by kernel_rfl) [.val (.pointer (some ⟨s, 0, none⟩)), .val (.pointer (some ⟨s, 0, none⟩)), .val (.pointer (some ⟨s, 4, none⟩)), .val (.agg TC.toArray), .val (.int .u32 (n : Int)), .val (v), .val (.agg LM.toArray)] ?_ ?_
  . refine ⟨?_, ?_, ?_, ?_, ?_, ?_, ?_, trivial⟩
    . intro a w' hF hB hd
      have e1 : a.eval (.tmp 1) = .pointer (some ⟨b0, 0, none⟩) := hF 1 (by decide +kernel)
      have cc := (HB0.out.below (W1.out.on hB) HB0.out.lt).cell 0 _ rfl
      exact doesL_val rfl (v := .pointer (some ⟨s, 0, none⟩)) (by unfold execOp; simp only [e1]; go_simp) rfl
    . intro a w' hF hB hd
      have e5 : a.eval (.tmp 5) = .pointer (some ⟨s, 0, none⟩) := hd 0 (by decide +kernel)
      exact doesL_val rfl (ex_nilCheck rfl e5) rfl
    . intro a w' hF hB hd
      have e6 : a.eval (.tmp 6) = .pointer (some ⟨s, 0, none⟩) := hd 1 (by decide +kernel)
      exact doesL_val rfl (ex_fieldAddr rfl e6 (by go_simp)) rfl
    . intro a w' hF hB hd
      have e7 : a.eval (.tmp 7) = .pointer (some ⟨s, 4, none⟩) := hd 2 (by decide +kernel)
      exact doesL_val rfl (ex_load_part 23 (.tmp 7) rfl s 4 e7 TC _ (HTG.out _ (W1.out.on hB)) Tryz.underlying23 rfl (by rw [TC32.out]; exact infoKeyP)) rfl
    . intro a w' hF hB hd
      have e2 : a.eval (.tmp 2) = .pointer (some ⟨b1, 0, none⟩) := hF 2 (by decide +kernel)
      have cc := (HB1.out.below (W1.out.on hB) HB1.out.lt).cell 0 _ rfl
      exact doesL_val rfl (v := .int .u32 (n : Int)) (by unfold execOp; simp only [e2]; go_simp) rfl
    . intro a w' hF hB hd
      have e0 : a.eval (.tmp 0) = v := hF 0 (by decide +kernel)
      exact doesL_val rfl (ex_move rfl e0) rfl
    . intro a w' hF hB hd
      have e8 : a.eval (.tmp 8) = .agg TC.toArray := hd 3 (by decide +kernel)
      have e9 : a.eval (.tmp 9) = .int .u32 (n : Int) := hd 4 (by decide +kernel)
      have e10 : a.eval (.tmp 10) = v := hd 5 (by decide +kernel)
      exact doesL_call rfl (ex_call (vs := #[.agg TC.toArray, .int .u32 (n : Int), v]) rfl (by simp only [List.map_toArray, List.map_cons, List.map_nil, e8, e9, e10]) (by go_simp)) ((HLF.out w' (W1.out.on hB)).mono fun e w3 hh => ⟨_, hh.1, rfl, hh.2⟩)
  . intro vs w4 hB hv
    have e11 : vs 6 = .agg LM.toArray := hv 6 (by decide)
    simp only [List.take_succ_cons, List.take_zero, List.drop_succ_cons, List.drop_zero, putOps, Act.put, List.setIfInBounds_toArray, List.set_cons_zero, List.set_cons_succ, e11]
    have W4 := Lib.hid (W1.out.on hB)
    have R4 := Lib.hid (R1.out.below hB R1.out.lt)
    clear hv e11 hB
    generalize vs 0 = z0
    generalize vs 1 = z1
    generalize vs 2 = z2
    generalize vs 3 = z3
    generalize vs 4 = z4
    generalize vs 5 = z5
    go_wp2_with ((with_reducible show wpList _ _ _ (Oper.mk _ (.store _ (.tmp 4) (.tmp 11)) _ _ _ _ :: _) _ _); refine wpList_store_blk rfl 47 (.tmp 4) (.tmp 11) rfl w.heap.size 0 LM rfl rfl 47 D0 R4.out (by rw [LM32.out, hd0]; exact Nat.le_refl _) (by rw [LM32.out]; exact infoS) LM1.out ?_; intro w5 b5 g5; rw [splice_all _ _ (by rw [LM32.out, hd0])] at b5; have U5 := Lib.hid b5; have W5 := Lib.hid (W4.out.grown g5 W4.out.size (fun g hg => by have := Option.some.inj hg; omega)); clear b5 g5)
    exact bodyPost_ret (results_mid rfl _ _ w.heap.size LM _ rfl U5.out.range Tryz.underlying47 rfl (by rw [LM32.out]; exact infoS)) rfl ⟨rfl, W5.out⟩
set_option maxRecDepth 100000 in
theorem pad_long (w : World) (v : Value) (l : List Nat) (n : Int) (h : Rd w v l) (h0 : 0 <= n) (h1 : n <= 65536) (h2 : n < l.length) : Calls Tryz.prog 94 #[v, .int .i64 n] w fun e w' => e = .returned (.tuple #[.slice none 0 0, .int .i64 5]) /\ Below w.heap.size w w' := by
  obtain ⟨ao, cap, rfl, hc⟩ := h.shape
  have hfit := h.fits
  obtain ⟨B, hB⟩ : ∃ B, B = w.heap.size := ⟨_, rfl⟩
  have hb := Below.refl B w
  rw [<- hB]
  go_enter Tryz.func94, Tryz.ntmps94
  go_wp2_with fail
  go_ret2
  exact ⟨rfl, hb⟩
def SP.padE (p : SP.Sp) (b : List Nat) : Int := if b.length <= SP.size p then 0 else 5
def SP.padL (p : SP.Sp) (b : List Nat) : List Nat := if b.length <= SP.size p then padTo b (SP.size p) else []
theorem pad_any (w : World) (v : Value) (b : List Nat) (p : SP.Sp) (hp : SP.Ok p) (h : Rd w v b) : Calls Tryz.prog 94 #[v, .int .i64 (SP.size p : Int)] w fun e w' => ∃ y, e = .returned (.tuple #[y, .int .i64 (SP.padE p b)]) /\ Rd w' y (SP.padL p b) /\ NewB w y /\ Below w.heap.size w w' := by
  have hs : SP.size p <= 1024 := by unfold SP.size; have := hp.per; omega
  unfold SP.padE SP.padL
  by_cases c : b.length <= SP.size p
  . rw [if_pos c, if_pos c]
    exact (pad_ok w v b (SP.size p) h (by omega) c).mono fun e w' ⟨he, ho, hb⟩ => ⟨_, he, ho.rd, fun g hg => (ho.from g hg).1, hb⟩
  . rw [if_neg c, if_neg c]
    exact (pad_long w v b (SP.size p) h (by omega) (by omega) (by omega)).mono fun e w' ⟨he, hb⟩ => ⟨_, he, Rd.none_ _, NewB.none_ _, hb⟩
set_option maxRecDepth 100000 in
set_option maxHeartbeats 1000000 in
theorem sppadded1_any {Z : Nat -> Prop} {s d : Nat} {p : SP.Sp} (hp : SP.Ok p) (b : List Nat) (ba : Option Addr) (bl bc : Nat) (b0 b1 : Nat) (w : World) (h : Spa Z w s d p) (h0 : Blk w b0 28 [.pointer (some ⟨s, 0, none⟩)]) (h1 : Blk w b1 46 [.slice ba bl bc]) (hv : Rd w (.slice ba bl bc) b) :
    Calls Tryz.prog 93 #[.pointer (some ⟨b1, 0, none⟩), .pointer (some ⟨b0, 0, none⟩)] w fun e w' => ∃ y, e = .returned (.tuple #[y, .int .i64 (SP.padE p b)]) /\ Rd w' y (SP.padL p b) /\ NewB w y /\ Below w.heap.size w w' := by
  have HSI := Lib.hid (fun W (hW : Below w.heap.size w W) => (spsize_any hp (h.below hW)).mono fun e w' hh => (show e = .returned (.int .i64 (SP.size p : Int)) /\ Below W.heap.size W w' from ⟨hh.1, by rw [hh.2]; exact Below.refl _ _⟩))
  have HPD := Lib.hid (fun W (hW : Below w.heap.size w W) => pad_any W (.slice ba bl bc) b p hp (hv.below hW))
  obtain ⟨E, hE⟩ : ∃ x, x = SP.padE p b := ⟨_, rfl⟩
  obtain ⟨L, hL⟩ : ∃ x, x = SP.padL p b := ⟨_, rfl⟩
  obtain ⟨SZ, hSZ⟩ : ∃ x, x = SP.size p := ⟨_, rfl⟩
  rw [<- hE, <- hL] at HPD ⊢
  rw [<- hSZ] at HSI HPD
  have HB0 := Lib.hid h0
  have HB1 := Lib.hid h1
  clear hE hL hSZ hp h h0 h1 hv
  go_enter Tryz.func93, Tryz.ntmps93
  go_upto_region 1 with fail
  refine wp_region_l (by kernel_rfl) 7 (by decide) (by kernel_rfl) (by kernel_rfl) (by kernel_rfl) [.val (.slice ba bl bc), .val (.pointer (some ⟨s, 0, none⟩)), .val (.int .i64 (SZ : Int)), ⟨fun v W => ∃ y, v = .tuple #[y, .int .i64 E] /\ Rd W y L /\ NewB w y, fun h k => by obtain ⟨y, e, g, n⟩ := h; exact ⟨y, e, g.below k, n⟩⟩, ⟨fun v W => Rd W v L /\ NewB w v, fun h k => ⟨h.1.below k, h.2⟩⟩, .val (.int .i64 E), ⟨fun v W => Rd W v L /\ NewB w v, fun h k => ⟨h.1.below k, h.2⟩⟩] ?_ ?_
  . refine ⟨?_, ?_, ?_, ?_, ?_, ?_, ?_, trivial⟩
    . intro a w' hF hB hd
      have e0 : a.eval (.tmp 0) = .pointer (some ⟨b1, 0, none⟩) := hF 0 (by decide +kernel)
      have cc := (HB1.out.below hB HB1.out.lt).cell 0 _ rfl
      exact doesL_val rfl (v := .slice ba bl bc) (by unfold execOp; simp only [e0]; go_simp) rfl
    . intro a w' hF hB hd
      have e1 : a.eval (.tmp 1) = .pointer (some ⟨b0, 0, none⟩) := hF 1 (by decide +kernel)
      have cc := (HB0.out.below hB HB0.out.lt).cell 0 _ rfl
      exact doesL_val rfl (v := .pointer (some ⟨s, 0, none⟩)) (by unfold execOp; simp only [e1]; go_simp) rfl
    . intro a w' hF hB hd
      have e5 : a.eval (.tmp 5) = .pointer (some ⟨s, 0, none⟩) := hd 1 (by decide +kernel)
      exact doesL_call rfl (ex_call (vs := #[.pointer (some ⟨s, 0, none⟩)]) rfl (by simp only [List.map_toArray, List.map_cons, List.map_nil, e5]) (by go_simp)) ((HSI.out w' hB).mono fun e w3 hh => ⟨_, hh.1, rfl, hh.2⟩)
    . intro a w' hF hB hd
      have e4 : a.eval (.tmp 4) = .slice ba bl bc := hd 0 (by decide +kernel)
      have e6 : a.eval (.tmp 6) = .int .i64 (SZ : Int) := hd 2 (by decide +kernel)
      exact doesL_call rfl (ex_call (vs := #[.slice ba bl bc, .int .i64 (SZ : Int)]) rfl (by simp only [List.map_toArray, List.map_cons, List.map_nil, e4, e6]) (by go_simp)) ((HPD.out w' hB).mono fun e w3 hh => by obtain ⟨y, he, hr, hn, hb⟩ := hh; exact ⟨_, he, ⟨y, rfl, hr, fun g hg => Nat.le_trans hB.size (hn g hg)⟩, hb⟩)
    . intro a w' hF hB hd
      obtain ⟨y, e7, hy, ny⟩ : ∃ y, a.eval (.tmp 7) = .tuple #[y, .int .i64 E] /\ Rd w' y L /\ NewB w y := hd 3 (by decide +kernel)
      exact doesL_val rfl (v := y) (by unfold execOp; simp only [e7]; rfl) ⟨hy, ny⟩
    . intro a w' hF hB hd
      obtain ⟨y, e7, hy, ny⟩ : ∃ y, a.eval (.tmp 7) = .tuple #[y, .int .i64 E] /\ Rd w' y L /\ NewB w y := hd 3 (by decide +kernel)
      exact doesL_val rfl (v := .int .i64 E) (by unfold execOp; simp only [e7]; rfl) rfl
    . intro a w' hF hB hd
      have e8 : Rd w' (a.eval (.tmp 8)) L /\ NewB w (a.eval (.tmp 8)) := hd 4 (by decide +kernel)
      exact doesL_val rfl (ex_assign rfl rfl) e8
  . intro vs w4 hB hv
    have e9 : vs 5 = .int .i64 E := hv 5 (by decide)
    obtain ⟨r2, n2⟩ : Rd w4 (vs 6) L /\ NewB w (vs 6) := hv 6 (by decide)
    obtain ⟨ya, yc, e2, _⟩ := r2.shape
    rw [e2] at r2 n2
    have R2 := Lib.hid r2
    have N2 := Lib.hid n2
    have W4 := Lib.hid hB
    simp only [List.take_succ_cons, List.take_zero, List.drop_succ_cons, List.drop_zero, putOps, Act.put, List.setIfInBounds_toArray, List.set_cons_zero, List.set_cons_succ, e9, e2]
    clear hv e9 e2 r2 n2 hB
    generalize vs 0 = z0
    generalize vs 1 = z1
    generalize vs 2 = z2
    generalize vs 3 = z3
    generalize vs 4 = z4
    go_wp2_with fail
    go_ret2
    exact ⟨_, rfl, R2.out, N2.out, W4.out⟩
def SP.sealL (p : SP.Sp) (n : Nat) (b : List Nat) : List Nat := if xerr b.length = 0 then SP.sealed p n b else []
set_option maxRecDepth 100000 in
set_option maxHeartbeats 1000000 in
theorem spseal1_any {Z : Nat -> Prop} {s d : Nat} {p : SP.Sp} (hp : SP.Ok p) (n : Nat) (hn : n <= 65535) (b : List Nat) (ba : Option Addr) (bl bc : Nat) (b0 b1 b2 : Nat) (w : World) (h : Spa Z w s d p) (h0 : Blk w b0 28 [.pointer (some ⟨s, 0, none⟩)]) (h1 : Blk w b1 45 [.int .u32 (n : Int)]) (h2 : Blk w b2 46 [.slice ba bl bc]) (hv : Rd w (.slice ba bl bc) b) (ht : TabX w) :
    Calls Tryz.prog 48 #[.pointer (some ⟨b0, 0, none⟩), .pointer (some ⟨b1, 0, none⟩), .pointer (some ⟨b2, 0, none⟩)] w fun e w' => ∃ y, e = .returned (.tuple #[y, .int .i64 (xerr b.length)]) /\ Rd w' y (SP.sealL p n b) /\ NewB w y /\ Below w.heap.size w w' := by
  obtain ⟨x, c0, c2, c3, hx⟩ := h.cells
  have HSE := Lib.hid (fun W (hW : Below w.heap.size w W) => spsector_any hp (h.below hW) n hn)
  have HX3 := Lib.hid (fun W (hW : Below w.heap.size w W) => (show W.cell? ⟨s, 3, none⟩ = some (.pointer (some ⟨x, 0, none⟩)) from (hW.cell (p := ⟨s, 3, none⟩) h.lt).trans c3))
  have HPD := Lib.hid (fun W (hW : Below w.heap.size w W) => xt_sealN x p.one p.two (SP.sect p n) (SP.sect_lt hp hn) (.slice ba bl bc) b W (hv.below hW) (hx.below hW) (ht.below hW))
  obtain ⟨E, hE⟩ : ∃ x, x = xerr b.length := ⟨_, rfl⟩
  obtain ⟨L, hL⟩ : ∃ x, x = SP.sealL p n b := ⟨_, rfl⟩
  have hL2 : (if xerr b.length = 0 then xseal (keys p.one) (keys p.two) (SP.sect p n) b else []) = L := by rw [hL]; rfl
  rw [hL2] at HPD
  obtain ⟨Q, hQ⟩ : ∃ x, x = SP.sect p n := ⟨_, rfl⟩
  rw [<- hE] at HPD
  rw [<- hE, <- hL]
  rw [<- hQ] at HSE HPD
  have HB0 := Lib.hid h0
  have HB1 := Lib.hid h1
  have HB2 := Lib.hid h2
  clear hE hL hL2 hQ hp h h0 h1 h2 hv ht c0 c2 c3 hx hn
  go_enter Tryz.func48, Tryz.ntmps48
  go_upto_region 1 with fail
  refine wp_region_l (by kernel_rfl) 12 (by decide) (by kernel_rfl) (by kernel_rfl) (by kernel_rfl) [.val (.pointer (some ⟨s, 0, none⟩)), .val (.pointer (some ⟨s, 0, none⟩)), .val (.pointer (some ⟨s, 3, none⟩)), .val (.pointer (some ⟨x, 0, none⟩)), .val (.pointer (some ⟨s, 0, none⟩)), .val (.int .u32 (n : Int)), .val (.int .u64 (Q : Int)), .val (.slice ba bl bc), ⟨fun v W => ∃ y, v = .tuple #[y, .int .i64 E] /\ Rd W y L /\ NewB w y, fun h k => by obtain ⟨y, e, g, n⟩ := h; exact ⟨y, e, g.below k, n⟩⟩, ⟨fun v W => Rd W v L /\ NewB w v, fun h k => ⟨h.1.below k, h.2⟩⟩, .val (.int .i64 E), ⟨fun v W => Rd W v L /\ NewB w v, fun h k => ⟨h.1.below k, h.2⟩⟩] ?_ ?_
  . refine ⟨?_, ?_, ?_, ?_, ?_, ?_, ?_, ?_, ?_, ?_, ?_, ?_, trivial⟩
    . intro a w' hF hB hd
      have e0 : a.eval (.tmp 0) = .pointer (some ⟨b0, 0, none⟩) := hF 0 (by decide +kernel)
      have cc := (HB0.out.below hB HB0.out.lt).cell 0 _ rfl
      exact doesL_val rfl (v := .pointer (some ⟨s, 0, none⟩)) (by unfold execOp; simp only [e0]; go_simp) rfl
    . intro a w' hF hB hd
      have e5 : a.eval (.tmp 5) = .pointer (some ⟨s, 0, none⟩) := hd 0 (by decide +kernel)
      exact doesL_val rfl (ex_nilCheck rfl e5) rfl
    . intro a w' hF hB hd
      have e6 : a.eval (.tmp 6) = .pointer (some ⟨s, 0, none⟩) := hd 1 (by decide +kernel)
      exact doesL_val rfl (ex_fieldAddr rfl e6 (by go_simp)) rfl
    . intro a w' hF hB hd
      have e7 : a.eval (.tmp 7) = .pointer (some ⟨s, 3, none⟩) := hd 2 (by decide +kernel)
      have cc := HX3.out w' hB
      exact doesL_val rfl (v := .pointer (some ⟨x, 0, none⟩)) (by unfold execOp; simp only [e7]; go_simp) rfl
    . intro a w' hF hB hd
      have e0 : a.eval (.tmp 0) = .pointer (some ⟨b0, 0, none⟩) := hF 0 (by decide +kernel)
      have cc := (HB0.out.below hB HB0.out.lt).cell 0 _ rfl
      exact doesL_val rfl (v := .pointer (some ⟨s, 0, none⟩)) (by unfold execOp; simp only [e0]; go_simp) rfl
    . intro a w' hF hB hd
      have e1 : a.eval (.tmp 1) = .pointer (some ⟨b1, 0, none⟩) := hF 1 (by decide +kernel)
      have cc := (HB1.out.below hB HB1.out.lt).cell 0 _ rfl
      exact doesL_val rfl (v := .int .u32 (n : Int)) (by unfold execOp; simp only [e1]; go_simp) rfl
    . intro a w' hF hB hd
      have e9 : a.eval (.tmp 9) = .pointer (some ⟨s, 0, none⟩) := hd 4 (by decide +kernel)
      have e10 : a.eval (.tmp 10) = .int .u32 (n : Int) := hd 5 (by decide +kernel)
      exact doesL_call rfl (ex_call (vs := #[.pointer (some ⟨s, 0, none⟩), .int .u32 (n : Int)]) rfl (by simp only [List.map_toArray, List.map_cons, List.map_nil, e9, e10]) (by go_simp)) ((HSE.out w' hB).mono fun e w3 hh => ⟨_, hh.1, rfl, hh.2⟩)
    . intro a w' hF hB hd
      have e2 : a.eval (.tmp 2) = .pointer (some ⟨b2, 0, none⟩) := hF 2 (by decide +kernel)
      have cc := (HB2.out.below hB HB2.out.lt).cell 0 _ rfl
      exact doesL_val rfl (v := .slice ba bl bc) (by unfold execOp; simp only [e2]; go_simp) rfl
    . intro a w' hF hB hd
      have e8 : a.eval (.tmp 8) = .pointer (some ⟨x, 0, none⟩) := hd 3 (by decide +kernel)
      have e11 : a.eval (.tmp 11) = .int .u64 (Q : Int) := hd 6 (by decide +kernel)
      have e12 : a.eval (.tmp 12) = .slice ba bl bc := hd 7 (by decide +kernel)
      exact doesL_call rfl (ex_call (vs := #[.pointer (some ⟨x, 0, none⟩), .int .u64 (Q : Int), .slice ba bl bc]) rfl (by simp only [List.map_toArray, List.map_cons, List.map_nil, e8, e11, e12]) (by go_simp)) ((HPD.out w' hB).mono fun e w3 hh => by obtain ⟨y, he, hr, hn, hb⟩ := hh; exact ⟨_, he, ⟨y, rfl, hr, fun g hg => Nat.le_trans hB.size (hn g hg)⟩, hb⟩)
    . intro a w' hF hB hd
      obtain ⟨y, e13, hy, ny⟩ : ∃ y, a.eval (.tmp 13) = .tuple #[y, .int .i64 E] /\ Rd w' y L /\ NewB w y := hd 8 (by decide +kernel)
      exact doesL_val rfl (v := y) (by unfold execOp; simp only [e13]; rfl) ⟨hy, ny⟩
    . intro a w' hF hB hd
      obtain ⟨y, e13, hy, ny⟩ : ∃ y, a.eval (.tmp 13) = .tuple #[y, .int .i64 E] /\ Rd w' y L /\ NewB w y := hd 8 (by decide +kernel)
      exact doesL_val rfl (v := .int .i64 E) (by unfold execOp; simp only [e13]; rfl) rfl
    . intro a w' hF hB hd
      have e14 : Rd w' (a.eval (.tmp 14)) L /\ NewB w (a.eval (.tmp 14)) := hd 9 (by decide +kernel)
      exact doesL_val rfl (ex_assign rfl rfl) e14
  . intro vs w4 hB hv
    have e15 : vs 10 = .int .i64 E := hv 10 (by decide)
    obtain ⟨r3, n3⟩ : Rd w4 (vs 11) L /\ NewB w (vs 11) := hv 11 (by decide)
    obtain ⟨ya, yc, e3, _⟩ := r3.shape
    rw [e3] at r3 n3
    have R3 := Lib.hid r3
    have N3 := Lib.hid n3
    have W4 := Lib.hid hB
    simp only [List.take_succ_cons, List.take_zero, List.drop_succ_cons, List.drop_zero, putOps, Act.put, List.setIfInBounds_toArray, List.set_cons_zero, List.set_cons_succ, e15, e3]
    clear hv e15 e3 r3 n3 hB
    generalize vs 0 = z0
    generalize vs 1 = z1
    generalize vs 2 = z2
    generalize vs 3 = z3
    generalize vs 4 = z4
    generalize vs 5 = z5
    generalize vs 6 = z6
    generalize vs 7 = z7
    generalize vs 8 = z8
    generalize vs 9 = z9
    go_wp2_with fail
    go_ret2
    exact ⟨_, rfl, R3.out, N3.out, W4.out⟩
end Go.Proofs.YtjalknpeecgllaaGreatDoor
end

section
namespace Go.Proofs.YtjalknpeecgllaaGreatDoor
open Go.ChangeShapes Go.WideShapes Go.ChangeAt Go.RowKit
open DM
structure SJ (w : World) (b0 : Nat) (T : List TypeId) (L : List (List Value)) (W : World) : Prop where
  low : w.heap.size <= b0
  below : Below w.heap.size w W
  len : L.length = T.length
  blk : ∀ i t cs, T[i]? = some t -> L[i]? = some cs -> Blk W (b0 + i) t cs
end Go.Proofs.YtjalknpeecgllaaGreatDoor
end

section
namespace Go.Proofs.YtjalknpeecgllaaGreatDoor
open Go.ChangeShapes Go.WideShapes Go.ChangeAt Go.RowKit
open RT SM
theorem pc_tail (r : Pg) : ∀ (j : Nat) v, (row8 r.sum)[j]? = some v -> (pc r)[1 + j]? = some v := fun j v hv => by
  unfold pc
  rw [Nat.add_comm, List.getElem?_cons_succ]
  exact hv
theorem infoKeySm : (Tryz.prog.info? 23).map (·.size) = some 32 := by kernel_rfl
theorem boxes2s (w : World) (C0 C1 : List Value) : SJ w w.heap.size [23, 49] [C0, C1] ((w.alloc (.cells C0.toArray 23)).alloc (.cells C1.toArray 49)) := by
  refine ⟨Nat.le_refl _, ((Below.refl _ _).alloc (Nat.le_refl _) _).alloc (by simp) _, rfl, fun i t cs h1 h2 => ?_⟩
  match i, h1, h2 with
  | 0, h1, h2 => cases h1; cases h2; exact (Blk.new w 23 C0 _ rfl).alloc _
  | 1, h1, h2 => cases h1; cases h2; exact Blk.new _ 49 C1 _ (by simp)
  | i + 2, h1, h2 => simp at h1
set_option maxRecDepth 100000 in
set_option maxHeartbeats 2000000 in
theorem spsame_any (K : List Nat) (hK : Bytes 32 K) (b : List Nat) (v : Value) (r : Pg) (hr : Pok r) (w : World) (hv : Rd w v b) (ht : TabP w) :
    Calls Tryz.prog 24 #[.agg (row8 K).toArray, v, .agg (pc r).toArray] w fun e w' => e = .returned (.bool (decide (mac (klabel K [116, 97, 103]) ([108, 101, 97, 102] ++ be r.at_ 4 ++ b) = r.sum))) /\ Below w.heap.size w w' := by
  have HT := Lib.hid ht
  have HV := Lib.hid hv
  have b1 : Bytes 32 (klabel K [116, 97, 103]) := sha_bytes _
  have HL1 := Lib.hid (fun W (hW : TabP W) => (show Calls Tryz.prog 40 #[.agg (row8 K).toArray, .string { data := #[116, 97, 103] }] W fun e w' => e = .returned (.agg (row8 (klabel K [116, 97, 103])).toArray) /\ Below W.heap.size W w' from klabel_any K hK { data := #[116, 97, 103] } (by decide) W hW))
  have HLF := Lib.hid (fun W (hv : Rd W v b) (hW : TabP W) => npleaf_any (klabel K [116, 97, 103]) b1 r.at_ hr.1 b v W hv hW)
  have HEQ := Lib.hid (fun W => run_eql_sum (mac_bytes (klabel K [116, 97, 103]) ([108, 101, 97, 102] ++ be r.at_ 4 ++ b)) hr.2 W)
  have HC0 := Lib.hid (show (pc r)[0]? = some (.int .u32 (r.at_ : Int)) from rfl)
  have HSR := Lib.hid (fun W (h : Blk W (w.heap.size + 1) 49 (pc r)) => (show W.rangeAt (w.heap.size + 1) 1 (row8 r.sum) from range_part h 1 _ (pc_tail r)))
  have J1 := Lib.hid (boxes2s w (row8 K) (pc r))
  obtain ⟨EB, hEB⟩ : ∃ x, x = decide (mac (klabel K [116, 97, 103]) ([108, 101, 97, 102] ++ be r.at_ 4 ++ b) = r.sum) := ⟨_, rfl⟩
  rw [<- hEB] at HEQ ⊢
  obtain ⟨LM, hLM⟩ : ∃ x, x = row8 (mac (klabel K [116, 97, 103]) ([108, 101, 97, 102] ++ be r.at_ 4 ++ b)) := ⟨_, rfl⟩
  obtain ⟨TC, hTC⟩ : ∃ x, x = row8 (klabel K [116, 97, 103]) := ⟨_, rfl⟩
  obtain ⟨SMC, hSMC⟩ : ∃ x, x = row8 r.sum := ⟨_, rfl⟩
  obtain ⟨KC, hKC⟩ : ∃ x, x = row8 K := ⟨_, rfl⟩
  obtain ⟨RC, hRC⟩ : ∃ x, x = pc r := ⟨_, rfl⟩
  have KC32 := Lib.hid (show KC.length = 32 by rw [hKC, row8_len]; exact hK.1)
  have SM32 := Lib.hid (show SMC.length = 32 by rw [hSMC, row8_len]; exact hr.2.1)
  rw [<- hTC] at HL1 HLF
  rw [<- hLM] at HLF HEQ
  rw [<- hSMC] at HEQ HSR
  rw [<- hKC] at HL1 J1 ⊢
  rw [<- hRC] at HC0 HSR J1 ⊢
  obtain ⟨at_, hat⟩ : ∃ x, x = r.at_ := ⟨_, rfl⟩
  rw [<- hat] at HLF HC0
  obtain ⟨va, vc, hvs, _⟩ := hv.shape
  obtain ⟨w1, hw1⟩ : ∃ x, x = ((w.alloc (.cells KC.toArray 23)).alloc (.cells RC.toArray 49)) := ⟨_, rfl⟩
  rw [<- hw1] at J1
  clear hEB hLM hTC hSMC hKC hRC hat hK hr hv ht b1 hvs
  go_enter Tryz.func24, Tryz.ntmps24
  go_upto_region 1 with fail
  rw [<- hw1]
  clear hw1
  refine wp_region_l (by kernel_rfl) 9 (by decide) (by kernel_rfl) (by kernel_rfl) (by kernel_rfl) [.val (.agg KC.toArray), .val (.agg TC.toArray), .val (.pointer (some ⟨(w.heap.size + 1), 0, none⟩)), .val (.int .u32 (at_ : Int)), .val (v), .val (.agg LM.toArray), .val (.pointer (some ⟨(w.heap.size + 1), 1, none⟩)), .val (.agg SMC.toArray), .val (.bool EB)] ?_ ?_
  . refine ⟨?_, ?_, ?_, ?_, ?_, ?_, ?_, ?_, ?_, trivial⟩
    . intro a w' hF hB hd
      have e3 : a.eval (.tmp 3) = .pointer (some ⟨w.heap.size, 0, none⟩) := hF 3 (by decide +kernel)
      exact doesL_val rfl (ex_load_part 23 (.tmp 3) rfl w.heap.size 0 e3 KC _ (((J1.out.blk 0 _ _ rfl rfl).below hB (J1.out.blk 0 _ _ rfl rfl).lt).range) Tryz.underlying23 rfl (by rw [KC32.out]; exact infoKeySm)) rfl
    . intro a w' hF hB hd
      have e7 : a.eval (.tmp 7) = .agg KC.toArray := hd 0 (by decide +kernel)
      exact doesL_call rfl (ex_call (vs := #[.agg KC.toArray, .string { data := #[116, 97, 103] }]) rfl (by simp only [List.map_toArray, List.map_cons, List.map_nil, e7]; rfl) (by go_simp)) ((HL1.out w' (HT.out.below (J1.out.below.on hB))).mono fun e w3 hh => ⟨_, hh.1, rfl, hh.2⟩)
    . intro a w' hF hB hd
      have e5 : a.eval (.tmp 5) = .pointer (some ⟨(w.heap.size + 1), 0, none⟩) := hF 5 (by decide +kernel)
      exact doesL_val rfl (ex_fieldAddr rfl e5 (by go_simp)) rfl
    . intro a w' hF hB hd
      have e9 : a.eval (.tmp 9) = .pointer (some ⟨(w.heap.size + 1), 0, none⟩) := hd 2 (by decide +kernel)
      have cc := ((J1.out.blk 1 _ _ rfl rfl).below hB (J1.out.blk 1 _ _ rfl rfl).lt).cell 0 _ HC0.out
      exact doesL_val rfl (v := .int .u32 (at_ : Int)) (by unfold execOp; simp only [e9]; go_simp) rfl
    . intro a w' hF hB hd
      have e1 : a.eval (.tmp 1) = v := hF 1 (by decide +kernel)
      exact doesL_val rfl (ex_move rfl e1) rfl
    . intro a w' hF hB hd
      have e8 : a.eval (.tmp 8) = .agg TC.toArray := hd 1 (by decide +kernel)
      have e10 : a.eval (.tmp 10) = .int .u32 (at_ : Int) := hd 3 (by decide +kernel)
      have e11 : a.eval (.tmp 11) = v := hd 4 (by decide +kernel)
      exact doesL_call rfl (ex_call (vs := #[.agg TC.toArray, .int .u32 (at_ : Int), v]) rfl (by simp only [List.map_toArray, List.map_cons, List.map_nil, e8, e10, e11]) (by go_simp)) ((HLF.out w' (HV.out.below (J1.out.below.on hB)) (HT.out.below (J1.out.below.on hB))).mono fun e w3 hh => ⟨_, hh.1, rfl, hh.2⟩)
    . intro a w' hF hB hd
      have e5 : a.eval (.tmp 5) = .pointer (some ⟨(w.heap.size + 1), 0, none⟩) := hF 5 (by decide +kernel)
      exact doesL_val rfl (ex_fieldAddr rfl e5 (by go_simp)) rfl
    . intro a w' hF hB hd
      have e13 : a.eval (.tmp 13) = .pointer (some ⟨(w.heap.size + 1), 1, none⟩) := hd 6 (by decide +kernel)
      exact doesL_val rfl (ex_load_part 47 (.tmp 13) rfl (w.heap.size + 1) 1 e13 SMC _ (HSR.out _ ((J1.out.blk 1 _ _ rfl rfl).below hB (J1.out.blk 1 _ _ rfl rfl).lt)) Tryz.underlying47 rfl (by rw [SM32.out]; exact infoSmP)) rfl
    . intro a w' hF hB hd
      have e12 : a.eval (.tmp 12) = .agg LM.toArray := hd 5 (by decide +kernel)
      have e14 : a.eval (.tmp 14) = .agg SMC.toArray := hd 7 (by decide +kernel)
      exact doesL_val rfl (ex_binOp rfl e12 e14 (run_eqGuard_agg _ _ _ _ _ _ _ eqTypeS) (HEQ.out _)) rfl
  . intro vs w4 hB hv
    have e15 : vs 8 = .bool EB := hv 8 (by decide)
    simp only [List.take_succ_cons, List.take_zero, List.drop_succ_cons, List.drop_zero, putOps, Act.put, List.setIfInBounds_toArray, List.set_cons_zero, List.set_cons_succ, e15]
    have W4 := Lib.hid (J1.out.below.on hB)
    clear hv e15 hB J1
    generalize vs 0 = z0
    generalize vs 1 = z1
    generalize vs 2 = z2
    generalize vs 3 = z3
    generalize vs 4 = z4
    generalize vs 5 = z5
    generalize vs 6 = z6
    generalize vs 7 = z7
    go_wp2_with fail
    go_ret
    exact ⟨rfl, W4.out⟩
end Go.Proofs.YtjalknpeecgllaaGreatDoor
end

section
namespace Go.Proofs.YtjalknpeecgllaaGreatDoor
open Go.ChangeShapes Go.WideShapes Go.ChangeAt Go.RowKit
open RT XM AM SM
def SP.seen (p : SP.Sp) (S : DM.DS) (r : Pg) (m : List Nat) : List Nat × Int := if (SP.raw p S r).2 ≠ 0 then ([], (SP.raw p S r).2) else if m ≠ r.sum then ([], 40) else ((SP.raw p S r).1, 0)
theorem told_zero {e : Int} : SP.told e = 0 ↔ e = 0 := by
  unfold SP.told
  split
  . rename_i h; subst h; exact ⟨fun q => absurd q (by decide), fun q => absurd q (by decide)⟩
  . exact Iff.rfl
set_option maxRecDepth 100000 in
set_option maxHeartbeats 4000000 in
theorem spcread_any {Z : Nat -> Prop} {s d : Nat} {p : SP.Sp} (hp : SP.Ok p) (B : Nat) (A : Nat -> Prop) (S : DM.DS) (w : World) (hd : Dev B A w d S) (ht : Tame S) (h : Spa Z w s d p) (r : Pg) (hr : Pok r) (G : FuncId) (gs : Array Value) (fm : List Nat) (hf : Bytes 32 fm)
    (hG : ∀ v W, (callFunc G (#[v] ++ gs)).run Tryz.prog W = .ok (.enter G (#[v] ++ gs)) W)
    (hS : 1 <= r.at_ -> r.at_ <= 65536 -> ∀ W v, Below w.heap.size w W -> Rd W v (SP.raw p S r).1 -> Calls Tryz.prog G (#[v] ++ gs) W fun e W' => e = .returned (.agg (row8 fm).toArray) /\ Below W.heap.size W W') :
    Calls Tryz.prog 42 #[.pointer (some ⟨s, 0, none⟩), .agg (pc r).toArray, .func (.func G) #[] gs] w fun e w' => ∃ y, e = .returned (.tuple #[y, .int .i64 (SP.seen p S r fm).2]) /\ Own w' w.heap.size y (SP.seen p S r fm).1 /\ Below w.heap.size w w' := by
  have HA0 := Lib.hid (show (pc r)[0]? = some (.int .u32 (r.at_ : Int)) from rfl)
  have HSR := Lib.hid (fun W (h : Blk W w.heap.size 49 (pc r)) => (show W.rangeAt w.heap.size 1 (row8 r.sum) from range_part h 1 _ (pc_tail r)))
  have hat := hr.1
  obtain ⟨w1, hw1⟩ : ∃ x, x = w.alloc (.cells (pc r).toArray 49) := ⟨_, rfl⟩
  have W1 := Lib.hid (show Below w.heap.size w w1 by rw [hw1]; exact (Below.refl w.heap.size w).alloc (Nat.le_refl _) (.cells (pc r).toArray 49))
  have R1 := Lib.hid (show Blk w1 w.heap.size 49 (pc r) by rw [hw1]; exact Blk.new w 49 (pc r) _ rfl)
  unfold SP.seen
  by_cases hat0 : r.at_ = 0
  . have hraw : SP.raw p S r = ([], 2) := by unfold SP.raw; rw [if_pos (.inl hat0)]
    rw [hraw, if_pos (by decide)]
    have c0 := R1.out.cell 0 _ HA0.out
    rw [hat0] at c0
    obtain ⟨RC, hRC⟩ : ∃ x, x = pc r := ⟨_, rfl⟩
    rw [<- hRC] at hw1 ⊢
    clear hRC hr hS hG hf h ht hd hp HSR HA0 hraw hat R1 hat0
    go_enter Tryz.func42, Tryz.ntmps42
    go_upto_region 1 with fail
    rw [<- hw1]
    clear hw1
    go_wp2_with fail
    go_ret2
    exact ⟨_, rfl, Own.none_ _ _, W1.out⟩
  by_cases hat6 : 65536 < r.at_
  . have hraw : SP.raw p S r = ([], 2) := by unfold SP.raw; rw [if_pos (.inr hat6)]
    rw [hraw, if_pos (by decide)]
    have c0 := R1.out.cell 0 _ HA0.out
    have hz0 : ((r.at_ : Int) == 0) = false := by rw [beq_eq_false_iff_ne]; omega
    have hz1 : (65536 : Int) < (r.at_ : Int) := by omega
    have hne : ¬ (r.at_ : Int) = 0 := by omega
    obtain ⟨RC, hRC⟩ : ∃ x, x = pc r := ⟨_, rfl⟩
    rw [<- hRC] at hw1 ⊢
    clear hRC hr hS hG hf h ht hd hp HSR HA0 hraw hat R1 hat0
    go_enter Tryz.func42, Tryz.ntmps42
    go_upto_region 1 with fail
    rw [<- hw1]
    clear hw1
    go_wp2_with fail
    go_ret2
    exact ⟨_, rfl, Own.none_ _ _, W1.out⟩
  obtain ⟨m, hm⟩ : ∃ m, r.at_ = m + 1 := ⟨r.at_ - 1, by omega⟩
  have hm5 : m <= 65535 := by omega
  have hraw : SP.raw p S r = ((DM.read S (SP.place p m) (SP.size p)).1, SP.told (DM.read S (SP.place p m) (SP.size p)).2) := by
    unfold SP.raw
    rw [if_neg (by omega), show r.at_ - 1 = m by omega]
  rw [hraw] at hS ⊢
  simp only at hS ⊢
  have hpl := SP.place_le hp hm5
  have hsz : SP.size p <= 1024 := by unfold SP.size; have := hp.per; omega
  have HP := Lib.hid (fun W => suplace_any (p.cl : Int) (p.per : Int) m (by omega) W)
  rw [SP.su_place hp hm5] at HP
  have HC0 := Lib.hid (fun W (hW : Below w1.heap.size w1 W) => (show W.cell? ⟨s, 0, none⟩ = some (.pointer (some ⟨d, 0, none⟩)) by obtain ⟨x, c0, _⟩ := (h.below (W1.out.on hW)).cells; exact c0))
  have HGC := Lib.hid (fun W (hW : Below w1.heap.size w1 W) => (h.below (W1.out.on hW)).geo)
  have HSI := Lib.hid (fun W (hW : Below w1.heap.size w1 W) => (spsize_any hp (h.below (W1.out.on hW))).mono fun e w' hh => (show e = .returned (.int .i64 (SP.size p : Int)) /\ Below W.heap.size W w' from ⟨hh.1, by rw [hh.2]; exact Below.refl _ _⟩))
  have HRD := Lib.hid (fun W (hW : Below w1.heap.size w1 W) => dev_read B A d S W (hd.below (W1.out.on hW)) ht (SP.place p m : Int) (SP.size p : Int) ⟨by omega, by omega⟩ ⟨by omega, by omega⟩)
  have HS := Lib.hid (hS (by omega) (by omega))
  have HG := Lib.hid hG
  have HWM := Lib.hid (show IntKind.u32.wrap (((m + 1 : Nat) : Int) - 1) = (m : Int) by rw [IntKind.wrap_u32]; omega)
  have HNQ := Lib.hid (fun W => run_neq_sum hf hr.2 W)
  have SM32 := Lib.hid (show (row8 r.sum).length = 32 by rw [row8_len]; exact hr.2.1)
  obtain ⟨NB, hNB⟩ : ∃ x : Bool, x = !decide (fm = r.sum) := ⟨_, rfl⟩
  have HNT := Lib.hid (show NB = true -> fm ≠ r.sum from fun h q => by rw [hNB, decide_eq_true q] at h; cases h)
  have HNF := Lib.hid (show NB = false -> ¬ fm ≠ r.sum from fun h q => by rw [hNB, decide_eq_false q] at h; cases h)
  rw [<- hNB] at HNQ
  obtain ⟨SMC, hSMC⟩ : ∃ x, x = row8 r.sum := ⟨_, rfl⟩
  rw [<- hSMC] at HSR HNQ SM32
  obtain ⟨FM, hFM⟩ : ∃ x, x = row8 fm := ⟨_, rfl⟩
  rw [<- hFM] at HS HNQ
  obtain ⟨RB, hRB⟩ : ∃ x, x = (DM.read S (SP.place p m) (SP.size p)).1 := ⟨_, rfl⟩
  obtain ⟨E1, hE1⟩ : ∃ x, x = (DM.read S (SP.place p m) (SP.size p)).2 := ⟨_, rfl⟩
  rw [<- hRB] at HRD HS ⊢
  rw [<- hE1] at HRD ⊢
  obtain ⟨PL, hPL⟩ : ∃ x, x = SP.place p m := ⟨_, rfl⟩
  obtain ⟨SZ, hSZ⟩ : ∃ x, x = SP.size p := ⟨_, rfl⟩
  rw [<- hPL] at HP HRD hpl
  rw [<- hSZ] at HSI HRD hsz
  obtain ⟨GC, hGC⟩ : ∃ x, x = [Value.int .i64 (p.cl : Int), .int .i64 (p.per : Int)] := ⟨_, rfl⟩
  have GC2 := Lib.hid (show GC.length = 2 by rw [hGC]; rfl)
  rw [<- hGC] at HGC
  rw [show (#[Value.int .i64 (p.cl : Int), .int .i64 (p.per : Int)] : Array Value) = GC.toArray by rw [hGC]] at HP
  obtain ⟨at_, hat_⟩ : ∃ x, x = r.at_ := ⟨_, rfl⟩
  have c0 := R1.out.cell 0 _ HA0.out
  rw [<- hat_] at HA0 hat0 hat6 hm hat c0
  have hz0 : ((at_ : Int) == 0) = false := by rw [beq_eq_false_iff_ne]; omega
  have hne : ¬ (at_ : Int) = 0 := by omega
  have hz1 : ¬ (65536 : Int) < (at_ : Int) := by omega
  rw [<- hm] at HWM
  obtain ⟨PR, hPR⟩ : ∃ x : List Nat × Int, x = (if SP.told E1 ≠ 0 then ([], SP.told E1) else if fm ≠ r.sum then ([], 40) else (RB, 0)) := ⟨_, rfl⟩
  rw [<- hPR]
  have HPR := Lib.hid hPR
  obtain ⟨RC, hRC⟩ : ∃ x, x = pc r := ⟨_, rfl⟩
  rw [<- hRC] at HA0 R1 HSR hw1 ⊢
  have HD := Lib.hid (Below.refl w1.heap.size w1)
  clear hRC hPR hat_ hGC hSZ hPL hE1 hRB hFM hSMC hNB hraw hr hS hG hf h ht hd hp hm5 hm hat0 hat6
  go_enter Tryz.func42, Tryz.ntmps42
  go_upto_region 1 with fail
  rw [<- hw1]
  clear hw1
  go_upto_region 5 with fail
  refine wp_region_l (by kernel_rfl) 19 (by decide) (by kernel_rfl) (by kernel_rfl) (by kernel_rfl) [.val (.pointer (some ⟨s, 0, none⟩)), .val (.pointer (some ⟨s, 0, none⟩)), .val (.pointer (some ⟨s, 0, none⟩)), .val (.pointer (some ⟨d, 0, none⟩)), .val (.pointer (some ⟨s, 0, none⟩)), .val (.pointer (some ⟨s, 0, none⟩)), .val (.pointer (some ⟨s, 1, none⟩)), .val (.agg GC.toArray), .val (.pointer (some ⟨w.heap.size, 0, none⟩)), .val (.int .u32 (at_ : Int)), .val (.int .u32 (m : Int)), .val (.int .i64 (PL : Int)), .val (.pointer (some ⟨s, 0, none⟩)), .val (.int .i64 (SZ : Int)), ⟨fun v W => ∃ y, v = .tuple #[y, .int .i64 E1] /\ Own W w.heap.size y RB, fun h k => by obtain ⟨y, e, g⟩ := h; exact ⟨y, e, g.below k⟩⟩, ⟨fun v W => ∃ y, v = .tuple #[y, .int .i64 E1] /\ Own W w.heap.size y RB, fun h k => by obtain ⟨y, e, g⟩ := h; exact ⟨y, e, g.below k⟩⟩, ⟨fun v W => Own W w.heap.size v RB, fun h k => h.below k⟩, .val (.int .i64 E1), ⟨fun v W => Own W w.heap.size v RB, fun h k => h.below k⟩] ?_ ?_
  . refine ⟨?_, ?_, ?_, ?_, ?_, ?_, ?_, ?_, ?_, ?_, ?_, ?_, ?_, ?_, ?_, ?_, ?_, ?_, ?_, trivial⟩
    . intro a w' hF hB hd
      have e0 : a.eval (.tmp 0) = .pointer (some ⟨s, 0, none⟩) := hF 0 (by decide +kernel)
      exact doesL_val rfl (ex_move rfl e0) rfl
    . intro a w' hF hB hd
      have e23 : a.eval (.tmp 23) = .pointer (some ⟨s, 0, none⟩) := hd 0 (by decide +kernel)
      exact doesL_val rfl (ex_nilCheck rfl e23) rfl
    . intro a w' hF hB hd
      have e24 : a.eval (.tmp 24) = .pointer (some ⟨s, 0, none⟩) := hd 1 (by decide +kernel)
      exact doesL_val rfl (ex_fieldAddr rfl e24 (by go_simp)) rfl
    . intro a w' hF hB hd
      have e25 : a.eval (.tmp 25) = .pointer (some ⟨s, 0, none⟩) := hd 2 (by decide +kernel)
      have cc := HC0.out w' hB
      exact doesL_val rfl (v := .pointer (some ⟨d, 0, none⟩)) (by unfold execOp; simp only [e25]; go_simp) rfl
    . intro a w' hF hB hd
      have e0 : a.eval (.tmp 0) = .pointer (some ⟨s, 0, none⟩) := hF 0 (by decide +kernel)
      exact doesL_val rfl (ex_move rfl e0) rfl
    . intro a w' hF hB hd
      have e27 : a.eval (.tmp 27) = .pointer (some ⟨s, 0, none⟩) := hd 4 (by decide +kernel)
      exact doesL_val rfl (ex_nilCheck rfl e27) rfl
    . intro a w' hF hB hd
      have e28 : a.eval (.tmp 28) = .pointer (some ⟨s, 0, none⟩) := hd 5 (by decide +kernel)
      exact doesL_val rfl (ex_fieldAddr rfl e28 (by go_simp)) rfl
    . intro a w' hF hB hd
      have e29 : a.eval (.tmp 29) = .pointer (some ⟨s, 1, none⟩) := hd 6 (by decide +kernel)
      exact doesL_val rfl (ex_load_part 33 (.tmp 29) rfl s 1 e29 GC _ (HGC.out w' hB) Tryz.underlying33 rfl (by rw [GC2.out]; exact infoGeoP)) rfl
    . intro a w' hF hB hd
      have e4 : a.eval (.tmp 4) = .pointer (some ⟨w.heap.size, 0, none⟩) := hF 4 (by decide +kernel)
      exact doesL_val rfl (ex_fieldAddr rfl e4 (by go_simp)) rfl
    . intro a w' hF hB hd
      have e31 : a.eval (.tmp 31) = .pointer (some ⟨w.heap.size, 0, none⟩) := hd 8 (by decide +kernel)
      have cc := (R1.out.below hB R1.out.lt).cell 0 _ HA0.out
      exact doesL_val rfl (v := .int .u32 (at_ : Int)) (by unfold execOp; simp only [e31]; go_simp) rfl
    . intro a w' hF hB hd
      have e32 : a.eval (.tmp 32) = .int .u32 (at_ : Int) := hd 9 (by decide +kernel)
      exact doesL_val rfl (ex_binOp rfl e32 rfl (by go_simp) (by have hwm := HWM.out; go_simp)) rfl
    . intro a w' hF hB hd
      have e30 : a.eval (.tmp 30) = .agg GC.toArray := hd 7 (by decide +kernel)
      have e33 : a.eval (.tmp 33) = .int .u32 (m : Int) := hd 10 (by decide +kernel)
      exact doesL_call rfl (ex_call (vs := #[.agg GC.toArray, .int .u32 (m : Int)]) rfl (by simp only [List.map_toArray, List.map_cons, List.map_nil, e30, e33]) (by go_simp)) ((HP.out w').mono fun e w3 hh => ⟨_, hh.1, rfl, hh.2⟩)
    . intro a w' hF hB hd
      have e0 : a.eval (.tmp 0) = .pointer (some ⟨s, 0, none⟩) := hF 0 (by decide +kernel)
      exact doesL_val rfl (ex_move rfl e0) rfl
    . intro a w' hF hB hd
      have e35 : a.eval (.tmp 35) = .pointer (some ⟨s, 0, none⟩) := hd 12 (by decide +kernel)
      exact doesL_call rfl (ex_call (vs := #[.pointer (some ⟨s, 0, none⟩)]) rfl (by simp only [List.map_toArray, List.map_cons, List.map_nil, e35]) (by go_simp)) ((HSI.out w' hB).mono fun e w3 hh => ⟨_, hh.1, rfl, hh.2⟩)
    . intro a w' hF hB hd
      have e26 : a.eval (.tmp 26) = .pointer (some ⟨d, 0, none⟩) := hd 3 (by decide +kernel)
      have e34 : a.eval (.tmp 34) = .int .i64 (PL : Int) := hd 11 (by decide +kernel)
      have e36 : a.eval (.tmp 36) = .int .i64 (SZ : Int) := hd 13 (by decide +kernel)
      exact doesL_call rfl (ex_call (vs := #[.pointer (some ⟨d, 0, none⟩), .int .i64 (PL : Int), .int .i64 (SZ : Int)]) rfl (by simp only [List.map_toArray, List.map_cons, List.map_nil, e26, e34, e36]) (by go_simp)) ((HRD.out w' hB).mono fun e w3 hh => by obtain ⟨y, he, ho, hb⟩ := hh; exact ⟨_, he, ⟨y, rfl, ho.lower (Nat.le_trans (Nat.le_of_lt R1.out.lt) hB.size)⟩, hb⟩)
    . intro a w' hF hB hd
      obtain ⟨y, e37, hy⟩ : ∃ y, a.eval (.tmp 37) = .tuple #[y, .int .i64 E1] /\ Own w' w.heap.size y RB := hd 14 (by decide +kernel)
      exact doesL_val rfl (ex_move rfl e37) ⟨y, rfl, hy⟩
    . intro a w' hF hB hd
      obtain ⟨y, e22, hy⟩ : ∃ y, a.eval (.tmp 22) = .tuple #[y, .int .i64 E1] /\ Own w' w.heap.size y RB := hd 15 (by decide +kernel)
      exact doesL_val rfl (v := y) (by unfold execOp; simp only [e22]; rfl) hy
    . intro a w' hF hB hd
      obtain ⟨y, e22, hy⟩ : ∃ y, a.eval (.tmp 22) = .tuple #[y, .int .i64 E1] /\ Own w' w.heap.size y RB := hd 15 (by decide +kernel)
      exact doesL_val rfl (v := .int .i64 E1) (by unfold execOp; simp only [e22]; rfl) rfl
    . intro a w' hF hB hd
      have e38 : Own w' w.heap.size (a.eval (.tmp 38)) RB := hd 16 (by decide +kernel)
      exact doesL_val rfl (ex_assign rfl rfl) e38
  . intro vs w4 hB hv
    have e39 : vs 17 = .int .i64 E1 := hv 17 (by decide)
    have o8 : Own w4 w.heap.size (vs 18) RB := hv 18 (by decide)
    obtain ⟨ya, yc, e8, _⟩ := o8.rd.shape
    rw [e8] at o8
    have O4 := Lib.hid o8
    simp only [List.take_succ_cons, List.take_zero, List.drop_succ_cons, List.drop_zero, putOps, Act.put, List.setIfInBounds_toArray, List.set_cons_zero, List.set_cons_succ, e39, e8]
    have W4 := Lib.hid (W1.out.on hB)
    have R4 := Lib.hid (R1.out.below hB R1.out.lt)
    clear hv e39 e8 o8 hB c0
    generalize vs 0 = z0
    generalize vs 1 = z1
    generalize vs 2 = z2
    generalize vs 3 = z3
    generalize vs 4 = z4
    generalize vs 5 = z5
    generalize vs 6 = z6
    generalize vs 7 = z7
    generalize vs 8 = z8
    generalize vs 9 = z9
    generalize vs 10 = z10
    generalize vs 11 = z11
    generalize vs 12 = z12
    generalize vs 13 = z13
    generalize vs 14 = z14
    generalize vs 15 = z15
    generalize vs 16 = z16
    by_cases hE : E1 = 0
    . subst hE
      have HPT := Lib.hid (show NB = true -> PR = ([], 40) from fun h => by rw [HPR.out, if_neg (by decide), if_pos (HNT.out h)])
      have HPF := Lib.hid (show NB = false -> PR = (RB, 0) from fun h => by rw [HPR.out, if_neg (by decide), if_neg (HNF.out h)])
      clear HPR HNT HNF
      go_upto_region 8 with fail
      refine wp_region_l (by kernel_rfl) 6 (by decide) (by kernel_rfl) (by kernel_rfl) (by kernel_rfl) [.val (.func (.func G) #[] gs), .val (.slice ya RB.length yc), .val (.agg FM.toArray), .val (.pointer (some ⟨w.heap.size, 1, none⟩)), .val (.agg SMC.toArray), .val (.bool NB)] ?_ ?_
      . refine ⟨?_, ?_, ?_, ?_, ?_, ?_, trivial⟩
        . intro a w' hF hB hd
          have e2 : a.eval (.tmp 2) = .func (.func G) #[] gs := hF 2 (by decide +kernel)
          exact doesL_val rfl (ex_move rfl e2) rfl
        . intro a w' hF hB hd
          have e8 : a.eval (.tmp 8) = .slice ya RB.length yc := hF 8 (by decide +kernel)
          exact doesL_val rfl (ex_move rfl e8) rfl
        . intro a w' hF hB hd
          have e46 : a.eval (.tmp 46) = .func (.func G) #[] gs := hd 0 (by decide +kernel)
          have e47 : a.eval (.tmp 47) = .slice ya RB.length yc := hd 1 (by decide +kernel)
          exact doesL_call rfl (ex_call_cl (vs := #[.slice ya RB.length yc]) rfl e46 (by simp only [List.map_toArray, List.map_cons, List.map_nil, e47]) (HG.out _ _)) ((HS.out w' _ (W4.out.on hB) (O4.out.rd.below hB)).mono fun e w3 hh => ⟨_, hh.1, rfl, hh.2⟩)
        . intro a w' hF hB hd
          have e4 : a.eval (.tmp 4) = .pointer (some ⟨w.heap.size, 0, none⟩) := hF 4 (by decide +kernel)
          exact doesL_val rfl (ex_fieldAddr rfl e4 (by go_simp)) rfl
        . intro a w' hF hB hd
          have e49 : a.eval (.tmp 49) = .pointer (some ⟨w.heap.size, 1, none⟩) := hd 3 (by decide +kernel)
          exact doesL_val rfl (ex_load_part 47 (.tmp 49) rfl w.heap.size 1 e49 SMC _ (HSR.out _ (R4.out.below hB R4.out.lt)) Tryz.underlying47 rfl (by rw [SM32.out]; exact infoS)) rfl
        . intro a w' hF hB hd
          have e48 : a.eval (.tmp 48) = .agg FM.toArray := hd 2 (by decide +kernel)
          have e50 : a.eval (.tmp 50) = .agg SMC.toArray := hd 4 (by decide +kernel)
          exact doesL_val rfl (ex_binOp rfl e48 e50 (run_eqGuard_agg _ _ _ _ _ _ _ eqTypeS) (HNQ.out _)) rfl
      . intro vs w5 hB hv
        have e51 : vs 5 = .bool NB := hv 5 (by decide)
        simp only [List.take_succ_cons, List.take_zero, List.drop_succ_cons, List.drop_zero, putOps, Act.put, List.setIfInBounds_toArray, List.set_cons_zero, List.set_cons_succ, e51]
        have O5 := Lib.hid (O4.out.below hB)
        have W5 := Lib.hid (W4.out.on hB)
        clear hv e51 hB
        generalize vs 0 = y0
        generalize vs 1 = y1
        generalize vs 2 = y2
        generalize vs 3 = y3
        generalize vs 4 = y4
        cases NB with
        | true =>
          go_wp2_with fail
          go_ret2
          exact ⟨.slice none 0 0, by rw [HPT.out (by first | trivial | rfl)]; rfl, by rw [HPT.out (by first | trivial | rfl)]; exact Own.none_ _ _, W5.out⟩
        | false =>
          go_wp2_with fail
          go_ret2
          exact ⟨.slice ya RB.length yc, by rw [HPF.out (by first | trivial | rfl)]; rfl, by rw [HPF.out (by first | trivial | rfl)]; exact O5.out, W5.out⟩
    . have hEb : (E1 == 0) = false := by rw [beq_eq_false_iff_ne]; exact hE
      have HPE := Lib.hid (show PR = ([], SP.told E1) by rw [HPR.out, if_pos (fun q => hE (told_zero.1 q))])
      have HFA := Lib.hid (fun W => spfaulted_any E1 W)
      obtain ⟨TE, hTE⟩ : ∃ x, x = SP.told E1 := ⟨_, rfl⟩
      rw [<- hTE] at HFA HPE
      clear HPR HNT HNF hTE
      go_wp2_with (go_at_call 83; (with_reducible refine (HFA.out _).mono ?_); rintro e w5 ⟨rfl, rfl⟩)
      go_ret2
      exact ⟨.slice none 0 0, by rw [HPE.out]; rfl, by rw [HPE.out]; exact Own.none_ _ _, W4.out⟩
end Go.Proofs.YtjalknpeecgllaaGreatDoor
end

section
namespace Go.Proofs.YtjalknpeecgllaaGreatDoor
open Go.ChangeShapes Go.WideShapes Go.ChangeAt Go.RowKit
open DM
def SP.beg : DS := DM.load (DM.new 32768) (List.replicate 16384 0)
theorem SP.beg_ok : DM.Ok SP.beg := (DM.Ok.new 32768).load _ (bytes_zero 16384).2
theorem SP.beg_eq : SP.beg = { DM.new 32768 with seen := List.replicate 16384 0, safe := List.replicate 16384 0, loose := [] } := by
  unfold SP.beg DM.load
  rw [if_neg (by rw [List.length_replicate]; exact (by decide : ¬ (DM.new 32768).most < 16384))]
theorem SP.beg_tame : Tame SP.beg := by
  refine ⟨SP.beg_ok, ?_, ?_, ?_⟩
  . rw [SP.beg_eq]; exact Nat.zero_le _
  . rw [SP.beg_eq]; exact Nat.zero_le _
  . rw [SP.beg_eq]; show 0 <= _; omega
theorem SP.beg_seen : SP.beg.seen = List.replicate 16384 0 := by rw [SP.beg_eq]
theorem SP.beg_most : SP.beg.most = 32768 := by rw [SP.beg_eq]; exact (by decide : (DM.new 32768).most = 32768)
theorem Dev.less {B : Nat} {A A' : Nat -> Prop} {w : World} {d : Nat} {S : DS} (h : Dev B A w d S) (k : ∀ i, A' i -> A i) : Dev B A' w d S := by
  obtain ⟨F, R, hd, h1, h2, h3, h4⟩ := h
  exact ⟨F, R, hd, h1, fun i hi q => h2 i hi (k i q), fun i q => h3 i (k i q), h4⟩
set_option maxHeartbeats 1000000 in
theorem begun_any (B : Nat) (w : World) (hB : B <= w.heap.size) : Calls Tryz.prog 13 #[] w fun e w' => ∃ d, e = .returned (.pointer (some ⟨d, 0, none⟩)) /\ Dev B (fun k => B <= k /\ k < w.heap.size) w' d SP.beg /\ Below w.heap.size w w' := by
  have HN := Lib.hid (dev_new 32768 ⟨by decide, by decide⟩ B w hB)
  have HT := Lib.hid (⟨Ok.new 32768, Nat.zero_le _, Nat.zero_le _, by show 0 <= _; omega⟩ : Tame (DM.new 32768))
  have HB := Lib.hid hB
  obtain ⟨S, hS⟩ : ∃ S, S = SP.beg := ⟨_, rfl⟩
  have HS := Lib.hid hS
  rw [<- hS]
  obtain ⟨S0, hS0⟩ : ∃ S, S = DM.new 32768 := ⟨_, rfl⟩
  rw [<- hS0] at HN HT
  have HL := Lib.hid (show S = DM.load S0 (List.replicate 16384 0) by rw [hS, hS0]; rfl)
  clear hS hS0 hB
  go_enter Tryz.func13, Tryz.ntmps13
  go_wp2_with (first
    | (go_at_call 41; (with_reducible refine HN.out.mono ?_); rintro e w1 ⟨d, rfl, hd, b1⟩; have D1 := Lib.hid hd; have B1 := Lib.hid b1; clear hd b1)
    | (refine wpList_make_bytes rfl _ _ rfl w1.heap.size 16384 (by decide) rfl rfl (Nat.le_refl _) ?_; intro w2 o2 b2; have O2 := Lib.hid o2; have B2 := Lib.hid b2; have D2 := Lib.hid (D1.out.own b2); have N2 := Lib.hid (World.block_lt_of_cell? w2 _ (o2.cell (by rw [List.length_replicate]) 0 (by rw [List.length_replicate]; decide))); clear o2 b2)
    | (go_at_call 23; (refine (dev_load B _ d S0 _ D2.out HT.out _ _ O2.out.rd (fun _ g hg => by obtain rfl := Option.some.inj hg; exact .inr (.inr ⟨Nat.le_refl _, N2.out⟩))).mono ?_); rintro e w3 ⟨rfl, hd, hk⟩; have D3 := Lib.hid hd; have K3 := Lib.hid hk; clear hd hk))
  go_ret
  have b12 := B1.out.on B2.out
  refine ⟨d, rfl, by rw [HL.out]; exact D3.out.less (fun k hk => .inl hk), K3.out.os.trans b12.os, K3.out.tape.trans b12.tape, K3.out.output.trans b12.output, Nat.le_trans b12.size K3.out.size, fun k hk => (K3.out.block k (Nat.lt_of_lt_of_le hk b12.size) ?_).trans (b12.block k hk)⟩
  rcases Nat.lt_or_ge k B with q | q
  . exact .inl q
  . exact .inr (.inl ⟨q, hk⟩)
end Go.Proofs.YtjalknpeecgllaaGreatDoor
end
