/- A sector sealed and opened, as the document does it: contracts. Own work. -/
import Derived.Test.YtmidbmihadhgdaaDoorXtsBlocks
import Derived.Test.YtmidbmihadhgdaaDoorXtsTw
import Derived.Test.YtmidbmihadhgdaaDoorXtsWith
import Derived.Test.YtmidbmihadhgdaaDoorFillTo
namespace Go.Proofs.YtmidbmihadhgdaaDoor
open Go.ChangeShapes Go.WideShapes Go.ChangeAt Go.RowKit
open AM FM XM
theorem Own.none_ (w : World) (B : Nat) : Own w B (.slice none 0 0) [] := ⟨⟨rfl, .inl ⟨rfl, rfl⟩⟩, fun k => by rw [gb_nil]; omega, by simp⟩
set_option maxRecDepth 100000 in
set_option maxHeartbeats 4000000 in
theorem xsec_seal (KA KB : List Nat) (hA : Bytes 240 KA) (hB : Bytes 240 KB) (n : Nat) (hn : n < 2 ^ 64) (v : Value) (b : List Nat) (hbl : b.length = 512) (w : World) (hv : Rd w v b) (ht : TabA w) :
    Calls Tryd.prog 30 #[.agg (row8 (KA ++ KB)).toArray, .int .u64 (n : Int), v, .bool false] w fun e w' => ∃ y, e = .returned y ∧ Own w' w.heap.size y (sec false (rk KA) (rk KB) n b) ∧ Below w.heap.size w w' := by
  obtain ⟨ab, cb, rfl, hcb⟩ := hv.shape
  obtain ⟨ad, had, _⟩ := hv.at_ 0 (by omega)
  subst had
  have hbb := hv.byte
  have hk : ∀ m, Bytes 16 (rk KB m) := fun m => rk_bytes hB.2 m
  have hka : ∀ m, Bytes 16 (rk KA m) := fun m => rk_bytes hA.2 m
  obtain ⟨X, hX⟩ : ∃ X, X = KA ++ KB := ⟨_, rfl⟩
  have X480 := Lib.hid (show (row8 X).length = 480 by rw [hX, row8_len, List.length_append, hA.1, hB.1])
  have HPL := Lib.hid (fun j v h => (show (row8 X)[0 + j]? = some v by rw [hX]; exact part_left j v h))
  have HTWC := Lib.hid (fun W (hW : Below w.heap.size w W) => xtweaks_any KA KB hA hB n hn W (ht.below hW))
  obtain ⟨TW, hTW⟩ : ∃ t, t = twf (rk KB) n 32 := ⟨_, rfl⟩
  rw [← hX] at HTWC ⊢
  rw [← hTW] at HTWC
  have TW512 := Lib.hid (show (row8 TW).length = 512 by rw [hTW, row8_len, twf_len])
  have HTP := Lib.hid (fun i (hi : i < 32) j v (h : (row8 (tweak (rk KB) n i))[j]? = some v) => (show (row8 TW)[i * 16 + j]? = some v by rw [Nat.mul_comm, hTW]; exact twf_part hk n 32 i hi (by omega) j v h))
  obtain ⟨C0, hC0⟩ : ∃ C0, C0 = row8 (List.replicate 512 0) := ⟨_, rfl⟩
  have hzt : ∀ w, (zeroValue 70).run Tryd.prog w = .ok (.agg C0.toArray) w := by rw [hC0]; exact zero512
  have hc0 : C0.length = 512 := by rw [hC0, row8_len, List.length_replicate]
  obtain ⟨D0, hD0⟩ : ∃ D0, D0 = row8 (List.replicate 16 0) := ⟨_, rfl⟩
  have hz : ∀ w, (zeroValue 35).run Tryd.prog w = .ok (.agg D0.toArray) w := by rw [hD0]; exact zero16
  have hd0 : D0.length = 16 := by rw [hD0, row8_len, List.length_replicate]
  have w1 := (Below.refl w.heap.size w).alloc (Nat.le_refl _) (.cells (row8 X).toArray 38)
  have X1 := Lib.hid (Blk.new w 38 (row8 X) _ rfl)
  have B1 := Lib.hid w1
  have HV := Lib.hid (fun W (hW : Below w.heap.size w W) => hv.below hW)
  have HT := Lib.hid ht
  have HK := Lib.hid hk
  have HKA := Lib.hid hka
  have HA := Lib.hid hA
  have HBB := Lib.hid hbb
  have HBL := Lib.hid hbl
  have HD := Lib.hid hD0
  have HTW := Lib.hid hTW
  have K240 := Lib.hid (show (row8 KA).length = 240 by rw [row8_len]; exact hA.1)
  rw [hbl] at hcb ⊢
  clear hC0 hD0 w1 hv ht hk hka hA hB hbb hbl hX hTW hn
  go_enter Tryd.func30, Tryd.ntmps30
  go_upto_region 4 with (first
    | (refine wpList_load_mid rfl 38 (.tmp 4) rfl w.heap.size 0 rfl (row8 X) _ X1.out.range Tryd.underlying38 rfl (by rw [X480.out]; exact info480) ?_)
    | (go_at_call 40; (with_reducible refine (HTWC.out _ B1.out).mono ?_); rintro e w4 ⟨rfl, b4⟩; have X4 := Lib.hid (X1.out.below b4 X1.out.lt); have B4 := Lib.hid (B1.out.on b4); clear b4)
    | (refine wpList_store_blk rfl 70 (.tmp 9) (.tmp 19) rfl w4.heap.size 0 (row8 TW) rfl rfl 70 C0 (Blk.new w4 70 C0 _ rfl) (by rw [TW512.out, hc0]; exact Nat.le_refl _) (by rw [TW512.out]; exact info512) (row8_one _) ?_; intro w5 b5 g5; rw [splice_all _ _ (by rw [TW512.out, hc0])] at b5; have T5 := Lib.hid b5; have B5 := Lib.hid ((B4.out.alloc B4.out.size (.cells C0.toArray 70)).grown g5 (by have := B4.out.size; simp; omega) (fun k hk => by have e : w4.heap.size = k := Option.some.inj hk; have := B4.out.size; omega)); have X5 := Lib.hid ((X4.out.alloc (.cells C0.toArray 70)).grown g5 (fun q => by have e : w.heap.size = w4.heap.size := Option.some.inj q; have := X4.out.lt; omega)); clear b5 g5))
  obtain ⟨tb, htb⟩ : ∃ b, b = w4.heap.size := ⟨_, rfl⟩
  have htl : w.heap.size < tb := by rw [htb]; exact X4.out.lt
  rw [← htb] at T5 ⊢
  clear htb X1 B1 X4 B4 HTWC
  go_loopw [10, 11] (fun x i wr => ∃ k : Nat, k ≤ 32 ∧ i = .int .i64 (k : Int) ∧ Rows16 wr w.heap.size x k (bw (fun q x => ax x (tweak (rk KB) n q)) b k) ∧ (∀ g, x.ownBlock = some g → g ≠ w.heap.size ∧ g ≠ tb) ∧ Blk wr w.heap.size 38 (row8 X) ∧ Blk wr tb 70 (row8 TW) ∧ Below w.heap.size w wr) (fun _ i _ => 32 - (intOf i).toNat)
  case atStart => exact ⟨0, by omega, rfl, rows_nil _ _, fun g h => by (try cases h), X5.out, T5.out, B5.out⟩
  case round =>
    clear X5 T5 B5
    obtain ⟨k, hk, rfl, l0, a0, x0, t0, b0⟩ := hrel
    obtain ⟨lo, lc, hls, hlc⟩ := l0.shape
    subst hls
    by_cases hlt : k < 32
    · have hltI : (k : Int) < 32 := by omega
      obtain ⟨cq, hcq⟩ : ∃ c, c = wr.heap.size := ⟨_, rfl⟩
      have hcl : tb < cq := by rw [hcq]; exact t0.lt
      have L1 := Lib.hid (l0.below ((Below.refl _ _).alloc (Nat.le_refl _) (.cells D0.toArray 35)))
      have A1 := Lib.hid (show ∀ g, (Value.slice lo k lc).ownBlock = some g → g ≠ w.heap.size ∧ g ≠ tb ∧ g < cq from fun g hg => ⟨(a0 g hg).1, (a0 g hg).2, by rw [hcq]; exact (l0.from g hg).2⟩)
      have X1 := Lib.hid (x0.alloc (.cells D0.toArray 35))
      have T1 := Lib.hid (t0.alloc (.cells D0.toArray 35))
      have B1 := Lib.hid (b0.alloc b0.size (.cells D0.toArray 35))
      have N1 := Lib.hid (Blk.new wr 35 D0 cq hcq)
      have HCQ := Lib.hid hcq
      clear l0 a0 x0 t0 b0 hcq
      go_upto_region 8 with (fail)
      rw [← HCQ.out]
      go_loopw [13] (fun x wq => ∃ j : Nat, j ≤ 16 ∧ x = .int .i64 (j : Int) ∧ Rows16 wq w.heap.size (.slice lo k lc) k (bw (fun q x => ax x (tweak (rk KB) n q)) b k) ∧ Blk wq w.heap.size 38 (row8 X) ∧ Blk wq tb 70 (row8 TW) ∧ Blk wq cq 35 (row8 (fillTo (fun j => gb b (16 * k + j)) 16 j)) ∧ Below w.heap.size w wq) (fun x _ => 16 - (intOf x).toNat)
      case atStart => exact ⟨0, by omega, rfl, L1.out, X1.out, T1.out, by rw [fillTo_zero, ← HD.out]; exact N1.out, B1.out⟩
      case round =>
        clear L1 X1 T1 N1 B1
        obtain ⟨j, hj, rfl, l1, x1, t1, n1, b1⟩ := hrel
        by_cases hj16 : j < 16
        · have hjI : (j : Int) < 16 := by omega
          obtain ⟨ad', had', d⟩ := (HV.out wr b1).at_ (16 * k + j) (by rw [HBL.out]; omega)
          injection had' with had'
          subst had'
          obtain ⟨y, hy⟩ : ∃ y, y = gb b (16 * k + j) := ⟨_, rfl⟩
          have ly : y < 256 := by rw [hy]; exact HBB.out _
          rw [← hy] at d
          have c1 := n1.cell j _ (row8_val _ j (by rw [fillTo_len]; exact hj16))
          have f1 := n1.free j
          have HST := Lib.hid (show (fillTo (fun j => gb b (16 * k + j)) 16 j).set j y = fillTo (fun j => gb b (16 * k + j)) 16 (j + 1) by rw [hy]; exact fillTo_step (fun j => gb b (16 * k + j)) 16 j hj16)
          have q0 : (0 : Int) ≤ 16 * (k : Int) + (j : Int) := by omega
          have q1 : 16 * (k : Int) + (j : Int) < 512 := by omega
          have q2 : (16 * (k : Int) + (j : Int)).toNat = 16 * k + j := by omega
          have L2 := Lib.hid l1
          have X2 := Lib.hid x1
          have T2 := Lib.hid t1
          have N2 := Lib.hid n1
          have B2 := Lib.hid b1
          clear l1 x1 t1 n1 b1 hy
          go_wp2_with fail
          have nt := N2.out.set j (.int .u8 (y : Int))
          rw [row8_set, HST.out] at nt
          have gw := only_set (World.grownBy.refl wr (some cq)) (p := ⟨cq, j, none⟩) (.inl rfl) (.int .u8 (y : Int))
          exact ⟨⟨j + 1, by omega, by go_num, L2.out.keep gw (by
            cases e : (Value.slice lo k lc).ownBlock with
            | none => exact .inl rfl
            | some g => refine .inr fun q => ?_; injection q with q; have := (A1.out g e).2.2; omega), X2.out.other ⟨cq, j, none⟩ _ (by simp <;> omega), T2.out.other ⟨cq, j, none⟩ _ (by simp <;> omega), nt, B2.out.setCell (p := ⟨cq, j, none⟩) (by simp <;> omega) _⟩, by simp [intOf]; omega⟩
        · obtain rfl : j = 16 := by omega
          obtain ⟨D, hD⟩ : ∃ D, D = blk b k := ⟨_, rfl⟩
          have bD : Bytes 16 D := by rw [hD]; exact blk_bytes HBB.out k (by rw [HBL.out]; omega)
          rw [fillTo_all, show (List.range 16).map (fun j => gb b (16 * k + j)) = D from bytes_ext (n := 16) (by simp) bD.1 fun j hj => by
            rw [gb_map, if_pos hj, hD]; unfold blk; rw [gb_take _ _ _ hj, gb_drop]] at n1
          obtain ⟨E, hE⟩ : ∃ E, E = tweak (rk KB) n k := ⟨_, rfl⟩
          have bE : Bytes 16 E := by rw [hE]; exact tweak_bytes HK.out n k
          obtain ⟨M, hM⟩ : ∃ M, M = ax D E := ⟨_, rfl⟩
          have bM : Bytes 16 M := by rw [hM]; exact ax_bytes bD bE
          have HBW := Lib.hid (show bw (fun q x => ax x (tweak (rk KB) n q)) b k ++ M = bw (fun q x => ax x (tweak (rk KB) n q)) b (k + 1) by rw [hM, hD, hE]; rfl)
          have HW := Lib.hid (fun W => xwith_any D E bD bE W)
          rw [← hM] at HW
          have D16 := Lib.hid (show (row8 D).length = 16 by rw [row8_len]; exact bD.1)
          have E16 := Lib.hid (show (row8 E).length = 16 by rw [row8_len]; exact bE.1)
          have M16 := Lib.hid bM.1
          have HTE := Lib.hid (fun j v (h : (row8 E)[j]? = some v) => HTP.out k hlt j v (by rw [← hE]; exact h))
          have L2 := Lib.hid l1
          have X2 := Lib.hid x1
          have T2 := Lib.hid t1
          have N2 := Lib.hid n1
          have B2 := Lib.hid b1
          clear l1 x1 t1 n1 b1 hD bD hE bE hM bM
          go_upto_region 11 with (fail)
          refine wp_region_g (by kernel_rfl) 7 (by decide) (by kernel_rfl) (by kernel_rfl) (by kernel_rfl) wr.heap.size (Nat.le_refl _) [.val (.slice lo k lc), .val (.agg (row8 D).toArray), .val (.int .i64 (k : Int)), .val (.pointer (some ⟨tb, k * 16, none⟩)), .val (.agg (row8 E).toArray), .val (.agg (row8 M).toArray), .one16 M] (fun _ => 9) ?_ ?_
          · refine ⟨?_, ?_, ?_, ?_, ?_, ?_, ?_, trivial⟩
            · intro a w' hF hB hd
              have e10 : a.eval (.tmp 10) = .slice lo k lc := hF 10 (by decide +kernel)
              exact doesG_val rfl (ex_move rfl e10) rfl rfl
            · intro a w' hF hB hd
              have e12 : a.eval (.tmp 12) = .pointer (some ⟨cq, 0, none⟩) := hF 12 (by decide +kernel)
              exact doesG_wp rfl rfl fun K' hK' => wp_load_mid 35 (.tmp 12) rfl cq 0 e12 (row8 D) _ (N2.out.below hB N2.out.lt).range Tryd.underlying35 rfl (by rw [D16.out]; exact info16) (hK' _ _ rfl (Below.refl _ _))
            · intro a w' hF hB hd
              have e11 : a.eval (.tmp 11) = .int .i64 (k : Int) := hF 11 (by decide +kernel)
              exact doesG_val rfl (ex_move rfl e11) rfl rfl
            · intro a w' hF hB hd
              have e9 : a.eval (.tmp 9) = .pointer (some ⟨tb, 0, none⟩) := hF 9 (by decide +kernel)
              have e39 : a.eval (.tmp 39) = .int .i64 (k : Int) := hd 2 (by decide +kernel) (.inr (by decide))
              exact doesG_val rfl (v := .pointer (some ⟨tb, k * 16, none⟩)) (by unfold execOp; simp only [e9, e39]; go_simp) rfl rfl
            · intro a w' hF hB hd
              have e40 : a.eval (.tmp 40) = .pointer (some ⟨tb, k * 16, none⟩) := hd 3 (by decide +kernel) (.inr (by decide))
              exact doesG_wp rfl rfl fun K' hK' => wp_load_mid 35 (.tmp 40) rfl tb (k * 16) e40 (row8 E) _ (range_part (T2.out.below hB T2.out.lt) (k * 16) _ HTE.out) Tryd.underlying35 rfl (by rw [E16.out]; exact info16) (hK' _ _ rfl (Below.refl _ _))
            · intro a w' hF hB hd
              have e38 : a.eval (.tmp 38) = .agg (row8 D).toArray := hd 1 (by decide +kernel) (.inr (by decide))
              have e41 : a.eval (.tmp 41) = .agg (row8 E).toArray := hd 4 (by decide +kernel) (.inr (by decide))
              exact doesG_call rfl (ex_call (vs := #[.agg (row8 D).toArray, .agg (row8 E).toArray]) rfl (by simp only [List.map_toArray, List.map_cons, List.map_nil, e38, e41]) (by go_simp)) rfl ((HW.out w').mono fun e w2 hh => ⟨_, hh.1, rfl, hh.2⟩)
            · intro a w' hF hB hd
              have e42 : a.eval (.tmp 42) = .agg (row8 M).toArray := hd 5 (by decide +kernel) (.inr (by decide))
              exact doesG_one16 rfl 42 M M16.out rfl e42 hB.size rfl
          · intro vs w6 hB hv hap
            have e37 : vs 0 = .slice lo k lc := hv 0 (by decide) (by decide)
            obtain ⟨og, e43, hog, o6⟩ : (Pred.one16 (B := wr.heap.size) M).holds (vs 6) w6 := hv 6 (by decide) (by decide)
            simp only [List.take_succ_cons, List.take_zero, List.drop_succ_cons, List.drop_zero, putOps, Act.put, List.setIfInBounds_toArray, List.set_cons_zero, List.set_cons_succ, e37, e43]
            have L6 := Lib.hid (L2.out.below hB)
            have X6 := Lib.hid (X2.out.below hB X2.out.lt)
            have T6 := Lib.hid (T2.out.below hB T2.out.lt)
            have B6 := Lib.hid (B2.out.on hB)
            have O6 := Lib.hid o6
            clear hv hap e37 e43 hB L2 X2 T2 N2 B2 o6 hog
            generalize vs 1 = v1 at *
            generalize vs 2 = v2 at *
            generalize vs 3 = v3 at *
            generalize vs 4 = v4 at *
            generalize vs 5 = v5 at *
            go_wp2_with ((with_reducible show wpList _ _ _ _ _ _); refine wpList_rows_app rfl (.tmp 37) (.tmp 43) rfl w.heap.size (.slice lo k lc) k (bw (fun q x => ax x (tweak (rk KB) n q)) b k) M og rfl rfl L6.out M16.out O6.out (by omega) B6.out.size ?_; intro v' w7 x7 g7 h7; rw [HBW.out] at x7; have L7 := Lib.hid x7; have A7 := Lib.hid (show ∀ g, v'.ownBlock = some g → g ≠ w.heap.size ∧ g ≠ tb from fun q hq => by (rcases h7 with h7 | h7 <;> rw [h7] at hq); exact ⟨(A1.out q hq).1, (A1.out q hq).2.1⟩; have e : w6.heap.size = q := Option.some.inj hq; have h1 := X6.out.lt; have h2 := T6.out.lt; omega); have X7 := Lib.hid (X6.out.grown g7 (fun q => (A1.out _ q.symm).1 rfl)); have T7 := Lib.hid (T6.out.grown g7 (fun q => (A1.out _ q.symm).2.1 rfl)); have B7 := Lib.hid (B6.out.grown g7 B6.out.size (fun q hq => (L6.out.from q hq).1)); clear x7 g7 h7)
            exact ⟨⟨k + 1, by omega, by go_num, L7.out, A7.out, X7.out, T7.out, B7.out⟩, by simp [intOf]; omega⟩
    · have hltI : ¬ (k : Int) < 32 := by omega
      obtain rfl : k = 32 := by omega
      obtain ⟨g, lc', hsl, _, hBg, hgl, _⟩ := l0.at_ (by decide)
      injection hsl with hs1 _ hs3
      subst hs1
      subst hs3
      obtain ⟨L, hL⟩ : ∃ L, L = bw (fun q x => ax x (tweak (rk KB) n q)) b 32 := ⟨_, rfl⟩
      have hLb : ∀ q, gb L q < 256 := by rw [hL]; exact bw_byte 32 fun q hq => ax_bytes (blk_bytes HBB.out q (by rw [HBL.out]; omega)) (tweak_bytes HK.out n q)
      rw [← hL] at l0
      have HFN := Lib.hid (show bw (fun q x => ax (enc (rk KA) x) (tweak (rk KB) n q)) L 32 = sec false (rk KA) (rk KB) n b by rw [hL]; exact sec_seal n b)
      have HL6 := Lib.hid (fun W (hW : Below wr.heap.size wr W) => (l0.below hW).cells (by decide))
      have HLN := Lib.hid l0.len
      have LB := Lib.hid hLb
      have X6 := Lib.hid x0
      have T6 := Lib.hid t0
      have B6 := Lib.hid b0
      obtain ⟨w6, hw6⟩ : ∃ W, W = wr := ⟨_, rfl⟩
      rw [← hw6] at HL6 X6 T6 B6
      have HW6 := Lib.hid hw6
      clear l0 a0 x0 t0 b0 hL hLb hw6
      go_upto_region 16 with (fail)
      rw [← HW6.out]
      go_loopw [14, 15] (fun x i wr => ∃ k : Nat, k ≤ 32 ∧ i = .int .i64 (k : Int) ∧ Own wr w6.heap.size x (bw (fun q x => ax (enc (rk KA) x) (tweak (rk KB) n q)) L k) ∧ Blk wr w.heap.size 38 (row8 X) ∧ Blk wr tb 70 (row8 TW) ∧ Below w6.heap.size w6 wr) (fun _ i _ => 32 - (intOf i).toNat)
      case atStart => exact ⟨0, by omega, rfl, Own.none_ _ _, X6.out, T6.out, Below.refl _ _⟩
      case round =>
        have HX6 := Lib.hid X6.out.lt
        have HT6 := Lib.hid T6.out.lt
        clear X6 T6 hltI hlt hk
        obtain ⟨k, hk, rfl, y0, x0, t0, b0⟩ := hrel
        obtain ⟨yo, yc, hys, hyc⟩ := y0.rd.shape
        have hyl : (bw (fun q x => ax (enc (rk KA) x) (tweak (rk KB) n q)) L k).length = 16 * k := bw_len k fun q _ => row_len _
        rw [hyl] at hys hyc
        subst hys
        by_cases hlt : k < 32
        · have hltI : (k : Int) < 32 := by omega
          obtain ⟨D, hD⟩ : ∃ D, D = blk L k := ⟨_, rfl⟩
          have bD : Bytes 16 D := by rw [hD]; exact blk_bytes LB.out k (by rw [HLN.out]; omega)
          obtain ⟨E, hE⟩ : ∃ E, E = tweak (rk KB) n k := ⟨_, rfl⟩
          have bE : Bytes 16 E := by rw [hE]; exact tweak_bytes HK.out n k
          obtain ⟨F, hF⟩ : ∃ F, F = enc (rk KA) D := ⟨_, rfl⟩
          have bF : Bytes 16 F := by rw [hF]; exact enc_bytes HKA.out _
          obtain ⟨M, hM⟩ : ∃ M, M = ax F E := ⟨_, rfl⟩
          have bM : Bytes 16 M := by rw [hM]; exact ax_bytes bF bE
          have HBW := Lib.hid (show bw (fun q x => ax (enc (rk KA) x) (tweak (rk KB) n q)) L k ++ M = bw (fun q x => ax (enc (rk KA) x) (tweak (rk KB) n q)) L (k + 1) by rw [hM, hF, hD, hE]; rfl)
          have HW := Lib.hid (fun W => xwith_any F E bF bE W)
          rw [← hM] at HW
          have D16 := Lib.hid (show (row8 D).length = 16 by rw [row8_len]; exact bD.1)
          have E16 := Lib.hid (show (row8 E).length = 16 by rw [row8_len]; exact bE.1)
          have F16 := Lib.hid (show (row8 F).length = 16 by rw [row8_len]; exact bF.1)
          have M16 := Lib.hid (show (row8 M).length = 16 by rw [row8_len]; exact bM.1)
          have HBM := Lib.hid bM
          have HTE := Lib.hid (fun j v (h : (row8 E)[j]? = some v) => HTP.out k hlt j v (by rw [← hE]; exact h))
          have HRG := Lib.hid (fun j u (h : (row8 D)[j]? = some u) => (show wr.cell? ⟨g, k * 16 + j, none⟩ = some u from HL6.out wr b0 _ u (blk_part k j u (by rw [← hD]; exact h))))
          have HYL := Lib.hid hyl
          have HYF := Lib.hid (fun q (hq : (Value.slice yo (16 * k) yc).ownBlock = some q) => (show w6.heap.size ≤ q ∧ q < wr.heap.size from y0.from q hq))
          have Y1 := Lib.hid y0
          have X1 := Lib.hid x0
          have T1 := Lib.hid t0
          have B1 := Lib.hid b0
          have HEN := Lib.hid (fun W (hW : Below w6.heap.size w6 W) => aenc_any KA HA.out D bD W (HT.out.below (B6.out.on hW)))
          rw [← hF] at HEN
          clear hD bD hE bE bF hM bM hyl y0 x0 t0 b0 hF
          obtain ⟨cq, hcq⟩ : ∃ c, c = wr.heap.size := ⟨_, rfl⟩
          have N1 := Lib.hid (Blk.new wr 35 D0 cq hcq)
          have HCQ := Lib.hid hcq
          have HC6 := Lib.hid (show w6.heap.size ≤ cq by rw [hcq]; exact B1.out.size)
          clear hcq
          go_upto_region 21 with (first
            | (refine wpList_load_mid rfl 35 (.tmp 56) rfl g (k * 16) rfl (row8 D) _ (fun j u h => HRG.out j u h) Tryd.underlying35 rfl (by rw [D16.out]; exact info16) ?_)
            | (refine wpList_store_blk rfl 35 (.tmp 16) (.tmp 57) rfl wr.heap.size 0 (row8 D) rfl rfl 35 D0 (by rw [← HCQ.out]; exact N1.out) (by rw [D16.out, hd0]; exact Nat.le_refl _) (by rw [D16.out]; exact info16) (row8_one _) ?_; intro w7 b7 g7; rw [← HCQ.out] at b7 g7; rw [splice_all _ _ (by rw [D16.out, hd0])] at b7; have N7 := Lib.hid b7; have Y7 := Lib.hid ((Y1.out.alloc (.cells D0.toArray 35)).keep g7 (by
                cases e : (Value.slice yo (16 * k) yc).ownBlock with
                | none => exact .inl rfl
                | some q => refine .inr fun q2 => ?_; injection q2 with q2; have := (HYF.out q e).2; have := HCQ.out; omega)); have X7 := Lib.hid ((X1.out.alloc (.cells D0.toArray 35)).grown g7 (fun q => by have e : w.heap.size = cq := Option.some.inj q; have := HCQ.out; have := X1.out.lt; omega)); have T7 := Lib.hid ((T1.out.alloc (.cells D0.toArray 35)).grown g7 (fun q => by have e : tb = cq := Option.some.inj q; have := HCQ.out; have := T1.out.lt; omega)); have B7 := Lib.hid ((B1.out.alloc B1.out.size (.cells D0.toArray 35)).grown g7 (by have := B1.out.size; simp; omega) (fun q hq => by have e : cq = q := Option.some.inj hq; have := HC6.out; omega)); clear b7 g7)
            | (refine wpList_load_mid rfl 36 (.tmp 60) rfl w.heap.size 0 rfl (row8 KA) _ (range_part X7.out 0 _ HPL.out) Tryd.underlying36 rfl (by rw [K240.out]; exact info240) ?_)
            | (refine wpList_load_mid rfl 35 (.tmp 16) rfl cq 0 (by rw [HCQ.out]; rfl) (row8 D) _ N7.out.range Tryd.underlying35 rfl (by rw [D16.out]; exact info16) ?_)
            | (go_at_call 43; (with_reducible refine (HEN.out _ B7.out).mono ?_); rintro e w8 ⟨rfl, b8⟩; have N8 := Lib.hid (N7.out.below b8 N7.out.lt); have Y8 := Lib.hid (Y7.out.below b8); have X8 := Lib.hid (X7.out.below b8 X7.out.lt); have T8 := Lib.hid (T7.out.below b8 T7.out.lt); have B8 := Lib.hid (B7.out.on b8); clear b8)
            | (refine wpList_store_blk rfl 35 (.tmp 16) (.tmp 63) rfl cq 0 (row8 F) (by rw [HCQ.out]; rfl) rfl 35 (row8 D) N8.out (by rw [D16.out, F16.out]; exact Nat.le_refl _) (by rw [F16.out]; exact info16) (row8_one _) ?_; intro w9 b9 g9; rw [splice_all _ _ (by rw [D16.out, F16.out])] at b9; have N9 := Lib.hid b9; have Y9 := Lib.hid (Y8.out.keep g9 (by
                cases e : (Value.slice yo (16 * k) yc).ownBlock with
                | none => exact .inl rfl
                | some q => refine .inr fun q2 => ?_; injection q2 with q2; have := (HYF.out q e).2; have := HCQ.out; omega)); have X9 := Lib.hid (X8.out.grown g9 (fun q => by have e : w.heap.size = cq := Option.some.inj q; have := HCQ.out; have := X1.out.lt; omega)); have T9 := Lib.hid (T8.out.grown g9 (fun q => by have e : tb = cq := Option.some.inj q; have := HCQ.out; have := T1.out.lt; omega)); have B9 := Lib.hid (B8.out.grown g9 B8.out.size (fun q hq => by have e : cq = q := Option.some.inj hq; have := HC6.out; omega)); clear b9 g9))
          rw [← HCQ.out]
          refine wp_region_g (by kernel_rfl) 5 (by decide) (by kernel_rfl) (by kernel_rfl) (by kernel_rfl) w9.heap.size (Nat.le_refl _) [.val (.agg (row8 F).toArray), .val (.int .i64 (k : Int)), .val (.pointer (some ⟨tb, k * 16, none⟩)), .val (.agg (row8 E).toArray), .val (.agg (row8 M).toArray)] (fun _ => 6) ?_ ?_
          · refine ⟨?_, ?_, ?_, ?_, ?_, trivial⟩
            · intro a w' hF hB hd
              have e16 : a.eval (.tmp 16) = .pointer (some ⟨cq, 0, none⟩) := hF 16 (by decide +kernel)
              exact doesG_wp rfl rfl fun K' hK' => wp_load_mid 35 (.tmp 16) rfl cq 0 e16 (row8 F) _ (N9.out.below hB N9.out.lt).range Tryd.underlying35 rfl (by rw [F16.out]; exact info16) (hK' _ _ rfl (Below.refl _ _))
            · intro a w' hF hB hd
              have e15 : a.eval (.tmp 15) = .int .i64 (k : Int) := hF 15 (by decide +kernel)
              exact doesG_val rfl (ex_move rfl e15) rfl rfl
            · intro a w' hF hB hd
              have e9 : a.eval (.tmp 9) = .pointer (some ⟨tb, 0, none⟩) := hF 9 (by decide +kernel)
              have e65 : a.eval (.tmp 65) = .int .i64 (k : Int) := hd 1 (by decide +kernel) (.inr (by decide))
              exact doesG_val rfl (v := .pointer (some ⟨tb, k * 16, none⟩)) (by unfold execOp; simp only [e9, e65]; go_simp) rfl rfl
            · intro a w' hF hB hd
              have e66 : a.eval (.tmp 66) = .pointer (some ⟨tb, k * 16, none⟩) := hd 2 (by decide +kernel) (.inr (by decide))
              exact doesG_wp rfl rfl fun K' hK' => wp_load_mid 35 (.tmp 66) rfl tb (k * 16) e66 (row8 E) _ (range_part (T9.out.below hB T9.out.lt) (k * 16) _ HTE.out) Tryd.underlying35 rfl (by rw [E16.out]; exact info16) (hK' _ _ rfl (Below.refl _ _))
            · intro a w' hF hB hd
              have e64 : a.eval (.tmp 64) = .agg (row8 F).toArray := hd 0 (by decide +kernel) (.inr (by decide))
              have e67 : a.eval (.tmp 67) = .agg (row8 E).toArray := hd 3 (by decide +kernel) (.inr (by decide))
              exact doesG_call rfl (ex_call (vs := #[.agg (row8 F).toArray, .agg (row8 E).toArray]) rfl (by simp only [List.map_toArray, List.map_cons, List.map_nil, e64, e67]) (by go_simp)) rfl ((HW.out w').mono fun e w2 hh => ⟨_, hh.1, rfl, hh.2⟩)
          · intro vs wa hB hv hap
            have er : vs 4 = .agg (row8 M).toArray := hv 4 (by decide) (by decide)
            simp only [List.take_succ_cons, List.take_zero, List.drop_succ_cons, List.drop_zero, putOps, Act.put, List.setIfInBounds_toArray, List.set_cons_zero, List.set_cons_succ, er]
            have Na := Lib.hid (N9.out.below hB N9.out.lt)
            have Ya := Lib.hid (Y9.out.below hB)
            have Xa := Lib.hid (X9.out.below hB X9.out.lt)
            have Ta := Lib.hid (T9.out.below hB T9.out.lt)
            have Ba := Lib.hid (B9.out.on hB)
            clear hv hap er hB N9 Y9 X9 T9 B9
            generalize vs 0 = v0 at *
            generalize vs 1 = v1 at *
            generalize vs 2 = v2 at *
            generalize vs 3 = v3 at *
            go_wp2_with (first
              | (refine wpList_store_blk rfl 35 (.tmp 16) (.tmp 68) rfl cq 0 (row8 M) rfl rfl 35 (row8 F) Na.out (by rw [F16.out, M16.out]; exact Nat.le_refl _) (by rw [M16.out]; exact info16) (row8_one _) ?_; intro wb bb gb'; rw [splice_all _ _ (by rw [F16.out, M16.out])] at bb; have Nb := Lib.hid bb; have Yb := Lib.hid (Ya.out.keep gb' (by
                  cases e : (Value.slice yo (16 * k) yc).ownBlock with
                  | none => exact .inl rfl
                  | some q => refine .inr fun q2 => ?_; injection q2 with q2; have := (HYF.out q e).2; have := HCQ.out; omega)); have Xb := Lib.hid (Xa.out.grown gb' (fun q => by have e : w.heap.size = cq := Option.some.inj q; have := HCQ.out; have := X1.out.lt; omega)); have Tb := Lib.hid (Ta.out.grown gb' (fun q => by have e : tb = cq := Option.some.inj q; have := HCQ.out; have := T1.out.lt; omega)); have Bb := Lib.hid (Ba.out.grown gb' Ba.out.size (fun q hq => by have e : cq = q := Option.some.inj hq; have := HC6.out; omega)); have Rb := Lib.hid (show Rd wb (.slice (some ⟨cq, 0, none⟩) 16 16) M from by have h := blk_rd_at Nb.out HBM.out.2 0 16 16 (by rw [HBM.out.1]; omega) (Nat.le_refl _) (by rw [HBM.out.1]; omega); rw [List.drop_zero, List.take_of_length_le (by rw [HBM.out.1]; omega)] at h; exact h); clear bb gb')
              | ((with_reducible show wpList _ _ _ _ _ _); refine wpList_app rfl (.tmp 69) (.tmp 70) rfl w6.heap.size (.slice yo (16 * k) yc) (.slice (some ⟨cq, 0, none⟩) 16 16) (bw (fun q x => ax (enc (rk KA) x) (tweak (rk KB) n q)) L k) M rfl rfl Yb.out Rb.out (by rw [HYL.out, HBM.out.1]; omega) Bb.out.size ?_; intro v' wc yc' gc hc'; rw [HBW.out] at yc'; have Yc := Lib.hid yc'; have Xc := Lib.hid (Xb.out.grown gc (fun q => by have := (HYF.out _ q.symm).1; have := HX6.out; omega)); have Tc := Lib.hid (Tb.out.grown gc (fun q => by have := (HYF.out _ q.symm).1; have := HT6.out; omega)); have Bc := Lib.hid (Bb.out.grown gc Bb.out.size (fun q hq => (HYF.out q hq).1)); clear yc' gc hc'))
            exact ⟨⟨k + 1, by omega, by go_num, Yc.out, Xc.out, Tc.out, Bc.out⟩, by simp [intOf]; omega⟩
        · have hltI : ¬ (k : Int) < 32 := by omega
          obtain rfl : k = 32 := by omega
          rw [HFN.out] at y0
          have Y1 := Lib.hid (y0.lower B6.out.size)
          have B1 := Lib.hid (B6.out.on b0)
          clear y0 x0 t0 b0 hyl
          go_wp2_with fail
          go_ret
          exact ⟨_, rfl, Y1.out, B1.out⟩
set_option maxRecDepth 100000 in
set_option maxHeartbeats 4000000 in
theorem xsec_open (KA KB : List Nat) (hA : Bytes 240 KA) (hB : Bytes 240 KB) (n : Nat) (hn : n < 2 ^ 64) (v : Value) (b : List Nat) (hbl : b.length = 512) (w : World) (hv : Rd w v b) (ht : TabA w) :
    Calls Tryd.prog 30 #[.agg (row8 (KA ++ KB)).toArray, .int .u64 (n : Int), v, .bool true] w fun e w' => ∃ y, e = .returned y ∧ Own w' w.heap.size y (sec true (rk KA) (rk KB) n b) ∧ Below w.heap.size w w' := by
  obtain ⟨ab, cb, rfl, hcb⟩ := hv.shape
  obtain ⟨ad, had, _⟩ := hv.at_ 0 (by omega)
  subst had
  have hbb := hv.byte
  have hk : ∀ m, Bytes 16 (rk KB m) := fun m => rk_bytes hB.2 m
  have hka : ∀ m, Bytes 16 (rk KA m) := fun m => rk_bytes hA.2 m
  obtain ⟨X, hX⟩ : ∃ X, X = KA ++ KB := ⟨_, rfl⟩
  have X480 := Lib.hid (show (row8 X).length = 480 by rw [hX, row8_len, List.length_append, hA.1, hB.1])
  have HPL := Lib.hid (fun j v h => (show (row8 X)[0 + j]? = some v by rw [hX]; exact part_left j v h))
  have HTWC := Lib.hid (fun W (hW : Below w.heap.size w W) => xtweaks_any KA KB hA hB n hn W (ht.below hW))
  obtain ⟨TW, hTW⟩ : ∃ t, t = twf (rk KB) n 32 := ⟨_, rfl⟩
  rw [← hX] at HTWC ⊢
  rw [← hTW] at HTWC
  have TW512 := Lib.hid (show (row8 TW).length = 512 by rw [hTW, row8_len, twf_len])
  have HTP := Lib.hid (fun i (hi : i < 32) j v (h : (row8 (tweak (rk KB) n i))[j]? = some v) => (show (row8 TW)[i * 16 + j]? = some v by rw [Nat.mul_comm, hTW]; exact twf_part hk n 32 i hi (by omega) j v h))
  obtain ⟨C0, hC0⟩ : ∃ C0, C0 = row8 (List.replicate 512 0) := ⟨_, rfl⟩
  have hzt : ∀ w, (zeroValue 70).run Tryd.prog w = .ok (.agg C0.toArray) w := by rw [hC0]; exact zero512
  have hc0 : C0.length = 512 := by rw [hC0, row8_len, List.length_replicate]
  obtain ⟨D0, hD0⟩ : ∃ D0, D0 = row8 (List.replicate 16 0) := ⟨_, rfl⟩
  have hz : ∀ w, (zeroValue 35).run Tryd.prog w = .ok (.agg D0.toArray) w := by rw [hD0]; exact zero16
  have hd0 : D0.length = 16 := by rw [hD0, row8_len, List.length_replicate]
  have w1 := (Below.refl w.heap.size w).alloc (Nat.le_refl _) (.cells (row8 X).toArray 38)
  have X1 := Lib.hid (Blk.new w 38 (row8 X) _ rfl)
  have B1 := Lib.hid w1
  have HV := Lib.hid (fun W (hW : Below w.heap.size w W) => hv.below hW)
  have HT := Lib.hid ht
  have HK := Lib.hid hk
  have HKA := Lib.hid hka
  have HA := Lib.hid hA
  have HBB := Lib.hid hbb
  have HBL := Lib.hid hbl
  have HD := Lib.hid hD0
  have HTW := Lib.hid hTW
  have K240 := Lib.hid (show (row8 KA).length = 240 by rw [row8_len]; exact hA.1)
  rw [hbl] at hcb ⊢
  clear hC0 hD0 w1 hv ht hk hka hA hB hbb hbl hX hTW hn
  go_enter Tryd.func30, Tryd.ntmps30
  go_upto_region 4 with (first
    | (refine wpList_load_mid rfl 38 (.tmp 4) rfl w.heap.size 0 rfl (row8 X) _ X1.out.range Tryd.underlying38 rfl (by rw [X480.out]; exact info480) ?_)
    | (go_at_call 40; (with_reducible refine (HTWC.out _ B1.out).mono ?_); rintro e w4 ⟨rfl, b4⟩; have X4 := Lib.hid (X1.out.below b4 X1.out.lt); have B4 := Lib.hid (B1.out.on b4); clear b4)
    | (refine wpList_store_blk rfl 70 (.tmp 9) (.tmp 19) rfl w4.heap.size 0 (row8 TW) rfl rfl 70 C0 (Blk.new w4 70 C0 _ rfl) (by rw [TW512.out, hc0]; exact Nat.le_refl _) (by rw [TW512.out]; exact info512) (row8_one _) ?_; intro w5 b5 g5; rw [splice_all _ _ (by rw [TW512.out, hc0])] at b5; have T5 := Lib.hid b5; have B5 := Lib.hid ((B4.out.alloc B4.out.size (.cells C0.toArray 70)).grown g5 (by have := B4.out.size; simp; omega) (fun k hk => by have e : w4.heap.size = k := Option.some.inj hk; have := B4.out.size; omega)); have X5 := Lib.hid ((X4.out.alloc (.cells C0.toArray 70)).grown g5 (fun q => by have e : w.heap.size = w4.heap.size := Option.some.inj q; have := X4.out.lt; omega)); clear b5 g5))
  obtain ⟨tb, htb⟩ : ∃ b, b = w4.heap.size := ⟨_, rfl⟩
  have htl : w.heap.size < tb := by rw [htb]; exact X4.out.lt
  rw [← htb] at T5 ⊢
  clear htb X1 B1 X4 B4 HTWC
  go_loopw [10, 11] (fun x i wr => ∃ k : Nat, k ≤ 32 ∧ i = .int .i64 (k : Int) ∧ Rows16 wr w.heap.size x k (bw (fun q x => ax x (tweak (rk KB) n q)) b k) ∧ (∀ g, x.ownBlock = some g → g ≠ w.heap.size ∧ g ≠ tb) ∧ Blk wr w.heap.size 38 (row8 X) ∧ Blk wr tb 70 (row8 TW) ∧ Below w.heap.size w wr) (fun _ i _ => 32 - (intOf i).toNat)
  case atStart => exact ⟨0, by omega, rfl, rows_nil _ _, fun g h => by (try cases h), X5.out, T5.out, B5.out⟩
  case round =>
    clear X5 T5 B5
    obtain ⟨k, hk, rfl, l0, a0, x0, t0, b0⟩ := hrel
    obtain ⟨lo, lc, hls, hlc⟩ := l0.shape
    subst hls
    by_cases hlt : k < 32
    · have hltI : (k : Int) < 32 := by omega
      obtain ⟨cq, hcq⟩ : ∃ c, c = wr.heap.size := ⟨_, rfl⟩
      have hcl : tb < cq := by rw [hcq]; exact t0.lt
      have L1 := Lib.hid (l0.below ((Below.refl _ _).alloc (Nat.le_refl _) (.cells D0.toArray 35)))
      have A1 := Lib.hid (show ∀ g, (Value.slice lo k lc).ownBlock = some g → g ≠ w.heap.size ∧ g ≠ tb ∧ g < cq from fun g hg => ⟨(a0 g hg).1, (a0 g hg).2, by rw [hcq]; exact (l0.from g hg).2⟩)
      have X1 := Lib.hid (x0.alloc (.cells D0.toArray 35))
      have T1 := Lib.hid (t0.alloc (.cells D0.toArray 35))
      have B1 := Lib.hid (b0.alloc b0.size (.cells D0.toArray 35))
      have N1 := Lib.hid (Blk.new wr 35 D0 cq hcq)
      have HCQ := Lib.hid hcq
      clear l0 a0 x0 t0 b0 hcq
      go_upto_region 8 with (fail)
      rw [← HCQ.out]
      go_loopw [13] (fun x wq => ∃ j : Nat, j ≤ 16 ∧ x = .int .i64 (j : Int) ∧ Rows16 wq w.heap.size (.slice lo k lc) k (bw (fun q x => ax x (tweak (rk KB) n q)) b k) ∧ Blk wq w.heap.size 38 (row8 X) ∧ Blk wq tb 70 (row8 TW) ∧ Blk wq cq 35 (row8 (fillTo (fun j => gb b (16 * k + j)) 16 j)) ∧ Below w.heap.size w wq) (fun x _ => 16 - (intOf x).toNat)
      case atStart => exact ⟨0, by omega, rfl, L1.out, X1.out, T1.out, by rw [fillTo_zero, ← HD.out]; exact N1.out, B1.out⟩
      case round =>
        clear L1 X1 T1 N1 B1
        obtain ⟨j, hj, rfl, l1, x1, t1, n1, b1⟩ := hrel
        by_cases hj16 : j < 16
        · have hjI : (j : Int) < 16 := by omega
          obtain ⟨ad', had', d⟩ := (HV.out wr b1).at_ (16 * k + j) (by rw [HBL.out]; omega)
          injection had' with had'
          subst had'
          obtain ⟨y, hy⟩ : ∃ y, y = gb b (16 * k + j) := ⟨_, rfl⟩
          have ly : y < 256 := by rw [hy]; exact HBB.out _
          rw [← hy] at d
          have c1 := n1.cell j _ (row8_val _ j (by rw [fillTo_len]; exact hj16))
          have f1 := n1.free j
          have HST := Lib.hid (show (fillTo (fun j => gb b (16 * k + j)) 16 j).set j y = fillTo (fun j => gb b (16 * k + j)) 16 (j + 1) by rw [hy]; exact fillTo_step (fun j => gb b (16 * k + j)) 16 j hj16)
          have q0 : (0 : Int) ≤ 16 * (k : Int) + (j : Int) := by omega
          have q1 : 16 * (k : Int) + (j : Int) < 512 := by omega
          have q2 : (16 * (k : Int) + (j : Int)).toNat = 16 * k + j := by omega
          have L2 := Lib.hid l1
          have X2 := Lib.hid x1
          have T2 := Lib.hid t1
          have N2 := Lib.hid n1
          have B2 := Lib.hid b1
          clear l1 x1 t1 n1 b1 hy
          go_wp2_with fail
          have nt := N2.out.set j (.int .u8 (y : Int))
          rw [row8_set, HST.out] at nt
          have gw := only_set (World.grownBy.refl wr (some cq)) (p := ⟨cq, j, none⟩) (.inl rfl) (.int .u8 (y : Int))
          exact ⟨⟨j + 1, by omega, by go_num, L2.out.keep gw (by
            cases e : (Value.slice lo k lc).ownBlock with
            | none => exact .inl rfl
            | some g => refine .inr fun q => ?_; injection q with q; have := (A1.out g e).2.2; omega), X2.out.other ⟨cq, j, none⟩ _ (by simp <;> omega), T2.out.other ⟨cq, j, none⟩ _ (by simp <;> omega), nt, B2.out.setCell (p := ⟨cq, j, none⟩) (by simp <;> omega) _⟩, by simp [intOf]; omega⟩
        · obtain rfl : j = 16 := by omega
          obtain ⟨D, hD⟩ : ∃ D, D = blk b k := ⟨_, rfl⟩
          have bD : Bytes 16 D := by rw [hD]; exact blk_bytes HBB.out k (by rw [HBL.out]; omega)
          rw [fillTo_all, show (List.range 16).map (fun j => gb b (16 * k + j)) = D from bytes_ext (n := 16) (by simp) bD.1 fun j hj => by
            rw [gb_map, if_pos hj, hD]; unfold blk; rw [gb_take _ _ _ hj, gb_drop]] at n1
          obtain ⟨E, hE⟩ : ∃ E, E = tweak (rk KB) n k := ⟨_, rfl⟩
          have bE : Bytes 16 E := by rw [hE]; exact tweak_bytes HK.out n k
          obtain ⟨M, hM⟩ : ∃ M, M = ax D E := ⟨_, rfl⟩
          have bM : Bytes 16 M := by rw [hM]; exact ax_bytes bD bE
          have HBW := Lib.hid (show bw (fun q x => ax x (tweak (rk KB) n q)) b k ++ M = bw (fun q x => ax x (tweak (rk KB) n q)) b (k + 1) by rw [hM, hD, hE]; rfl)
          have HW := Lib.hid (fun W => xwith_any D E bD bE W)
          rw [← hM] at HW
          have D16 := Lib.hid (show (row8 D).length = 16 by rw [row8_len]; exact bD.1)
          have E16 := Lib.hid (show (row8 E).length = 16 by rw [row8_len]; exact bE.1)
          have M16 := Lib.hid bM.1
          have HTE := Lib.hid (fun j v (h : (row8 E)[j]? = some v) => HTP.out k hlt j v (by rw [← hE]; exact h))
          have L2 := Lib.hid l1
          have X2 := Lib.hid x1
          have T2 := Lib.hid t1
          have N2 := Lib.hid n1
          have B2 := Lib.hid b1
          clear l1 x1 t1 n1 b1 hD bD hE bE hM bM
          go_upto_region 11 with (fail)
          refine wp_region_g (by kernel_rfl) 7 (by decide) (by kernel_rfl) (by kernel_rfl) (by kernel_rfl) wr.heap.size (Nat.le_refl _) [.val (.slice lo k lc), .val (.agg (row8 D).toArray), .val (.int .i64 (k : Int)), .val (.pointer (some ⟨tb, k * 16, none⟩)), .val (.agg (row8 E).toArray), .val (.agg (row8 M).toArray), .one16 M] (fun _ => 9) ?_ ?_
          · refine ⟨?_, ?_, ?_, ?_, ?_, ?_, ?_, trivial⟩
            · intro a w' hF hB hd
              have e10 : a.eval (.tmp 10) = .slice lo k lc := hF 10 (by decide +kernel)
              exact doesG_val rfl (ex_move rfl e10) rfl rfl
            · intro a w' hF hB hd
              have e12 : a.eval (.tmp 12) = .pointer (some ⟨cq, 0, none⟩) := hF 12 (by decide +kernel)
              exact doesG_wp rfl rfl fun K' hK' => wp_load_mid 35 (.tmp 12) rfl cq 0 e12 (row8 D) _ (N2.out.below hB N2.out.lt).range Tryd.underlying35 rfl (by rw [D16.out]; exact info16) (hK' _ _ rfl (Below.refl _ _))
            · intro a w' hF hB hd
              have e11 : a.eval (.tmp 11) = .int .i64 (k : Int) := hF 11 (by decide +kernel)
              exact doesG_val rfl (ex_move rfl e11) rfl rfl
            · intro a w' hF hB hd
              have e9 : a.eval (.tmp 9) = .pointer (some ⟨tb, 0, none⟩) := hF 9 (by decide +kernel)
              have e39 : a.eval (.tmp 39) = .int .i64 (k : Int) := hd 2 (by decide +kernel) (.inr (by decide))
              exact doesG_val rfl (v := .pointer (some ⟨tb, k * 16, none⟩)) (by unfold execOp; simp only [e9, e39]; go_simp) rfl rfl
            · intro a w' hF hB hd
              have e40 : a.eval (.tmp 40) = .pointer (some ⟨tb, k * 16, none⟩) := hd 3 (by decide +kernel) (.inr (by decide))
              exact doesG_wp rfl rfl fun K' hK' => wp_load_mid 35 (.tmp 40) rfl tb (k * 16) e40 (row8 E) _ (range_part (T2.out.below hB T2.out.lt) (k * 16) _ HTE.out) Tryd.underlying35 rfl (by rw [E16.out]; exact info16) (hK' _ _ rfl (Below.refl _ _))
            · intro a w' hF hB hd
              have e38 : a.eval (.tmp 38) = .agg (row8 D).toArray := hd 1 (by decide +kernel) (.inr (by decide))
              have e41 : a.eval (.tmp 41) = .agg (row8 E).toArray := hd 4 (by decide +kernel) (.inr (by decide))
              exact doesG_call rfl (ex_call (vs := #[.agg (row8 D).toArray, .agg (row8 E).toArray]) rfl (by simp only [List.map_toArray, List.map_cons, List.map_nil, e38, e41]) (by go_simp)) rfl ((HW.out w').mono fun e w2 hh => ⟨_, hh.1, rfl, hh.2⟩)
            · intro a w' hF hB hd
              have e42 : a.eval (.tmp 42) = .agg (row8 M).toArray := hd 5 (by decide +kernel) (.inr (by decide))
              exact doesG_one16 rfl 42 M M16.out rfl e42 hB.size rfl
          · intro vs w6 hB hv hap
            have e37 : vs 0 = .slice lo k lc := hv 0 (by decide) (by decide)
            obtain ⟨og, e43, hog, o6⟩ : (Pred.one16 (B := wr.heap.size) M).holds (vs 6) w6 := hv 6 (by decide) (by decide)
            simp only [List.take_succ_cons, List.take_zero, List.drop_succ_cons, List.drop_zero, putOps, Act.put, List.setIfInBounds_toArray, List.set_cons_zero, List.set_cons_succ, e37, e43]
            have L6 := Lib.hid (L2.out.below hB)
            have X6 := Lib.hid (X2.out.below hB X2.out.lt)
            have T6 := Lib.hid (T2.out.below hB T2.out.lt)
            have B6 := Lib.hid (B2.out.on hB)
            have O6 := Lib.hid o6
            clear hv hap e37 e43 hB L2 X2 T2 N2 B2 o6 hog
            generalize vs 1 = v1 at *
            generalize vs 2 = v2 at *
            generalize vs 3 = v3 at *
            generalize vs 4 = v4 at *
            generalize vs 5 = v5 at *
            go_wp2_with ((with_reducible show wpList _ _ _ _ _ _); refine wpList_rows_app rfl (.tmp 37) (.tmp 43) rfl w.heap.size (.slice lo k lc) k (bw (fun q x => ax x (tweak (rk KB) n q)) b k) M og rfl rfl L6.out M16.out O6.out (by omega) B6.out.size ?_; intro v' w7 x7 g7 h7; rw [HBW.out] at x7; have L7 := Lib.hid x7; have A7 := Lib.hid (show ∀ g, v'.ownBlock = some g → g ≠ w.heap.size ∧ g ≠ tb from fun q hq => by (rcases h7 with h7 | h7 <;> rw [h7] at hq); exact ⟨(A1.out q hq).1, (A1.out q hq).2.1⟩; have e : w6.heap.size = q := Option.some.inj hq; have h1 := X6.out.lt; have h2 := T6.out.lt; omega); have X7 := Lib.hid (X6.out.grown g7 (fun q => (A1.out _ q.symm).1 rfl)); have T7 := Lib.hid (T6.out.grown g7 (fun q => (A1.out _ q.symm).2.1 rfl)); have B7 := Lib.hid (B6.out.grown g7 B6.out.size (fun q hq => (L6.out.from q hq).1)); clear x7 g7 h7)
            exact ⟨⟨k + 1, by omega, by go_num, L7.out, A7.out, X7.out, T7.out, B7.out⟩, by simp [intOf]; omega⟩
    · have hltI : ¬ (k : Int) < 32 := by omega
      obtain rfl : k = 32 := by omega
      obtain ⟨g, lc', hsl, _, hBg, hgl, _⟩ := l0.at_ (by decide)
      injection hsl with hs1 _ hs3
      subst hs1
      subst hs3
      obtain ⟨L, hL⟩ : ∃ L, L = bw (fun q x => ax x (tweak (rk KB) n q)) b 32 := ⟨_, rfl⟩
      have hLb : ∀ q, gb L q < 256 := by rw [hL]; exact bw_byte 32 fun q hq => ax_bytes (blk_bytes HBB.out q (by rw [HBL.out]; omega)) (tweak_bytes HK.out n q)
      rw [← hL] at l0
      obtain ⟨L2, hL2⟩ : ∃ l, l = bw (fun _ x => dec (rk KA) x) L 32 := ⟨_, rfl⟩
      have hL2b : ∀ q, gb L2 q < 256 := by
        rw [hL2]
        exact bw_byte 32 fun q hq => dec_bytes HKA.out (blk_bytes hLb q (by have := l0.len; omega))
      have HBK := Lib.hid (xblocks_any KA HA.out g 32 lc L w.heap.size wr l0 hLb (by omega) (by omega) (HT.out.below b0))
      rw [← hL2] at HBK
      have HFN := Lib.hid (show bw (fun q x => ax x (tweak (rk KB) n q)) L2 32 = sec true (rk KA) (rk KB) n b by rw [hL2, hL]; exact sec_open n b)
      have X1 := Lib.hid x0
      have T1 := Lib.hid t0
      have B1 := Lib.hid b0
      have L2B := Lib.hid hL2b
      clear l0 a0 x0 t0 b0 hL hL2 hLb hL2b
      go_upto_region 16 with (first
        | (refine wpList_load_mid rfl 36 (.tmp 46) rfl w.heap.size 0 rfl (row8 KA) _ (range_part X1.out 0 _ HPL.out) Tryd.underlying36 rfl (by rw [K240.out]; exact info240) ?_)
        | (go_at_call 42; (with_reducible refine HBK.out.mono ?_); rintro e w6 ⟨y6, rfl, l6, b6⟩; obtain ⟨hg, hc, hy6, hhc, hBh, hhl, hcc⟩ := l6.at_ (by decide); subst hy6; have HL6 := Lib.hid (fun W (hW : Below w6.heap.size w6 W) => (l6.below hW).cells (by decide)); have HLN := Lib.hid l6.len; have X6 := Lib.hid (X1.out.below b6 X1.out.lt); have T6 := Lib.hid (T1.out.below b6 T1.out.lt); have B6 := Lib.hid (B1.out.on b6); clear l6 b6 hcc))
      clear X1 T1 B1 HBK
      go_loopw [14, 15] (fun x i wr => ∃ k : Nat, k ≤ 32 ∧ i = .int .i64 (k : Int) ∧ Own wr w6.heap.size x (bw (fun q x => ax x (tweak (rk KB) n q)) L2 k) ∧ Blk wr w.heap.size 38 (row8 X) ∧ Blk wr tb 70 (row8 TW) ∧ Below w6.heap.size w6 wr) (fun _ i _ => 32 - (intOf i).toNat)
      case atStart => exact ⟨0, by omega, rfl, Own.none_ _ _, X6.out, T6.out, Below.refl _ _⟩
      case round =>
        have HX6 := Lib.hid X6.out.lt
        have HT6 := Lib.hid T6.out.lt
        clear X6 T6 hltI hlt hk
        obtain ⟨k, hk, rfl, y0, x0, t0, b0⟩ := hrel
        obtain ⟨yo, yc, hys, hyc⟩ := y0.rd.shape
        have hyl : (bw (fun q x => ax x (tweak (rk KB) n q)) L2 k).length = 16 * k := bw_len k fun q _ => row_len _
        rw [hyl] at hys hyc
        subst hys
        by_cases hlt : k < 32
        · have hltI : (k : Int) < 32 := by omega
          obtain ⟨D, hD⟩ : ∃ D, D = blk L2 k := ⟨_, rfl⟩
          have bD : Bytes 16 D := by rw [hD]; exact blk_bytes L2B.out k (by rw [HLN.out]; omega)
          obtain ⟨E, hE⟩ : ∃ E, E = tweak (rk KB) n k := ⟨_, rfl⟩
          have bE : Bytes 16 E := by rw [hE]; exact tweak_bytes HK.out n k
          obtain ⟨F, hF⟩ : ∃ F, F = D := ⟨_, rfl⟩
          have bF : Bytes 16 F := by rw [hF]; exact bD
          obtain ⟨M, hM⟩ : ∃ M, M = ax F E := ⟨_, rfl⟩
          have bM : Bytes 16 M := by rw [hM]; exact ax_bytes bF bE
          have HBW := Lib.hid (show bw (fun q x => ax x (tweak (rk KB) n q)) L2 k ++ M = bw (fun q x => ax x (tweak (rk KB) n q)) L2 (k + 1) by rw [hM, hF, hD, hE]; rfl)
          have HW := Lib.hid (fun W => xwith_any F E bF bE W)
          rw [← hM] at HW
          have D16 := Lib.hid (show (row8 D).length = 16 by rw [row8_len]; exact bD.1)
          have E16 := Lib.hid (show (row8 E).length = 16 by rw [row8_len]; exact bE.1)
          have F16 := Lib.hid (show (row8 F).length = 16 by rw [row8_len]; exact bF.1)
          have M16 := Lib.hid (show (row8 M).length = 16 by rw [row8_len]; exact bM.1)
          have HBM := Lib.hid bM
          have HTE := Lib.hid (fun j v (h : (row8 E)[j]? = some v) => HTP.out k hlt j v (by rw [← hE]; exact h))
          have HRG := Lib.hid (fun j u (h : (row8 D)[j]? = some u) => (show wr.cell? ⟨hg, k * 16 + j, none⟩ = some u from HL6.out wr b0 _ u (blk_part k j u (by rw [← hD]; exact h))))
          have HYL := Lib.hid hyl
          have HYF := Lib.hid (fun q (hq : (Value.slice yo (16 * k) yc).ownBlock = some q) => (show w6.heap.size ≤ q ∧ q < wr.heap.size from y0.from q hq))
          have Y1 := Lib.hid y0
          have X1 := Lib.hid x0
          have T1 := Lib.hid t0
          have B1 := Lib.hid b0
          clear hD bD hE bE bF hM bM hyl y0 x0 t0 b0 
          obtain ⟨cq, hcq⟩ : ∃ c, c = wr.heap.size := ⟨_, rfl⟩
          have N1 := Lib.hid (Blk.new wr 35 D0 cq hcq)
          have HCQ := Lib.hid hcq
          have HC6 := Lib.hid (show w6.heap.size ≤ cq by rw [hcq]; exact B1.out.size)
          clear hcq
          go_upto_region 21 with (first
            | (refine wpList_load_mid rfl 35 (.tmp 56) rfl hg (k * 16) rfl (row8 D) _ (fun j u h => HRG.out j u h) Tryd.underlying35 rfl (by rw [D16.out]; exact info16) ?_)
            | (refine wpList_store_blk rfl 35 (.tmp 16) (.tmp 57) rfl wr.heap.size 0 (row8 D) rfl rfl 35 D0 (by rw [← HCQ.out]; exact N1.out) (by rw [D16.out, hd0]; exact Nat.le_refl _) (by rw [D16.out]; exact info16) (row8_one _) ?_; intro w7 b7 g7; rw [← HCQ.out] at b7 g7; rw [splice_all _ _ (by rw [D16.out, hd0])] at b7; have N7 := Lib.hid b7; have Y7 := Lib.hid ((Y1.out.alloc (.cells D0.toArray 35)).keep g7 (by
                cases e : (Value.slice yo (16 * k) yc).ownBlock with
                | none => exact .inl rfl
                | some q => refine .inr fun q2 => ?_; injection q2 with q2; have := (HYF.out q e).2; have := HCQ.out; omega)); have X7 := Lib.hid ((X1.out.alloc (.cells D0.toArray 35)).grown g7 (fun q => by have e : w.heap.size = cq := Option.some.inj q; have := HCQ.out; have := X1.out.lt; omega)); have T7 := Lib.hid ((T1.out.alloc (.cells D0.toArray 35)).grown g7 (fun q => by have e : tb = cq := Option.some.inj q; have := HCQ.out; have := T1.out.lt; omega)); have B7 := Lib.hid ((B1.out.alloc B1.out.size (.cells D0.toArray 35)).grown g7 (by have := B1.out.size; simp; omega) (fun q hq => by have e : cq = q := Option.some.inj hq; have := HC6.out; omega)); clear b7 g7))
          subst hF
          rw [← HCQ.out]
          refine wp_region_g (by kernel_rfl) 5 (by decide) (by kernel_rfl) (by kernel_rfl) (by kernel_rfl) w7.heap.size (Nat.le_refl _) [.val (.agg (row8 F).toArray), .val (.int .i64 (k : Int)), .val (.pointer (some ⟨tb, k * 16, none⟩)), .val (.agg (row8 E).toArray), .val (.agg (row8 M).toArray)] (fun _ => 6) ?_ ?_
          · refine ⟨?_, ?_, ?_, ?_, ?_, trivial⟩
            · intro a w' hF hB hd
              have e16 : a.eval (.tmp 16) = .pointer (some ⟨cq, 0, none⟩) := hF 16 (by decide +kernel)
              exact doesG_wp rfl rfl fun K' hK' => wp_load_mid 35 (.tmp 16) rfl cq 0 e16 (row8 F) _ (N7.out.below hB N7.out.lt).range Tryd.underlying35 rfl (by rw [F16.out]; exact info16) (hK' _ _ rfl (Below.refl _ _))
            · intro a w' hF hB hd
              have e15 : a.eval (.tmp 15) = .int .i64 (k : Int) := hF 15 (by decide +kernel)
              exact doesG_val rfl (ex_move rfl e15) rfl rfl
            · intro a w' hF hB hd
              have e9 : a.eval (.tmp 9) = .pointer (some ⟨tb, 0, none⟩) := hF 9 (by decide +kernel)
              have e65 : a.eval (.tmp 65) = .int .i64 (k : Int) := hd 1 (by decide +kernel) (.inr (by decide))
              exact doesG_val rfl (v := .pointer (some ⟨tb, k * 16, none⟩)) (by unfold execOp; simp only [e9, e65]; go_simp) rfl rfl
            · intro a w' hF hB hd
              have e66 : a.eval (.tmp 66) = .pointer (some ⟨tb, k * 16, none⟩) := hd 2 (by decide +kernel) (.inr (by decide))
              exact doesG_wp rfl rfl fun K' hK' => wp_load_mid 35 (.tmp 66) rfl tb (k * 16) e66 (row8 E) _ (range_part (T7.out.below hB T7.out.lt) (k * 16) _ HTE.out) Tryd.underlying35 rfl (by rw [E16.out]; exact info16) (hK' _ _ rfl (Below.refl _ _))
            · intro a w' hF hB hd
              have e64 : a.eval (.tmp 64) = .agg (row8 F).toArray := hd 0 (by decide +kernel) (.inr (by decide))
              have e67 : a.eval (.tmp 67) = .agg (row8 E).toArray := hd 3 (by decide +kernel) (.inr (by decide))
              exact doesG_call rfl (ex_call (vs := #[.agg (row8 F).toArray, .agg (row8 E).toArray]) rfl (by simp only [List.map_toArray, List.map_cons, List.map_nil, e64, e67]) (by go_simp)) rfl ((HW.out w').mono fun e w2 hh => ⟨_, hh.1, rfl, hh.2⟩)
          · intro vs wa hB hv hap
            have er : vs 4 = .agg (row8 M).toArray := hv 4 (by decide) (by decide)
            simp only [List.take_succ_cons, List.take_zero, List.drop_succ_cons, List.drop_zero, putOps, Act.put, List.setIfInBounds_toArray, List.set_cons_zero, List.set_cons_succ, er]
            have Na := Lib.hid (N7.out.below hB N7.out.lt)
            have Ya := Lib.hid (Y7.out.below hB)
            have Xa := Lib.hid (X7.out.below hB X7.out.lt)
            have Ta := Lib.hid (T7.out.below hB T7.out.lt)
            have Ba := Lib.hid (B7.out.on hB)
            clear hv hap er hB N7 Y7 X7 T7 B7
            generalize vs 0 = v0 at *
            generalize vs 1 = v1 at *
            generalize vs 2 = v2 at *
            generalize vs 3 = v3 at *
            go_wp2_with (first
              | (refine wpList_store_blk rfl 35 (.tmp 16) (.tmp 68) rfl cq 0 (row8 M) rfl rfl 35 (row8 F) Na.out (by rw [F16.out, M16.out]; exact Nat.le_refl _) (by rw [M16.out]; exact info16) (row8_one _) ?_; intro wb bb gb'; rw [splice_all _ _ (by rw [F16.out, M16.out])] at bb; have Nb := Lib.hid bb; have Yb := Lib.hid (Ya.out.keep gb' (by
                  cases e : (Value.slice yo (16 * k) yc).ownBlock with
                  | none => exact .inl rfl
                  | some q => refine .inr fun q2 => ?_; injection q2 with q2; have := (HYF.out q e).2; have := HCQ.out; omega)); have Xb := Lib.hid (Xa.out.grown gb' (fun q => by have e : w.heap.size = cq := Option.some.inj q; have := HCQ.out; have := X1.out.lt; omega)); have Tb := Lib.hid (Ta.out.grown gb' (fun q => by have e : tb = cq := Option.some.inj q; have := HCQ.out; have := T1.out.lt; omega)); have Bb := Lib.hid (Ba.out.grown gb' Ba.out.size (fun q hq => by have e : cq = q := Option.some.inj hq; have := HC6.out; omega)); have Rb := Lib.hid (show Rd wb (.slice (some ⟨cq, 0, none⟩) 16 16) M from by have h := blk_rd_at Nb.out HBM.out.2 0 16 16 (by rw [HBM.out.1]; omega) (Nat.le_refl _) (by rw [HBM.out.1]; omega); rw [List.drop_zero, List.take_of_length_le (by rw [HBM.out.1]; omega)] at h; exact h); clear bb gb')
              | ((with_reducible show wpList _ _ _ _ _ _); refine wpList_app rfl (.tmp 69) (.tmp 70) rfl w6.heap.size (.slice yo (16 * k) yc) (.slice (some ⟨cq, 0, none⟩) 16 16) (bw (fun q x => ax x (tweak (rk KB) n q)) L2 k) M rfl rfl Yb.out Rb.out (by rw [HYL.out, HBM.out.1]; omega) Bb.out.size ?_; intro v' wc yc' gc hc'; rw [HBW.out] at yc'; have Yc := Lib.hid yc'; have Xc := Lib.hid (Xb.out.grown gc (fun q => by have := (HYF.out _ q.symm).1; have := HX6.out; omega)); have Tc := Lib.hid (Tb.out.grown gc (fun q => by have := (HYF.out _ q.symm).1; have := HT6.out; omega)); have Bc := Lib.hid (Bb.out.grown gc Bb.out.size (fun q hq => (HYF.out q hq).1)); clear yc' gc hc'))
            exact ⟨⟨k + 1, by omega, by go_num, Yc.out, Xc.out, Tc.out, Bc.out⟩, by simp [intOf]; omega⟩
        · have hltI : ¬ (k : Int) < 32 := by omega
          obtain rfl : k = 32 := by omega
          rw [HFN.out] at y0
          have Y1 := Lib.hid (y0.lower B6.out.size)
          have B1 := Lib.hid (B6.out.on b0)
          clear y0 x0 t0 b0 hyl
          go_wp2_with fail
          go_ret
          exact ⟨_, rfl, Y1.out, B1.out⟩
end Go.Proofs.YtmidbmihadhgdaaDoor
