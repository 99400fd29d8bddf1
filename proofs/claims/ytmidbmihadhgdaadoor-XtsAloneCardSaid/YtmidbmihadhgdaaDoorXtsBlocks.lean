/- Many blocks decrypted, as the document does it: contract. Own work. -/
import Derived.Test.YtmidbmihadhgdaaDoorAesDecR
import Derived.Test.YtmidbmihadhgdaaDoorRows16
import Derived.Test.YtmidbmihadhgdaaDoorXtsRefN
namespace Go.Proofs.YtmidbmihadhgdaaDoor
open Go.ChangeShapes Go.WideShapes Go.ChangeAt Go.RowKit
open AM FM XM
theorem blk_part {l : List Nat} (q j : Nat) (v : Value) (h : (row8 (blk l q))[j]? = some v) : (row8 l)[q * 16 + j]? = some v := by
  have e : row8 (blk l q) = ((row8 l).drop (16 * q)).take 16 := by unfold blk row8; rw [List.map_take, List.map_drop]
  rw [e, List.getElem?_take] at h
  split at h
  · rw [List.getElem?_drop, Nat.mul_comm] at h; exact h
  · cases h
theorem Rows16.cells {w : World} {B g n cap : Nat} {l : List Nat} (h : Rows16 w B (.slice (some ⟨g, 0, none⟩) n cap) n l) (hn : 0 < n) (j : Nat) (u : Value) (hu : (row8 l)[j]? = some u) : w.cell? ⟨g, j, none⟩ = some u := by
  obtain ⟨g', cap', e, _, _, _, hc⟩ := h.at_ hn
  injection e with e1
  injection e1 with e2
  injection e2 with e3
  rw [e3]; exact hc j u hu
set_option maxRecDepth 100000 in
set_option maxHeartbeats 4000000 in
theorem xblocks_any (KA : List Nat) (hA : Bytes 240 KA) (g n cap : Nat) (l : List Nat) (B0 : Nat) (w : World) (hv : Rows16 w B0 (.slice (some ⟨g, 0, none⟩) n cap) n l) (hl : ∀ k, gb l k < 256) (hn0 : 0 < n) (hn : n ≤ 1000) (ht : TabA w) :
    Calls Tryd.prog 42 #[.agg (row8 KA).toArray, .slice (some ⟨g, 0, none⟩) n cap] w fun e w' => ∃ y, e = .returned y ∧ Rows16 w' w.heap.size y n (bw (fun _ x => dec (rk KA) x) l n) ∧ Below w.heap.size w w' := by
  have hlen := hv.len
  obtain ⟨C0, hC0⟩ : ∃ C0, C0 = row8 (List.replicate 256 0) := ⟨_, rfl⟩
  have hz : ∀ w, (zeroValue 61).run Tryd.prog w = .ok (.agg C0.toArray) w := by rw [hC0]; exact zero256
  have hc0 : C0.length = 256 := by rw [hC0, row8_len, List.length_replicate]
  obtain ⟨U, hU⟩ : ∃ U, U = untab := ⟨_, rfl⟩
  have U256 := Lib.hid (show (row8 U).length = 256 by rw [hU, row8_len]; exact unt_len)
  have w1 := (Below.refl w.heap.size w).alloc (Nat.le_refl _) (.cells (row8 KA).toArray 36)
  have K1 := Lib.hid (Blk.new w 36 (row8 KA) _ rfl)
  have B1 := Lib.hid w1
  have HBK := Lib.hid (aback_any _ (ht.below w1))
  rw [← hU] at HBK
  have HV := Lib.hid (fun W (hW : Below w.heap.size w W) => (hv.below hW).cells hn0)
  have HL := Lib.hid hl
  have HA := Lib.hid hA
  have K240 := Lib.hid (show (row8 KA).length = 240 by rw [row8_len]; exact hA.1)
  have HU := Lib.hid hU
  clear hC0 w1 hv hl hA hU
  go_enter Tryd.func42, Tryd.ntmps42
  go_upto_region 4 with (first
    | (go_at_call 47; (with_reducible refine HBK.out.mono ?_); rintro e w4 ⟨rfl, b4⟩; have K4 := Lib.hid (K1.out.below b4 K1.out.lt); have B4 := Lib.hid (B1.out.on b4); clear b4)
    | (refine wpList_store_blk rfl 61 (.tmp 5) (.tmp 8) rfl w4.heap.size 0 (row8 U) rfl rfl 61 C0 (Blk.new w4 61 C0 _ rfl) (by rw [U256.out, hc0]; exact Nat.le_refl _) (by rw [U256.out]; exact info256) (row8_one _) ?_; intro w5 b5 g5; rw [splice_all _ _ (by rw [U256.out, hc0])] at b5; have U5 := Lib.hid b5; have B5 := Lib.hid ((B4.out.alloc B4.out.size (.cells C0.toArray 61)).grown g5 (by have := B4.out.size; simp; omega) (fun k hk => by have e : w4.heap.size = k := Option.some.inj hk; have := B4.out.size; omega)); have K5 := Lib.hid ((K4.out.alloc (.cells C0.toArray 61)).grown g5 (fun q => by have e : w.heap.size = w4.heap.size := Option.some.inj q; have := K4.out.lt; omega)); clear b5 g5))
  obtain ⟨ub, hub⟩ : ∃ b, b = w4.heap.size := ⟨_, rfl⟩
  have hul : w.heap.size < ub := by rw [hub]; exact K4.out.lt
  rw [← hub] at U5 ⊢
  clear hub K1 B1 K4 B4 HBK
  go_loopw [6, 7] (fun x i wr => ∃ k : Nat, k ≤ n ∧ i = .int .i64 (k : Int) ∧ Rows16 wr w.heap.size x k (bw (fun _ x => dec (rk KA) x) l k) ∧ (∀ g, x.ownBlock = some g → g ≠ w.heap.size ∧ g ≠ ub) ∧ Blk wr w.heap.size 36 (row8 KA) ∧ Blk wr ub 61 (row8 U) ∧ Below w.heap.size w wr) (fun _ i _ => n - (intOf i).toNat)
  case atStart => exact ⟨0, by omega, rfl, rows_nil _ _, fun g h => by (try cases h), K5.out, U5.out, B5.out⟩
  case round =>
    clear K5 U5 B5
    obtain ⟨k, hk, rfl, x0, a0, k0, u0, b0⟩ := hrel
    obtain ⟨ao, ac, hxs, _⟩ := x0.shape
    subst hxs
    by_cases hlt : k < n
    · have hltI : (k : Int) < (n : Int) := by omega
      obtain ⟨D, hD⟩ : ∃ D, D = blk l k := ⟨_, rfl⟩
      have bD : Bytes 16 D := by rw [hD]; exact blk_bytes HL.out k (by omega)
      obtain ⟨M, hM⟩ : ∃ M, M = dec (rk KA) D := ⟨_, rfl⟩
      have bM : Bytes 16 M := by rw [hM]; exact dec_bytes (fun n => rk_bytes HA.out.2 n) bD
      have hbw : bw (fun _ x => dec (rk KA) x) l k ++ M = bw (fun _ x => dec (rk KA) x) l (k + 1) := by rw [hM, hD]; rfl
      have HBW := Lib.hid hbw
      have HDC := Lib.hid (fun W => adecr_any KA HA.out D bD W)
      rw [← HU.out, ← hM] at HDC
      have D16 := Lib.hid (show (row8 D).length = 16 by rw [row8_len]; exact bD.1)
      have M16 := Lib.hid bM.1
      have HRG := Lib.hid (fun W (hW : Below wr.heap.size wr W) j u (h : (row8 D)[j]? = some u) => (show W.cell? ⟨g, k * 16 + j, none⟩ = some u from HV.out W (b0.on hW) _ u (blk_part k j u (by rw [← hD]; exact h))))
      have X2 := Lib.hid x0
      have A2 := Lib.hid a0
      have K2 := Lib.hid k0
      have U2 := Lib.hid u0
      have B2 := Lib.hid b0
      clear hD bD hM bM hbw x0 a0 k0 u0 b0
      go_upto_region 6 with (fail)
      refine wp_region_g (by kernel_rfl) 9 (by decide) (by kernel_rfl) (by kernel_rfl) (by kernel_rfl) wr.heap.size (Nat.le_refl _) [.val (.slice ao k ac), .val (.agg (row8 KA).toArray), .val (.agg (row8 U).toArray), .val (.slice (some ⟨g, 0, none⟩) n cap), .val (.int .i64 (k : Int)), .val (.pointer (some ⟨g, k * 16, none⟩)), .val (.agg (row8 D).toArray), .val (.agg (row8 M).toArray), .one16 M] (fun _ => 11) ?_ ?_
      · refine ⟨?_, ?_, ?_, ?_, ?_, ?_, ?_, ?_, ?_, trivial⟩
        · intro a w' hF hB hd
          have e6 : a.eval (.tmp 6) = .slice ao k ac := hF 6 (by decide +kernel)
          exact doesG_val rfl (ex_move rfl e6) rfl rfl
        · intro a w' hF hB hd
          have e2 : a.eval (.tmp 2) = .pointer (some ⟨w.heap.size, 0, none⟩) := hF 2 (by decide +kernel)
          exact doesG_wp rfl rfl fun K' hK' => wp_load_mid 36 (.tmp 2) rfl w.heap.size 0 e2 (row8 KA) _ (K2.out.below hB K2.out.lt).range Tryd.underlying36 rfl (by rw [K240.out]; exact info240) (hK' _ _ rfl (Below.refl _ _))
        · intro a w' hF hB hd
          have e5 : a.eval (.tmp 5) = .pointer (some ⟨ub, 0, none⟩) := hF 5 (by decide +kernel)
          exact doesG_wp rfl rfl fun K' hK' => wp_load_mid 61 (.tmp 5) rfl ub 0 e5 (row8 U) _ (U2.out.below hB U2.out.lt).range Tryd.underlying61 rfl (by rw [U256.out]; exact info256) (hK' _ _ rfl (Below.refl _ _))
        · intro a w' hF hB hd
          have e1 : a.eval (.tmp 1) = .slice (some ⟨g, 0, none⟩) n cap := hF 1 (by decide +kernel)
          exact doesG_val rfl (ex_move rfl e1) rfl rfl
        · intro a w' hF hB hd
          have e7 : a.eval (.tmp 7) = .int .i64 (k : Int) := hF 7 (by decide +kernel)
          exact doesG_val rfl (ex_move rfl e7) rfl rfl
        · intro a w' hF hB hd
          have e18 : a.eval (.tmp 18) = .slice (some ⟨g, 0, none⟩) n cap := hd 3 (by decide +kernel) (.inr (by decide))
          have e19 : a.eval (.tmp 19) = .int .i64 (k : Int) := hd 4 (by decide +kernel) (.inr (by decide))
          exact doesG_val rfl (v := .pointer (some ⟨g, k * 16, none⟩)) (by unfold execOp; simp only [e18, e19]; go_simp) rfl rfl
        · intro a w' hF hB hd
          have e20 : a.eval (.tmp 20) = .pointer (some ⟨g, k * 16, none⟩) := hd 5 (by decide +kernel) (.inr (by decide))
          exact doesG_wp rfl rfl fun K' hK' => wp_load_mid 35 (.tmp 20) rfl g (k * 16) e20 (row8 D) _ (fun j u h => HRG.out w' hB j u h) Tryd.underlying35 rfl (by rw [D16.out]; exact info16) (hK' _ _ rfl (Below.refl _ _))
        · intro a w' hF hB hd
          have e16 : a.eval (.tmp 16) = .agg (row8 KA).toArray := hd 1 (by decide +kernel) (.inr (by decide))
          have e17 : a.eval (.tmp 17) = .agg (row8 U).toArray := hd 2 (by decide +kernel) (.inr (by decide))
          have e21 : a.eval (.tmp 21) = .agg (row8 D).toArray := hd 6 (by decide +kernel) (.inr (by decide))
          exact doesG_call rfl (ex_call (vs := #[.agg (row8 KA).toArray, .agg (row8 U).toArray, .agg (row8 D).toArray]) rfl (by simp only [List.map_toArray, List.map_cons, List.map_nil, e16, e17, e21]) (by go_simp)) rfl ((HDC.out w').mono fun e w2 hh => ⟨_, hh.1, rfl, hh.2⟩)
        · intro a w' hF hB hd
          have e22 : a.eval (.tmp 22) = .agg (row8 M).toArray := hd 7 (by decide +kernel) (.inr (by decide))
          exact doesG_one16 rfl 22 M M16.out rfl e22 hB.size rfl
      · intro vs w6 hB hv hap
        have e15 : vs 0 = .slice ao k ac := hv 0 (by decide) (by decide)
        obtain ⟨og, e23, hog, o6⟩ : (Pred.one16 (B := wr.heap.size) M).holds (vs 8) w6 := hv 8 (by decide) (by decide)
        simp only [List.take_succ_cons, List.take_zero, List.drop_succ_cons, List.drop_zero, putOps, Act.put, List.setIfInBounds_toArray, List.set_cons_zero, List.set_cons_succ, e15, e23]
        have X6 := Lib.hid (X2.out.below hB)
        have K6 := Lib.hid (K2.out.below hB K2.out.lt)
        have U6 := Lib.hid (U2.out.below hB U2.out.lt)
        have B6 := Lib.hid (B2.out.on hB)
        have O6 := Lib.hid o6
        clear hv hap e15 e23 hB X2 K2 U2 B2 o6 hog
        generalize vs 1 = v1 at *
        generalize vs 2 = v2 at *
        generalize vs 3 = v3 at *
        generalize vs 4 = v4 at *
        generalize vs 5 = v5 at *
        generalize vs 6 = v6 at *
        generalize vs 7 = v7 at *
        go_wp2_with ((with_reducible show wpList _ _ _ _ _ _); refine wpList_rows_app rfl (.tmp 15) (.tmp 23) rfl w.heap.size (.slice ao k ac) k (bw (fun _ x => dec (rk KA) x) l k) M og rfl rfl X6.out M16.out O6.out (by omega) B6.out.size ?_; intro v' w7 x7 g7 h7; rw [HBW.out] at x7; have X7 := Lib.hid x7; have A7 := Lib.hid (show ∀ g, v'.ownBlock = some g → g ≠ w.heap.size ∧ g ≠ ub from fun q hq => by (rcases h7 with h7 | h7 <;> rw [h7] at hq); exact A2.out q hq; have e : w6.heap.size = q := Option.some.inj hq; have h1 := K6.out.lt; have h2 := U6.out.lt; omega); have K7 := Lib.hid (K6.out.grown g7 (fun q => (A2.out _ q.symm).1 rfl)); have U7 := Lib.hid (U6.out.grown g7 (fun q => (A2.out _ q.symm).2 rfl)); have B7 := Lib.hid (B6.out.grown g7 B6.out.size (fun q hq => (X6.out.from q hq).1)); clear x7 g7 h7)
        exact ⟨⟨k + 1, by omega, by go_num, X7.out, A7.out, K7.out, U7.out, B7.out⟩, by simp [intOf]; omega⟩
    · have hltI : ¬ (k : Int) < (n : Int) := by omega
      obtain rfl : k = n := by omega
      have X2 := Lib.hid x0
      have B2 := Lib.hid b0
      clear x0 a0 k0 u0 b0
      go_wp2_with fail
      go_ret
      exact ⟨_, rfl, X2.out, B2.out⟩
end Go.Proofs.YtmidbmihadhgdaaDoor
