/- The document's Decrypt: contract. Own work. -/
import Derived.Test.YtmidbmihadhgdaaDoorAesUnR
import Derived.Test.YtmidbmihadhgdaaDoorFillTo
import Derived.Test.YtmidbmihadhgdaaDoorAesEncP
import Derived.Test.YtmidbmihadhgdaaDoorAesSched
namespace Go.Proofs.YtmidbmihadhgdaaDoor
open Go.ChangeShapes Go.WideShapes Go.ChangeAt Go.RowKit
open AM FM
/-- Columns mixed the way back, place by place. -/
def imE (t : List Nat) (i : Nat) : Nat := mul 14 (at_ t i 0) ^^^ mul 11 (at_ t i 1) ^^^ mul 13 (at_ t i 2) ^^^ mul 9 (at_ t i 3)
def imTo (t : List Nat) (n : Nat) : List Nat := row fun i => if i < n then imE t i else gb t i
theorem imTo_len (t : List Nat) (n : Nat) : (imTo t n).length = 16 := row_len _
theorem imTo_get (t : List Nat) (n k : Nat) (h : k < 16) : gb (imTo t n) k = if k < n then imE t k else gb t k := row_get _ _ h
theorem imTo_zero {t : List Nat} (ht : t.length = 16) : imTo t 0 = t :=
  bytes_ext (n := 16) (imTo_len _ _) ht fun k hk => by rw [imTo_get _ _ _ hk, if_neg (by omega)]
theorem imTo_all (t : List Nat) : imTo t 16 = imx t :=
  bytes_ext (n := 16) (imTo_len _ _) (row_len _) fun k hk => by
    rw [imTo_get _ _ _ hk, if_pos hk]; unfold imx; rw [row_get _ _ hk]; rfl
theorem imTo_step (t : List Nat) (k : Nat) (hk : k < 16) : (imTo t k).set k (imE t k) = imTo t (k + 1) :=
  bytes_ext (n := 16) (by rw [List.length_set, imTo_len]) (imTo_len _ _) fun j hj => by
    rw [gb_set _ _ _ _ (by rw [imTo_len]; exact hk), imTo_get _ _ _ hj, imTo_get _ _ _ hj]
    by_cases e : k = j
    · subst e; rw [if_pos rfl, if_pos (by omega)]
    · rw [if_neg e]
      by_cases h : j < k
      · rw [if_pos h, if_pos (by omega)]
      · rw [if_neg h, if_neg (by omega)]
/-- The document's way to say an entry. -/
theorem imE_said (t : List Nat) (c r : Nat) (_hc : c < 4) (hr : r < 4) :
    mul 14 (gb t (4 * c + r)) ^^^ mul 11 (gb t (4 * c + (r + 1) % 4)) ^^^ mul 13 (gb t (4 * c + (r + 2) % 4)) ^^^ mul 9 (gb t (4 * c + (r + 3) % 4)) = imE t (4 * c + r) := by
  unfold imE at_
  rw [show (4 * c + r) / 4 = c by omega, show ((4 * c + r) % 4 + 0) % 4 = r by omega, show ((4 * c + r) % 4 + 1) % 4 = (r + 1) % 4 by omega, show ((4 * c + r) % 4 + 2) % 4 = (r + 2) % 4 by omega, show ((4 * c + r) % 4 + 3) % 4 = (r + 3) % 4 by omega]
/-- Rows shifted back, byte by byte of what was there. -/
def isTo (t : List Nat) (n : Nat) : List Nat := row fun i => if 4 * ((i / 4 + 4 - i % 4) % 4) + i % 4 < n then unb (gb t (4 * ((i / 4 + 4 - i % 4) % 4) + i % 4)) else gb t i
theorem isTo_len (t : List Nat) (n : Nat) : (isTo t n).length = 16 := row_len _
theorem isTo_get (t : List Nat) (n k : Nat) (h : k < 16) : gb (isTo t n) k = if 4 * ((k / 4 + 4 - k % 4) % 4) + k % 4 < n then unb (gb t (4 * ((k / 4 + 4 - k % 4) % 4) + k % 4)) else gb t k := row_get _ _ h
theorem isTo_zero {t : List Nat} (ht : t.length = 16) : isTo t 0 = t :=
  bytes_ext (n := 16) (isTo_len _ _) ht fun k hk => by rw [isTo_get _ _ _ hk, if_neg (by omega)]
theorem isTo_all (t : List Nat) : isTo t 16 = iss t :=
  bytes_ext (n := 16) (isTo_len _ _) (row_len _) fun k hk => by
    rw [isTo_get _ _ _ hk, if_pos (by omega)]; unfold iss; rw [row_get _ _ hk]
theorem isTo_step (t : List Nat) (q : Nat) (hq : q < 16) : (isTo t q).set (4 * ((q / 4 + q % 4) % 4) + q % 4) (unb (gb t q)) = isTo t (q + 1) :=
  bytes_ext (n := 16) (by rw [List.length_set, isTo_len]) (isTo_len _ _) fun j hj => by
    obtain ⟨h1, h2⟩ := shift_there j hj
    obtain ⟨h3, h4⟩ := shift_back q hq
    rw [gb_set _ _ _ _ (by rw [isTo_len]; exact h3), isTo_get _ _ _ hj, isTo_get _ _ _ hj]
    obtain ⟨z, hz⟩ : ∃ z, z = 4 * ((j / 4 + 4 - j % 4) % 4) + j % 4 := ⟨_, rfl⟩
    rw [← hz] at h1 h2 ⊢
    by_cases e : z = q
    · have e2 : 4 * ((q / 4 + q % 4) % 4) + q % 4 = j := by rw [← e]; exact h2
      rw [if_pos e2, if_pos (by omega), e]
    · have e2 : 4 * ((q / 4 + q % 4) % 4) + q % 4 ≠ j := fun h => e (by rw [hz, ← h]; exact h4)
      rw [if_neg e2]
      by_cases h : z < q
      · rw [if_pos h, if_pos (by omega)]
      · rw [if_neg h, if_neg (by omega)]
set_option maxRecDepth 100000 in
set_option maxHeartbeats 4000000 in
theorem adecr_any (KS : List Nat) (hK : Bytes 240 KS) (s : List Nat) (hs : Bytes 16 s) (w : World) :
    Calls Tryd.prog 48 #[.agg (row8 KS).toArray, .agg (row8 untab).toArray, .agg (row8 s).toArray] w fun e w' => e = .returned (.agg (row8 (dec (rk KS) s)).toArray) ∧ Below w.heap.size w w' := by
  obtain ⟨U, hU⟩ : ∃ U, U = untab := ⟨_, rfl⟩
  rw [← hU]
  have HUN := Lib.hid (fun x (hx : x < 256) => (show (row8 U)[x]? = some (.int .u8 ((unb x : Nat) : Int)) by rw [row8_val _ _ (by rw [hU, unt_len]; exact hx), hU]; rfl))
  obtain ⟨C0, hC0⟩ : ∃ C0, C0 = row8 (List.replicate 16 0) := ⟨_, rfl⟩
  have hz : ∀ w, (zeroValue 35).run Tryd.prog w = .ok (.agg C0.toArray) w := by rw [hC0]; exact zero16
  have hc0 : C0.length = 16 := by rw [hC0, row8_len, List.length_replicate]
  obtain ⟨wr, hwr⟩ : ∃ W, W = (((w.alloc (.cells (row8 KS).toArray 36)).alloc (.cells (row8 U).toArray 61)).alloc (.cells (row8 s).toArray 35)).alloc (.cells C0.toArray 35) := ⟨_, rfl⟩
  have w1 := (Below.refl w.heap.size w).alloc (Nat.le_refl _) (.cells (row8 KS).toArray 36)
  have w2 := w1.alloc w1.size (.cells (row8 U).toArray 61)
  have w3 := w2.alloc w2.size (.cells (row8 s).toArray 35)
  have w4 := w3.alloc w3.size (.cells C0.toArray 35)
  have K1 := Lib.hid ((((Blk.new w 36 (row8 KS) _ rfl).alloc (.cells (row8 U).toArray 61)).alloc (.cells (row8 s).toArray 35)).alloc (.cells C0.toArray 35))
  have U1 := Lib.hid (((Blk.new (w.alloc (.cells (row8 KS).toArray 36)) 61 (row8 U) (w.heap.size + 1) (by simp)).alloc (.cells (row8 s).toArray 35)).alloc (.cells C0.toArray 35))
  have S1 := Lib.hid ((Blk.new ((w.alloc (.cells (row8 KS).toArray 36)).alloc (.cells (row8 U).toArray 61)) 35 (row8 s) (w.heap.size + 1 + 1) (by simp)).alloc (.cells C0.toArray 35))
  have R1 := Lib.hid (Blk.new (((w.alloc (.cells (row8 KS).toArray 36)).alloc (.cells (row8 U).toArray 61)).alloc (.cells (row8 s).toArray 35)) 35 C0 (w.heap.size + 1 + 1 + 1) (by simp))
  rw [← hwr] at w4 K1 U1 S1 R1
  have B1 := Lib.hid w4
  have HWR := Lib.hid hwr
  have HK := Lib.hid hK
  have HS := Lib.hid hs
  have S16 := Lib.hid (show (row8 s).length = 16 by rw [row8_len]; exact hs.1)
  clear hC0 w1 w2 w3 w4 hK hs hU hwr
  go_enter Tryd.func48, Tryd.ntmps48
  go_upto_region 1 with (fail)
  rw [← HWR.out]
  obtain ⟨sb, hsb⟩ : ∃ b, b = wr.heap.size := ⟨_, rfl⟩
  have hsl : w.heap.size + 1 + 1 + 1 < sb := by rw [hsb]; exact R1.out.lt
  have N1 := Lib.hid (Blk.new wr 35 C0 sb hsb)
  have HSB := Lib.hid hsb
  have S0 := Lib.hid (S1.out.alloc (.cells C0.toArray 35))
  have K2 := Lib.hid (K1.out.alloc (.cells C0.toArray 35))
  have U2 := Lib.hid (U1.out.alloc (.cells C0.toArray 35))
  have R2 := Lib.hid (R1.out.alloc (.cells C0.toArray 35))
  have B2 := Lib.hid (B1.out.alloc B1.out.size (.cells C0.toArray 35))
  clear hsb
  go_upto_region 3 with (first
    | (refine wpList_load_mid rfl 35 (.tmp 5) rfl (w.heap.size + 1 + 1) 0 rfl (row8 s) _ S1.out.range Tryd.underlying35 rfl (by rw [S16.out]; exact info16) ?_)
    | (refine wpList_store_blk rfl 35 (.tmp 7) (.tmp 18) rfl wr.heap.size 0 (row8 s) rfl rfl 35 C0 (by rw [← HSB.out]; exact N1.out) (by rw [S16.out, hc0]; exact Nat.le_refl _) (by rw [S16.out]; exact info16) (row8_one _) ?_; intro w5 b5 g5; rw [← HSB.out] at b5 g5; rw [splice_all _ _ (by rw [S16.out, hc0])] at b5; have N5 := Lib.hid b5; have K5 := Lib.hid (K2.out.grown g5 (fun q => by have e : w.heap.size = sb := Option.some.inj q; omega)); have U5 := Lib.hid (U2.out.grown g5 (fun q => by have e : w.heap.size + 1 = sb := Option.some.inj q; omega)); have R5 := Lib.hid (R2.out.grown g5 (fun q => by have e : w.heap.size + 1 + 1 + 1 = sb := Option.some.inj q; omega)); have B5 := Lib.hid (B2.out.grown g5 B2.out.size (fun k hk => by have e : sb = k := Option.some.inj hk; omega)); clear b5 g5))
  rw [← HSB.out]
  clear HSB N1 S0 K2 U2 R2 B2 K1 U1 S1 R1 B1 HWR
  go_loopw [8] (fun x wr => ∃ m : Nat, m ≤ 14 ∧ x = .int .i64 (m : Int) ∧ Blk wr w.heap.size 36 (row8 KS) ∧ Blk wr (w.heap.size + 1) 61 (row8 U) ∧ Blk wr (w.heap.size + 1 + 1 + 1) 35 C0 ∧ Blk wr sb 35 (row8 (decTo (rk KS) s (14 - m))) ∧ Below w.heap.size w wr) (fun x _ => (intOf x).toNat)
  case atStart => exact ⟨14, by omega, rfl, K5.out, U5.out, R5.out, N5.out, B5.out⟩
  case round =>
    clear K5 U5 R5 N5 B5
    obtain ⟨m, hm, rfl, k0, u0, r0, n0, b0⟩ := hrel
    obtain ⟨D, hD⟩ : ∃ D, D = decTo (rk KS) s (14 - m) := ⟨_, rfl⟩
    have bD : Bytes 16 D := by rw [hD]; exact decTo_bytes HS.out _
    rw [← hD] at n0
    have D16 := Lib.hid (show (row8 D).length = 16 by rw [row8_len]; exact bD.1)
    have HSW := Lib.hid (show sb < wr.heap.size from n0.lt)
    by_cases h1 : 1 ≤ m
    · have h1I : (1 : Int) ≤ (m : Int) := by omega
      obtain ⟨A, hA⟩ : ∃ A, A = ax D (rk KS m) := ⟨_, rfl⟩
      have bA : Bytes 16 A := by rw [hA]; exact ax_bytes bD (rk_bytes HK.out.2 m)
      have A16 := Lib.hid (show (row8 A).length = 16 by rw [row8_len]; exact bA.1)
      have Q16 := Lib.hid (show (row8 (rk KS m)).length = 16 by rw [row8_len]; exact row_len _)
      have HWI := Lib.hid (fun W => awith_any D (rk KS m) bD (rk_bytes HK.out.2 m) W)
      rw [← hA] at HWI
      have HBA := Lib.hid bA
      have HA := Lib.hid hA
      have HD := Lib.hid hD
      have K2 := Lib.hid k0
      have U2 := Lib.hid u0
      have R2 := Lib.hid r0
      have N2 := Lib.hid n0
      have B2 := Lib.hid b0
      clear k0 u0 r0 n0 b0 bD bA hA hD
      go_upto_region 5 with (fail)
      refine wp_region_g (by kernel_rfl) 6 (by decide) (by kernel_rfl) (by kernel_rfl) (by kernel_rfl) wr.heap.size (Nat.le_refl _) [.val (.agg (row8 D).toArray), .val (.int .i64 (m : Int)), .val (.pointer (some ⟨w.heap.size, 16 * m, none⟩)), .val (.agg (row8 (rk KS m)).toArray), .val (.agg (row8 A).toArray), .blk 35 C0] (fun _ => 7) ?_ ?_
      · refine ⟨?_, ?_, ?_, ?_, ?_, ?_, trivial⟩
        · intro a w' hF hB hd
          have e7 : a.eval (.tmp 7) = .pointer (some ⟨sb, 0, none⟩) := hF 7 (by decide +kernel)
          exact doesG_wp rfl rfl fun K' hK' => wp_load_mid 35 (.tmp 7) rfl sb 0 e7 (row8 D) _ (N2.out.below hB N2.out.lt).range Tryd.underlying35 rfl (by rw [D16.out]; exact info16) (hK' _ _ rfl (Below.refl _ _))
        · intro a w' hF hB hd
          have e8 : a.eval (.tmp 8) = .int .i64 (m : Int) := hF 8 (by decide +kernel)
          exact doesG_val rfl (ex_move rfl e8) rfl rfl
        · intro a w' hF hB hd
          have e3 : a.eval (.tmp 3) = .pointer (some ⟨w.heap.size, 0, none⟩) := hF 3 (by decide +kernel)
          have e24 : a.eval (.tmp 24) = .int .i64 (m : Int) := hd 1 (by decide +kernel) (.inr (by decide))
          have z1 : (m : Int) < 15 := by omega
          exact doesG_val rfl (v := .pointer (some ⟨w.heap.size, 16 * m, none⟩)) (by unfold execOp; simp only [e3, e24]; go_simp; try omega) rfl rfl
        · intro a w' hF hB hd
          have e25 : a.eval (.tmp 25) = .pointer (some ⟨w.heap.size, 16 * m, none⟩) := hd 2 (by decide +kernel) (.inr (by decide))
          exact doesG_wp rfl rfl fun K' hK' => wp_load_mid 35 (.tmp 25) rfl w.heap.size (16 * m) e25 (row8 (rk KS m)) _ (range_part (K2.out.below hB K2.out.lt) (16 * m) _ (rk_part HK.out.1 m (by omega))) Tryd.underlying35 rfl (by rw [Q16.out]; exact info16) (hK' _ _ rfl (Below.refl _ _))
        · intro a w' hF hB hd
          have e23 : a.eval (.tmp 23) = .agg (row8 D).toArray := hd 0 (by decide +kernel) (.inr (by decide))
          have e26 : a.eval (.tmp 26) = .agg (row8 (rk KS m)).toArray := hd 3 (by decide +kernel) (.inr (by decide))
          exact doesG_call rfl (ex_call (vs := #[.agg (row8 D).toArray, .agg (row8 (rk KS m)).toArray]) rfl (by simp only [List.map_toArray, List.map_cons, List.map_nil, e23, e26]) (by go_simp)) rfl ((HWI.out w').mono fun e w2 hh => ⟨_, hh.1, rfl, hh.2⟩)
        · intro a w' hF hB hd
          exact doesG_alloc rfl 35 C0 rfl hz hB.size rfl
      · intro vs w6 hB hv hap
        have e27 : vs 4 = .agg (row8 A).toArray := hv 4 (by decide) (by decide)
        obtain ⟨tb, e9, htb, t6⟩ : (Pred.blk (B := wr.heap.size) 35 C0).holds (vs 5) w6 := hv 5 (by decide) (by decide)
        simp only [List.take_succ_cons, List.take_zero, List.drop_succ_cons, List.drop_zero, putOps, Act.put, List.setIfInBounds_toArray, List.set_cons_zero, List.set_cons_succ, e27, e9]
        have K4 := Lib.hid (K2.out.below hB K2.out.lt)
        have U4 := Lib.hid (U2.out.below hB U2.out.lt)
        have R4 := Lib.hid (R2.out.below hB R2.out.lt)
        have N4 := Lib.hid (N2.out.below hB N2.out.lt)
        have B4 := Lib.hid (B2.out.on hB)
        have T4 := Lib.hid t6
        have hst : sb < tb := by have := HSW.out; omega
        clear hv hap e27 e9 hB K2 U2 R2 N2 B2 t6 htb
        generalize vs 0 = v0 at *
        generalize vs 1 = v1 at *
        generalize vs 2 = v2 at *
        generalize vs 3 = v3 at *
        go_upto_region 8 with (first
          | (refine wpList_store_blk rfl 35 (.tmp 9) (.tmp 27) rfl tb 0 (row8 A) rfl rfl 35 C0 T4.out (by rw [A16.out, hc0]; exact Nat.le_refl _) (by rw [A16.out]; exact info16) (row8_one _) ?_; intro w5 b5 g5; rw [splice_all _ _ (by rw [A16.out, hc0])] at b5; have T5 := Lib.hid b5; have K5 := Lib.hid (K4.out.grown g5 (fun q => by have e : w.heap.size = tb := Option.some.inj q; omega)); have U5 := Lib.hid (U4.out.grown g5 (fun q => by have e : w.heap.size + 1 = tb := Option.some.inj q; omega)); have R5 := Lib.hid (R4.out.grown g5 (fun q => by have e : w.heap.size + 1 + 1 + 1 = tb := Option.some.inj q; omega)); have N5 := Lib.hid (N4.out.grown g5 (fun q => by have e : sb = tb := Option.some.inj q; omega)); have B5 := Lib.hid (B4.out.grown g5 B4.out.size (fun k hk => by have e : tb = k := Option.some.inj hk; omega)); clear b5 g5)
          | (refine wpList_load_mid rfl 35 (.tmp 9) rfl tb 0 rfl (row8 A) _ T5.out.range Tryd.underlying35 rfl (by rw [A16.out]; exact info16) ?_)
          | (refine wpList_store_blk rfl 35 (.tmp 7) (.tmp 28) rfl sb 0 (row8 A) rfl rfl 35 (row8 D) N5.out (by rw [A16.out, D16.out]; exact Nat.le_refl _) (by rw [A16.out]; exact info16) (row8_one _) ?_; intro w7 b6 g6; rw [splice_all _ _ (by rw [A16.out, D16.out])] at b6; have N6 := Lib.hid b6; have K6 := Lib.hid (K5.out.grown g6 (fun q => by have e : w.heap.size = sb := Option.some.inj q; omega)); have U6 := Lib.hid (U5.out.grown g6 (fun q => by have e : w.heap.size + 1 = sb := Option.some.inj q; omega)); have R6 := Lib.hid (R5.out.grown g6 (fun q => by have e : w.heap.size + 1 + 1 + 1 = sb := Option.some.inj q; omega)); have T6 := Lib.hid (T5.out.grown g6 (fun q => by have e : tb = sb := Option.some.inj q; omega)); have B6 := Lib.hid (B5.out.grown g6 B5.out.size (fun k hk => by have e : sb = k := Option.some.inj hk; omega)); clear b6 g6))
        clear K4 U4 R4 N4 T4 B4 K5 U5 R5 N5 T5 B5 D16 HWI Q16
        by_cases h14 : m < 14
        · have h14I : (m : Int) < 14 := by omega
          go_loopw [10] (fun x wq => ∃ c : Nat, c ≤ 4 ∧ x = .int .i64 (c : Int) ∧ Blk wq w.heap.size 36 (row8 KS) ∧ Blk wq (w.heap.size + 1) 61 (row8 U) ∧ Blk wq (w.heap.size + 1 + 1 + 1) 35 C0 ∧ Blk wq sb 35 (row8 (imTo A (4 * c))) ∧ Blk wq tb 35 (row8 A) ∧ Below w.heap.size w wq) (fun x _ => 4 - (intOf x).toNat)
          case atStart => exact ⟨0, by omega, rfl, K6.out, U6.out, R6.out, by rw [Nat.mul_zero, imTo_zero HBA.out.1]; exact N6.out, T6.out, B6.out⟩
          case round =>
            clear K6 U6 R6 N6 T6 B6
            obtain ⟨c, hc, rfl, k1, u1, r1, n1, t1, b1⟩ := hrel
            by_cases hc4 : c < 4
            · have K2 := Lib.hid k1
              have U2 := Lib.hid u1
              have R2 := Lib.hid r1
              have N2 := Lib.hid n1
              have T2 := Lib.hid t1
              have B2 := Lib.hid b1
              clear k1 u1 r1 n1 t1 b1
              go_upto_region 11 with (fail)
              go_loopw [11] (fun x wp => ∃ r : Nat, r ≤ 4 ∧ x = .int .i64 (r : Int) ∧ Blk wp w.heap.size 36 (row8 KS) ∧ Blk wp (w.heap.size + 1) 61 (row8 U) ∧ Blk wp (w.heap.size + 1 + 1 + 1) 35 C0 ∧ Blk wp sb 35 (row8 (imTo A (4 * c + r))) ∧ Blk wp tb 35 (row8 A) ∧ Below w.heap.size w wp) (fun x _ => 4 - (intOf x).toNat)
              case atStart => exact ⟨0, by omega, rfl, K2.out, U2.out, R2.out, N2.out, T2.out, B2.out⟩
              case round =>
                clear K2 U2 R2 N2 T2 B2
                obtain ⟨r, hr, rfl, k3, u3, r3, n3, t3, b3⟩ := hrel
                by_cases hr4 : r < 4
                · obtain ⟨i1, h1⟩ : ∃ p, p = 4 * c + (r + 1) % 4 := ⟨_, rfl⟩
                  obtain ⟨i2, h2⟩ : ∃ p, p = 4 * c + (r + 2) % 4 := ⟨_, rfl⟩
                  obtain ⟨i3, h3⟩ : ∃ p, p = 4 * c + (r + 3) % 4 := ⟨_, rfl⟩
                  have hd := imE_said A c r hc4 hr4
                  rw [← h1, ← h2, ← h3] at hd
                  have d0 := t3.cell (4 * c + r) _ (row8_val _ _ (by rw [HBA.out.1]; omega))
                  have d1 := t3.cell i1 _ (row8_val _ _ (by rw [HBA.out.1]; omega))
                  have d2 := t3.cell i2 _ (row8_val _ _ (by rw [HBA.out.1]; omega))
                  have d3 := t3.cell i3 _ (row8_val _ _ (by rw [HBA.out.1]; omega))
                  have hstep := imTo_step A (4 * c + r) (by omega)
                  rw [← hd] at hstep
                  obtain ⟨y0, hy0⟩ : ∃ y, y = gb A (4 * c + r) := ⟨_, rfl⟩
                  obtain ⟨y1, hy1⟩ : ∃ y, y = gb A i1 := ⟨_, rfl⟩
                  obtain ⟨y2, hy2⟩ : ∃ y, y = gb A i2 := ⟨_, rfl⟩
                  obtain ⟨y3, hy3⟩ : ∃ y, y = gb A i3 := ⟨_, rfl⟩
                  have l0 : y0 < 256 := by rw [hy0]; exact HBA.out.2 _
                  have l1 : y1 < 256 := by rw [hy1]; exact HBA.out.2 _
                  have l2 : y2 < 256 := by rw [hy2]; exact HBA.out.2 _
                  have l3 : y3 < 256 := by rw [hy3]; exact HBA.out.2 _
                  rw [← hy0] at d0 hstep
                  rw [← hy1] at d1 hstep
                  rw [← hy2] at d2 hstep
                  rw [← hy3] at d3 hstep
                  have HST := Lib.hid hstep
                  have HC1 := Lib.hid (show ∀ W, Calls Tryd.prog 52 #[.int .u8 (y0 : Int), .int .i64 14] W fun e w' => e = .returned (.int .u8 ((mul 14 y0 : Nat) : Int)) ∧ w' = W from fun W => atimes_any y0 14 l0 (by omega) W)
                  have HC2 := Lib.hid (show ∀ W, Calls Tryd.prog 52 #[.int .u8 (y1 : Int), .int .i64 11] W fun e w' => e = .returned (.int .u8 ((mul 11 y1 : Nat) : Int)) ∧ w' = W from fun W => atimes_any y1 11 l1 (by omega) W)
                  have HC3 := Lib.hid (show ∀ W, Calls Tryd.prog 52 #[.int .u8 (y2 : Int), .int .i64 13] W fun e w' => e = .returned (.int .u8 ((mul 13 y2 : Nat) : Int)) ∧ w' = W from fun W => atimes_any y2 13 l2 (by omega) W)
                  have HC4 := Lib.hid (show ∀ W, Calls Tryd.prog 52 #[.int .u8 (y3 : Int), .int .i64 9] W fun e w' => e = .returned (.int .u8 ((mul 9 y3 : Nat) : Int)) ∧ w' = W from fun W => atimes_any y3 9 l3 (by omega) W)
                  obtain ⟨m0, hm0⟩ : ∃ y, y = mul 14 y0 := ⟨_, rfl⟩
                  obtain ⟨m1, hm1⟩ : ∃ y, y = mul 11 y1 := ⟨_, rfl⟩
                  obtain ⟨m2, hm2⟩ : ∃ y, y = mul 13 y2 := ⟨_, rfl⟩
                  obtain ⟨m3, hm3⟩ : ∃ y, y = mul 9 y3 := ⟨_, rfl⟩
                  have p0 : m0 < 256 := by rw [hm0]; exact mul_lt _ _ (by omega)
                  have p1 : m1 < 256 := by rw [hm1]; exact mul_lt _ _ (by omega)
                  have p2 : m2 < 256 := by rw [hm2]; exact mul_lt _ _ (by omega)
                  have p3 : m3 < 256 := by rw [hm3]; exact mul_lt _ _ (by omega)
                  rw [← hm0] at HC1 HST
                  rw [← hm1] at HC2 HST
                  rw [← hm2] at HC3 HST
                  rw [← hm3] at HC4 HST
                  have x1 := u8_xor_nat m0 m1 p0 p1
                  have x2 := u8_xor_nat (m0 ^^^ m1) m2 (lt_of_xor p0 p1) p2
                  have x3 := u8_xor_nat (m0 ^^^ m1 ^^^ m2) m3 (lt_of_xor (lt_of_xor p0 p1) p2) p3
                  have K3 := Lib.hid k3
                  have U3 := Lib.hid u3
                  have R3 := Lib.hid r3
                  have N3 := Lib.hid n3
                  have T3 := Lib.hid t3
                  have B3 := Lib.hid b3
                  have q0 : (0 : Int) ≤ 4 * (c : Int) + (r : Int) := by omega
                  have q1 : 4 * (c : Int) + (r : Int) < 16 := by omega
                  have q2 : (4 * (c : Int) + (r : Int)).toNat = 4 * c + r := by omega
                  have a0 : (0 : Int) ≤ 4 * (c : Int) + ((r : Int) + 1) % 4 := by omega
                  have a1 : 4 * (c : Int) + ((r : Int) + 1) % 4 < 16 := by omega
                  have a2 : (4 * (c : Int) + ((r : Int) + 1) % 4).toNat = i1 := by omega
                  have e0 : (0 : Int) ≤ 4 * (c : Int) + ((r : Int) + 2) % 4 := by omega
                  have e1 : 4 * (c : Int) + ((r : Int) + 2) % 4 < 16 := by omega
                  have e2 : (4 * (c : Int) + ((r : Int) + 2) % 4).toNat = i2 := by omega
                  have g0 : (0 : Int) ≤ 4 * (c : Int) + ((r : Int) + 3) % 4 := by omega
                  have g1 : 4 * (c : Int) + ((r : Int) + 3) % 4 < 16 := by omega
                  have g2 : (4 * (c : Int) + ((r : Int) + 3) % 4).toNat = i3 := by omega
                  clear k3 u3 r3 n3 t3 b3 hstep hd h1 h2 h3 hy0 hy1 hy2 hy3 hm0 hm1 hm2 hm3
                  go_upto_region 13 with (fail)
                  go_big_quiet (fail)
                  have K4 := Lib.hid (show Blk (wr.drewN nq) w.heap.size 36 (row8 KS) from K3.out)
                  have U4 := Lib.hid (show Blk (wr.drewN nq) (w.heap.size + 1) 61 (row8 U) from U3.out)
                  have R4 := Lib.hid (show Blk (wr.drewN nq) (w.heap.size + 1 + 1 + 1) 35 C0 from R3.out)
                  have N4 := Lib.hid (show Blk (wr.drewN nq) sb 35 (row8 (imTo A (4 * c + r))) from N3.out)
                  have T4 := Lib.hid (show Blk (wr.drewN nq) tb 35 (row8 A) from T3.out)
                  have B4 := Lib.hid (below_dN B3.out nq)
                  have f4 := N4.out.free (4 * c + r)
                  have d5 := N4.out.cell (4 * c + r) _ (row8_val _ _ (by rw [imTo_len]; omega))
                  clear d0 d1 d2 d3 K3 U3 R3 N3 T3 B3 a0 a1 a2 e0 e1 e2 g0 g1 g2
                  generalize wr.drewN nq = wd at *
                  go_wp2_with (first
                    | (go_at_call 52; (with_reducible refine (HC1.out _).mono ?_); rintro e w' ⟨rfl, rfl⟩)
                    | (go_at_call 52; (with_reducible refine (HC2.out _).mono ?_); rintro e w' ⟨rfl, rfl⟩)
                    | (go_at_call 52; (with_reducible refine (HC3.out _).mono ?_); rintro e w' ⟨rfl, rfl⟩)
                    | (go_at_call 52; (with_reducible refine (HC4.out _).mono ?_); rintro e w' ⟨rfl, rfl⟩))
                  have h4 := N4.out.set (4 * c + r) (.int .u8 ((m0 ^^^ m1 ^^^ m2 ^^^ m3 : Nat) : Int))
                  rw [row8_set, HST.out] at h4
                  exact ⟨⟨r + 1, by omega, by go_num, K4.out.other ⟨sb, 4 * c + r, none⟩ _ (by simp <;> omega), U4.out.other ⟨sb, 4 * c + r, none⟩ _ (by simp <;> omega), R4.out.other ⟨sb, 4 * c + r, none⟩ _ (by simp <;> omega), h4, T4.out.other ⟨sb, 4 * c + r, none⟩ _ (by simp <;> omega), B4.out.setCell (p := ⟨sb, 4 * c + r, none⟩) (by simp <;> omega) _⟩, by simp [intOf]; omega⟩
                · obtain rfl : r = 4 := by omega
                  have K3 := Lib.hid k3
                  have U3 := Lib.hid u3
                  have R3 := Lib.hid r3
                  have N3 := Lib.hid n3
                  have T3 := Lib.hid t3
                  have B3 := Lib.hid b3
                  clear k3 u3 r3 n3 t3 b3
                  go_wp2_with fail
                  exact ⟨⟨c + 1, by omega, by go_num, K3.out, U3.out, R3.out, N3.out, T3.out, B3.out⟩, by simp [intOf]; omega⟩
            · obtain rfl : c = 4 := by omega
              obtain ⟨X, hX⟩ : ∃ X, X = imx A := ⟨_, rfl⟩
              rw [show 4 * 4 = 16 from rfl, imTo_all, ← hX] at n1
              have HBX := Lib.hid (show Bytes 16 X by rw [hX]; exact imx_bytes _)
              have HFN := Lib.hid (show iss X = decTo (rk KS) s (14 - (m - 1)) by rw [hX, HA.out, HD.out]; exact (decTo_step _ _ m (by omega) (by omega)).symm)
              have X16 := Lib.hid (show (row8 X).length = 16 by rw [row8_len]; exact HBX.out.1)
              have K6 := Lib.hid k1
              have U6 := Lib.hid u1
              have R6 := Lib.hid r1
              have N6 := Lib.hid n1
              have T6 := Lib.hid t1
              have B6 := Lib.hid b1
              clear k1 u1 r1 n1 t1 b1 hX
              go_upto_region 17 with (first
                | (refine wpList_load_mid rfl 35 (.tmp 7) rfl sb 0 rfl (row8 X) _ N6.out.range Tryd.underlying35 rfl (by rw [X16.out]; exact info16) ?_)
                | (refine wpList_store_blk rfl 35 (.tmp 9) (.tmp 87) rfl tb 0 (row8 X) rfl rfl 35 (row8 A) T6.out (by rw [X16.out, A16.out]; exact Nat.le_refl _) (by rw [X16.out]; exact info16) (row8_one _) ?_; intro w7 b7 g7; rw [splice_all _ _ (by rw [X16.out, A16.out])] at b7; have T7 := Lib.hid b7; have K7 := Lib.hid (K6.out.grown g7 (fun q => by have e : w.heap.size = tb := Option.some.inj q; omega)); have U7 := Lib.hid (U6.out.grown g7 (fun q => by have e : w.heap.size + 1 = tb := Option.some.inj q; omega)); have R7 := Lib.hid (R6.out.grown g7 (fun q => by have e : w.heap.size + 1 + 1 + 1 = tb := Option.some.inj q; omega)); have N7 := Lib.hid (N6.out.grown g7 (fun q => by have e : sb = tb := Option.some.inj q; omega)); have B7 := Lib.hid (B6.out.grown g7 B6.out.size (fun k hk => by have e : tb = k := Option.some.inj hk; omega)); clear b7 g7))
              clear K6 U6 R6 N6 T6 B6
              go_loopw [16] (fun x wq => ∃ c : Nat, c ≤ 4 ∧ x = .int .i64 (c : Int) ∧ Blk wq w.heap.size 36 (row8 KS) ∧ Blk wq (w.heap.size + 1) 61 (row8 U) ∧ Blk wq (w.heap.size + 1 + 1 + 1) 35 C0 ∧ Blk wq sb 35 (row8 (isTo X (4 * c))) ∧ Blk wq tb 35 (row8 X) ∧ Below w.heap.size w wq) (fun x _ => 4 - (intOf x).toNat)
              case atStart => exact ⟨0, by omega, rfl, K7.out, U7.out, R7.out, by rw [Nat.mul_zero, isTo_zero HBX.out.1]; exact N7.out, T7.out, B7.out⟩
              case round =>
                clear K7 U7 R7 N7 T7 B7
                obtain ⟨c, hc, rfl, k1, u1, r1, n1, t1, b1⟩ := hrel
                by_cases hc4 : c < 4
                · have K8 := Lib.hid k1
                  have U8 := Lib.hid u1
                  have R8 := Lib.hid r1
                  have N8 := Lib.hid n1
                  have T8 := Lib.hid t1
                  have B8 := Lib.hid b1
                  clear k1 u1 r1 n1 t1 b1
                  go_upto_region 20 with (fail)
                  go_loopw [17] (fun x wp => ∃ r : Nat, r ≤ 4 ∧ x = .int .i64 (r : Int) ∧ Blk wp w.heap.size 36 (row8 KS) ∧ Blk wp (w.heap.size + 1) 61 (row8 U) ∧ Blk wp (w.heap.size + 1 + 1 + 1) 35 C0 ∧ Blk wp sb 35 (row8 (isTo X (4 * c + r))) ∧ Blk wp tb 35 (row8 X) ∧ Below w.heap.size w wp) (fun x _ => 4 - (intOf x).toNat)
                  case atStart => exact ⟨0, by omega, rfl, K8.out, U8.out, R8.out, N8.out, T8.out, B8.out⟩
                  case round =>
                    clear K8 U8 R8 N8 T8 B8
                    obtain ⟨r, hr, rfl, k3, u3, r3, n3, t3, b3⟩ := hrel
                    by_cases hr4 : r < 4
                    · obtain ⟨p, hp⟩ : ∃ p, p = 4 * ((c + r) % 4) + r := ⟨_, rfl⟩
                      have hp16 : p < 16 := by omega
                      obtain ⟨y, hy⟩ : ∃ y, y = gb X (4 * c + r) := ⟨_, rfl⟩
                      have ly : y < 256 := by rw [hy]; exact HBX.out.2 _
                      have d1 := t3.cell (4 * c + r) _ (row8_val _ _ (by rw [HBX.out.1]; omega))
                      rw [← hy] at d1
                      have d2 := u3.cell y _ (HUN.out y ly)
                      have d3 := n3.cell p _ (row8_val _ _ (by rw [isTo_len]; omega))
                      have f3 := n3.free p
                      have hstep := isTo_step X (4 * c + r) (by omega)
                      rw [show (4 * c + r) / 4 = c by omega, show (4 * c + r) % 4 = r by omega, ← hp, ← hy] at hstep
                      have HST := Lib.hid hstep
                      have q0 : (0 : Int) ≤ 4 * (((c : Int) + (r : Int)) % 4) + (r : Int) := by omega
                      have q1 : 4 * (((c : Int) + (r : Int)) % 4) + (r : Int) < 16 := by omega
                      have q2 : (4 * (((c : Int) + (r : Int)) % 4) + (r : Int)).toNat = p := by omega
                      have q3 : (0 : Int) ≤ 4 * (c : Int) + (r : Int) := by omega
                      have q4 : 4 * (c : Int) + (r : Int) < 16 := by omega
                      have q5 : (4 * (c : Int) + (r : Int)).toNat = 4 * c + r := by omega
                      have K3 := Lib.hid k3
                      have U3 := Lib.hid u3
                      have R3 := Lib.hid r3
                      have N3 := Lib.hid n3
                      have T3 := Lib.hid t3
                      have B3 := Lib.hid b3
                      clear k3 u3 r3 n3 t3 b3 hstep hp hy
                      go_wp2_with fail
                      have h4 := N3.out.set p (.int .u8 ((unb y : Nat) : Int))
                      rw [row8_set, HST.out] at h4
                      exact ⟨⟨r + 1, by omega, by go_num, K3.out.other ⟨sb, p, none⟩ _ (by simp <;> omega), U3.out.other ⟨sb, p, none⟩ _ (by simp <;> omega), R3.out.other ⟨sb, p, none⟩ _ (by simp <;> omega), h4, T3.out.other ⟨sb, p, none⟩ _ (by simp <;> omega), B3.out.setCell (p := ⟨sb, p, none⟩) (by simp <;> omega) _⟩, by simp [intOf]; omega⟩
                    · obtain rfl : r = 4 := by omega
                      have K3 := Lib.hid k3
                      have U3 := Lib.hid u3
                      have R3 := Lib.hid r3
                      have N3 := Lib.hid n3
                      have T3 := Lib.hid t3
                      have B3 := Lib.hid b3
                      clear k3 u3 r3 n3 t3 b3
                      go_wp2_with fail
                      exact ⟨⟨c + 1, by omega, by go_num, K3.out, U3.out, R3.out, N3.out, T3.out, B3.out⟩, by simp [intOf]; omega⟩
                · obtain rfl : c = 4 := by omega
                  rw [show 4 * 4 = 16 from rfl, isTo_all, HFN.out] at n1
                  have K3 := Lib.hid k1
                  have U3 := Lib.hid u1
                  have R3 := Lib.hid r1
                  have N3 := Lib.hid n1
                  have B3 := Lib.hid b1
                  clear k1 u1 r1 n1 t1 b1
                  go_wp2_with fail
                  exact ⟨⟨m - 1, by omega, by go_num, K3.out, U3.out, R3.out, N3.out, B3.out⟩, by simp [intOf]; omega⟩
        · have h14I : ¬ (m : Int) < 14 := by omega
          go_loopw [10] (fun x wq => x = .int .i64 0 ∧ Blk wq w.heap.size 36 (row8 KS) ∧ Blk wq (w.heap.size + 1) 61 (row8 U) ∧ Blk wq (w.heap.size + 1 + 1 + 1) 35 C0 ∧ Blk wq sb 35 (row8 A) ∧ Blk wq tb 35 (row8 A) ∧ Below w.heap.size w wq) (fun _ _ => 0)
          case atStart => exact ⟨rfl, K6.out, U6.out, R6.out, N6.out, T6.out, B6.out⟩
          case round =>
            clear K6 U6 R6 N6 T6 B6
            obtain ⟨rfl, k1, u1, r1, n1, t1, b1⟩ := hrel
            have e14 : m = 14 := by omega
            obtain ⟨X, hX⟩ : ∃ X, X = A := ⟨_, rfl⟩
            have HBX := Lib.hid (show Bytes 16 X by rw [hX]; exact HBA.out)
            have HFN := Lib.hid (show iss X = decTo (rk KS) s (14 - (m - 1)) by rw [hX, HA.out, HD.out, e14]; rfl)
            rw [show Blk wr sb 35 (row8 A) = Blk wr sb 35 (row8 X) by rw [hX]] at n1
            have X16 := Lib.hid (show (row8 X).length = 16 by rw [row8_len]; exact HBX.out.1)
            have K6 := Lib.hid k1
            have U6 := Lib.hid u1
            have R6 := Lib.hid r1
            have N6 := Lib.hid n1
            have T6 := Lib.hid t1
            have B6 := Lib.hid b1
            clear k1 u1 r1 n1 t1 b1 hX e14
            go_upto_region 17 with (first
              | (refine wpList_load_mid rfl 35 (.tmp 7) rfl sb 0 rfl (row8 X) _ N6.out.range Tryd.underlying35 rfl (by rw [X16.out]; exact info16) ?_)
              | (refine wpList_store_blk rfl 35 (.tmp 9) (.tmp 87) rfl tb 0 (row8 X) rfl rfl 35 (row8 A) T6.out (by rw [X16.out, A16.out]; exact Nat.le_refl _) (by rw [X16.out]; exact info16) (row8_one _) ?_; intro w7 b7 g7; rw [splice_all _ _ (by rw [X16.out, A16.out])] at b7; have T7 := Lib.hid b7; have K7 := Lib.hid (K6.out.grown g7 (fun q => by have e : w.heap.size = tb := Option.some.inj q; omega)); have U7 := Lib.hid (U6.out.grown g7 (fun q => by have e : w.heap.size + 1 = tb := Option.some.inj q; omega)); have R7 := Lib.hid (R6.out.grown g7 (fun q => by have e : w.heap.size + 1 + 1 + 1 = tb := Option.some.inj q; omega)); have N7 := Lib.hid (N6.out.grown g7 (fun q => by have e : sb = tb := Option.some.inj q; omega)); have B7 := Lib.hid (B6.out.grown g7 B6.out.size (fun k hk => by have e : tb = k := Option.some.inj hk; omega)); clear b7 g7))
            clear K6 U6 R6 N6 T6 B6
            go_loopw [16] (fun x wq => ∃ c : Nat, c ≤ 4 ∧ x = .int .i64 (c : Int) ∧ Blk wq w.heap.size 36 (row8 KS) ∧ Blk wq (w.heap.size + 1) 61 (row8 U) ∧ Blk wq (w.heap.size + 1 + 1 + 1) 35 C0 ∧ Blk wq sb 35 (row8 (isTo X (4 * c))) ∧ Blk wq tb 35 (row8 X) ∧ Below w.heap.size w wq) (fun x _ => 4 - (intOf x).toNat)
            case atStart => exact ⟨0, by omega, rfl, K7.out, U7.out, R7.out, by rw [Nat.mul_zero, isTo_zero HBX.out.1]; exact N7.out, T7.out, B7.out⟩
            case round =>
              clear K7 U7 R7 N7 T7 B7
              obtain ⟨c, hc, rfl, k1, u1, r1, n1, t1, b1⟩ := hrel
              by_cases hc4 : c < 4
              · have K8 := Lib.hid k1
                have U8 := Lib.hid u1
                have R8 := Lib.hid r1
                have N8 := Lib.hid n1
                have T8 := Lib.hid t1
                have B8 := Lib.hid b1
                clear k1 u1 r1 n1 t1 b1
                go_upto_region 20 with (fail)
                go_loopw [17] (fun x wp => ∃ r : Nat, r ≤ 4 ∧ x = .int .i64 (r : Int) ∧ Blk wp w.heap.size 36 (row8 KS) ∧ Blk wp (w.heap.size + 1) 61 (row8 U) ∧ Blk wp (w.heap.size + 1 + 1 + 1) 35 C0 ∧ Blk wp sb 35 (row8 (isTo X (4 * c + r))) ∧ Blk wp tb 35 (row8 X) ∧ Below w.heap.size w wp) (fun x _ => 4 - (intOf x).toNat)
                case atStart => exact ⟨0, by omega, rfl, K8.out, U8.out, R8.out, N8.out, T8.out, B8.out⟩
                case round =>
                  clear K8 U8 R8 N8 T8 B8
                  obtain ⟨r, hr, rfl, k3, u3, r3, n3, t3, b3⟩ := hrel
                  by_cases hr4 : r < 4
                  · obtain ⟨p, hp⟩ : ∃ p, p = 4 * ((c + r) % 4) + r := ⟨_, rfl⟩
                    have hp16 : p < 16 := by omega
                    obtain ⟨y, hy⟩ : ∃ y, y = gb X (4 * c + r) := ⟨_, rfl⟩
                    have ly : y < 256 := by rw [hy]; exact HBX.out.2 _
                    have d1 := t3.cell (4 * c + r) _ (row8_val _ _ (by rw [HBX.out.1]; omega))
                    rw [← hy] at d1
                    have d2 := u3.cell y _ (HUN.out y ly)
                    have d3 := n3.cell p _ (row8_val _ _ (by rw [isTo_len]; omega))
                    have f3 := n3.free p
                    have hstep := isTo_step X (4 * c + r) (by omega)
                    rw [show (4 * c + r) / 4 = c by omega, show (4 * c + r) % 4 = r by omega, ← hp, ← hy] at hstep
                    have HST := Lib.hid hstep
                    have q0 : (0 : Int) ≤ 4 * (((c : Int) + (r : Int)) % 4) + (r : Int) := by omega
                    have q1 : 4 * (((c : Int) + (r : Int)) % 4) + (r : Int) < 16 := by omega
                    have q2 : (4 * (((c : Int) + (r : Int)) % 4) + (r : Int)).toNat = p := by omega
                    have q3 : (0 : Int) ≤ 4 * (c : Int) + (r : Int) := by omega
                    have q4 : 4 * (c : Int) + (r : Int) < 16 := by omega
                    have q5 : (4 * (c : Int) + (r : Int)).toNat = 4 * c + r := by omega
                    have K3 := Lib.hid k3
                    have U3 := Lib.hid u3
                    have R3 := Lib.hid r3
                    have N3 := Lib.hid n3
                    have T3 := Lib.hid t3
                    have B3 := Lib.hid b3
                    clear k3 u3 r3 n3 t3 b3 hstep hp hy
                    go_wp2_with fail
                    have h4 := N3.out.set p (.int .u8 ((unb y : Nat) : Int))
                    rw [row8_set, HST.out] at h4
                    exact ⟨⟨r + 1, by omega, by go_num, K3.out.other ⟨sb, p, none⟩ _ (by simp <;> omega), U3.out.other ⟨sb, p, none⟩ _ (by simp <;> omega), R3.out.other ⟨sb, p, none⟩ _ (by simp <;> omega), h4, T3.out.other ⟨sb, p, none⟩ _ (by simp <;> omega), B3.out.setCell (p := ⟨sb, p, none⟩) (by simp <;> omega) _⟩, by simp [intOf]; omega⟩
                  · obtain rfl : r = 4 := by omega
                    have K3 := Lib.hid k3
                    have U3 := Lib.hid u3
                    have R3 := Lib.hid r3
                    have N3 := Lib.hid n3
                    have T3 := Lib.hid t3
                    have B3 := Lib.hid b3
                    clear k3 u3 r3 n3 t3 b3
                    go_wp2_with fail
                    exact ⟨⟨c + 1, by omega, by go_num, K3.out, U3.out, R3.out, N3.out, T3.out, B3.out⟩, by simp [intOf]; omega⟩
              · obtain rfl : c = 4 := by omega
                rw [show 4 * 4 = 16 from rfl, isTo_all, HFN.out] at n1
                have K3 := Lib.hid k1
                have U3 := Lib.hid u1
                have R3 := Lib.hid r1
                have N3 := Lib.hid n1
                have B3 := Lib.hid b1
                clear k1 u1 r1 n1 t1 b1
                go_wp2_with fail
                exact ⟨⟨m - 1, by omega, by go_num, K3.out, U3.out, R3.out, N3.out, B3.out⟩, by simp [intOf]; omega⟩
    · have h1I : ¬ (1 : Int) ≤ (m : Int) := by omega
      obtain rfl : m = 0 := by omega
      obtain ⟨M, hM⟩ : ∃ M, M = dec (rk KS) s := ⟨_, rfl⟩
      have hM2 : ax D (rk KS 0) = M := by rw [hM, hD]; rfl
      have M16 := Lib.hid (show (row8 M).length = 16 by rw [← hM2, row8_len]; exact row_len _)
      have Q16 := Lib.hid (show (row8 (rk KS 0)).length = 16 by rw [row8_len]; exact row_len _)
      have HWI := Lib.hid (fun W => awith_any D (rk KS 0) bD (rk_bytes HK.out.2 0) W)
      rw [hM2] at HWI
      have HM := Lib.hid hM
      have K2 := Lib.hid k0
      have R2 := Lib.hid r0
      have N2 := Lib.hid n0
      have B2 := Lib.hid b0
      clear k0 u0 r0 n0 b0 bD hD hM hM2
      go_wp2_with (first
        | (refine wpList_load_mid rfl 35 (.tmp 7) rfl sb 0 rfl (row8 D) _ N2.out.range Tryd.underlying35 rfl (by rw [D16.out]; exact info16) ?_)
        | (refine wpList_load_mid rfl 35 (.tmp 113) rfl w.heap.size 0 rfl (row8 (rk KS 0)) _ (range_part K2.out 0 _ (fun j v h => by have := rk_part HK.out.1 0 (by omega) j v h; simpa using this)) Tryd.underlying35 rfl (by rw [Q16.out]; exact info16) ?_)
        | (go_at_call 49; (with_reducible refine (HWI.out _).mono ?_); rintro e w8 ⟨rfl, b8⟩; have R8 := Lib.hid (R2.out.below b8 R2.out.lt); have B8 := Lib.hid (B2.out.on b8); clear b8)
        | (refine wpList_store_mid rfl 35 (.tmp 6) (.tmp 115) rfl (w.heap.size + 1 + 1 + 1) 0 (row8 M).toArray rfl rfl (R8.out.there _ (by rw [List.size_toArray, M16.out, hc0])) (by rw [List.size_toArray, M16.out]; exact info16) (row8_one _) ?_))
      have fin := R8.out.whole (row8 M) (by rw [M16.out, hc0])
      exact bodyPost_ret (v := .agg (row8 M).toArray) (results_mid rfl _ _ (w.heap.size + 1 + 1 + 1) (row8 M) _ rfl fin.range Tryd.underlying35 rfl (by rw [M16.out]; exact info16)) rfl ⟨by rw [HM.out], below_setCells (w.heap.size + 1 + 1 + 1) (by omega) _ 0 _ B8.out⟩
end Go.Proofs.YtmidbmihadhgdaaDoor
