/- The document's Encrypt: contract. Own work. -/
import Derived.Test.YtbepchikngoknaaDoorAesA
import Derived.Test.YtbepchikngoknaaDoorReg
namespace Go.Proofs.YtbepchikngoknaaDoor
open Go.ChangeShapes Go.WideShapes Go.ChangeAt Go.RowKit
open AM FM
/-- The document's table of boxes holds its constants. -/
def TabA (w : World) : Prop := ∀ t, t < 256 → w.cell? ⟨2, t, none⟩ = some (.int .u8 ((box t : Nat) : Int))
theorem TabA.lt {w : World} (h : TabA w) : 2 < w.heap.size := World.block_lt_of_cell? w _ (h 0 (by omega))
theorem TabA.keep {w w' : World} (h : TabA w) (hk : w'.heap[2]? = w.heap[2]?) : TabA w' := fun t ht => by
  rw [World.cell?_of_block (w := w) hk]; exact h t ht
theorem TabA.below {w w' : World} (h : TabA w) (hb : Below w.heap.size w w') : TabA w' := h.keep (hb.block _ h.lt)
theorem rk_part {KS : List Nat} (hl : KS.length = 240) (n : Nat) (hn : n < 15) (j : Nat) (v : Value) (h : (row8 (rk KS n))[j]? = some v) : (row8 KS)[16 * n + j]? = some v := by
  by_cases hj : j < 16
  · rw [row8_val _ j (by unfold rk; rw [row_len]; exact hj)] at h
    unfold rk at h
    rw [row_get _ _ hj] at h
    rw [row8_val _ _ (by omega), h]
  · rw [List.getElem?_eq_none (by rw [row8_len]; unfold rk; rw [row_len]; omega)] at h; cases h
/-- Rows shifted, place by place. -/
def ssTo (s : List Nat) (n : Nat) : List Nat := row fun i => if i < n then box (gb s (4 * ((i / 4 + i % 4) % 4) + i % 4)) else 0
theorem ssTo_len (s : List Nat) (n : Nat) : (ssTo s n).length = 16 := row_len _
theorem ssTo_get (s : List Nat) (n k : Nat) (h : k < 16) : gb (ssTo s n) k = if k < n then box (gb s (4 * ((k / 4 + k % 4) % 4) + k % 4)) else 0 := row_get _ _ h
theorem ssTo_zero (s : List Nat) : row8 (ssTo s 0) = row8 (List.replicate 16 0) := by
  refine congrArg row8 (bytes_ext (n := 16) (ssTo_len _ _) (by simp) fun k hk => ?_)
  rw [ssTo_get _ _ _ hk, if_neg (by omega)]
  unfold gb
  rw [List.getD_eq_getElem?_getD, List.getElem?_replicate, if_pos hk]
  rfl
theorem ssTo_all (s : List Nat) : ssTo s 16 = ss s :=
  bytes_ext (n := 16) (ssTo_len _ _) (row_len _) fun k hk => by
    rw [ssTo_get _ _ _ hk, if_pos hk]; unfold ss; rw [row_get _ _ hk]
theorem ssTo_step (s : List Nat) (k : Nat) (hk : k < 16) : (ssTo s k).set k (box (gb s (4 * ((k / 4 + k % 4) % 4) + k % 4))) = ssTo s (k + 1) :=
  bytes_ext (n := 16) (by rw [List.length_set, ssTo_len]) (ssTo_len _ _) fun j hj => by
    rw [gb_set _ _ _ _ (by rw [ssTo_len]; exact hk), ssTo_get _ _ _ hj, ssTo_get _ _ _ hj]
    by_cases e : k = j
    · subst e; rw [if_pos rfl, if_pos (by omega)]
    · rw [if_neg e]
      by_cases h : j < k
      · rw [if_pos h, if_pos (by omega)]
      · rw [if_neg h, if_neg (by omega)]
/-- Columns mixed, place by place. -/
def mxE (t : List Nat) (i : Nat) : Nat := mul 2 (at_ t i 0) ^^^ mul 3 (at_ t i 1) ^^^ at_ t i 2 ^^^ at_ t i 3
def mxTo (t : List Nat) (n : Nat) : List Nat := row fun i => if i < n then mxE t i else gb t i
theorem mxTo_len (t : List Nat) (n : Nat) : (mxTo t n).length = 16 := row_len _
theorem mxTo_get (t : List Nat) (n k : Nat) (h : k < 16) : gb (mxTo t n) k = if k < n then mxE t k else gb t k := row_get _ _ h
theorem mxTo_zero {t : List Nat} (ht : t.length = 16) : mxTo t 0 = t :=
  bytes_ext (n := 16) (mxTo_len _ _) ht fun k hk => by rw [mxTo_get _ _ _ hk, if_neg (by omega)]
theorem mxTo_all (t : List Nat) : mxTo t 16 = mx t :=
  bytes_ext (n := 16) (mxTo_len _ _) (row_len _) fun k hk => by
    rw [mxTo_get _ _ _ hk, if_pos hk]; unfold mx; rw [row_get _ _ hk]; rfl
theorem mxTo_step (t : List Nat) (k : Nat) (hk : k < 16) : (mxTo t k).set k (mxE t k) = mxTo t (k + 1) :=
  bytes_ext (n := 16) (by rw [List.length_set, mxTo_len]) (mxTo_len _ _) fun j hj => by
    rw [gb_set _ _ _ _ (by rw [mxTo_len]; exact hk), mxTo_get _ _ _ hj, mxTo_get _ _ _ hj]
    by_cases e : k = j
    · subst e; rw [if_pos rfl, if_pos (by omega)]
    · rw [if_neg e]
      by_cases h : j < k
      · rw [if_pos h, if_pos (by omega)]
      · rw [if_neg h, if_neg (by omega)]
theorem mul_three (a : Nat) (h : a < 256) : mul 2 a ^^^ a = mul 3 a := by
  have e := mul_xor_left 2 1 a
  rw [one_mul a h] at e
  exact e.symm
/-- The document's way to say an entry. -/
theorem mxE_said (t : List Nat) (ht : ∀ k, gb t k < 256) (c r : Nat) (_hc : c < 4) (hr : r < 4) :
    mul 2 (gb t (4 * c + r)) ^^^ mul 2 (gb t (4 * c + (r + 1) % 4)) ^^^ gb t (4 * c + (r + 1) % 4) ^^^ gb t (4 * c + (r + 2) % 4) ^^^ gb t (4 * c + (r + 3) % 4) = mxE t (4 * c + r) := by
  unfold mxE at_
  rw [show (4 * c + r) / 4 = c by omega, show ((4 * c + r) % 4 + 0) % 4 = r by omega, show ((4 * c + r) % 4 + 1) % 4 = (r + 1) % 4 by omega, show ((4 * c + r) % 4 + 2) % 4 = (r + 2) % 4 by omega, show ((4 * c + r) % 4 + 3) % 4 = (r + 3) % 4 by omega]
  rw [Nat.xor_assoc (mul 2 (gb t (4 * c + r))), mul_three _ (ht _)]
/-- The state behind n rounds, as the document's loop has it. -/
def stateAt (k : Nat → List Nat) (s : List Nat) (n : Nat) : List Nat := if n < 14 then encTo k s n else enc k s
theorem stateAt_step (k : Nat → List Nat) (s : List Nat) (n : Nat) (h : n < 13) : stateAt k s (n + 1) = ax (mx (ss (stateAt k s n))) (k (n + 1)) := by
  unfold stateAt
  rw [if_pos (by omega), if_pos (by omega)]; rfl
theorem stateAt_last (k : Nat → List Nat) (s : List Nat) : stateAt k s 14 = ax (ss (stateAt k s 13)) (k 14) := by
  unfold stateAt
  rw [if_neg (by omega), if_pos (by omega)]; rfl
theorem stateAt_bytes {k : Nat → List Nat} (hk : ∀ n, Bytes 16 (k n)) {s : List Nat} (hs : Bytes 16 s) (n : Nat) : Bytes 16 (stateAt k s n) := by
  unfold stateAt; split
  · exact encTo_bytes hk hs n
  · exact enc_bytes hk s
theorem info240 : (Tryd.prog.info? 123).map (·.size) = some 240 := by kernel_rfl
set_option maxRecDepth 100000 in
set_option maxHeartbeats 4000000 in
theorem aenc_any (KS : List Nat) (hK : Bytes 240 KS) (s : List Nat) (hs : Bytes 16 s) (w : World) (ht : TabA w) :
    Calls Tryd.prog 78 #[.agg (row8 KS).toArray, .agg (row8 s).toArray] w fun e w' => e = .returned (.agg (row8 (enc (rk KS) s)).toArray) ∧ Below w.heap.size w w' := by
  obtain ⟨C0, hC0⟩ : ∃ C0, C0 = row8 (List.replicate 16 0) := ⟨_, rfl⟩
  have hz : ∀ w, (zeroValue 23).run Tryd.prog w = .ok (.agg C0.toArray) w := by rw [hC0]; exact zero16
  have hc0 : C0.length = 16 := by rw [hC0, row8_len, List.length_replicate]
  have w1 := (Below.refl w.heap.size w).alloc (Nat.le_refl _) (.cells (row8 KS).toArray 123)
  have w2 := w1.alloc w1.size (.cells (row8 s).toArray 23)
  have w3 := w2.alloc w2.size (.cells C0.toArray 23)
  have N0 := Lib.hid (((Blk.new w 123 (row8 KS) _ rfl).alloc (.cells (row8 s).toArray 23)).alloc (.cells C0.toArray 23))
  have N1 := Lib.hid ((Blk.new (w.alloc (.cells (row8 KS).toArray 123)) 23 (row8 s) (w.heap.size + 1) (by simp)).alloc (.cells C0.toArray 23))
  have N2 := Lib.hid (Blk.new ((w.alloc (.cells (row8 KS).toArray 123)).alloc (.cells (row8 s).toArray 23)) 23 C0 (w.heap.size + 1 + 1) (by simp))
  have W3 := Lib.hid w3
  have HK := Lib.hid hK
  have HS := Lib.hid hs
  have HT := Lib.hid ht
  have HC := Lib.hid hC0
  have S16 := Lib.hid (show (row8 s).length = 16 by rw [row8_len]; exact hs.1)
  have K0 := Lib.hid (show (row8 (rk KS 0)).length = 16 by rw [row8_len]; exact row_len _)
  have HW0 := Lib.hid (fun W => awith_any s (rk KS 0) hs (rk_bytes hK.2 0) W)
  obtain ⟨A0, hA0⟩ : ∃ A, A = ax s (rk KS 0) := ⟨_, rfl⟩
  rw [← hA0] at HW0
  have A16 := Lib.hid (show (row8 A0).length = 16 by rw [hA0, row8_len]; exact row_len _)
  have HA0 := Lib.hid hA0
  clear hC0 w1 w2 w3 ht hA0 hK hs
  go_enter Tryd.func78, Tryd.ntmps78
  go_upto_region 3 with (first
    | (refine wpList_load_mid rfl 23 (.tmp 3) rfl (w.heap.size + 1) 0 rfl (row8 s) _ N1.out.range Tryd.underlying23 rfl (by rw [S16.out]; exact info16) ?_)
    | (refine wpList_load_mid rfl 23 (.tmp 17) rfl w.heap.size 0 rfl (row8 (rk KS 0)) _ (range_part N0.out 0 _ (fun j v h => by have := rk_part HK.out.1 0 (by omega) j v h; simpa using this)) Tryd.underlying23 rfl (by rw [K0.out]; exact info16) ?_)
    | (go_at_call 95; (with_reducible refine (HW0.out _).mono ?_); rintro e w4 ⟨rfl, b4⟩; have B4 := Lib.hid (W3.out.on b4); have K4 := Lib.hid (N0.out.below b4 N0.out.lt); have R4 := Lib.hid (N2.out.below b4 N2.out.lt); clear b4)
    | (refine wpList_store_blk rfl 23 (.tmp 5) (.tmp 19) rfl w4.heap.size 0 (row8 A0) rfl rfl 23 C0 (Blk.new w4 23 C0 _ rfl) (by rw [A16.out, hc0]; exact Nat.le_refl _) (by rw [A16.out]; exact info16) (row8_one _) ?_; intro w5 b5 g5; rw [splice_all _ _ (by rw [A16.out, hc0])] at b5; have N5 := Lib.hid b5; have B5 := Lib.hid ((B4.out.alloc B4.out.size (.cells C0.toArray 23)).grown g5 (by have := B4.out.size; simp; omega) (fun k hk => by have e : w4.heap.size = k := Option.some.inj hk; have := B4.out.size; omega)); have K5 := Lib.hid ((K4.out.alloc (.cells C0.toArray 23)).grown g5 (fun q => by have e : w.heap.size = w4.heap.size := Option.some.inj q; have := K4.out.lt; omega)); have R5 := Lib.hid ((R4.out.alloc (.cells C0.toArray 23)).grown g5 (fun q => by have e : w.heap.size + 1 + 1 = w4.heap.size := Option.some.inj q; have := R4.out.lt; omega)); clear b5 g5))
  obtain ⟨sb, hsb⟩ : ∃ b, b = w4.heap.size := ⟨_, rfl⟩
  have hsl : w.heap.size + 1 + 1 < w4.heap.size := R4.out.lt
  rw [← hsb] at N5 hsl ⊢
  have hz0 : stateAt (rk KS) s 0 = A0 := by rw [HA0.out]; rfl
  rw [← hz0] at N5
  clear hsb hz0 W3 N0 N1 N2 B4 K4 R4 A16 HW0 S16 K0
  go_loopw [6] (fun x wr => ∃ n : Nat, n ≤ 14 ∧ x = .int .i64 ((n : Int) + 1) ∧ Blk wr w.heap.size 123 (row8 KS) ∧ Blk wr (w.heap.size + 1 + 1) 23 C0 ∧ Blk wr sb 23 (row8 (stateAt (rk KS) s n)) ∧ Below w.heap.size w wr) (fun x _ => 15 - (intOf x).toNat)
  case atStart => exact ⟨0, by omega, rfl, K5.out, R5.out, N5.out, B5.out⟩
  case round =>
    clear K5 R5 N5 B5
    obtain ⟨n, hn, rfl, k0, r0, n0, b0⟩ := hrel
    obtain ⟨S, hS⟩ : ∃ S, S = stateAt (rk KS) s n := ⟨_, rfl⟩
    rw [← hS] at n0
    have bS : Bytes 16 S := by rw [hS]; exact stateAt_bytes (fun m => rk_bytes HK.out.2 m) HS.out n
    by_cases hlt : n < 14
    · have hltI : (n : Int) + 1 ≤ 14 := by omega
      obtain ⟨tb, htb⟩ : ∃ b, b = wr.heap.size := ⟨_, rfl⟩
      have htl : sb < tb := by rw [htb]; exact n0.lt
      have t1 := Blk.new wr 23 C0 tb htb
      rw [show C0 = row8 (ssTo S 0) by rw [HC.out, ssTo_zero]] at t1
      have T1 := Lib.hid t1
      have K1 := Lib.hid (k0.alloc (.cells C0.toArray 23))
      have R1 := Lib.hid (r0.alloc (.cells C0.toArray 23))
      have N1 := Lib.hid (n0.alloc (.cells C0.toArray 23))
      have B1 := Lib.hid (b0.alloc b0.size (.cells C0.toArray 23))
      have HBS := Lib.hid bS
      have HHS := Lib.hid hS
      have HTB := Lib.hid htb
      clear k0 r0 n0 b0 t1 bS hS htb
      go_upto_region 7 with (fail)
      rw [← HTB.out]
      go_loopw [8] (fun x wq => ∃ c : Nat, c ≤ 4 ∧ x = .int .i64 (c : Int) ∧ Blk wq w.heap.size 123 (row8 KS) ∧ Blk wq (w.heap.size + 1 + 1) 23 C0 ∧ Blk wq sb 23 (row8 S) ∧ Blk wq tb 23 (row8 (ssTo S (4 * c))) ∧ Below w.heap.size w wq) (fun x _ => 4 - (intOf x).toNat)
      case atStart => exact ⟨0, by omega, rfl, K1.out, R1.out, N1.out, by have h := T1.out; rw [show row8 (ssTo S 0) = C0 by rw [HC.out, ssTo_zero]] at h; rw [show row8 (ssTo S (4 * 0)) = C0 by rw [HC.out, Nat.mul_zero, ssTo_zero]]; exact h, B1.out⟩
      case round =>
        clear K1 R1 N1 T1 B1
        obtain ⟨c, hc, rfl, k1, r1, n1, t1, b1⟩ := hrel
        by_cases hc4 : c < 4
        · have K2 := Lib.hid k1
          have R2 := Lib.hid r1
          have N2 := Lib.hid n1
          have T2 := Lib.hid t1
          have B2 := Lib.hid b1
          clear k1 r1 n1 t1 b1
          go_upto_region 10 with (fail)
          go_loopw [9] (fun x wp => ∃ r : Nat, r ≤ 4 ∧ x = .int .i64 (r : Int) ∧ Blk wp w.heap.size 123 (row8 KS) ∧ Blk wp (w.heap.size + 1 + 1) 23 C0 ∧ Blk wp sb 23 (row8 S) ∧ Blk wp tb 23 (row8 (ssTo S (4 * c + r))) ∧ Below w.heap.size w wp) (fun x _ => 4 - (intOf x).toNat)
          case atStart => exact ⟨0, by omega, rfl, K2.out, R2.out, N2.out, T2.out, B2.out⟩
          case round =>
            clear K2 R2 N2 T2 B2
            obtain ⟨r, hr, rfl, k3, r3, n3, t3, b3⟩ := hrel
            by_cases hr4 : r < 4
            · obtain ⟨p, hp⟩ : ∃ p, p = 4 * ((c + r) % 4) + r := ⟨_, rfl⟩
              have hp16 : p < 16 := by omega
              have hpI : 4 * (((c : Int) + (r : Int)) % 4) + (r : Int) = (p : Int) := by omega
              have hqI : 4 * (c : Int) + (r : Int) = ((4 * c + r : Nat) : Int) := by omega
              have d1 := n3.cell p _ (row8_val _ p (by rw [HBS.out.1]; exact hp16))
              have d2 := HT.out.below b3 (gb S p) (HBS.out.2 p)
              have g1 := HBS.out.2 p
              have d3 := t3.cell (4 * c + r) _ (row8_val _ _ (by rw [ssTo_len]; omega))
              have f3 := t3.free (4 * c + r)
              have hstep := ssTo_step S (4 * c + r) (by omega)
              rw [show (4 * c + r) / 4 = c by omega, show (4 * c + r) % 4 = r by omega, ← hp] at hstep
              have HST := Lib.hid hstep
              have K3 := Lib.hid k3
              have R3 := Lib.hid r3
              have N3 := Lib.hid n3
              have T3 := Lib.hid t3
              have B3 := Lib.hid b3
              have HPI := Lib.hid hpI
              have HQI := Lib.hid hqI
              clear k3 r3 n3 t3 b3 hstep hp hpI hqI
              have q0 : (0 : Int) ≤ 4 * (((c : Int) + (r : Int)) % 4) + (r : Int) := by omega
              have q1 : 4 * (((c : Int) + (r : Int)) % 4) + (r : Int) < 16 := by omega
              have q2 : (4 * (((c : Int) + (r : Int)) % 4) + (r : Int)).toNat = p := by have := HPI.out; omega
              have q3 : (0 : Int) ≤ 4 * (c : Int) + (r : Int) := by omega
              have q4 : 4 * (c : Int) + (r : Int) < 16 := by omega
              have q5 : (4 * (c : Int) + (r : Int)).toNat = 4 * c + r := by omega
              go_wp2_with fail
              have h4 := T3.out.set (4 * c + r) (.int .u8 ((box (gb S p) : Nat) : Int))
              rw [row8_set, HST.out] at h4
              exact ⟨⟨r + 1, by omega, by go_num, K3.out.other ⟨tb, 4 * c + r, none⟩ _ (by simp <;> omega), R3.out.other ⟨tb, 4 * c + r, none⟩ _ (by simp <;> omega), N3.out.other ⟨tb, 4 * c + r, none⟩ _ (by simp <;> omega), h4, B3.out.setCell (p := ⟨tb, 4 * c + r, none⟩) (by simp <;> omega) _⟩, by simp [intOf]; omega⟩
            · obtain rfl : r = 4 := by omega
              have K3 := Lib.hid k3
              have R3 := Lib.hid r3
              have N3 := Lib.hid n3
              have T3 := Lib.hid t3
              have B3 := Lib.hid b3
              clear k3 r3 n3 t3 b3
              go_wp2_with fail
              exact ⟨⟨c + 1, by omega, by go_num, K3.out, R3.out, N3.out, T3.out, B3.out⟩, by simp [intOf]; omega⟩
        · obtain rfl : c = 4 := by omega
          obtain ⟨Z, hZ⟩ : ∃ Z, Z = ss S := ⟨_, rfl⟩
          rw [show 4 * 4 = 16 from rfl, ssTo_all, ← hZ] at t1
          have bZ : Bytes 16 Z := by rw [hZ]; exact ss_bytes S
          have K2 := Lib.hid k1
          have R2 := Lib.hid r1
          have N2 := Lib.hid n1
          have T2 := Lib.hid t1
          have B2 := Lib.hid b1
          have HBZ := Lib.hid bZ
          have HHZ := Lib.hid hZ
          have Z16 := Lib.hid (show (row8 Z).length = 16 by rw [row8_len]; exact bZ.1)
          have SS16 := Lib.hid (show (row8 S).length = 16 by rw [row8_len]; exact HBS.out.1)
          clear k1 r1 n1 t1 b1 hZ bZ
          go_upto_region 15 with (first
            | (refine wpList_load_mid rfl 23 (.tmp 7) rfl tb 0 rfl (row8 Z) _ T2.out.range Tryd.underlying23 rfl (by rw [Z16.out]; exact info16) ?_)
            | (refine wpList_store_blk rfl 23 (.tmp 5) (.tmp 48) rfl sb 0 (row8 Z) rfl rfl 23 (row8 S) N2.out (by rw [Z16.out, SS16.out]; exact Nat.le_refl _) (by rw [Z16.out]; exact info16) (row8_one _) ?_; intro w6 b6 g6; rw [splice_all _ _ (by rw [Z16.out, SS16.out])] at b6; have N6 := Lib.hid b6; have K6 := Lib.hid (K2.out.grown g6 (fun q => by have e : w.heap.size = sb := Option.some.inj q; omega)); have R6 := Lib.hid (R2.out.grown g6 (fun q => by have e : w.heap.size + 1 + 1 = sb := Option.some.inj q; omega)); have T6 := Lib.hid (T2.out.grown g6 (fun q => by have e : tb = sb := Option.some.inj q; omega)); have B6 := Lib.hid (B2.out.grown g6 B2.out.size (fun k hk => by have e : sb = k := Option.some.inj hk; omega)); clear b6 g6))
          clear K2 R2 N2 T2 B2
          by_cases hn13 : n < 13
          · have hnI : (n : Int) + 1 < 14 := by omega
            go_loopw [10] (fun x wq => ∃ c : Nat, c ≤ 4 ∧ x = .int .i64 (c : Int) ∧ Blk wq w.heap.size 123 (row8 KS) ∧ Blk wq (w.heap.size + 1 + 1) 23 C0 ∧ Blk wq sb 23 (row8 (mxTo Z (4 * c))) ∧ Blk wq tb 23 (row8 Z) ∧ Below w.heap.size w wq) (fun x _ => 4 - (intOf x).toNat)
            case atStart => exact ⟨0, by omega, rfl, K6.out, R6.out, by rw [Nat.mul_zero, mxTo_zero HBZ.out.1]; exact N6.out, T6.out, B6.out⟩
            case round =>
              clear K6 R6 N6 T6 B6
              obtain ⟨c, hc, rfl, k1, r1, n1, t1, b1⟩ := hrel
              by_cases hc4 : c < 4
              · have K2 := Lib.hid k1
                have R2 := Lib.hid r1
                have N2 := Lib.hid n1
                have T2 := Lib.hid t1
                have B2 := Lib.hid b1
                clear k1 r1 n1 t1 b1
                go_upto_region 18 with (fail)
                go_loopw [11] (fun x wp => ∃ r : Nat, r ≤ 4 ∧ x = .int .i64 (r : Int) ∧ Blk wp w.heap.size 123 (row8 KS) ∧ Blk wp (w.heap.size + 1 + 1) 23 C0 ∧ Blk wp sb 23 (row8 (mxTo Z (4 * c + r))) ∧ Blk wp tb 23 (row8 Z) ∧ Below w.heap.size w wp) (fun x _ => 4 - (intOf x).toNat)
                case atStart => exact ⟨0, by omega, rfl, K2.out, R2.out, N2.out, T2.out, B2.out⟩
                case round =>
                  clear K2 R2 N2 T2 B2
                  obtain ⟨r, hr, rfl, k3, r3, n3, t3, b3⟩ := hrel
                  by_cases hr4 : r < 4
                  · obtain ⟨i1, h1⟩ : ∃ p, p = 4 * c + (r + 1) % 4 := ⟨_, rfl⟩
                    obtain ⟨i2, h2⟩ : ∃ p, p = 4 * c + (r + 2) % 4 := ⟨_, rfl⟩
                    obtain ⟨i3, h3⟩ : ∃ p, p = 4 * c + (r + 3) % 4 := ⟨_, rfl⟩
                    have hd := mxE_said Z HBZ.out.2 c r hc4 hr4
                    rw [← h1, ← h2, ← h3] at hd
                    have d0 := t3.cell (4 * c + r) _ (row8_val _ _ (by rw [HBZ.out.1]; omega))
                    have d1 := t3.cell i1 _ (row8_val _ _ (by rw [HBZ.out.1]; omega))
                    have d2 := t3.cell i2 _ (row8_val _ _ (by rw [HBZ.out.1]; omega))
                    have d3 := t3.cell i3 _ (row8_val _ _ (by rw [HBZ.out.1]; omega))
                    have f3 := n3.free (4 * c + r)
                    have d4 := n3.cell (4 * c + r) _ (row8_val _ _ (by rw [mxTo_len]; omega))
                    have hstep := mxTo_step Z (4 * c + r) (by omega)
                    rw [← hd] at hstep
                    obtain ⟨y0, hy0⟩ : ∃ y, y = gb Z (4 * c + r) := ⟨_, rfl⟩
                    obtain ⟨y1, hy1⟩ : ∃ y, y = gb Z i1 := ⟨_, rfl⟩
                    obtain ⟨y2, hy2⟩ : ∃ y, y = gb Z i2 := ⟨_, rfl⟩
                    obtain ⟨y3, hy3⟩ : ∃ y, y = gb Z i3 := ⟨_, rfl⟩
                    have l0 : y0 < 256 := by rw [hy0]; exact HBZ.out.2 _
                    have l1 : y1 < 256 := by rw [hy1]; exact HBZ.out.2 _
                    have l2 : y2 < 256 := by rw [hy2]; exact HBZ.out.2 _
                    have l3 : y3 < 256 := by rw [hy3]; exact HBZ.out.2 _
                    rw [← hy0] at d0 hstep
                    rw [← hy1] at d1 hstep
                    rw [← hy2] at d2 hstep
                    rw [← hy3] at d3 hstep
                    have m0 : mul 2 y0 < 256 := mul_lt _ _ (by omega)
                    have m1 : mul 2 y1 < 256 := mul_lt _ _ (by omega)
                    have x1 := u8_xor_nat (mul 2 y0) (mul 2 y1) m0 m1
                    have x2 := u8_xor_nat (mul 2 y0 ^^^ mul 2 y1) y1 (lt_of_xor m0 m1) l1
                    have x3 := u8_xor_nat (mul 2 y0 ^^^ mul 2 y1 ^^^ y1) y2 (lt_of_xor (lt_of_xor m0 m1) l1) l2
                    have x4 := u8_xor_nat (mul 2 y0 ^^^ mul 2 y1 ^^^ y1 ^^^ y2) y3 (lt_of_xor (lt_of_xor (lt_of_xor m0 m1) l1) l2) l3
                    have HST := Lib.hid hstep
                    have K3 := Lib.hid k3
                    have R3 := Lib.hid r3
                    have N3 := Lib.hid n3
                    have T3 := Lib.hid t3
                    have B3 := Lib.hid b3
                    have HI1 := Lib.hid h1
                    have HI2 := Lib.hid h2
                    have HI3 := Lib.hid h3
                    have HF := Lib.hid f3
                    have HD4 := Lib.hid d4
                    have q0 : (0 : Int) ≤ 4 * (c : Int) + (r : Int) := by omega
                    have q1 : 4 * (c : Int) + (r : Int) < 16 := by omega
                    have q2 : (4 * (c : Int) + (r : Int)).toNat = 4 * c + r := by omega
                    have a0 : (0 : Int) ≤ 4 * (c : Int) + ((r : Int) + 1) % 4 := by omega
                    have a1 : 4 * (c : Int) + ((r : Int) + 1) % 4 < 16 := by omega
                    have a2 : (4 * (c : Int) + ((r : Int) + 1) % 4).toNat = i1 := by omega
                    have e0 : (0 : Int) ≤ 4 * (c : Int) + ((r : Int) + 2) % 4 := by omega
                    have e1 : 4 * (c : Int) + ((r : Int) + 2) % 4 < 16 := by omega
                    have e2 : (4 * (c : Int) + ((r : Int) + 2) % 4).toNat = i2 := by omega
                    have g0 : (0 : Int) ≤ 4 * (c : Int) + ((r : Int) + 3) % 4 := by omega
                    have g1 : 4 * (c : Int) + ((r : Int) + 3) % 4 < 16 := by omega
                    have g2 : (4 * (c : Int) + ((r : Int) + 3) % 4).toNat = i3 := by omega
                    clear k3 r3 n3 t3 b3 hstep hd h1 h2 h3 hy0 hy1 hy2 hy3 f3 d4
                    go_upto_region 20 with (fail)
                    go_big_quiet (fail)
                    have K4 := Lib.hid (show Blk (wr.drewN nq) w.heap.size 123 (row8 KS) from K3.out)
                    have R4 := Lib.hid (show Blk (wr.drewN nq) (w.heap.size + 1 + 1) 23 C0 from R3.out)
                    have N4 := Lib.hid (show Blk (wr.drewN nq) sb 23 (row8 (mxTo Z (4 * c + r))) from N3.out)
                    have T4 := Lib.hid (show Blk (wr.drewN nq) tb 23 (row8 Z) from T3.out)
                    have B4 := Lib.hid (below_dN B3.out nq)
                    have f4 := N4.out.free (4 * c + r)
                    have d5 := N4.out.cell (4 * c + r) _ (row8_val _ _ (by rw [mxTo_len]; omega))
                    clear d0 d1 d2 d3 K3 R3 N3 T3 B3 HF HD4 a0 a1 a2 e0 e1 e2 g0 g1 g2
                    generalize wr.drewN nq = wd at *
                    have hc1 := atwice_any y0 l0
                    have hc2 := atwice_any y1 l1
                    have HC1 := Lib.hid hc1
                    have HC2 := Lib.hid hc2
                    clear hc1 hc2
                    go_wp2_with (first
                      | (go_at_call 96; (with_reducible refine (HC1.out _).mono ?_); rintro e w' ⟨rfl, rfl⟩)
                      | (go_at_call 96; (with_reducible refine (HC2.out _).mono ?_); rintro e w' ⟨rfl, rfl⟩))
                    have h4 := N4.out.set (4 * c + r) (.int .u8 ((mul 2 y0 ^^^ mul 2 y1 ^^^ y1 ^^^ y2 ^^^ y3 : Nat) : Int))
                    rw [row8_set, HST.out] at h4
                    exact ⟨⟨r + 1, by omega, by go_num, K4.out.other ⟨sb, 4 * c + r, none⟩ _ (by simp <;> omega), R4.out.other ⟨sb, 4 * c + r, none⟩ _ (by simp <;> omega), h4, T4.out.other ⟨sb, 4 * c + r, none⟩ _ (by simp <;> omega), B4.out.setCell (p := ⟨sb, 4 * c + r, none⟩) (by simp <;> omega) _⟩, by simp [intOf]; omega⟩
                  · obtain rfl : r = 4 := by omega
                    have K3 := Lib.hid k3
                    have R3 := Lib.hid r3
                    have N3 := Lib.hid n3
                    have T3 := Lib.hid t3
                    have B3 := Lib.hid b3
                    clear k3 r3 n3 t3 b3
                    go_wp2_with fail
                    exact ⟨⟨c + 1, by omega, by go_num, K3.out, R3.out, N3.out, T3.out, B3.out⟩, by simp [intOf]; omega⟩
              · obtain rfl : c = 4 := by omega
                obtain ⟨X, hX⟩ : ∃ X, X = mx Z := ⟨_, rfl⟩
                rw [show 4 * 4 = 16 from rfl, mxTo_all, ← hX] at n1
                have bX : Bytes 16 X := by rw [hX]; exact mx_bytes HBZ.out
                have hfin : ax X (rk KS (n + 1)) = stateAt (rk KS) s (n + 1) := by rw [stateAt_step _ _ _ hn13, ← HHS.out, ← HHZ.out, hX]
                clear hX
                have X16 := Lib.hid (show (row8 X).length = 16 by rw [row8_len]; exact bX.1)
                have R16 := Lib.hid (show (row8 (rk KS (n + 1))).length = 16 by rw [row8_len]; exact row_len _)
                have HWI := Lib.hid (fun W => awith_any X (rk KS (n + 1)) bX (rk_bytes HK.out.2 (n + 1)) W)
                rw [hfin] at HWI
                have M16 := Lib.hid (show (row8 (stateAt (rk KS) s (n + 1))).length = 16 by rw [row8_len]; exact (stateAt_bytes (fun m => rk_bytes HK.out.2 m) HS.out (n + 1)).1)
                obtain ⟨M, hM⟩ : ∃ M, M = stateAt (rk KS) s (n + 1) := ⟨_, rfl⟩
                rw [← hM] at HWI M16
                have HM := Lib.hid hM
                have K2 := Lib.hid k1
                have R2 := Lib.hid r1
                have N2 := Lib.hid n1
                have B2 := Lib.hid b1
                clear k1 r1 n1 t1 b1 bX hM
                go_upto_region 22 with (fail)
                refine wp_region_g (by kernel_rfl) 4 (by decide) (by kernel_rfl) (by kernel_rfl) (by kernel_rfl) wr.heap.size (Nat.le_refl _) [.val (.agg (row8 X).toArray), .val (.int .i64 ((n : Int) + 1)), .val (.pointer (some ⟨w.heap.size, 16 * (n + 1), none⟩)), .val (.agg (row8 (rk KS (n + 1))).toArray)] (fun _ => 6) ?_ ?_
                · refine ⟨?_, ?_, ?_, ?_, trivial⟩
                  · intro a w' hF hB hd
                    have e5 : a.eval (.tmp 5) = .pointer (some ⟨sb, 0, none⟩) := hF 5 (by decide +kernel)
                    exact doesG_wp rfl rfl fun K' hK' => wp_load_mid 23 (.tmp 5) rfl sb 0 e5 (row8 X) _ (N2.out.below hB N2.out.lt).range Tryd.underlying23 rfl (by rw [X16.out]; exact info16) (hK' _ _ rfl (Below.refl _ _))
                  · intro a w' hF hB hd
                    have e6 : a.eval (.tmp 6) = .int .i64 ((n : Int) + 1) := hF 6 (by decide +kernel)
                    exact doesG_val rfl (ex_move rfl e6) rfl rfl
                  · intro a w' hF hB hd
                    have e2 : a.eval (.tmp 2) = .pointer (some ⟨w.heap.size, 0, none⟩) := hF 2 (by decide +kernel)
                    have e108 : a.eval (.tmp 108) = .int .i64 ((n : Int) + 1) := hd 1 (by decide +kernel) (.inr (by decide))
                    have z0 : (0 : Int) ≤ (n : Int) + 1 := by omega
                    have z1 : (n : Int) + 1 < 15 := by omega
                    have z2 : ((n : Int) + 1).toNat = n + 1 := by omega
                    exact doesG_val rfl (v := .pointer (some ⟨w.heap.size, 16 * (n + 1), none⟩)) (by unfold execOp; simp only [e2, e108]; go_simp; try rw [z2]; try omega) rfl rfl
                  · intro a w' hF hB hd
                    have e109 : a.eval (.tmp 109) = .pointer (some ⟨w.heap.size, 16 * (n + 1), none⟩) := hd 2 (by decide +kernel) (.inr (by decide))
                    exact doesG_wp rfl rfl fun K' hK' => wp_load_mid 23 (.tmp 109) rfl w.heap.size (16 * (n + 1)) e109 (row8 (rk KS (n + 1))) _ (range_part (K2.out.below hB K2.out.lt) (16 * (n + 1)) _ (rk_part HK.out.1 (n + 1) (by omega))) Tryd.underlying23 rfl (by rw [R16.out]; exact info16) (hK' _ _ rfl (Below.refl _ _))
                · intro vs w7 hB hv hap
                  have v0 : vs 0 = .agg (row8 X).toArray := hv 0 (by omega) (by omega)
                  have v3 : vs 3 = .agg (row8 (rk KS (n + 1))).toArray := hv 3 (by omega) (by omega)
                  simp only [List.take_succ_cons, List.take_zero, List.drop_succ_cons, List.drop_zero, putOps, Act.put, List.setIfInBounds_toArray, List.set_cons_zero, List.set_cons_succ, v0, v3]
                  have K7 := Lib.hid (K2.out.below hB K2.out.lt)
                  have R7 := Lib.hid (R2.out.below hB R2.out.lt)
                  have N7 := Lib.hid (N2.out.below hB N2.out.lt)
                  have B7 := Lib.hid (B2.out.on hB)
                  generalize vs 1 = vs1 at *
                  generalize vs 2 = vs2 at *
                  clear hv hap v0 v3 hB K2 R2 N2 B2
                  go_wp2_with (first
                    | (go_at_call 95; (with_reducible refine (HWI.out _).mono ?_); rintro e w8 ⟨rfl, b8⟩; have K8 := Lib.hid (K7.out.below b8 K7.out.lt); have R8 := Lib.hid (R7.out.below b8 R7.out.lt); have N8 := Lib.hid (N7.out.below b8 N7.out.lt); have B8 := Lib.hid (B7.out.on b8); clear b8)
                    | (refine wpList_store_blk rfl 23 (.tmp 5) (.tmp 111) rfl sb 0 (row8 M) rfl rfl 23 (row8 X) N8.out (by rw [M16.out, X16.out]; exact Nat.le_refl _) (by rw [M16.out]; exact info16) (row8_one _) ?_; intro w9 b9 g9; rw [splice_all _ _ (by rw [M16.out, X16.out])] at b9; have N9 := Lib.hid b9; have K9 := Lib.hid (K8.out.grown g9 (fun q => by have e : w.heap.size = sb := Option.some.inj q; omega)); have R9 := Lib.hid (R8.out.grown g9 (fun q => by have e : w.heap.size + 1 + 1 = sb := Option.some.inj q; omega)); have B9 := Lib.hid (B8.out.grown g9 B8.out.size (fun k hk => by have e : sb = k := Option.some.inj hk; omega)); clear b9 g9))
                  exact ⟨⟨n + 1, by omega, by go_num, K9.out, R9.out, by rw [← HM.out]; exact N9.out, B9.out⟩, by simp [intOf]; omega⟩
          · have hnI : ¬ (n : Int) + 1 < 14 := by omega
            have hfin : ax Z (rk KS (n + 1)) = stateAt (rk KS) s (n + 1) := by
              have e : n = 13 := by omega
              rw [e, stateAt_last, HHZ.out, HHS.out, e]
            go_loopw [10] (fun x wq => x = .int .i64 0 ∧ Blk wq w.heap.size 123 (row8 KS) ∧ Blk wq (w.heap.size + 1 + 1) 23 C0 ∧ Blk wq sb 23 (row8 Z) ∧ Blk wq tb 23 (row8 Z) ∧ Below w.heap.size w wq) (fun _ _ => 0)
            case atStart => exact ⟨rfl, K6.out, R6.out, N6.out, T6.out, B6.out⟩
            case round =>
              clear K6 R6 N6 T6 B6
              obtain ⟨rfl, k1, r1, n1, t1, b1⟩ := hrel
              have bX := HBZ.out
              have X16 := Lib.hid (show (row8 Z).length = 16 by rw [row8_len]; exact bX.1)
              have R16 := Lib.hid (show (row8 (rk KS (n + 1))).length = 16 by rw [row8_len]; exact row_len _)
              have HWI := Lib.hid (fun W => awith_any Z (rk KS (n + 1)) bX (rk_bytes HK.out.2 (n + 1)) W)
              rw [hfin] at HWI
              have M16 := Lib.hid (show (row8 (stateAt (rk KS) s (n + 1))).length = 16 by rw [row8_len]; exact (stateAt_bytes (fun m => rk_bytes HK.out.2 m) HS.out (n + 1)).1)
              obtain ⟨M, hM⟩ : ∃ M, M = stateAt (rk KS) s (n + 1) := ⟨_, rfl⟩
              rw [← hM] at HWI M16
              have HM := Lib.hid hM
              have K2 := Lib.hid k1
              have R2 := Lib.hid r1
              have N2 := Lib.hid n1
              have B2 := Lib.hid b1
              clear k1 r1 n1 t1 b1 bX hM
              go_upto_region 22 with (fail)
              refine wp_region_g (by kernel_rfl) 4 (by decide) (by kernel_rfl) (by kernel_rfl) (by kernel_rfl) wr.heap.size (Nat.le_refl _) [.val (.agg (row8 Z).toArray), .val (.int .i64 ((n : Int) + 1)), .val (.pointer (some ⟨w.heap.size, 16 * (n + 1), none⟩)), .val (.agg (row8 (rk KS (n + 1))).toArray)] (fun _ => 6) ?_ ?_
              · refine ⟨?_, ?_, ?_, ?_, trivial⟩
                · intro a w' hF hB hd
                  have e5 : a.eval (.tmp 5) = .pointer (some ⟨sb, 0, none⟩) := hF 5 (by decide +kernel)
                  exact doesG_wp rfl rfl fun K' hK' => wp_load_mid 23 (.tmp 5) rfl sb 0 e5 (row8 Z) _ (N2.out.below hB N2.out.lt).range Tryd.underlying23 rfl (by rw [X16.out]; exact info16) (hK' _ _ rfl (Below.refl _ _))
                · intro a w' hF hB hd
                  have e6 : a.eval (.tmp 6) = .int .i64 ((n : Int) + 1) := hF 6 (by decide +kernel)
                  exact doesG_val rfl (ex_move rfl e6) rfl rfl
                · intro a w' hF hB hd
                  have e2 : a.eval (.tmp 2) = .pointer (some ⟨w.heap.size, 0, none⟩) := hF 2 (by decide +kernel)
                  have e108 : a.eval (.tmp 108) = .int .i64 ((n : Int) + 1) := hd 1 (by decide +kernel) (.inr (by decide))
                  have z0 : (0 : Int) ≤ (n : Int) + 1 := by omega
                  have z1 : (n : Int) + 1 < 15 := by omega
                  have z2 : ((n : Int) + 1).toNat = n + 1 := by omega
                  exact doesG_val rfl (v := .pointer (some ⟨w.heap.size, 16 * (n + 1), none⟩)) (by unfold execOp; simp only [e2, e108]; go_simp; try rw [z2]; try omega) rfl rfl
                · intro a w' hF hB hd
                  have e109 : a.eval (.tmp 109) = .pointer (some ⟨w.heap.size, 16 * (n + 1), none⟩) := hd 2 (by decide +kernel) (.inr (by decide))
                  exact doesG_wp rfl rfl fun K' hK' => wp_load_mid 23 (.tmp 109) rfl w.heap.size (16 * (n + 1)) e109 (row8 (rk KS (n + 1))) _ (range_part (K2.out.below hB K2.out.lt) (16 * (n + 1)) _ (rk_part HK.out.1 (n + 1) (by omega))) Tryd.underlying23 rfl (by rw [R16.out]; exact info16) (hK' _ _ rfl (Below.refl _ _))
              · intro vs w7 hB hv hap
                have v0 : vs 0 = .agg (row8 Z).toArray := hv 0 (by omega) (by omega)
                have v3 : vs 3 = .agg (row8 (rk KS (n + 1))).toArray := hv 3 (by omega) (by omega)
                simp only [List.take_succ_cons, List.take_zero, List.drop_succ_cons, List.drop_zero, putOps, Act.put, List.setIfInBounds_toArray, List.set_cons_zero, List.set_cons_succ, v0, v3]
                have K7 := Lib.hid (K2.out.below hB K2.out.lt)
                have R7 := Lib.hid (R2.out.below hB R2.out.lt)
                have N7 := Lib.hid (N2.out.below hB N2.out.lt)
                have B7 := Lib.hid (B2.out.on hB)
                generalize vs 1 = vs1 at *
                generalize vs 2 = vs2 at *
                clear hv hap v0 v3 hB K2 R2 N2 B2
                go_wp2_with (first
                  | (go_at_call 95; (with_reducible refine (HWI.out _).mono ?_); rintro e w8 ⟨rfl, b8⟩; have K8 := Lib.hid (K7.out.below b8 K7.out.lt); have R8 := Lib.hid (R7.out.below b8 R7.out.lt); have N8 := Lib.hid (N7.out.below b8 N7.out.lt); have B8 := Lib.hid (B7.out.on b8); clear b8)
                  | (refine wpList_store_blk rfl 23 (.tmp 5) (.tmp 111) rfl sb 0 (row8 M) rfl rfl 23 (row8 Z) N8.out (by rw [M16.out, X16.out]; exact Nat.le_refl _) (by rw [M16.out]; exact info16) (row8_one _) ?_; intro w9 b9 g9; rw [splice_all _ _ (by rw [M16.out, X16.out])] at b9; have N9 := Lib.hid b9; have K9 := Lib.hid (K8.out.grown g9 (fun q => by have e : w.heap.size = sb := Option.some.inj q; omega)); have R9 := Lib.hid (R8.out.grown g9 (fun q => by have e : w.heap.size + 1 + 1 = sb := Option.some.inj q; omega)); have B9 := Lib.hid (B8.out.grown g9 B8.out.size (fun k hk => by have e : sb = k := Option.some.inj hk; omega)); clear b9 g9))
                exact ⟨⟨n + 1, by omega, by go_num, K9.out, R9.out, by rw [← HM.out]; exact N9.out, B9.out⟩, by simp [intOf]; omega⟩
    · have hltI : ¬ (n : Int) + 1 ≤ 14 := by omega
      have e14 : n = 14 := by omega
      have hM : S = enc (rk KS) s := by rw [hS, e14]; unfold stateAt; rw [if_neg (by omega)]
      have S16 := Lib.hid (show (row8 S).length = 16 by rw [row8_len]; exact bS.1)
      have HM := Lib.hid hM
      have R1 := Lib.hid r0
      have N1 := Lib.hid n0
      have B1 := Lib.hid b0
      clear k0 r0 n0 b0 hS bS hM e14
      go_wp2_with (first
        | (refine wpList_load_mid rfl 23 (.tmp 5) rfl sb 0 rfl (row8 S) _ N1.out.range Tryd.underlying23 rfl (by rw [S16.out]; exact info16) ?_)
        | (refine wpList_store_mid rfl 23 (.tmp 4) (.tmp 112) rfl (w.heap.size + 1 + 1) 0 (row8 S).toArray rfl rfl (R1.out.there _ (by rw [List.size_toArray, S16.out, hc0])) (by rw [List.size_toArray, S16.out]; exact info16) (row8_one _) ?_))
      have fin := R1.out.whole (row8 S) (by rw [S16.out, hc0])
      exact bodyPost_ret (v := .agg (row8 S).toArray) (results_mid rfl _ _ (w.heap.size + 1 + 1) (row8 S) _ rfl fin.range Tryd.underlying23 rfl (by rw [S16.out]; exact info16)) rfl ⟨by rw [HM.out], below_setCells (w.heap.size + 1 + 1) (by omega) _ 0 _ B1.out⟩
end Go.Proofs.YtbepchikngoknaaDoor
