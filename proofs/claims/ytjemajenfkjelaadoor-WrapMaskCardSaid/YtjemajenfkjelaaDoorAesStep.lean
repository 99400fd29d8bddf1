/- The program's steps upon sixteen bytes: exclusive or with a round key, boxes, shifted rows, and the ways back: contracts. Own work. -/
import Derived.Test.YtjemajenfkjelaaDoorAesTabs
import Derived.Great.BuildSlice
namespace Go.Proofs.YtjemajenfkjelaaDoor
open Go.ChangeShapes Go.WideShapes Go.ChangeAt Go.RowKit
open AM FM
namespace AM
/-- Each byte as f makes it: the first n of them. -/
def mpTo (f : Nat → Nat) (s : List Nat) (n : Nat) : List Nat := row fun i => if i < n then f (gb s i) else gb s i
def mpA (f : Nat → Nat) (s : List Nat) : List Nat := row fun i => f (gb s i)
theorem mpTo_len (f : Nat → Nat) (s : List Nat) (n : Nat) : (mpTo f s n).length = 16 := row_len _
theorem mpTo_get (f : Nat → Nat) (s : List Nat) (n k : Nat) (h : k < 16) : gb (mpTo f s n) k = if k < n then f (gb s k) else gb s k := row_get _ _ h
theorem mpTo_zero (f : Nat → Nat) {s : List Nat} (hs : s.length = 16) : mpTo f s 0 = s :=
  bytes_ext (n := 16) (mpTo_len _ _ _) hs fun k hk => by rw [mpTo_get _ _ _ _ hk, if_neg (by omega)]
theorem mpTo_all (f : Nat → Nat) (s : List Nat) : mpTo f s 16 = mpA f s :=
  bytes_ext (n := 16) (mpTo_len _ _ _) (row_len _) fun k hk => by
    rw [mpTo_get _ _ _ _ hk, if_pos hk]; unfold mpA; rw [row_get _ _ hk]
theorem mpTo_step (f : Nat → Nat) (s : List Nat) (k : Nat) (hk : k < 16) : (mpTo f s k).set k (f (gb s k)) = mpTo f s (k + 1) :=
  bytes_ext (n := 16) (by rw [List.length_set, mpTo_len]) (mpTo_len _ _ _) fun j hj => by
    rw [gb_set _ _ _ _ (by rw [mpTo_len]; exact hk), mpTo_get _ _ _ _ hj, mpTo_get _ _ _ _ hj]
    by_cases e : k = j
    · subst e; rw [if_pos rfl, if_pos (by omega)]
    · rw [if_neg e]
      by_cases h : j < k
      · rw [if_pos h, if_pos (by omega)]
      · rw [if_neg h, if_neg (by omega)]
theorem mpA_bytes (f : Nat → Nat) (h : ∀ x, f x < 256) (s : List Nat) : Bytes 16 (mpA f s) := row_bytes _ fun _ _ => h _
def shA (s : List Nat) : List Nat := row fun i => gb s (4 * ((i / 4 + i % 4) % 4) + i % 4)
def shB (s : List Nat) : List Nat := row fun i => gb s (4 * ((i / 4 + 4 - i % 4) % 4) + i % 4)
theorem shA_lit (s : List Nat) : shA s = [gb s 0, gb s 5, gb s 10, gb s 15, gb s 4, gb s 9, gb s 14, gb s 3, gb s 8, gb s 13, gb s 2, gb s 7, gb s 12, gb s 1, gb s 6, gb s 11] := rfl
theorem shB_lit (s : List Nat) : shB s = [gb s 0, gb s 13, gb s 10, gb s 7, gb s 4, gb s 1, gb s 14, gb s 11, gb s 8, gb s 5, gb s 2, gb s 15, gb s 12, gb s 9, gb s 6, gb s 3] := rfl
theorem shA_bytes {s : List Nat} (h : Bytes 16 s) : Bytes 16 (shA s) := row_bytes _ fun _ _ => h.2 _
theorem shB_bytes {s : List Nat} (h : Bytes 16 s) : Bytes 16 (shB s) := row_bytes _ fun _ _ => h.2 _
theorem ss_said (s : List Nat) : shA (mpA box s) = ss s :=
  bytes_ext (n := 16) (row_len _) (row_len _) fun k hk => by
    unfold shA ss mpA
    rw [row_get _ _ hk, row_get _ _ hk, row_get _ _ (by omega)]
theorem iss_said (s : List Nat) : mpA unb (shB s) = iss s :=
  bytes_ext (n := 16) (row_len _) (row_len _) fun k hk => by
    unfold shB iss mpA
    rw [row_get _ _ hk, row_get _ _ hk, row_get _ _ hk]
end AM
set_option maxRecDepth 100000 in
set_option maxHeartbeats 1000000 in
theorem keyed_any (a b : List Nat) (ha : Bytes 16 a) (hb : Bytes 16 b) (w : World) :
    Calls Tryd.prog 33 #[.agg (row8 a).toArray, .agg (row8 b).toArray] w fun e w' => e = .returned (.agg (row8 (ax a b)).toArray) ∧ Below w.heap.size w w' := by
  obtain ⟨C0, hC0⟩ : ∃ C0, C0 = row8 (List.replicate 16 0) := ⟨_, rfl⟩
  have hz : ∀ w, (zeroValue 47).run Tryd.prog w = .ok (.agg C0.toArray) w := by rw [hC0]; exact zero16
  have hc0 : C0.length = 16 := by rw [hC0, row8_len, List.length_replicate]
  have w1 := (Below.refl w.heap.size w).alloc (Nat.le_refl _) (.cells (row8 a).toArray 47)
  have w2 := w1.alloc w1.size (.cells (row8 b).toArray 47)
  have w3 := w2.alloc w2.size (.cells C0.toArray 47)
  have N0 := Lib.hid (((Blk.new w 47 (row8 a) _ rfl).alloc (.cells (row8 b).toArray 47)).alloc (.cells C0.toArray 47))
  have N1 := Lib.hid ((Blk.new (w.alloc (.cells (row8 a).toArray 47)) 47 (row8 b) (w.heap.size + 1) (by simp)).alloc (.cells C0.toArray 47))
  have N2 := Lib.hid (Blk.new ((w.alloc (.cells (row8 a).toArray 47)).alloc (.cells (row8 b).toArray 47)) 47 C0 (w.heap.size + 1 + 1) (by simp))
  have W3 := Lib.hid w3
  have HA := Lib.hid ha
  have HB := Lib.hid hb
  obtain ⟨M, hM⟩ : ∃ M, M = ax a b := ⟨_, rfl⟩
  rw [← hM]
  have HM := Lib.hid hM
  have M16 := Lib.hid (show (row8 M).length = 16 by rw [hM, row8_len]; exact row_len _)
  have B16 := Lib.hid (show (row8 b).length = 16 by rw [row8_len]; exact hb.1)
  clear hC0 w1 w2 w3 ha hb hM
  go_enter Tryd.func33, Tryd.ntmps33
  go_wp2_with (refine wpList_load_mid rfl 47 (.tmp 3) rfl (w.heap.size + 1) 0 rfl (row8 b) _ N1.out.range Tryd.underlying47 rfl (by rw [B16.out]; exact info16) ?_)
  go_loopw [8] (fun i wr => ∃ k : Nat, k ≤ 16 ∧ i = .int .i64 (k : Int) ∧ Blk wr w.heap.size 47 (row8 (axTo a b k)) ∧ Blk wr (w.heap.size + 1 + 1) 47 C0 ∧ Below w.heap.size w wr) (fun i _ => 16 - (intOf i).toNat)
  case atStart => exact ⟨0, Nat.zero_le _, rfl, by rw [axTo_zero HA.out.1]; exact N0.out, N2.out, W3.out⟩
  case round =>
    clear N0 N1 N2 W3
    obtain ⟨k, hk, rfl, b0, b2, bb⟩ := hrel
    by_cases hlt : k < 16
    · have c0 := b0.cell k _ (row8_val _ k (by rw [axTo_len]; exact hlt))
      rw [axTo_get _ _ _ _ hlt, if_neg (by omega)] at c0
      have hix := run_index_row 47 5 16 (row8 b).toArray k (.int .u8 (gb b k)) Tryd.underlying47 hlt info8a agg8a (row8_get b k (by rw [HB.out.1]; exact hlt))
      have f0 := b0.free k
      have hxr := u8_xor_nat (gb a k) (gb b k) (HA.out.2 k) (HB.out.2 k)
      have B0 := Lib.hid b0
      have B2 := Lib.hid b2
      have BB := Lib.hid bb
      clear b0 b2 bb
      go_wp2_with fail
      have nb0 := B0.out.set k (.int .u8 ((gb a k ^^^ gb b k : Nat) : Int))
      rw [row8_set, axTo_step _ _ _ hlt] at nb0
      exact ⟨⟨k + 1, by omega, by go_num, nb0, B2.out.other ⟨w.heap.size, k, none⟩ _ (by simp <;> omega), BB.out.setCell (p := ⟨w.heap.size, k, none⟩) (Nat.le_refl _) _⟩, by simp [intOf]; omega⟩
    · obtain rfl : k = 16 := by omega
      rw [axTo_all, ← HM.out] at b0
      have B0 := Lib.hid b0
      have B2 := Lib.hid b2
      have BB := Lib.hid bb
      clear b0 b2 bb
      go_wp2_with (first
        | (refine wpList_load_mid rfl 47 (.tmp 2) rfl w.heap.size 0 rfl (row8 M) _ B0.out.range Tryd.underlying47 rfl (by rw [M16.out]; exact info16) ?_)
        | (refine wpList_store_mid rfl 47 (.tmp 4) (.tmp 19) rfl (w.heap.size + 1 + 1) 0 (row8 M).toArray rfl rfl (B2.out.there _ (by rw [List.size_toArray, M16.out, hc0])) (by rw [List.size_toArray, M16.out]; exact info16) (row8_one _) ?_))
      have fin := B2.out.whole (row8 M) (by rw [M16.out, hc0])
      exact bodyPost_ret (v := .agg (row8 M).toArray) (results_mid rfl _ _ (w.heap.size + 1 + 1) (row8 M) _ rfl fin.range Tryd.underlying47 rfl (by rw [M16.out]; exact info16)) rfl ⟨rfl, below_setCells (w.heap.size + 1 + 1) (by omega) _ 0 _ BB.out⟩
set_option maxRecDepth 100000 in
set_option maxHeartbeats 1000000 in
theorem boxed_any (s : List Nat) (hs : Bytes 16 s) (w : World) (hx : TabX w) :
    Calls Tryd.prog 36 #[.agg (row8 s).toArray] w fun e w' => e = .returned (.agg (row8 (mpA box s)).toArray) ∧ Below w.heap.size w w' := by
  obtain ⟨C0, hC0⟩ : ∃ C0, C0 = row8 (List.replicate 16 0) := ⟨_, rfl⟩
  have hz : ∀ w, (zeroValue 47).run Tryd.prog w = .ok (.agg C0.toArray) w := by rw [hC0]; exact zero16
  have hc0 : C0.length = 16 := by rw [hC0, row8_len, List.length_replicate]
  have w1 := (Below.refl w.heap.size w).alloc (Nat.le_refl _) (.cells (row8 s).toArray 47)
  have w2 := w1.alloc w1.size (.cells C0.toArray 47)
  have N0 := Lib.hid ((Blk.new w 47 (row8 s) _ rfl).alloc (.cells C0.toArray 47))
  have N1 := Lib.hid (Blk.new (w.alloc (.cells (row8 s).toArray 47)) 47 C0 (w.heap.size + 1) (by simp))
  have W2 := Lib.hid w2
  have HS := Lib.hid hs
  have HX := Lib.hid hx
  obtain ⟨M, hM⟩ : ∃ M, M = mpA box s := ⟨_, rfl⟩
  rw [← hM]
  have HM := Lib.hid hM
  have M16 := Lib.hid (show (row8 M).length = 16 by rw [hM, row8_len]; exact row_len _)
  have S16 := Lib.hid (show (row8 s).length = 16 by rw [row8_len]; exact hs.1)
  clear hC0 w1 w2 hs hx hM
  go_enter Tryd.func36, Tryd.ntmps36
  go_wp2_with (refine wpList_load_mid rfl 47 (.tmp 1) rfl w.heap.size 0 rfl (row8 s) _ N0.out.range Tryd.underlying47 rfl (by rw [S16.out]; exact info16) ?_)
  go_loopw [6] (fun i wr => ∃ k : Nat, k ≤ 16 ∧ i = .int .i64 (k : Int) ∧ Blk wr w.heap.size 47 (row8 (mpTo box s k)) ∧ Blk wr (w.heap.size + 1) 47 C0 ∧ Below w.heap.size w wr) (fun i _ => 16 - (intOf i).toNat)
  case atStart => exact ⟨0, Nat.zero_le _, rfl, by rw [mpTo_zero _ HS.out.1]; exact N0.out, N1.out, W2.out⟩
  case round =>
    clear N0 N1 W2
    obtain ⟨k, hk, rfl, b0, b1, bb⟩ := hrel
    by_cases hlt : k < 16
    · have c0 := b0.cell k _ (row8_val _ k (by rw [mpTo_len]; exact hlt))
      have hix := run_index_row 47 5 16 (row8 s).toArray k (.int .u8 (gb s k)) Tryd.underlying47 hlt info8a agg8a (row8_get s k (by rw [HS.out.1]; exact hlt))
      have f0 := b0.free k
      have HC := Lib.hid (sbox_eq (gb s k) (HS.out.2 k) wr (HX.out.below bb))
      have B0 := Lib.hid b0
      have B1 := Lib.hid b1
      have BB := Lib.hid bb
      clear b0 b1 bb
      go_wp2_with (go_at_call 49; (with_reducible refine HC.out.mono ?_); rintro e w4 ⟨rfl, rfl⟩)
      have nb0 := B0.out.set k (.int .u8 ((box (gb s k) : Nat) : Int))
      rw [row8_set, mpTo_step _ _ _ hlt] at nb0
      exact ⟨⟨k + 1, by omega, by go_num, nb0, B1.out.other ⟨w.heap.size, k, none⟩ _ (by simp <;> omega), BB.out.setCell (p := ⟨w.heap.size, k, none⟩) (Nat.le_refl _) _⟩, by simp [intOf]; omega⟩
    · obtain rfl : k = 16 := by omega
      rw [mpTo_all, ← HM.out] at b0
      have B0 := Lib.hid b0
      have B1 := Lib.hid b1
      have BB := Lib.hid bb
      clear b0 b1 bb
      go_wp2_with (first
        | (refine wpList_load_mid rfl 47 (.tmp 1) rfl w.heap.size 0 rfl (row8 M) _ B0.out.range Tryd.underlying47 rfl (by rw [M16.out]; exact info16) ?_)
        | (refine wpList_store_mid rfl 47 (.tmp 2) (.tmp 15) rfl (w.heap.size + 1) 0 (row8 M).toArray rfl rfl (B1.out.there _ (by rw [List.size_toArray, M16.out, hc0])) (by rw [List.size_toArray, M16.out]; exact info16) (row8_one _) ?_))
      have fin := B1.out.whole (row8 M) (by rw [M16.out, hc0])
      exact bodyPost_ret (v := .agg (row8 M).toArray) (results_mid rfl _ _ (w.heap.size + 1) (row8 M) _ rfl fin.range Tryd.underlying47 rfl (by rw [M16.out]; exact info16)) rfl ⟨rfl, below_setCells (w.heap.size + 1) (by omega) _ 0 _ BB.out⟩
set_option maxRecDepth 100000 in
set_option maxHeartbeats 4000000 in
theorem shifted_any (s : List Nat) (hs : Bytes 16 s) (w : World) :
    Calls Tryd.prog 35 #[.agg (row8 s).toArray] w fun e w' => e = .returned (.agg (row8 (shA s)).toArray) ∧ Below w.heap.size w w' := by
  obtain ⟨C0, hC0⟩ : ∃ C0, C0 = row8 (List.replicate 16 0) := ⟨_, rfl⟩
  have hz : ∀ w, (zeroValue 47).run Tryd.prog w = .ok (.agg C0.toArray) w := by rw [hC0]; exact zero16
  have hc0 : C0.length = 16 := by rw [hC0, row8_len, List.length_replicate]
  have w1 := (Below.refl w.heap.size w).alloc (Nat.le_refl _) (.cells (row8 s).toArray 47)
  have w2 := w1.alloc w1.size (.cells C0.toArray 47)
  have N0 := Lib.hid ((Blk.new w 47 (row8 s) _ rfl).alloc (.cells C0.toArray 47))
  have N1 := Lib.hid (Blk.new (w.alloc (.cells (row8 s).toArray 47)) 47 C0 (w.heap.size + 1) (by simp))
  have W2 := Lib.hid w2
  have HS := Lib.hid hs
  rw [shA_lit]
  have c0 := N0.out.cell 0 _ (row8_val s 0 (by rw [HS.out.1]; decide))
  have c1 := N0.out.cell 1 _ (row8_val s 1 (by rw [HS.out.1]; decide))
  have c2 := N0.out.cell 2 _ (row8_val s 2 (by rw [HS.out.1]; decide))
  have c3 := N0.out.cell 3 _ (row8_val s 3 (by rw [HS.out.1]; decide))
  have c4 := N0.out.cell 4 _ (row8_val s 4 (by rw [HS.out.1]; decide))
  have c5 := N0.out.cell 5 _ (row8_val s 5 (by rw [HS.out.1]; decide))
  have c6 := N0.out.cell 6 _ (row8_val s 6 (by rw [HS.out.1]; decide))
  have c7 := N0.out.cell 7 _ (row8_val s 7 (by rw [HS.out.1]; decide))
  have c8 := N0.out.cell 8 _ (row8_val s 8 (by rw [HS.out.1]; decide))
  have c9 := N0.out.cell 9 _ (row8_val s 9 (by rw [HS.out.1]; decide))
  have c10 := N0.out.cell 10 _ (row8_val s 10 (by rw [HS.out.1]; decide))
  have c11 := N0.out.cell 11 _ (row8_val s 11 (by rw [HS.out.1]; decide))
  have c12 := N0.out.cell 12 _ (row8_val s 12 (by rw [HS.out.1]; decide))
  have c13 := N0.out.cell 13 _ (row8_val s 13 (by rw [HS.out.1]; decide))
  have c14 := N0.out.cell 14 _ (row8_val s 14 (by rw [HS.out.1]; decide))
  have c15 := N0.out.cell 15 _ (row8_val s 15 (by rw [HS.out.1]; decide))
  obtain ⟨x0, hx0⟩ : ∃ x, x = gb s 0 := ⟨_, rfl⟩
  rw [← hx0] at c0 ⊢
  obtain ⟨x1, hx1⟩ : ∃ x, x = gb s 1 := ⟨_, rfl⟩
  rw [← hx1] at c1 ⊢
  obtain ⟨x2, hx2⟩ : ∃ x, x = gb s 2 := ⟨_, rfl⟩
  rw [← hx2] at c2 ⊢
  obtain ⟨x3, hx3⟩ : ∃ x, x = gb s 3 := ⟨_, rfl⟩
  rw [← hx3] at c3 ⊢
  obtain ⟨x4, hx4⟩ : ∃ x, x = gb s 4 := ⟨_, rfl⟩
  rw [← hx4] at c4 ⊢
  obtain ⟨x5, hx5⟩ : ∃ x, x = gb s 5 := ⟨_, rfl⟩
  rw [← hx5] at c5 ⊢
  obtain ⟨x6, hx6⟩ : ∃ x, x = gb s 6 := ⟨_, rfl⟩
  rw [← hx6] at c6 ⊢
  obtain ⟨x7, hx7⟩ : ∃ x, x = gb s 7 := ⟨_, rfl⟩
  rw [← hx7] at c7 ⊢
  obtain ⟨x8, hx8⟩ : ∃ x, x = gb s 8 := ⟨_, rfl⟩
  rw [← hx8] at c8 ⊢
  obtain ⟨x9, hx9⟩ : ∃ x, x = gb s 9 := ⟨_, rfl⟩
  rw [← hx9] at c9 ⊢
  obtain ⟨x10, hx10⟩ : ∃ x, x = gb s 10 := ⟨_, rfl⟩
  rw [← hx10] at c10 ⊢
  obtain ⟨x11, hx11⟩ : ∃ x, x = gb s 11 := ⟨_, rfl⟩
  rw [← hx11] at c11 ⊢
  obtain ⟨x12, hx12⟩ : ∃ x, x = gb s 12 := ⟨_, rfl⟩
  rw [← hx12] at c12 ⊢
  obtain ⟨x13, hx13⟩ : ∃ x, x = gb s 13 := ⟨_, rfl⟩
  rw [← hx13] at c13 ⊢
  obtain ⟨x14, hx14⟩ : ∃ x, x = gb s 14 := ⟨_, rfl⟩
  rw [← hx14] at c14 ⊢
  obtain ⟨x15, hx15⟩ : ∃ x, x = gb s 15 := ⟨_, rfl⟩
  rw [← hx15] at c15 ⊢
  obtain ⟨M, hM⟩ : ∃ M, M = [x0, x5, x10, x15, x4, x9, x14, x3, x8, x13, x2, x7, x12, x1, x6, x11] := ⟨_, rfl⟩
  rw [← hM]
  have M16 := Lib.hid (show (row8 M).length = 16 by rw [hM]; rfl)
  have HM := Lib.hid (show (row8 M).toArray = #[.int .u8 (x0 : Int), .int .u8 (x5 : Int), .int .u8 (x10 : Int), .int .u8 (x15 : Int), .int .u8 (x4 : Int), .int .u8 (x9 : Int), .int .u8 (x14 : Int), .int .u8 (x3 : Int), .int .u8 (x8 : Int), .int .u8 (x13 : Int), .int .u8 (x2 : Int), .int .u8 (x7 : Int), .int .u8 (x12 : Int), .int .u8 (x1 : Int), .int .u8 (x6 : Int), .int .u8 (x11 : Int)] by rw [hM]; rfl)
  clear hC0 w1 w2 hs hM hx0 hx1 hx2 hx3 hx4 hx5 hx6 hx7 hx8 hx9 hx10 hx11 hx12 hx13 hx14 hx15
  go_enter Tryd.func35, Tryd.ntmps35
  go_wp2_with (first
    | (refine wpList_buildTo rfl 47 _ rfl (some 35) rfl #[.int .u8 (x0 : Int), .int .u8 (x5 : Int), .int .u8 (x10 : Int), .int .u8 (x15 : Int), .int .u8 (x4 : Int), .int .u8 (x9 : Int), .int .u8 (x14 : Int), .int .u8 (x3 : Int), .int .u8 (x8 : Int), .int .u8 (x13 : Int), .int .u8 (x2 : Int), .int .u8 (x7 : Int), .int .u8 (x12 : Int), .int .u8 (x1 : Int), .int .u8 (x6 : Int), .int .u8 (x11 : Int)] (by kernel_rfl) ?_; rw [← HM.out])
    | (refine wpList_store_mid rfl 47 (.tmp 2) (.tmp 35) rfl (w.heap.size + 1) 0 (row8 M).toArray rfl rfl (N1.out.there _ (by rw [List.size_toArray, M16.out, hc0])) (by rw [List.size_toArray, M16.out]; exact info16) (row8_one _) ?_))
  have fin := N1.out.whole (row8 M) (by rw [M16.out, hc0])
  exact bodyPost_ret (v := .agg (row8 M).toArray) (results_mid rfl _ _ (w.heap.size + 1) (row8 M) _ rfl fin.range Tryd.underlying47 rfl (by rw [M16.out]; exact info16)) rfl ⟨rfl, below_setCells (w.heap.size + 1) (by omega) _ 0 _ W2.out⟩
end Go.Proofs.YtjemajenfkjelaaDoor
