/- A sector's number in sixteen bytes, and a block and its tweak, as the program makes them: contracts. Own work. -/
import Derived.Test.YtmidbmihadhgdaaDoorXtsTw
import Derived.Test.YtmidbmihadhgdaaDoorAesStep
namespace Go.Proofs.YtmidbmihadhgdaaDoor
open Go.ChangeShapes Go.WideShapes Go.ChangeAt Go.RowKit
open AM FM XM
set_option maxRecDepth 100000 in
set_option maxHeartbeats 1000000 in
theorem laid_any (n : Nat) (w : World) :
    Calls Tryd.prog 37 #[.int .u64 (n : Int)] w fun e w' => e = .returned (.agg (row8 (num n)).toArray) ∧ Below w.heap.size w w' := by
  obtain ⟨D0, hD0⟩ : ∃ D0, D0 = row8 (List.replicate 16 0) := ⟨_, rfl⟩
  have hz : ∀ w, (zeroValue 35).run Tryd.prog w = .ok (.agg D0.toArray) w := by rw [hD0]; exact zero16
  have hd0 : D0.length = 16 := by rw [hD0, row8_len, List.length_replicate]
  have w1 := (Below.refl w.heap.size w).alloc (Nat.le_refl _) (.cells D0.toArray 35)
  have w2 := w1.alloc w1.size (.cells D0.toArray 35)
  have R0 := Lib.hid ((Blk.new w 35 D0 _ rfl).alloc (.cells D0.toArray 35))
  have N0 := Lib.hid (Blk.new (w.alloc (.cells D0.toArray 35)) 35 D0 (w.heap.size + 1) (by simp))
  have B0 := Lib.hid w2
  obtain ⟨M, hM⟩ : ∃ M, M = num n := ⟨_, rfl⟩
  rw [← hM]
  have M16 := Lib.hid (show (row8 M).length = 16 by rw [hM, row8_len]; exact (num_bytes n).1)
  have HM := Lib.hid hM
  have HD := Lib.hid hD0
  clear hD0 w1 w2 hM
  go_enter Tryd.func37, Tryd.ntmps37
  go_wp2_with fail
  go_loopw [5] (fun x wr => ∃ k : Nat, k ≤ 8 ∧ x = .int .i64 (k : Int) ∧ Blk wr w.heap.size 35 D0 ∧ Blk wr (w.heap.size + 1) 35 (row8 (numTo n k)) ∧ Below w.heap.size w wr) (fun x _ => 8 - (intOf x).toNat)
  case atStart => exact ⟨0, by omega, rfl, R0.out, by rw [numTo_zero, ← HD.out]; exact N0.out, B0.out⟩
  case round =>
    clear R0 N0 B0
    obtain ⟨k, hk, rfl, r0, n0, b0⟩ := hrel
    by_cases h8 : k < 8
    · have h8I : (k : Int) < 8 := by omega
      have d := n0.cell k _ (row8_val _ k (by rw [numTo_len]; omega))
      have f := n0.free k
      have hs := shr_num n k
      have q1 : (0 : Int) ≤ 8 * (k : Int) := by omega
      have q2 : (8 * (k : Int)).toNat = 8 * k := by omega
      have R1 := Lib.hid r0
      have N1 := Lib.hid n0
      have B1 := Lib.hid b0
      clear r0 n0 b0
      go_wp2_with fail
      have nt := N1.out.set k (.int .u8 ((n / 256 ^ k % 256 : Nat) : Int))
      rw [row8_set, numTo_step n k h8] at nt
      exact ⟨⟨k + 1, by omega, by go_num, R1.out.other ⟨w.heap.size + 1, k, none⟩ _ (by simp <;> omega), nt, B1.out.setCell (p := ⟨w.heap.size + 1, k, none⟩) (by simp <;> omega) _⟩, by simp [intOf]; omega⟩
    · obtain rfl : k = 8 := by omega
      rw [numTo_all, ← HM.out] at n0
      have R1 := Lib.hid r0
      have N1 := Lib.hid n0
      have B1 := Lib.hid b0
      clear r0 n0 b0
      go_wp2_with (first
        | (refine wpList_load_mid rfl 35 (.tmp 3) rfl (w.heap.size + 1) 0 rfl (row8 M) _ N1.out.range Tryd.underlying35 rfl (by rw [M16.out]; exact info16) ?_)
        | (refine wpList_store_mid rfl 35 (.tmp 2) (.tmp 16) rfl w.heap.size 0 (row8 M).toArray rfl rfl (R1.out.there _ (by rw [List.size_toArray, M16.out, hd0])) (by rw [List.size_toArray, M16.out]; exact info16) (row8_one _) ?_))
      have fin := R1.out.whole (row8 M) (by rw [M16.out, hd0])
      exact bodyPost_ret (v := .agg (row8 M).toArray) (results_mid rfl _ _ w.heap.size (row8 M) _ rfl fin.range Tryd.underlying35 rfl (by rw [M16.out]; exact info16)) rfl ⟨rfl, below_setCells w.heap.size (Nat.le_refl _) _ 0 _ B1.out⟩
set_option maxRecDepth 100000 in
set_option maxHeartbeats 1000000 in
theorem tweaked_any (a b : List Nat) (ha : Bytes 16 a) (hb : Bytes 16 b) (w : World) :
    Calls Tryd.prog 38 #[.agg (row8 a).toArray, .agg (row8 b).toArray] w fun e w' => e = .returned (.agg (row8 (ax a b)).toArray) ∧ Below w.heap.size w w' := by
  obtain ⟨C0, hC0⟩ : ∃ C0, C0 = row8 (List.replicate 16 0) := ⟨_, rfl⟩
  have hz : ∀ w, (zeroValue 35).run Tryd.prog w = .ok (.agg C0.toArray) w := by rw [hC0]; exact zero16
  have hc0 : C0.length = 16 := by rw [hC0, row8_len, List.length_replicate]
  have w1 := (Below.refl w.heap.size w).alloc (Nat.le_refl _) (.cells (row8 a).toArray 35)
  have w2 := w1.alloc w1.size (.cells (row8 b).toArray 35)
  have w3 := w2.alloc w2.size (.cells C0.toArray 35)
  have N0 := Lib.hid (((Blk.new w 35 (row8 a) _ rfl).alloc (.cells (row8 b).toArray 35)).alloc (.cells C0.toArray 35))
  have N1 := Lib.hid ((Blk.new (w.alloc (.cells (row8 a).toArray 35)) 35 (row8 b) (w.heap.size + 1) (by simp)).alloc (.cells C0.toArray 35))
  have N2 := Lib.hid (Blk.new ((w.alloc (.cells (row8 a).toArray 35)).alloc (.cells (row8 b).toArray 35)) 35 C0 (w.heap.size + 1 + 1) (by simp))
  have W3 := Lib.hid w3
  have HA := Lib.hid ha
  have HB := Lib.hid hb
  obtain ⟨M, hM⟩ : ∃ M, M = ax a b := ⟨_, rfl⟩
  rw [← hM]
  have HM := Lib.hid hM
  have M16 := Lib.hid (show (row8 M).length = 16 by rw [hM, row8_len]; exact row_len _)
  have B16 := Lib.hid (show (row8 b).length = 16 by rw [row8_len]; exact hb.1)
  clear hC0 w1 w2 w3 ha hb hM
  go_enter Tryd.func38, Tryd.ntmps38
  go_wp2_with (refine wpList_load_mid rfl 35 (.tmp 3) rfl (w.heap.size + 1) 0 rfl (row8 b) _ N1.out.range Tryd.underlying35 rfl (by rw [B16.out]; exact info16) ?_)
  go_loopw [8] (fun i wr => ∃ k : Nat, k ≤ 16 ∧ i = .int .i64 (k : Int) ∧ Blk wr w.heap.size 35 (row8 (axTo a b k)) ∧ Blk wr (w.heap.size + 1 + 1) 35 C0 ∧ Below w.heap.size w wr) (fun i _ => 16 - (intOf i).toNat)
  case atStart => exact ⟨0, Nat.zero_le _, rfl, by rw [axTo_zero HA.out.1]; exact N0.out, N2.out, W3.out⟩
  case round =>
    clear N0 N1 N2 W3
    obtain ⟨k, hk, rfl, b0, b2, bb⟩ := hrel
    by_cases hlt : k < 16
    · have c0 := b0.cell k _ (row8_val _ k (by rw [axTo_len]; exact hlt))
      rw [axTo_get _ _ _ _ hlt, if_neg (by omega)] at c0
      have hix := run_index_row 35 5 16 (row8 b).toArray k (.int .u8 (gb b k)) Tryd.underlying35 hlt info8a agg8a (row8_get b k (by rw [HB.out.1]; exact hlt))
      have f0 := b0.free k
      have hxr := u8_xor_nat (gb a k) (gb b k) (HA.out.2 k) (HB.out.2 k)
      have B0 := Lib.hid b0
      have B2 := Lib.hid b2
      have BB := Lib.hid bb
      clear b0 b2 bb
      go_wp2_with fail
      have nb0 := B0.out.set k (.int .u8 ((gb a k ^^^ gb b k : Nat) : Int))
      rw [row8_set, axTo_step _ _ _ hlt] at nb0
      exact ⟨⟨k + 1, by omega, by go_num, nb0, B2.out.other ⟨w.heap.size, k, none⟩ _ (by simp <;> omega), BB.out.setCell (p := ⟨w.heap.size, k, none⟩) (Nat.le_refl _) _⟩, by simp [intOf]; omega⟩
    · obtain rfl : k = 16 := by omega
      rw [axTo_all, ← HM.out] at b0
      have B0 := Lib.hid b0
      have B2 := Lib.hid b2
      have BB := Lib.hid bb
      clear b0 b2 bb
      go_wp2_with (first
        | (refine wpList_load_mid rfl 35 (.tmp 2) rfl w.heap.size 0 rfl (row8 M) _ B0.out.range Tryd.underlying35 rfl (by rw [M16.out]; exact info16) ?_)
        | (refine wpList_store_mid rfl 35 (.tmp 4) (.tmp 19) rfl (w.heap.size + 1 + 1) 0 (row8 M).toArray rfl rfl (B2.out.there _ (by rw [List.size_toArray, M16.out, hc0])) (by rw [List.size_toArray, M16.out]; exact info16) (row8_one _) ?_))
      have fin := B2.out.whole (row8 M) (by rw [M16.out, hc0])
      exact bodyPost_ret (v := .agg (row8 M).toArray) (results_mid rfl _ _ (w.heap.size + 1 + 1) (row8 M) _ rfl fin.range Tryd.underlying35 rfl (by rw [M16.out]; exact info16)) rfl ⟨rfl, below_setCells (w.heap.size + 1 + 1) (by omega) _ 0 _ BB.out⟩
end Go.Proofs.YtmidbmihadhgdaaDoor
