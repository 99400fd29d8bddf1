/- Sixteen bytes doubled again and again as the document says: a contract for every sixteen bytes and every int. -/
import Derived.Test.YthbeabpbogekcaaTimesCalls
import Derived.WalkKit

namespace Go.Proofs.Ythbeabpbogekcaa
open Go.ChangeShapes Go.WideShapes Go.ChangeAt Go.RowKit
open FM
set_option maxRecDepth 100000 in
set_option maxHeartbeats 400000 in
theorem rtimes_lo (l : List Nat) (hl : Bytes 16 l) (n : Int) (hn : n < 0) (w : World) :
    Calls Try.prog 25 #[.agg (row8 l).toArray, .int .i64 n] w fun e w' => e = .returned (.agg (row8 (tms l 0)).toArray) ∧ Below w.heap.size w w' := by
  have HL := Lib.hid hl
  have hzl : (row8 (twTo l 0)).length = 16 := by rw [row8_len]; exact twTo_len l 0
  have HZL := Lib.hid hzl
  have hrow : ∀ k, (row8 (tms l k)).length = 16 := fun k => by rw [row8_len]; exact (tms_bytes l hl k).1
  have HR := Lib.hid hrow
  clear hl hzl hrow
  go_enter Try.func25, Try.ntmps25
  go_wp2_with fail
  have b0 : Blk ((w.alloc (.cells (row8 l).toArray 29)).alloc (.cells (row8 (twTo l 0)).toArray 29)) w.heap.size 29 (row8 (tms l 0)) := (Blk.new w _ _ _ rfl).alloc _
  have b1 : Blk ((w.alloc (.cells (row8 l).toArray 29)).alloc (.cells (row8 (twTo l 0)).toArray 29)) (w.heap.size + 1) 29 (row8 (twTo l 0)) := Blk.new _ _ _ _ (by simp)
  have bb : Below w.heap.size w ((w.alloc (.cells (row8 l).toArray 29)).alloc (.cells (row8 (twTo l 0)).toArray 29)) := ((Below.refl _ _).alloc (Nat.le_refl _) _).alloc (by simp) _
  go_loopw [5] (fun i wr => ∃ k : Nat, k ≤ 0 ∧ i = .int .i64 k ∧ Blk wr w.heap.size 29 (row8 (tms l k)) ∧ Blk wr (w.heap.size + 1) 29 (row8 (twTo l 0)) ∧ Below w.heap.size w wr) (fun i _ => 0 - (intOf i).toNat)
  case atStart => exact ⟨0, Nat.zero_le _, rfl, b0, b1, bb⟩
  case round =>
    clear b0 b1 bb
    obtain ⟨k, hk, rfl, b0, b1, bb⟩ := hrel
    have h0 := b0.lt
    have h1 := b1.lt
    have B0 := Lib.hid b0
    have B1 := Lib.hid b1
    have BB := Lib.hid bb
    clear b0 b1 bb
    by_cases hlt : k < 0
    · exact absurd hlt (Nat.not_lt_zero k)
    · obtain rfl : 0 = k := by omega
      go_wp2_with (first | (refine wpList_load_mid rfl 29 (.tmp 2) rfl w.heap.size 0 rfl (row8 (tms l 0)) _ B0.out.range Try.underlying29 rfl (by rw [HR.out]; exact info16) ?_) | (refine wpList_store_mid rfl 29 (.tmp 4) (.tmp 17) rfl (w.heap.size + 1) 0 (row8 (tms l 0)).toArray rfl rfl (B1.out.there _ (by rw [HZL.out, List.size_toArray, HR.out])) (by rw [List.size_toArray, HR.out]; exact info16) (row8_one _) ?_))
      have fin := B1.out.whole (row8 (tms l 0)) (by rw [HZL.out, HR.out])
      exact bodyPost_ret (v := .agg (row8 (tms l 0)).toArray) (results_mid rfl _ _ (w.heap.size + 1) (row8 (tms l 0)) _ rfl fin.range Try.underlying29 rfl (by rw [HR.out]; exact info16)) rfl ⟨rfl, below_setCells (w.heap.size + 1) (by omega) _ 0 _ BB.out⟩
set_option maxRecDepth 100000 in
set_option maxHeartbeats 400000 in
theorem rtimes_mid (l : List Nat) (hl : Bytes 16 l) (n : Nat) (hn : n ≤ 4096) (w : World) :
    Calls Try.prog 25 #[.agg (row8 l).toArray, .int .i64 n] w fun e w' => e = .returned (.agg (row8 (tms l n)).toArray) ∧ Below w.heap.size w w' := by
  have HL := Lib.hid hl
  have hzl : (row8 (twTo l 0)).length = 16 := by rw [row8_len]; exact twTo_len l 0
  have HZL := Lib.hid hzl
  have hrow : ∀ k, (row8 (tms l k)).length = 16 := fun k => by rw [row8_len]; exact (tms_bytes l hl k).1
  have HR := Lib.hid hrow
  clear hl hzl hrow
  go_enter Try.func25, Try.ntmps25
  go_wp2_with fail
  have b0 : Blk ((w.alloc (.cells (row8 l).toArray 29)).alloc (.cells (row8 (twTo l 0)).toArray 29)) w.heap.size 29 (row8 (tms l 0)) := (Blk.new w _ _ _ rfl).alloc _
  have b1 : Blk ((w.alloc (.cells (row8 l).toArray 29)).alloc (.cells (row8 (twTo l 0)).toArray 29)) (w.heap.size + 1) 29 (row8 (twTo l 0)) := Blk.new _ _ _ _ (by simp)
  have bb : Below w.heap.size w ((w.alloc (.cells (row8 l).toArray 29)).alloc (.cells (row8 (twTo l 0)).toArray 29)) := ((Below.refl _ _).alloc (Nat.le_refl _) _).alloc (by simp) _
  go_loopw [5] (fun i wr => ∃ k : Nat, k ≤ n ∧ i = .int .i64 k ∧ Blk wr w.heap.size 29 (row8 (tms l k)) ∧ Blk wr (w.heap.size + 1) 29 (row8 (twTo l 0)) ∧ Below w.heap.size w wr) (fun i _ => n - (intOf i).toNat)
  case atStart => exact ⟨0, Nat.zero_le _, rfl, b0, b1, bb⟩
  case round =>
    clear b0 b1 bb
    obtain ⟨k, hk, rfl, b0, b1, bb⟩ := hrel
    have h0 := b0.lt
    have h1 := b1.lt
    have B0 := Lib.hid b0
    have B1 := Lib.hid b1
    have BB := Lib.hid bb
    clear b0 b1 bb
    by_cases hlt : k < n
    · go_wp2_with (first | (refine wpList_load_mid rfl 29 (.tmp 2) rfl w.heap.size 0 rfl (row8 (tms l k)) _ B0.out.range Try.underlying29 rfl (by rw [HR.out]; exact info16) ?_) | (go_at_call 23; refine (rtwice_any (tms l k) (tms_bytes l HL.out k) _).mono ?_; rintro e w1 ⟨rfl, hw1⟩; have C0 := Lib.hid (B0.out.below hw1 h0); have C1 := Lib.hid (B1.out.below hw1 h1); have CB := Lib.hid (BB.out.trans (hw1.mono (by omega))); clear hw1) | (refine wpList_store_mid rfl 29 (.tmp 2) (.tmp 16) rfl w.heap.size 0 (row8 (tw (tms l k))).toArray rfl rfl (C0.out.there _ (by rw [List.size_toArray, HR.out, show tw (tms l k) = tms l (k + 1) from rfl, HR.out])) (by rw [List.size_toArray, show tw (tms l k) = tms l (k + 1) from rfl, HR.out]; exact info16) (row8_one _) ?_))
      go_roundw
      case rel => exact ⟨k + 1, by omega, by go_num, C0.out.whole _ (by rw [HR.out, show tw (tms l k) = tms l (k + 1) from rfl, HR.out]), C1.out.others _ (by omega) _ _ _, below_setCells w.heap.size (Nat.le_refl _) _ 0 _ CB.out⟩
      case measure => simp [intOf]; omega
    · obtain rfl : n = k := by omega
      go_wp2_with (first | (refine wpList_load_mid rfl 29 (.tmp 2) rfl w.heap.size 0 rfl (row8 (tms l n)) _ B0.out.range Try.underlying29 rfl (by rw [HR.out]; exact info16) ?_) | (refine wpList_store_mid rfl 29 (.tmp 4) (.tmp 17) rfl (w.heap.size + 1) 0 (row8 (tms l n)).toArray rfl rfl (B1.out.there _ (by rw [HZL.out, List.size_toArray, HR.out])) (by rw [List.size_toArray, HR.out]; exact info16) (row8_one _) ?_))
      have fin := B1.out.whole (row8 (tms l n)) (by rw [HZL.out, HR.out])
      exact bodyPost_ret (v := .agg (row8 (tms l n)).toArray) (results_mid rfl _ _ (w.heap.size + 1) (row8 (tms l n)) _ rfl fin.range Try.underlying29 rfl (by rw [HR.out]; exact info16)) rfl ⟨rfl, below_setCells (w.heap.size + 1) (by omega) _ 0 _ BB.out⟩
set_option maxRecDepth 100000 in
set_option maxHeartbeats 400000 in
theorem rtimes_hi (l : List Nat) (hl : Bytes 16 l) (n : Int) (hn : 4096 < n) (w : World) :
    Calls Try.prog 25 #[.agg (row8 l).toArray, .int .i64 n] w fun e w' => e = .returned (.agg (row8 (tms l 4096)).toArray) ∧ Below w.heap.size w w' := by
  have HL := Lib.hid hl
  have hzl : (row8 (twTo l 0)).length = 16 := by rw [row8_len]; exact twTo_len l 0
  have HZL := Lib.hid hzl
  have hrow : ∀ k, (row8 (tms l k)).length = 16 := fun k => by rw [row8_len]; exact (tms_bytes l hl k).1
  have HR := Lib.hid hrow
  clear hl hzl hrow
  go_enter Try.func25, Try.ntmps25
  go_wp2_with fail
  have b0 : Blk ((w.alloc (.cells (row8 l).toArray 29)).alloc (.cells (row8 (twTo l 0)).toArray 29)) w.heap.size 29 (row8 (tms l 0)) := (Blk.new w _ _ _ rfl).alloc _
  have b1 : Blk ((w.alloc (.cells (row8 l).toArray 29)).alloc (.cells (row8 (twTo l 0)).toArray 29)) (w.heap.size + 1) 29 (row8 (twTo l 0)) := Blk.new _ _ _ _ (by simp)
  have bb : Below w.heap.size w ((w.alloc (.cells (row8 l).toArray 29)).alloc (.cells (row8 (twTo l 0)).toArray 29)) := ((Below.refl _ _).alloc (Nat.le_refl _) _).alloc (by simp) _
  go_loopw [5] (fun i wr => ∃ k : Nat, k ≤ 4096 ∧ i = .int .i64 k ∧ Blk wr w.heap.size 29 (row8 (tms l k)) ∧ Blk wr (w.heap.size + 1) 29 (row8 (twTo l 0)) ∧ Below w.heap.size w wr) (fun i _ => 4096 - (intOf i).toNat)
  case atStart => exact ⟨0, Nat.zero_le _, rfl, b0, b1, bb⟩
  case round =>
    clear b0 b1 bb
    obtain ⟨k, hk, rfl, b0, b1, bb⟩ := hrel
    have h0 := b0.lt
    have h1 := b1.lt
    have B0 := Lib.hid b0
    have B1 := Lib.hid b1
    have BB := Lib.hid bb
    clear b0 b1 bb
    by_cases hlt : k < 4096
    · go_wp2_with (first | (refine wpList_load_mid rfl 29 (.tmp 2) rfl w.heap.size 0 rfl (row8 (tms l k)) _ B0.out.range Try.underlying29 rfl (by rw [HR.out]; exact info16) ?_) | (go_at_call 23; refine (rtwice_any (tms l k) (tms_bytes l HL.out k) _).mono ?_; rintro e w1 ⟨rfl, hw1⟩; have C0 := Lib.hid (B0.out.below hw1 h0); have C1 := Lib.hid (B1.out.below hw1 h1); have CB := Lib.hid (BB.out.trans (hw1.mono (by omega))); clear hw1) | (refine wpList_store_mid rfl 29 (.tmp 2) (.tmp 16) rfl w.heap.size 0 (row8 (tw (tms l k))).toArray rfl rfl (C0.out.there _ (by rw [List.size_toArray, HR.out, show tw (tms l k) = tms l (k + 1) from rfl, HR.out])) (by rw [List.size_toArray, show tw (tms l k) = tms l (k + 1) from rfl, HR.out]; exact info16) (row8_one _) ?_))
      go_roundw
      case rel => exact ⟨k + 1, by omega, by go_num, C0.out.whole _ (by rw [HR.out, show tw (tms l k) = tms l (k + 1) from rfl, HR.out]), C1.out.others _ (by omega) _ _ _, below_setCells w.heap.size (Nat.le_refl _) _ 0 _ CB.out⟩
      case measure => simp [intOf]; omega
    · obtain rfl : 4096 = k := by omega
      go_wp2_with (first | (refine wpList_load_mid rfl 29 (.tmp 2) rfl w.heap.size 0 rfl (row8 (tms l 4096)) _ B0.out.range Try.underlying29 rfl (by rw [HR.out]; exact info16) ?_) | (refine wpList_store_mid rfl 29 (.tmp 4) (.tmp 17) rfl (w.heap.size + 1) 0 (row8 (tms l 4096)).toArray rfl rfl (B1.out.there _ (by rw [HZL.out, List.size_toArray, HR.out])) (by rw [List.size_toArray, HR.out]; exact info16) (row8_one _) ?_))
      have fin := B1.out.whole (row8 (tms l 4096)) (by rw [HZL.out, HR.out])
      exact bodyPost_ret (v := .agg (row8 (tms l 4096)).toArray) (results_mid rfl _ _ (w.heap.size + 1) (row8 (tms l 4096)) _ rfl fin.range Try.underlying29 rfl (by rw [HR.out]; exact info16)) rfl ⟨rfl, below_setCells (w.heap.size + 1) (by omega) _ 0 _ BB.out⟩
theorem rtimes_any (l : List Nat) (hl : Bytes 16 l) (n : Int) (w : World) :
    Calls Try.prog 25 #[.agg (row8 l).toArray, .int .i64 n] w fun e w' => e = .returned (.agg (row8 (times l n)).toArray) ∧ Below w.heap.size w w' := by
  unfold times
  rcases (show n < 0 ∨ (0 ≤ n ∧ n ≤ 4096) ∨ 4096 < n by omega) with h | ⟨h, k⟩ | h
  · rw [show cnt n = 0 by unfold cnt; omega]; exact rtimes_lo l hl n h w
  · obtain ⟨m, rfl⟩ := Int.eq_ofNat_of_zero_le h
    rw [show cnt m = m by unfold cnt; omega]; exact rtimes_mid l hl m (by omega) w
  · rw [show cnt n = 4096 by unfold cnt; omega]; exact rtimes_hi l hl n h w
end Go.Proofs.Ythbeabpbogekcaa
