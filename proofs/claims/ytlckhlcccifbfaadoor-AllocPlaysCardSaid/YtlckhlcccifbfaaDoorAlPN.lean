/- Package alloc's New: contract. Own work. -/
import Derived.Test.YtlckhlcccifbfaaDoorAlPM
import Derived.Laws.MakeOwn
import Derived.Laws.CopyOwn
namespace Go.Proofs.YtlckhlcccifbfaaDoor
open Go.ChangeShapes Go.WideShapes Go.ChangeAt Go.RowKit
theorem own_blkT {w : World} {base g n : Nat} {e : TypeId} {cs : List Value} (h : w.ownsRow base e 1 (.slice (some ⟨g, 0, none⟩) n n) n cs) : Blk w g e cs := by
  rcases h.2 with ⟨e, _⟩ | ⟨g', cap, cur, e, _, hh, _, _, hs, ht⟩
  · cases e
  · injection e with e1 e2 e3
    injection e1 with e1
    injection e1 with e1
    subst e1; subst e3
    unfold Blk
    rw [hh, ← ht]
    congr 2
    apply Array.toList_inj.1
    exact (List.take_of_length_le (by rw [Array.length_toList, hs]; exact Nat.le_refl _)).symm
theorem infoQ : (Tryd.prog.info? 59).map (fun i => (i.zero, i.size, i.bytes)) = some (some (.int .u64 0), 1, 8) := by kernel_rfl
theorem row64_zeros (n : Nat) : row64 (List.replicate n 0) = List.replicate n (.int .u64 0) := by unfold row64; rw [List.map_replicate]; rfl
/-- How many clusters a set of so many has. -/
def most (t : Int) : Nat := (min (max t 0) 65536).toNat
theorem new_end {w w1 : World} {n T : Nat} (B1 : Blk w1 w.heap.size 59 (row64 (List.replicate n 0))) (G1 : Below w.heap.size w w1) (hn : n = (T + 63) / 64) (hT : T ≤ 65536) : ∃ b g, Ending.returned (.pointer (some ⟨w1.heap.size, 0, none⟩)) = Ending.returned (.pointer (some ⟨b, 0, none⟩)) ∧ w.heap.size ≤ b ∧ w.heap.size ≤ g ∧ Sets (w1.alloc (.cells #[.int .i64 (T : Int), .slice (some ⟨w.heap.size, 0, none⟩) n n] 53)) b g T (fun _ => false) ∧ Below w.heap.size w (w1.alloc (.cells #[.int .i64 (T : Int), .slice (some ⟨w.heap.size, 0, none⟩) n n] 53)) := by
  have hlt := B1.lt
  refine ⟨_, _, rfl, G1.size, Nat.le_refl _, ⟨List.replicate n 0, ⟨?_, B1.alloc _, by omega⟩, ?_⟩, G1.alloc (by have := G1.size; omega) _⟩
  · rw [List.length_replicate]
    exact Blk.new w1 53 [.int .i64 (T : Int), .slice (some ⟨w.heap.size, 0, none⟩) n n] _ rfl
  · rw [hn]; exact AL.rep_new T hT
set_option maxHeartbeats 400000 in
theorem anew_mid (T : Nat) (hT : T ≤ 65536) (w : World) : Calls Tryd.prog 10 #[.int .i64 (T : Int)] w fun e w' => ∃ b g, e = .returned (.pointer (some ⟨b, 0, none⟩)) ∧ w.heap.size ≤ b ∧ w.heap.size ≤ g ∧ Sets w' b g T (fun _ => false) ∧ Below w.heap.size w w' := by
  obtain ⟨n, hn⟩ : ∃ n, n = (T + 63) / 64 := ⟨_, rfl⟩
  have hq : ((T : Int) + 64 - 1) / 64 = (n : Int) := by omega
  have HN := Lib.hid hn
  have hn2 : n ≤ 1024 := by omega
  have HQ := Lib.hid hq
  clear hq
  clear hn
  obtain ⟨i0, hi, hz0, hz1, hz2⟩ := info_parts infoQ
  have HI := Lib.hid hi
  have HZ0 := Lib.hid hz0
  have HZ1 := Lib.hid hz1
  have HB2 := Lib.hid (show i0.bytes * n ≤ 281474976710656 by rw [hz2]; omega)
  have HB3 := Lib.hid (show n ≤ maxLen by unfold maxLen; omega)
  clear hi hz0 hz1 hz2
  go_enter Tryd.func10, Tryd.ntmps10
  go_wp2_with (refine wpList_make_full _ rfl (.tmp 10) (.tmp 10) 51 rfl w.heap.size 59 i0 (.int .u64 0) 1 Tryd.underlying51 HI.out HZ0.out HZ1.out .i64 .i64 _ _ n rfl rfl HQ.out HQ.out HB2.out HB3.out (Nat.le_refl _) ?_; intro w1 hown hg; have b1 : Blk w1 w.heap.size 59 (row64 (List.replicate n 0)) := (own_blkT (by rw [row64_zeros, ← toList_madeCells_one]; rw [Nat.mul_one] at hown; exact hown)); have B1 := Lib.hid b1; have G1 := Lib.hid (below_of_grown hg); clear hown hg b1)
  go_ret
  exact new_end B1.out G1.out (T := T) HN.out hT
set_option maxHeartbeats 400000 in
theorem anew_low (t : Int) (ht : t < 0) (w : World) : Calls Tryd.prog 10 #[.int .i64 t] w fun e w' => ∃ b g, e = .returned (.pointer (some ⟨b, 0, none⟩)) ∧ w.heap.size ≤ b ∧ w.heap.size ≤ g ∧ Sets w' b g 0 (fun _ => false) ∧ Below w.heap.size w w' := by
  obtain ⟨i0, hi, hz0, hz1, hz2⟩ := info_parts infoQ
  have HI := Lib.hid hi
  have HZ0 := Lib.hid hz0
  have HZ1 := Lib.hid hz1
  have HB2 := Lib.hid (show i0.bytes * 0 ≤ 281474976710656 by rw [hz2]; omega)
  have HB3 := Lib.hid (show 0 ≤ maxLen by unfold maxLen; omega)
  clear hi hz0 hz1 hz2
  go_enter Tryd.func10, Tryd.ntmps10
  go_wp2_with (refine wpList_make_full _ rfl (.tmp 10) (.tmp 10) 51 rfl w.heap.size 59 i0 (.int .u64 0) 1 Tryd.underlying51 HI.out HZ0.out HZ1.out .i64 .i64 _ _ 0 rfl rfl rfl rfl HB2.out HB3.out (Nat.le_refl _) ?_; intro w1 hown hg; have b1 : Blk w1 w.heap.size 59 (row64 (List.replicate 0 0)) := (own_blkT (by rw [row64_zeros, ← toList_madeCells_one]; rw [Nat.mul_one] at hown; exact hown)); have B1 := Lib.hid b1; have G1 := Lib.hid (below_of_grown hg); clear hown hg b1)
  go_ret
  exact new_end B1.out G1.out (T := 0) rfl (by omega)
set_option maxHeartbeats 400000 in
theorem anew_high (t : Int) (ht : 65536 < t) (w : World) : Calls Tryd.prog 10 #[.int .i64 t] w fun e w' => ∃ b g, e = .returned (.pointer (some ⟨b, 0, none⟩)) ∧ w.heap.size ≤ b ∧ w.heap.size ≤ g ∧ Sets w' b g 65536 (fun _ => false) ∧ Below w.heap.size w w' := by
  obtain ⟨i0, hi, hz0, hz1, hz2⟩ := info_parts infoQ
  have HI := Lib.hid hi
  have HZ0 := Lib.hid hz0
  have HZ1 := Lib.hid hz1
  have HB2 := Lib.hid (show i0.bytes * 1024 ≤ 281474976710656 by rw [hz2]; omega)
  have HB3 := Lib.hid (show 1024 ≤ maxLen by unfold maxLen; omega)
  clear hi hz0 hz1 hz2
  go_enter Tryd.func10, Tryd.ntmps10
  go_wp2_with (refine wpList_make_full _ rfl (.tmp 10) (.tmp 10) 51 rfl w.heap.size 59 i0 (.int .u64 0) 1 Tryd.underlying51 HI.out HZ0.out HZ1.out .i64 .i64 _ _ 1024 rfl rfl rfl rfl HB2.out HB3.out (Nat.le_refl _) ?_; intro w1 hown hg; have b1 : Blk w1 w.heap.size 59 (row64 (List.replicate 1024 0)) := (own_blkT (by rw [row64_zeros, ← toList_madeCells_one]; rw [Nat.mul_one] at hown; exact hown)); have B1 := Lib.hid b1; have G1 := Lib.hid (below_of_grown hg); clear hown hg b1)
  go_ret
  exact new_end B1.out G1.out (T := 65536) rfl (by omega)
theorem anew_any (t : Int) (w : World) : Calls Tryd.prog 10 #[.int .i64 t] w fun e w' => ∃ b g, e = .returned (.pointer (some ⟨b, 0, none⟩)) ∧ w.heap.size ≤ b ∧ w.heap.size ≤ g ∧ Sets w' b g (most t) (fun _ => false) ∧ Below w.heap.size w w' := by
  by_cases h1 : t < 0
  · have e : most t = 0 := by unfold most; omega
    rw [e]; exact anew_low t h1 w
  · by_cases h2 : 65536 < t
    · have e : most t = 65536 := by unfold most; omega
      rw [e]; exact anew_high t h2 w
    · obtain ⟨T, hT⟩ : ∃ T : Nat, t = (T : Int) := ⟨t.toNat, by omega⟩
      subst hT
      have e : most (T : Int) = T := by unfold most; omega
      rw [e]; exact anew_mid T (by omega) w
end Go.Proofs.YtlckhlcccifbfaaDoor
