/- Sixteen bytes doubled by package field: a contract for every sixteen bytes. -/
import Derived.Test.YtmidbmihadhgdaaDoorMem
import Derived.Test.YtmidbmihadhgdaaDoorFieldMath
import Derived.Test.YtmidbmihadhgdaaDoorTwNum
import Derived.Test.YtmidbmihadhgdaaDoorInfo16
import Derived.WalkKit

import Derived.Deep.DeepCutAuto
namespace Go.Proofs.YtmidbmihadhgdaaDoor
open Go.ChangeShapes Go.WideShapes Go.ChangeAt Go.RowKit
open FM
theorem info8 : (Tryd.prog.info? 5).map (·.size) = some 1 := by kernel_rfl
theorem agg8 : ∀ w, (isAgg 5).run Tryd.prog w = .ok false w := fun _ => by kernel_rfl
set_option maxRecDepth 100000 in
set_option maxHeartbeats 400000 in
theorem twice_any (l : List Nat) (hl : Bytes 16 l) (w : World) :
    Calls Tryd.prog 18 #[.agg (row8 l).toArray] w fun e w' => e = .returned (.agg (row8 (tw l)).toArray) ∧ Below w.heap.size w w' := by
  have HL := Lib.hid hl
  clear hl
  go_enter Tryd.func18, Tryd.ntmps18
  go_wp2_with (refine wpList_load_mid rfl 35 (.tmp 1) rfl w.heap.size 0 rfl (row8 l) _ (((rangeAt_new w (row8 l) 35).alloc _).alloc _) Tryd.underlying35 rfl (by rw [row8_len, HL.out.1]; exact info16) ?_)
  go_loopw [4, 8] (fun c i wr => ∃ k : Nat, k ≤ 16 ∧ i = .int .i64 k ∧ c = .int .u8 (car l k) ∧ wr = ((w.alloc (.cells (row8 l).toArray 35)).alloc (.cells (row8 (twTo l 0)).toArray 35)).alloc (.cells (row8 (twTo l k)).toArray 35)) (fun _ i _ => 16 - (intOf i).toNat)
  case atStart => exact ⟨0, Nat.zero_le _, rfl, rfl, rfl⟩
  case round =>
    obtain ⟨k, hk, rfl, rfl, rfl⟩ := hrel
    by_cases hlt : k < 16
    · have hb := HL.out.2 k
      have hc : car l k < 256 := by have := car_lt l k HL.out.2; omega
      have hix := run_index_row 35 5 16 (row8 l).toArray k (.int .u8 (gb l k)) Tryd.underlying35 hlt info8 agg8 (row8_get l k (by rw [HL.out.1]; exact hlt))
      have hcell := row8_get (twTo l k) k (by rw [twTo_len]; exact hlt)
      have hor := u8_or_nat (gb l k * 2 % 256) (car l k) (by omega) hc
      have hcast : (((gb l k * 2 % 256 : Nat)) : Int) = (gb l k : Int) * 2 % 256 := by omega
      rw [hcast] at hor
      have HO := Lib.hid hor
      clear hor hcast
      go_wp2_with fail
      go_roundw
      case rel => exact ⟨k + 1, by omega, by go_num, by go_num, by rw [HO.out, row8_set]; rfl⟩
      case measure => simp [intOf]; omega
    · obtain rfl : k = 16 := by omega
      have hb := twTo_bytes l HL.out.2 16 (by omega)
      by_cases hc : car l 16 = 1
      · have htw : tw l = (twTo l 16).set 0 (gb (twTo l 16) 0 ^^^ 135) := by unfold tw; rw [if_pos hc]
        have HT := Lib.hid htw
        have ht : ((car l 16 : Int) == 1) = true := by rw [hc]; rfl
        have hcell := row8_get (twTo l 16) 0 (by rw [twTo_len]; omega)
        have hx : bits .xor .u8 ((gb (twTo l 16) 0 : Nat) : Int) 135 = ((gb (twTo l 16) 0 ^^^ 135 : Nat) : Int) := u8_xor_nat (gb (twTo l 16) 0) 135 (hb.2 0) (by omega)
        have HX := Lib.hid hx
        clear hx hc htw hb
        go_upto_region 11 with (fail)
        rw [HX.out, row8_set, ← HT.out]
        have hlen : (row8 (tw l)).length = 16 := by rw [row8_len]; exact (tw_bytes l HL.out.2).1
        have HN := Lib.hid hlen
        clear hlen
        have H1 : Hid (w.heap.size + 1 + 1 = ((w.alloc (.cells (row8 l).toArray 35)).alloc (.cells (row8 (twTo l 0)).toArray 35)).heap.size) := Lib.hid (by simp)
        have HS : Hid ((row8 (twTo l 0)).toArray.size = (row8 (tw l)).toArray.size) := Lib.hid (by rw [List.size_toArray, List.size_toArray, HN.out, row8_len]; exact twTo_len l 0)
        have H2 : Hid (w.heap.size + 1 = (w.alloc (.cells (row8 l).toArray 35)).heap.size) := Lib.hid (by simp)
        go_wp2_with (first | (refine wpList_load_mid rfl 35 (.tmp 3) rfl (w.heap.size + 1 + 1) 0 rfl (row8 (tw l)) _ (rangeAt_at _ (row8 (tw l)) 35 _ H1.out) Tryd.underlying35 rfl (by rw [HN.out]; exact info16) ?_) | (refine wpList_store_mid rfl 35 (.tmp 2) (.tmp 27) rfl (w.heap.size + 1) 0 _ rfl rfl (World.there_alloc (there_at _ (row8 (twTo l 0)).toArray _ _ _ H2.out HS.out) _) (by rw [List.size_toArray, HN.out]; exact info16) (row8_one _) ?_))
        refine bodyPost_ret (v := .agg (row8 (tw l)).toArray) (results_mid rfl _ _ (w.heap.size + 1) (row8 (tw l)) _ rfl ?_ Tryd.underlying35 rfl (by rw [HN.out]; exact info16)) rfl ⟨rfl, ?_⟩
        · have e := World.rangeAt_setCells_same (((w.alloc (.cells (row8 l).toArray 35)).alloc (.cells (row8 (twTo l 0)).toArray 35)).alloc (.cells (row8 (tw l)).toArray 35)) (w.heap.size + 1) 0 (row8 (tw l)) (by rw [HN.out]; exact World.there_alloc (there_at _ (row8 (twTo l 0)).toArray _ _ _ H2.out (by rw [List.size_toArray, row8_len]; exact twTo_len l 0)) _)
          exact e
        · exact below_setCells (w.heap.size + 1) (by omega) _ 0 _ ((((Below.refl _ _).alloc (Nat.le_refl _) _).alloc (by simp) _).alloc (by simp; omega) _)
      · have htw : tw l = twTo l 16 := by unfold tw; rw [if_neg hc]
        have HT := Lib.hid htw
        have ht : ((car l 16 : Int) == 1) = false := by simp; omega
        clear hc htw hb
        go_upto_region 11 with (fail)
        rw [← HT.out]
        have hlen : (row8 (tw l)).length = 16 := by rw [row8_len]; exact (tw_bytes l HL.out.2).1
        have HN := Lib.hid hlen
        clear hlen
        have H1 : Hid (w.heap.size + 1 + 1 = ((w.alloc (.cells (row8 l).toArray 35)).alloc (.cells (row8 (twTo l 0)).toArray 35)).heap.size) := Lib.hid (by simp)
        have HS : Hid ((row8 (twTo l 0)).toArray.size = (row8 (tw l)).toArray.size) := Lib.hid (by rw [List.size_toArray, List.size_toArray, HN.out, row8_len]; exact twTo_len l 0)
        have H2 : Hid (w.heap.size + 1 = (w.alloc (.cells (row8 l).toArray 35)).heap.size) := Lib.hid (by simp)
        go_wp2_with (first | (refine wpList_load_mid rfl 35 (.tmp 3) rfl (w.heap.size + 1 + 1) 0 rfl (row8 (tw l)) _ (rangeAt_at _ (row8 (tw l)) 35 _ H1.out) Tryd.underlying35 rfl (by rw [HN.out]; exact info16) ?_) | (refine wpList_store_mid rfl 35 (.tmp 2) (.tmp 27) rfl (w.heap.size + 1) 0 _ rfl rfl (World.there_alloc (there_at _ (row8 (twTo l 0)).toArray _ _ _ H2.out HS.out) _) (by rw [List.size_toArray, HN.out]; exact info16) (row8_one _) ?_))
        refine bodyPost_ret (v := .agg (row8 (tw l)).toArray) (results_mid rfl _ _ (w.heap.size + 1) (row8 (tw l)) _ rfl ?_ Tryd.underlying35 rfl (by rw [HN.out]; exact info16)) rfl ⟨rfl, ?_⟩
        · have e := World.rangeAt_setCells_same (((w.alloc (.cells (row8 l).toArray 35)).alloc (.cells (row8 (twTo l 0)).toArray 35)).alloc (.cells (row8 (tw l)).toArray 35)) (w.heap.size + 1) 0 (row8 (tw l)) (by rw [HN.out]; exact World.there_alloc (there_at _ (row8 (twTo l 0)).toArray _ _ _ H2.out (by rw [List.size_toArray, row8_len]; exact twTo_len l 0)) _)
          exact e
        · exact below_setCells (w.heap.size + 1) (by omega) _ 0 _ ((((Below.refl _ _).alloc (Nat.le_refl _) _).alloc (by simp) _).alloc (by simp; omega) _)
end Go.Proofs.YtmidbmihadhgdaaDoor
