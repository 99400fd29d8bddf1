/- Sixteen bytes doubled by package field: a contract for every sixteen bytes. -/
import Derived.Test.YthbeabpbogekcaaRow8
import Derived.Test.YthbeabpbogekcaaFieldCallsD
import Derived.WalkKit

import Derived.Deep.DeepCutAuto
namespace Go.Proofs.Ythbeabpbogekcaa
open Go.ChangeShapes Go.WideShapes Go.ChangeAt Go.RowKit
open FM
def car (l : List Nat) : Nat → Nat
  | 0 => 0
  | k + 1 => gb l k / 128
def twTo (l : List Nat) : Nat → List Nat
  | 0 => List.replicate 16 0
  | k + 1 => (twTo l k).set k ((gb l k * 2 % 256) ||| car l k)
def tw (l : List Nat) : List Nat := if car l 16 = 1 then (twTo l 16).set 0 (gb (twTo l 16) 0 ^^^ 135) else twTo l 16
theorem car_lt (l : List Nat) (k : Nat) (h : ∀ k, gb l k < 256) : car l k < 2 := by
  cases k with
  | zero => show 0 < 2; omega
  | succ k => have := h k; show gb l k / 128 < 2; omega
theorem or_lt {a b : Nat} (h : a < 256) (k : b < 256) : a ||| b < 256 := Nat.or_lt_two_pow (n := 8) h k
theorem twTo_len (l : List Nat) (k : Nat) : (twTo l k).length = 16 := by
  induction k with
  | zero => rfl
  | succ k ih => simp [twTo, ih]
theorem twTo_bytes (l : List Nat) (h : ∀ k, gb l k < 256) (k : Nat) (hk : k ≤ 16) : Bytes 16 (twTo l k) := by
  induction k with
  | zero => exact bytes_zero 16
  | succ k ih => exact bytes_set (ih (by omega)) k _ (by omega) (or_lt (by omega) (by have := car_lt l k h; omega))
theorem tw_bytes (l : List Nat) (h : ∀ k, gb l k < 256) : Bytes 16 (tw l) := by
  have b := twTo_bytes l h 16 (by omega)
  unfold tw; split
  · exact bytes_set b 0 _ (by omega) (lt_of_xor (b.2 0) (by omega))
  · exact b
theorem info16 : (Try.prog.info? 29).map (·.size) = some 16 := by kernel_rfl
theorem info8 : (Try.prog.info? 5).map (·.size) = some 1 := by kernel_rfl
theorem agg8 : ∀ w, (isAgg 5).run Try.prog w = .ok false w := fun _ => by kernel_rfl
set_option maxRecDepth 100000 in
set_option maxHeartbeats 400000 in
theorem twice_any (l : List Nat) (hl : Bytes 16 l) (w : World) :
    Calls Try.prog 22 #[.agg (row8 l).toArray] w fun e w' => e = .returned (.agg (row8 (tw l)).toArray) ∧ Below w.heap.size w w' := by
  have HL := Lib.hid hl
  clear hl
  go_enter Try.func22, Try.ntmps22
  go_wp2_with (refine wpList_load_mid rfl 29 (.tmp 1) rfl w.heap.size 0 rfl (row8 l) _ (((rangeAt_new w (row8 l) 29).alloc _).alloc _) Try.underlying29 rfl (by rw [row8_len, HL.out.1]; exact info16) ?_)
  go_loopw [4, 8] (fun c i wr => ∃ k : Nat, k ≤ 16 ∧ i = .int .i64 k ∧ c = .int .u8 (car l k) ∧ wr = ((w.alloc (.cells (row8 l).toArray 29)).alloc (.cells (row8 (twTo l 0)).toArray 29)).alloc (.cells (row8 (twTo l k)).toArray 29)) (fun _ i _ => 16 - (intOf i).toNat)
  case atStart => exact ⟨0, Nat.zero_le _, rfl, rfl, rfl⟩
  case round =>
    obtain ⟨k, hk, rfl, rfl, rfl⟩ := hrel
    by_cases hlt : k < 16
    · have hb := HL.out.2 k
      have hc : car l k < 256 := by have := car_lt l k HL.out.2; omega
      have hix := run_index_row 29 5 16 (row8 l).toArray k (.int .u8 (gb l k)) Try.underlying29 hlt info8 agg8 (row8_get l k (by rw [HL.out.1]; exact hlt))
      have hcell := row8_get (twTo l k) k (by rw [twTo_len]; exact hlt)
      have hor := u8_or_nat (gb l k * 2 % 256) (car l k) (by omega) hc
      have hcast : (((gb l k * 2 % 256 : Nat)) : Int) = (gb l k : Int) * 2 % 256 := by omega
      rw [hcast] at hor
      have HO := Lib.hid hor
      clear hor hcast
      go_wp2_with fail
      go_roundw
      case rel => exact ⟨k + 1, by omega, by go_num, by go_num, by rw [HO.out, row8_set]; rfl⟩
      case measure => simp [intOf]; omega
    · obtain rfl : k = 16 := by omega
      have hb := twTo_bytes l HL.out.2 16 (by omega)
      by_cases hc : car l 16 = 1
      · have htw : tw l = (twTo l 16).set 0 (gb (twTo l 16) 0 ^^^ 135) := by unfold tw; rw [if_pos hc]
        have HT := Lib.hid htw
        have ht : ((car l 16 : Int) == 1) = true := by rw [hc]; rfl
        have hcell := row8_get (twTo l 16) 0 (by rw [twTo_len]; omega)
        have hx : bits .xor .u8 ((gb (twTo l 16) 0 : Nat) : Int) 135 = ((gb (twTo l 16) 0 ^^^ 135 : Nat) : Int) := u8_xor_nat (gb (twTo l 16) 0) 135 (hb.2 0) (by omega)
        have HX := Lib.hid hx
        clear hx hc htw hb
        go_upto_region 11 with (fail)
        rw [HX.out, row8_set, ← HT.out]
        have hlen : (row8 (tw l)).length = 16 := by rw [row8_len]; exact (tw_bytes l HL.out.2).1
        have HN := Lib.hid hlen
        clear hlen
        have H1 : Hid (w.heap.size + 1 + 1 = ((w.alloc (.cells (row8 l).toArray 29)).alloc (.cells (row8 (twTo l 0)).toArray 29)).heap.size) := Lib.hid (by simp)
        have HS : Hid ((row8 (twTo l 0)).toArray.size = (row8 (tw l)).toArray.size) := Lib.hid (by rw [List.size_toArray, List.size_toArray, HN.out, row8_len]; exact twTo_len l 0)
        have H2 : Hid (w.heap.size + 1 = (w.alloc (.cells (row8 l).toArray 29)).heap.size) := Lib.hid (by simp)
        go_wp2_with (first | (refine wpList_load_mid rfl 29 (.tmp 3) rfl (w.heap.size + 1 + 1) 0 rfl (row8 (tw l)) _ (rangeAt_at _ (row8 (tw l)) 29 _ H1.out) Try.underlying29 rfl (by rw [HN.out]; exact info16) ?_) | (refine wpList_store_mid rfl 29 (.tmp 2) (.tmp 27) rfl (w.heap.size + 1) 0 _ rfl rfl (World.there_alloc (there_at _ (row8 (twTo l 0)).toArray _ _ _ H2.out HS.out) _) (by rw [List.size_toArray, HN.out]; exact info16) (row8_one _) ?_))
        refine bodyPost_ret (v := .agg (row8 (tw l)).toArray) (results_mid rfl _ _ (w.heap.size + 1) (row8 (tw l)) _ rfl ?_ Try.underlying29 rfl (by rw [HN.out]; exact info16)) rfl ⟨rfl, ?_⟩
        · have e := World.rangeAt_setCells_same (((w.alloc (.cells (row8 l).toArray 29)).alloc (.cells (row8 (twTo l 0)).toArray 29)).alloc (.cells (row8 (tw l)).toArray 29)) (w.heap.size + 1) 0 (row8 (tw l)) (by rw [HN.out]; exact World.there_alloc (there_at _ (row8 (twTo l 0)).toArray _ _ _ H2.out (by rw [List.size_toArray, row8_len]; exact twTo_len l 0)) _)
          exact e
        · exact below_setCells (w.heap.size + 1) (by omega) _ 0 _ ((((Below.refl _ _).alloc (Nat.le_refl _) _).alloc (by simp) _).alloc (by simp; omega) _)
      · have htw : tw l = twTo l 16 := by unfold tw; rw [if_neg hc]
        have HT := Lib.hid htw
        have ht : ((car l 16 : Int) == 1) = false := by simp; omega
        clear hc htw hb
        go_upto_region 11 with (fail)
        rw [← HT.out]
        have hlen : (row8 (tw l)).length = 16 := by rw [row8_len]; exact (tw_bytes l HL.out.2).1
        have HN := Lib.hid hlen
        clear hlen
        have H1 : Hid (w.heap.size + 1 + 1 = ((w.alloc (.cells (row8 l).toArray 29)).alloc (.cells (row8 (twTo l 0)).toArray 29)).heap.size) := Lib.hid (by simp)
        have HS : Hid ((row8 (twTo l 0)).toArray.size = (row8 (tw l)).toArray.size) := Lib.hid (by rw [List.size_toArray, List.size_toArray, HN.out, row8_len]; exact twTo_len l 0)
        have H2 : Hid (w.heap.size + 1 = (w.alloc (.cells (row8 l).toArray 29)).heap.size) := Lib.hid (by simp)
        go_wp2_with (first | (refine wpList_load_mid rfl 29 (.tmp 3) rfl (w.heap.size + 1 + 1) 0 rfl (row8 (tw l)) _ (rangeAt_at _ (row8 (tw l)) 29 _ H1.out) Try.underlying29 rfl (by rw [HN.out]; exact info16) ?_) | (refine wpList_store_mid rfl 29 (.tmp 2) (.tmp 27) rfl (w.heap.size + 1) 0 _ rfl rfl (World.there_alloc (there_at _ (row8 (twTo l 0)).toArray _ _ _ H2.out HS.out) _) (by rw [List.size_toArray, HN.out]; exact info16) (row8_one _) ?_))
        refine bodyPost_ret (v := .agg (row8 (tw l)).toArray) (results_mid rfl _ _ (w.heap.size + 1) (row8 (tw l)) _ rfl ?_ Try.underlying29 rfl (by rw [HN.out]; exact info16)) rfl ⟨rfl, ?_⟩
        · have e := World.rangeAt_setCells_same (((w.alloc (.cells (row8 l).toArray 29)).alloc (.cells (row8 (twTo l 0)).toArray 29)).alloc (.cells (row8 (tw l)).toArray 29)) (w.heap.size + 1) 0 (row8 (tw l)) (by rw [HN.out]; exact World.there_alloc (there_at _ (row8 (twTo l 0)).toArray _ _ _ H2.out (by rw [List.size_toArray, row8_len]; exact twTo_len l 0)) _)
          exact e
        · exact below_setCells (w.heap.size + 1) (by omega) _ 0 _ ((((Below.refl _ _).alloc (Nat.le_refl _) _).alloc (by simp) _).alloc (by simp; omega) _)
end Go.Proofs.Ythbeabpbogekcaa
