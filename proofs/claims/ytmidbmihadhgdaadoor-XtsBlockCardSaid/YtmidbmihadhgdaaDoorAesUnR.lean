/- The document's table of the way back, and a byte's products: contracts. Own work. -/
import Derived.Test.YtmidbmihadhgdaaDoorAesEnc
namespace Go.Proofs.YtmidbmihadhgdaaDoor
open Go.ChangeShapes Go.WideShapes Go.ChangeAt Go.RowKit
open AM FM
/-- The table of the way back, as far as n bytes tell it. -/
def bkTo (n : Nat) : List Nat := (List.range 256).map fun x => if unb x < n then unb x else 0
theorem bkTo_len (n : Nat) : (bkTo n).length = 256 := by simp [bkTo]
theorem bkTo_get (n k : Nat) (h : k < 256) : gb (bkTo n) k = if unb k < n then unb k else 0 := by
  unfold bkTo; rw [gb_map, if_pos h]
theorem bkTo_zero : bkTo 0 = List.replicate 256 0 :=
  bytes_ext (n := 256) (bkTo_len _) List.length_replicate fun k hk => by
    rw [bkTo_get _ _ hk, if_neg (by omega)]
    unfold gb
    rw [List.getD_eq_getElem?_getD, List.getElem?_replicate, if_pos hk]
    rfl
theorem unt_len : untab.length = 256 := by unfold untab; simp
theorem unt_get (k : Nat) : gb untab k = unb k := rfl
theorem bkTo_all : bkTo 256 = untab :=
  bytes_ext (n := 256) (bkTo_len _) unt_len fun k hk => by
    rw [bkTo_get _ _ hk, if_pos (box_at k hk).2.2.1]; rfl
theorem bkTo_step (k : Nat) (hk : k < 256) : (bkTo k).set (box k) k = bkTo (k + 1) :=
  bytes_ext (n := 256) (by rw [List.length_set, bkTo_len]) (bkTo_len _) fun j hj => by
    rw [gb_set _ _ _ _ (by rw [bkTo_len]; exact (box_at k hk).1), bkTo_get _ _ hj, bkTo_get _ _ hj]
    by_cases e : box k = j
    · have e2 : unb j = k := by rw [← e]; exact (box_at k hk).2.1
      rw [if_pos e, if_pos (by omega), e2]
    · have e2 : unb j ≠ k := fun q => e (by rw [← q]; exact (box_at j hj).2.2.2)
      rw [if_neg e]
      by_cases h : unb j < k
      · rw [if_pos h, if_pos (by omega)]
      · rw [if_neg h, if_neg (by omega)]
theorem info256 : (Tryd.prog.info? 61).map (·.size) = some 256 := by kernel_rfl
theorem zero256 (w : World) : (zeroValue 61).run Tryd.prog w = .ok (.agg (row8 (List.replicate 256 0)).toArray) w := by kernel_rfl
set_option maxRecDepth 100000 in
set_option maxHeartbeats 1000000 in
theorem aback_any (w : World) (ht : TabA w) : Calls Tryd.prog 47 #[] w fun e w' => e = .returned (.agg (row8 untab).toArray) ∧ Below w.heap.size w w' := by
  obtain ⟨C0, hC0⟩ : ∃ C0, C0 = row8 (List.replicate 256 0) := ⟨_, rfl⟩
  have hz : ∀ w, (zeroValue 61).run Tryd.prog w = .ok (.agg C0.toArray) w := by rw [hC0]; exact zero256
  have hc0 : C0.length = 256 := by rw [hC0, row8_len, List.length_replicate]
  have w1 := (Below.refl w.heap.size w).alloc (Nat.le_refl _) (.cells C0.toArray 61)
  have w2 := w1.alloc w1.size (.cells C0.toArray 61)
  have N0 := Lib.hid ((Blk.new w 61 C0 _ rfl).alloc (.cells C0.toArray 61))
  have N1 := Lib.hid (Blk.new (w.alloc (.cells C0.toArray 61)) 61 C0 (w.heap.size + 1) (by simp))
  have W2 := Lib.hid w2
  have HT := Lib.hid ht
  have HC := Lib.hid hC0
  obtain ⟨M, hM⟩ : ∃ M, M = untab := ⟨_, rfl⟩
  rw [← hM]
  have HM := Lib.hid hM
  have M256 := Lib.hid (show (row8 M).length = 256 by rw [hM, row8_len]; exact unt_len)
  clear hC0 w1 w2 ht hM
  go_enter Tryd.func47, Tryd.ntmps47
  go_wp2_with fail
  go_loopw [2] (fun x wr => ∃ k : Nat, k ≤ 256 ∧ x = .int .i64 (k : Int) ∧ Blk wr w.heap.size 61 C0 ∧ Blk wr (w.heap.size + 1) 61 (row8 (bkTo k)) ∧ Below w.heap.size w wr) (fun x _ => 256 - (intOf x).toNat)
  case atStart => exact ⟨0, Nat.zero_le _, rfl, N0.out, by rw [bkTo_zero, ← HC.out]; exact N1.out, W2.out⟩
  case round =>
    clear N0 N1 W2
    obtain ⟨k, hk, rfl, b0, b1, bb⟩ := hrel
    by_cases hlt : k < 256
    · have hltI : (k : Int) < 256 := by omega
      have c := HT.out.below bb k hlt
      have hm : (k : Int) % 256 = (k : Int) := by omega
      obtain ⟨x, hx⟩ : ∃ x, x = box k := ⟨_, rfl⟩
      rw [← hx] at c
      have lx : x < 256 := by rw [hx]; exact box_byte k
      have d := b1.cell x _ (row8_val _ _ (by rw [bkTo_len]; exact lx))
      have f := b1.free x
      have HST := Lib.hid (show (bkTo k).set x k = bkTo (k + 1) by rw [hx]; exact bkTo_step k hlt)
      have B0 := Lib.hid b0
      have B1 := Lib.hid b1
      have BB := Lib.hid bb
      clear b0 b1 bb hx
      go_wp2_with fail
      have nt := B1.out.set x (.int .u8 ((k : Nat) : Int))
      rw [row8_set, HST.out] at nt
      exact ⟨⟨k + 1, by omega, by go_num, B0.out.other ⟨w.heap.size + 1, x, none⟩ _ (by simp <;> omega), nt, BB.out.setCell (p := ⟨w.heap.size + 1, x, none⟩) (by simp <;> omega) _⟩, by simp [intOf]; omega⟩
    · obtain rfl : k = 256 := by omega
      rw [bkTo_all, ← HM.out] at b1
      have B0 := Lib.hid b0
      have B1 := Lib.hid b1
      have BB := Lib.hid bb
      clear b0 b1 bb
      go_wp2_with (first
        | (refine wpList_load_mid rfl 61 (.tmp 1) rfl (w.heap.size + 1) 0 rfl (row8 M) _ B1.out.range Tryd.underlying61 rfl (by rw [M256.out]; exact info256) ?_)
        | (refine wpList_store_mid rfl 61 (.tmp 0) (.tmp 13) rfl w.heap.size 0 (row8 M).toArray rfl rfl (B0.out.there _ (by rw [List.size_toArray, M256.out, hc0])) (by rw [List.size_toArray, M256.out]; exact info256) (row8_one _) ?_))
      have fin := B0.out.whole (row8 M) (by rw [M256.out, hc0])
      exact bodyPost_ret (v := .agg (row8 M).toArray) (results_mid rfl _ _ w.heap.size (row8 M) _ rfl fin.range Tryd.underlying61 rfl (by rw [M256.out]; exact info256)) rfl ⟨rfl, below_setCells w.heap.size (by omega) _ 0 _ BB.out⟩
namespace AM
/-- A product's sum of doubled bytes, bit by bit. -/
theorem times_step (n k a : Nat) (hn : n < 16) (hk : k < 4) : mul (n % 2 ^ (k + 1)) a = if n / 2 ^ k % 2 = 1 then mul (n % 2 ^ k) a ^^^ mul (2 ^ k) a else mul (n % 2 ^ k) a := by
  have e : ∀ n, n < 16 → ∀ k, k < 4 → n % 2 ^ (k + 1) = if n / 2 ^ k % 2 = 1 then (n % 2 ^ k) ^^^ 2 ^ k else n % 2 ^ k := by decide
  rw [e n hn k hk]
  split
  · exact mul_xor_left _ _ _
  · rfl
theorem times_two (k a : Nat) (hk : k < 4) (ha : a < 256) : mul 2 (mul (2 ^ k) a) = mul (2 ^ (k + 1)) a := by
  have e : ∀ k, k < 4 → mul 2 (2 ^ k) = 2 ^ (k + 1) := by decide +kernel
  have p : ∀ k, k < 4 → 2 ^ k < 256 := by decide
  rw [mm 2 (2 ^ k) a (by omega) (p k hk) ha, e k hk]
end AM
set_option maxRecDepth 100000 in
set_option maxHeartbeats 1000000 in
theorem atimes_any (a n : Nat) (ha : a < 256) (hn : n < 16) (w : World) : Calls Tryd.prog 52 #[.int .u8 (a : Int), .int .i64 (n : Int)] w fun e w' => e = .returned (.int .u8 ((mul n a : Nat) : Int)) ∧ w' = w := by
  have HZ := Lib.hid (show mul (n % 2 ^ 0) a = 0 by rw [Nat.pow_zero, Nat.mod_one]; exact mul_zero_left a)
  have HO := Lib.hid (show mul (2 ^ 0) a = a from one_mul a ha)
  go_enter Tryd.func52, Tryd.ntmps52
  go_wp2_with fail
  go_loop [0, 1, 5] (fun x m s => ∃ k : Nat, k ≤ 4 ∧ x = .int .u8 ((mul (2 ^ k) a : Nat) : Int) ∧ m = .int .i64 ((n / 2 ^ k : Nat) : Int) ∧ s = .int .u8 ((mul (n % 2 ^ k) a : Nat) : Int)) (fun _ m _ => (intOf m).toNat)
  case atStart => exact ⟨0, by omega, by rw [HO.out], by rw [Nat.pow_zero, Nat.div_one], by rw [HZ.out]; rfl⟩
  case round =>
    obtain ⟨k, hk, rfl, rfl, rfl⟩ := hrel
    obtain ⟨m, hm⟩ : ∃ m, m = n / 2 ^ k := ⟨_, rfl⟩
    obtain ⟨x, hx⟩ : ∃ x, x = mul (2 ^ k) a := ⟨_, rfl⟩
    obtain ⟨y, hy⟩ : ∃ y, y = mul (n % 2 ^ k) a := ⟨_, rfl⟩
    have lx : x < 256 := by rw [hx]; exact mul_lt _ _ (Nat.lt_of_le_of_lt (Nat.pow_le_pow_right (by omega) hk) (by decide))
    have ly : y < 256 := by rw [hy]; exact mul_lt _ _ (Nat.lt_of_le_of_lt (Nat.mod_le _ _) (by omega))
    rw [← hm, ← hx, ← hy]
    by_cases h0 : 0 < m
    · have h0I : (0 : Int) < (m : Int) := by omega
      have hk4 : k < 4 := by
        rcases Nat.lt_or_ge k 4 with h | h
        · exact h
        · obtain rfl : k = 4 := by omega
          omega
      have h2 := times_two k a hk4 ha
      rw [← hx] at h2
      have hs := times_step n k a hn hk4
      rw [← hm, ← hx, ← hy] at hs
      have hd : n / 2 ^ (k + 1) = m / 2 := by rw [hm, Nat.div_div_eq_div_mul, Nat.pow_succ]
      have HC := Lib.hid (atwice_any x lx)
      have hxr := u8_xor_nat y x ly lx
      have HK := Lib.hid hk4
      have HD := Lib.hid hd
      have H2 := Lib.hid h2
      have hl : m < 16 := by rw [hm]; exact Nat.lt_of_le_of_lt (Nat.div_le_self _ _) hn
      clear hd h2 hm hx hy
      by_cases hb : m % 2 = 1
      · rw [if_pos hb] at hs
        have HS := Lib.hid hs
        have mb : ((m : Int) % 2 == 1) = true := by simp; omega
        clear hs
        go_wp2_with (go_at_call 50; (with_reducible refine (HC.out _).mono ?_); rintro e w' ⟨rfl, rfl⟩)
        go_round
        case rel => exact ⟨k + 1, by have := HK.out; omega, by rw [← H2.out], by rw [HD.out]; go_num, by rw [HS.out]⟩
        case measure => simp [intOf]; omega
      · rw [if_neg hb] at hs
        have HS := Lib.hid hs
        have mb : ((m : Int) % 2 == 1) = false := by simp; omega
        clear hs
        go_wp2_with (go_at_call 50; (with_reducible refine (HC.out _).mono ?_); rintro e w' ⟨rfl, rfl⟩)
        go_round
        case rel => exact ⟨k + 1, by have := HK.out; omega, by rw [← H2.out], by rw [HD.out]; go_num, by rw [HS.out]⟩
        case measure => simp [intOf]; omega
    · have h0I : ¬ (0 : Int) < (m : Int) := by omega
      have e0 : m = 0 := by omega
      have HY := Lib.hid (show y = mul n a by
        have : n < 2 ^ k := by
          rcases Nat.lt_or_ge n (2 ^ k) with h | h
          · exact h
          · have := Nat.div_pos h (Nat.pow_pos (n := k) (show 0 < 2 by omega))
            omega
        rw [hy, Nat.mod_eq_of_lt this])
      clear hm hx hy
      go_wp2_with fail
      go_ret
      exact ⟨by rw [← HY.out]; rfl, rfl⟩
end Go.Proofs.YtmidbmihadhgdaaDoor
