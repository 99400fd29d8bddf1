/- The document's AES: exclusive or, a byte doubled: contracts. Own work. -/
import Derived.Test.YtjemajenfkjelaaDoorAesMath
import Derived.Test.YtjemajenfkjelaaDoorInfo16
import Derived.Test.YtjemajenfkjelaaDoorMem
import Derived.BigRegion
import Derived.BigQuiet
import Derived.StillTailTactics
import Derived.Deep.DeepCutAuto
import Derived.Laws.BitsAllLaws
namespace Go.Proofs.YtjemajenfkjelaaDoor
open Go.ChangeShapes Go.WideShapes Go.ChangeAt Go.RowKit
open AM FM
/-- Of sixteen bytes the first n exclusive-ored. -/
def axTo (a b : List Nat) (n : Nat) : List Nat := row fun i => if i < n then gb a i ^^^ gb b i else gb a i
theorem axTo_len (a b : List Nat) (n : Nat) : (axTo a b n).length = 16 := row_len _
theorem axTo_get (a b : List Nat) (n k : Nat) (h : k < 16) : gb (axTo a b n) k = if k < n then gb a k ^^^ gb b k else gb a k := row_get _ _ h
theorem axTo_zero {a : List Nat} (ha : a.length = 16) (b : List Nat) : axTo a b 0 = a :=
  bytes_ext (n := 16) (axTo_len _ _ _) ha fun k hk => by rw [axTo_get _ _ _ _ hk, if_neg (by omega)]
theorem axTo_all (a b : List Nat) : axTo a b 16 = ax a b :=
  bytes_ext (n := 16) (axTo_len _ _ _) (row_len _) fun k hk => by
    rw [axTo_get _ _ _ _ hk, if_pos hk]; unfold ax; rw [row_get _ _ hk]
theorem axTo_step (a b : List Nat) (k : Nat) (hk : k < 16) : (axTo a b k).set k (gb a k ^^^ gb b k) = axTo a b (k + 1) :=
  bytes_ext (n := 16) (by rw [List.length_set, axTo_len]) (axTo_len _ _ _) fun j hj => by
    rw [gb_set _ _ _ _ (by rw [axTo_len]; exact hk), axTo_get _ _ _ _ hj, axTo_get _ _ _ _ hj]
    by_cases e : k = j
    · subst e; rw [if_pos rfl, if_pos (by omega)]
    · rw [if_neg e]
      by_cases h : j < k
      · rw [if_pos h, if_pos (by omega)]
      · rw [if_neg h, if_neg (by omega)]
theorem zero16 (w : World) : (zeroValue 47).run Tryd.prog w = .ok (.agg (row8 (List.replicate 16 0)).toArray) w := by kernel_rfl
theorem xt_high (a : Nat) (h : a < 256) (h2 : 128 ≤ a) : bits .xor .u8 ((a : Int) * 2 % 256) 27 = ((xt a : Nat) : Int) := by
  have e : ((a : Int) * 2 % 256) = ((2 * a % 256 : Nat) : Int) := by omega
  have h7 : bt a 7 = 1 := by unfold bt; omega
  have hx := u8_xor_nat (2 * a % 256) 27 (by omega) (by omega)
  rw [e]
  unfold xt
  rw [h7, Nat.one_mul]
  exact hx
theorem xt_low (a : Nat) (h2 : a < 128) : xt a = 2 * a := by
  have h7 : bt a 7 = 0 := by unfold bt; omega
  unfold xt
  rw [h7, Nat.zero_mul, Nat.xor_zero]
  omega
theorem xt_mul (a : Nat) (h : a < 256) : xt a = mul 2 a :=
  lin_ext xt (mul 2) (by decide +kernel) (mul_zero_right 2) xt_xor (fun _ _ => mul_xor_right 2 _ _) (fun i hi => by
    match i, hi with
    | 0, _ => decide +kernel
    | 1, _ => decide +kernel
    | 2, _ => decide +kernel
    | 3, _ => decide +kernel
    | 4, _ => decide +kernel
    | 5, _ => decide +kernel
    | 6, _ => decide +kernel
    | 7, _ => decide +kernel) a h
theorem atwice_any (a : Nat) (h : a < 256) (w : World) : Calls Tryd.prog 39 #[.int .u8 (a : Int)] w fun e w' => e = .returned (.int .u8 ((mul 2 a : Nat) : Int)) ∧ w' = w := by
  rw [← xt_mul a h]
  by_cases h2 : 128 ≤ a
  · have hI : (128 : Int) ≤ (a : Int) := by omega
    have hx := xt_high a h h2
    go_enter Tryd.func39, Tryd.ntmps39
    go_wp2_with fail
    go_ret
    exact ⟨rfl, rfl⟩
  · have hI : ¬ (128 : Int) ≤ (a : Int) := by omega
    have hx := xt_low a (by omega)
    rw [hx]
    go_enter Tryd.func39, Tryd.ntmps39
    go_wp2_with fail
    go_ret
    exact ⟨congrArg (fun x => Ending.returned (Value.int .u8 x)) (show (a : Int) * 2 = 2 * (a : Int) by omega), rfl⟩
set_option maxRecDepth 100000 in
set_option maxHeartbeats 1000000 in
theorem awith_any (a b : List Nat) (ha : Bytes 16 a) (hb : Bytes 16 b) (w : World) :
    Calls Tryd.prog 38 #[.agg (row8 a).toArray, .agg (row8 b).toArray] w fun e w' => e = .returned (.agg (row8 (ax a b)).toArray) ∧ Below w.heap.size w w' := by
  obtain ⟨C0, hC0⟩ : ∃ C0, C0 = row8 (List.replicate 16 0) := ⟨_, rfl⟩
  have hz : ∀ w, (zeroValue 47).run Tryd.prog w = .ok (.agg C0.toArray) w := by rw [hC0]; exact zero16
  have hc0 : C0.length = 16 := by rw [hC0, row8_len, List.length_replicate]
  have w1 := (Below.refl w.heap.size w).alloc (Nat.le_refl _) (.cells (row8 a).toArray 47)
  have w2 := w1.alloc w1.size (.cells (row8 b).toArray 47)
  have w3 := w2.alloc w2.size (.cells C0.toArray 47)
  have N0 := Lib.hid (((Blk.new w 47 (row8 a) _ rfl).alloc (.cells (row8 b).toArray 47)).alloc (.cells C0.toArray 47))
  have N1 := Lib.hid ((Blk.new (w.alloc (.cells (row8 a).toArray 47)) 47 (row8 b) (w.heap.size + 1) (by simp)).alloc (.cells C0.toArray 47))
  have N2 := Lib.hid (Blk.new ((w.alloc (.cells (row8 a).toArray 47)).alloc (.cells (row8 b).toArray 47)) 47 C0 (w.heap.size + 1 + 1) (by simp))
  have W3 := Lib.hid w3
  have HA := Lib.hid ha
  have HB := Lib.hid hb
  obtain ⟨M, hM⟩ : ∃ M, M = ax a b := ⟨_, rfl⟩
  rw [← hM]
  have HM := Lib.hid hM
  have M16 := Lib.hid (show (row8 M).length = 16 by rw [hM, row8_len]; exact row_len _)
  clear hC0 w1 w2 w3 ha hb hM
  go_enter Tryd.func38, Tryd.ntmps38
  go_wp2_with fail
  go_loopw [5] (fun i wr => ∃ k : Nat, k ≤ 16 ∧ i = .int .i64 (k : Int) ∧ Blk wr w.heap.size 47 (row8 (axTo a b k)) ∧ Blk wr (w.heap.size + 1) 47 (row8 b) ∧ Blk wr (w.heap.size + 1 + 1) 47 C0 ∧ Below w.heap.size w wr) (fun i _ => 16 - (intOf i).toNat)
  case atStart => exact ⟨0, Nat.zero_le _, rfl, by rw [axTo_zero HA.out.1]; exact N0.out, N1.out, N2.out, W3.out⟩
  case round =>
    clear N0 N1 N2 W3
    obtain ⟨k, hk, rfl, b0, b1, b2, bb⟩ := hrel
    by_cases hlt : k < 16
    · have c0 := b0.cell k _ (row8_val _ k (by rw [axTo_len]; exact hlt))
      rw [axTo_get _ _ _ _ hlt, if_neg (by omega)] at c0
      have c1 := b1.cell k _ (row8_val _ k (by rw [HB.out.1]; exact hlt))
      have f0 := b0.free k
      have hxr := u8_xor_nat (gb a k) (gb b k) (HA.out.2 k) (HB.out.2 k)
      have B0 := Lib.hid b0
      have B1 := Lib.hid b1
      have B2 := Lib.hid b2
      have BB := Lib.hid bb
      clear b0 b1 b2 bb
      go_upto_region 4 with (fail)
      go_region
      have nb0 := (B0.out.set k (.int .u8 ((gb a k ^^^ gb b k : Nat) : Int))).drew
      rw [row8_set, axTo_step _ _ _ hlt] at nb0
      have NB0 := Lib.hid nb0
      have NB1 := Lib.hid (B1.out.other ⟨w.heap.size, k, none⟩ (.int .u8 ((gb a k ^^^ gb b k : Nat) : Int)) (by simp <;> omega)).drew
      have NB2 := Lib.hid (B2.out.other ⟨w.heap.size, k, none⟩ (.int .u8 ((gb a k ^^^ gb b k : Nat) : Int)) (by simp <;> omega)).drew
      have NBB := Lib.hid (BB.out.setCell (p := ⟨w.heap.size, k, none⟩) (Nat.le_refl _) (.int .u8 ((gb a k ^^^ gb b k : Nat) : Int))).drew
      clear nb0
      go_wp2_with fail
      exact ⟨⟨k + 1, by omega, by go_num, NB0.out, NB1.out, NB2.out, NBB.out⟩, by simp [intOf]; omega⟩
    · obtain rfl : k = 16 := by omega
      rw [axTo_all, ← HM.out] at b0
      have B0 := Lib.hid b0
      have B2 := Lib.hid b2
      have BB := Lib.hid bb
      clear b0 b1 b2 bb
      go_wp2_with (first
        | (refine wpList_load_mid rfl 47 (.tmp 2) rfl w.heap.size 0 rfl (row8 M) _ B0.out.range Tryd.underlying47 rfl (by rw [M16.out]; exact info16) ?_)
        | (refine wpList_store_mid rfl 47 (.tmp 4) (.tmp 19) rfl (w.heap.size + 1 + 1) 0 (row8 M).toArray rfl rfl (B2.out.there _ (by rw [List.size_toArray, M16.out, hc0])) (by rw [List.size_toArray, M16.out]; exact info16) (row8_one _) ?_))
      have fin := B2.out.whole (row8 M) (by rw [M16.out, hc0])
      exact bodyPost_ret (v := .agg (row8 M).toArray) (results_mid rfl _ _ (w.heap.size + 1 + 1) (row8 M) _ rfl fin.range Tryd.underlying47 rfl (by rw [M16.out]; exact info16)) rfl ⟨rfl, below_setCells (w.heap.size + 1 + 1) (by omega) _ 0 _ BB.out⟩
end Go.Proofs.YtjemajenfkjelaaDoor
