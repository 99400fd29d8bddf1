/- The sums of a node's, a page's and a leaf's cluster by the program: contracts. Own work. -/
import Derived.Test.YtoacdeddkfcllaaDoorNdSumR
import Derived.Test.YtoacdeddkfcllaaDoorRdsThree
import Derived.Test.YtoacdeddkfcllaaDoorFactX
import Derived.Test.YtoacdeddkfcllaaDoorMark
import Derived.Test.YtoacdeddkfcllaaDoorRdPart
import Derived.Test.YtoacdeddkfcllaaDoorHmacA
import Derived.Test.YtoacdeddkfcllaaDoorOct
import Derived.Test.YtoacdeddkfcllaaDoorEqX
namespace Go.Proofs.YtoacdeddkfcllaaDoor
open Go.ChangeShapes Go.WideShapes Go.ChangeAt Go.RowKit
open SM
set_option maxRecDepth 100000 in
set_option maxHeartbeats 1000000 in
theorem npsum_any (b : List Nat) (v : Value) (w : World) (hv : Rd w v b) (ht : TabP w) : Calls Tryd.prog 15 #[v] w fun e w' => e = .returned (.agg (row8 (sha ([110, 111, 100, 101] ++ b))).toArray) ∧ Below w.heap.size w w' := by
  have hfit := hv.fits
  obtain ⟨va, vc, rfl, hvc⟩ := hv.shape
  obtain ⟨M, hM⟩ : ∃ M, M = sha ([110, 111, 100, 101] ++ b) := ⟨_, rfl⟩
  obtain ⟨D0, hD0⟩ : ∃ D, D = row8 (List.replicate 32 0) := ⟨_, rfl⟩
  have hz : ∀ w, (zeroValue 24).run Tryd.prog w = .ok (.agg D0.toArray) w := by rw [hD0]; exact zeroSmN
  have hd0 : D0.length = 32 := by rw [hD0, row8_len, List.length_replicate]
  have M32 := Lib.hid (show (row8 M).length = 32 by rw [row8_len, hM]; exact (sha_bytes _).1)
  obtain ⟨w1, hw1⟩ : ∃ x, x = w.alloc (.cells D0.toArray 24) := ⟨_, rfl⟩
  have W1 := Lib.hid (show Below w.heap.size w w1 by rw [hw1]; exact (Below.refl w.heap.size w).alloc (Nat.le_refl _) (.cells D0.toArray 24))
  have R1 := Lib.hid (show Blk w1 w.heap.size 24 D0 by rw [hw1]; exact Blk.new w 24 D0 _ rfl)
  have b12 := (Below.refl w1.heap.size w1).alloc (Nat.le_refl _) (.cells (row8 [110, 111, 100, 101]).toArray 5 (4, 5))
  have W2 := Lib.hid (W1.out.on b12)
  have R2 := Lib.hid (R1.out.below b12 R1.out.lt)
  have HOF := Lib.hid (of_two_at (b := w1.heap.size + 1) (w := w1.alloc (.cells (row8 [110, 111, 100, 101]).toArray 5 (4, 5))) (S := M) (by simp) (rd_const w1 [110, 111, 100, 101] (small_bytes (by decide)) (by decide) 4 rfl w1.heap.size rfl (4, 5)) ((hv.below W1.out).alloc _) (ht.below W2.out) (by show 4 + _ ≤ _; omega) hM)
  have kc := fun (w : World) (C : Array Value) (n c : Nat) => Lib.run_convert_bytes_const (P := Tryd.prog) w 29 5 C n c Tryd.underlying29 Tryd.underlying5
  rw [← hM]
  clear hM hD0 ht hv b12 hfit hvc
  go_enter Tryd.func15, Tryd.ntmps15
  go_upto_region 1 with fail
  rw [← hw1]
  clear hw1
  go_wp2_with (first
    | (go_at_call 21; (refine HOF.out.mono ?_); rintro e w4 ⟨rfl, b4⟩; have W4 := Lib.hid (W2.out.on b4); have R4 := Lib.hid (R2.out.below b4 R2.out.lt); clear b4)
    | ((with_reducible show wpList _ _ _ (Oper.mk _ (.store _ (.tmp 2) (.tmp 7)) _ _ _ _ :: _) _ _); refine wpList_store_blk rfl 24 (.tmp 2) (.tmp 7) rfl w.heap.size 0 (row8 M) rfl rfl 24 D0 R4.out (by rw [M32.out, hd0]; exact Nat.le_refl _) (by rw [M32.out]; exact infoS) (row8_one _) ?_; intro w5 b5 g5; rw [splice_all _ _ (by rw [M32.out, hd0])] at b5; have U5 := Lib.hid b5; have W5 := Lib.hid (W4.out.grown g5 W4.out.size (fun g hg => by have := Option.some.inj hg; omega)); clear b5 g5))
  exact bodyPost_ret (results_mid rfl _ _ w.heap.size (row8 M) _ rfl U5.out.range Tryd.underlying24 rfl (by rw [M32.out]; exact infoS)) rfl ⟨rfl, W5.out⟩
set_option maxRecDepth 100000 in
set_option maxHeartbeats 1000000 in
theorem nppage_any (b : List Nat) (v : Value) (w : World) (hv : Rd w v b) (ht : TabP w) : Calls Tryd.prog 17 #[v] w fun e w' => e = .returned (.agg (row8 (sha ([112, 97, 103, 101] ++ b))).toArray) ∧ Below w.heap.size w w' := by
  have hfit := hv.fits
  obtain ⟨va, vc, rfl, hvc⟩ := hv.shape
  obtain ⟨M, hM⟩ : ∃ M, M = sha ([112, 97, 103, 101] ++ b) := ⟨_, rfl⟩
  obtain ⟨D0, hD0⟩ : ∃ D, D = row8 (List.replicate 32 0) := ⟨_, rfl⟩
  have hz : ∀ w, (zeroValue 24).run Tryd.prog w = .ok (.agg D0.toArray) w := by rw [hD0]; exact zeroSmN
  have hd0 : D0.length = 32 := by rw [hD0, row8_len, List.length_replicate]
  have M32 := Lib.hid (show (row8 M).length = 32 by rw [row8_len, hM]; exact (sha_bytes _).1)
  obtain ⟨w1, hw1⟩ : ∃ x, x = w.alloc (.cells D0.toArray 24) := ⟨_, rfl⟩
  have W1 := Lib.hid (show Below w.heap.size w w1 by rw [hw1]; exact (Below.refl w.heap.size w).alloc (Nat.le_refl _) (.cells D0.toArray 24))
  have R1 := Lib.hid (show Blk w1 w.heap.size 24 D0 by rw [hw1]; exact Blk.new w 24 D0 _ rfl)
  have b12 := (Below.refl w1.heap.size w1).alloc (Nat.le_refl _) (.cells (row8 [112, 97, 103, 101]).toArray 5 (4, 5))
  have W2 := Lib.hid (W1.out.on b12)
  have R2 := Lib.hid (R1.out.below b12 R1.out.lt)
  have HOF := Lib.hid (of_two_at (b := w1.heap.size + 1) (w := w1.alloc (.cells (row8 [112, 97, 103, 101]).toArray 5 (4, 5))) (S := M) (by simp) (rd_const w1 [112, 97, 103, 101] (small_bytes (by decide)) (by decide) 4 rfl w1.heap.size rfl (4, 5)) ((hv.below W1.out).alloc _) (ht.below W2.out) (by show 4 + _ ≤ _; omega) hM)
  have kc := fun (w : World) (C : Array Value) (n c : Nat) => Lib.run_convert_bytes_const (P := Tryd.prog) w 29 5 C n c Tryd.underlying29 Tryd.underlying5
  rw [← hM]
  clear hM hD0 ht hv b12 hfit hvc
  go_enter Tryd.func17, Tryd.ntmps17
  go_upto_region 1 with fail
  rw [← hw1]
  clear hw1
  go_wp2_with (first
    | (go_at_call 21; (refine HOF.out.mono ?_); rintro e w4 ⟨rfl, b4⟩; have W4 := Lib.hid (W2.out.on b4); have R4 := Lib.hid (R2.out.below b4 R2.out.lt); clear b4)
    | ((with_reducible show wpList _ _ _ (Oper.mk _ (.store _ (.tmp 2) (.tmp 7)) _ _ _ _ :: _) _ _); refine wpList_store_blk rfl 24 (.tmp 2) (.tmp 7) rfl w.heap.size 0 (row8 M) rfl rfl 24 D0 R4.out (by rw [M32.out, hd0]; exact Nat.le_refl _) (by rw [M32.out]; exact infoS) (row8_one _) ?_; intro w5 b5 g5; rw [splice_all _ _ (by rw [M32.out, hd0])] at b5; have U5 := Lib.hid b5; have W5 := Lib.hid (W4.out.grown g5 W4.out.size (fun g hg => by have := Option.some.inj hg; omega)); clear b5 g5))
  exact bodyPost_ret (results_mid rfl _ _ w.heap.size (row8 M) _ rfl U5.out.range Tryd.underlying24 rfl (by rw [M32.out]; exact infoS)) rfl ⟨rfl, W5.out⟩
theorem hof_three {w : World} {u v : Value} {l m n k S : List Nat} (hu : Rd w u l) (hv : Rds w v [m, n, k]) (ht : TabP w) (hn : m.length + n.length + k.length ≤ 1152921504606846900) (hS : S = mac l (m ++ n ++ k)) :
    Calls Tryd.prog 22 #[u, v] w fun e w' => e = .returned (.agg (row8 S).toArray) ∧ Below w.heap.size w w' := by
  have e : [m, n, k].flatten = m ++ n ++ k := by simp
  have h1 := hof_any l [m, n, k] (by rw [e, List.length_append, List.length_append]; exact hn) u _ _ hu hv ht
  rw [e, ← hS] at h1
  exact h1
set_option maxRecDepth 100000 in
set_option maxHeartbeats 2000000 in
theorem npleaf_any (key : List Nat) (hkey : Bytes 32 key) (at_ : Nat) (ha : at_ < 4294967296) (b : List Nat) (v : Value) (w : World) (hv : Rd w v b) (ht : TabP w) : Calls Tryd.prog 19 #[.agg (row8 key).toArray, .int .u32 (at_ : Int), v] w fun e w' => e = .returned (.agg (row8 (mac key ([108, 101, 97, 102] ++ be at_ 4 ++ b))).toArray) ∧ Below w.heap.size w w' := by
  have hfit := hv.fits
  obtain ⟨va, vc, rfl, hvc⟩ := hv.shape
  obtain ⟨bl, hbl⟩ : ∃ n, n = b.length := ⟨_, rfl⟩
  rw [← hbl] at hfit hv ⊢
  obtain ⟨M, hM⟩ : ∃ M, M = mac key ([108, 101, 97, 102] ++ be at_ 4 ++ b) := ⟨_, rfl⟩
  obtain ⟨KC, hKC⟩ : ∃ L, L = row8 key := ⟨_, rfl⟩
  obtain ⟨D0, hD0⟩ : ∃ D, D = row8 (List.replicate 32 0) := ⟨_, rfl⟩
  have hz : ∀ w, (zeroValue 24).run Tryd.prog w = .ok (.agg D0.toArray) w := by rw [hD0]; exact zeroSmN
  have hd0 : D0.length = 32 := by rw [hD0, row8_len, List.length_replicate]
  have M32 := Lib.hid (show (row8 M).length = 32 by rw [row8_len, hM]; exact (sha_bytes _).1)
  have HKC := Lib.hid (show (KC.drop 0).take 32 = row8 key by rw [hKC, List.drop_zero, List.take_of_length_le (by rw [row8_len, hkey.1]; exact Nat.le_refl _)])
  have HKY := Lib.hid hkey
  have HV := Lib.hid hv
  have HBL := Lib.hid hbl
  have HMA := Lib.hid (show ∀ (u x : Value) W, Below w.heap.size w W → Rd W u key → Rds W x [[108, 101, 97, 102], be at_ 4, b] → Calls Tryd.prog 22 #[u, x] W fun e w' => e = .returned (.agg (row8 M).toArray) ∧ Below W.heap.size W w' from fun u x W hW hu hx =>
    hof_three hu hx (ht.below hW) (by rw [be_len]; show 4 + 4 + _ ≤ _; omega) hM)
  have HN4 := Lib.hid (fun W => put32_any at_ ha W)
  rw [← hM, ← hKC]
  obtain ⟨w1, hw1⟩ : ∃ x, x = (w.alloc (.cells KC.toArray 39)).alloc (.cells D0.toArray 24) := ⟨_, rfl⟩
  have W1 := Lib.hid (show Below w.heap.size w w1 by rw [hw1]; exact ((Below.refl w.heap.size w).alloc (Nat.le_refl _) _).alloc (by simp) _)
  have K1 := Lib.hid (show Blk w1 w.heap.size 39 KC by rw [hw1]; exact (Blk.new w 39 KC _ rfl).alloc _)
  have R1 := Lib.hid (show Blk w1 (w.heap.size + 1) 24 D0 by rw [hw1]; exact Blk.new _ 24 D0 _ (by simp))
  clear hM hKC hD0 hv ht hkey hfit hvc hbl
  go_enter Tryd.func19, Tryd.ntmps19
  go_upto_region 1 with fail
  rw [← hw1]
  clear hw1
  refine wp_region_c (by kernel_rfl) 8 (by decide) (by kernel_rfl) (by kernel_rfl) (by kernel_rfl) w1.heap.size rfl [.val (.slice (some ⟨w.heap.size, 0, none⟩) 32 32), .lit ([108, 101, 97, 102]), .rd ([108, 101, 97, 102]), .val (.int .u32 (at_ : Int)), .rd (be at_ 4), .val (.slice va bl vc), .rds [[108, 101, 97, 102], be at_ 4, b], .val (.agg (row8 M).toArray)] ?_ ?_
  · refine ⟨?_, ?_, ?_, ?_, ?_, ?_, ?_, ?_, trivial⟩
    · intro a w' hF hB hd
      have e3 : a.eval (.tmp 3) = .pointer (some ⟨w.heap.size, 0, none⟩) := hF 3 (by decide +kernel)
      exact doesC_val rfl (v := .slice (some ⟨w.heap.size, 0, none⟩) 32 32) (by unfold execOp; simp only [e3]; go_simp) rfl
    · intro a w' hF hB hd
      refine doesC_wp hB.below.size rfl fun K hK => ?_
      unfold Oper.wp execOp
      go_simp
      exact hK _ _ ⟨_, rfl, hB.below.size, (own_new w' [108, 101, 97, 102] (small_bytes (by decide)) (by decide) rfl (Nat.le_refl _)).rd, by simp⟩ ((Below.refl _ _).alloc (Nat.le_refl _) _)
    · intro a w' hF hB hd
      exact doesC_mark rfl (.tmp 8) rfl [108, 101, 97, 102] (hd 1 (by decide +kernel))
    · intro a w' hF hB hd
      have e1 : a.eval (.tmp 1) = .int .u32 (at_ : Int) := hF 1 (by decide +kernel)
      exact doesC_val rfl (ex_move rfl e1) rfl
    · intro a w' hF hB hd
      have e10 : a.eval (.tmp 10) = .int .u32 (at_ : Int) := hd 3 (by decide +kernel)
      exact doesC_call hB.below.size rfl (ex_call (vs := #[.int .u32 (at_ : Int)]) rfl (by simp only [List.map_toArray, List.map_cons, List.map_nil, e10]) (by go_simp)) ((HN4.out w').mono fun e w3 hh => by
        obtain ⟨v, rfl, ho, hb⟩ := hh
        exact ⟨v, rfl, ho.rd, hb⟩)
    · intro a w' hF hB hd
      have e2 : a.eval (.tmp 2) = .slice va bl vc := hF 2 (by decide +kernel)
      exact doesC_val rfl (ex_move rfl e2) rfl
    · intro a w' hF hB hd
      have e9 : Rd w' (a.eval (.tmp 9)) [108, 101, 97, 102] := hd 2 (by decide +kernel)
      obtain ⟨a9, c9, q9, _⟩ := e9.shape
      rw [q9] at e9
      have f9 : a.tmps[9]?.getD undef = .slice a9 4 c9 := by rw [← Array.getD_eq_getD_getElem?]; exact q9
      have e11 : Rd w' (a.eval (.tmp 11)) (be at_ 4) := hd 4 (by decide +kernel)
      obtain ⟨a11, c11, q11, _⟩ := e11.shape
      rw [q11] at e11
      rw [be_len] at q11 e11
      have f11 : a.tmps[11]?.getD undef = .slice a11 4 c11 := by rw [← Array.getD_eq_getD_getElem?]; exact q11
      have q12 : a.eval (.tmp 12) = .slice va bl vc := hd 5 (by decide +kernel)
      have e12 : Rd w' (.slice va bl vc) b := HV.out.below (W1.out.on hB.below)
      have f12 : a.tmps[12]?.getD undef = .slice va bl vc := by rw [← Array.getD_eq_getD_getElem?]; exact q12
      have R := Lib.hid (rds_three e9 e11 e12 rfl)
      clear q9 q11 q12 e9 e11 e12 hd
      refine doesC_wp hB.below.size rfl fun K hK => ?_
      unfold Oper.wp execOp
      go_simp
      exact hK _ _ R.out ((Below.refl _ _).alloc (Nat.le_refl _) _)
    · intro a w' hF hB hd
      have e7 : a.eval (.tmp 7) = .slice (some ⟨w.heap.size, 0, none⟩) 32 32 := hd 0 (by decide +kernel)
      have e13 : Rds w' (a.eval (.tmp 13)) [[108, 101, 97, 102], be at_ 4, b] := hd 6 (by decide +kernel)
      exact doesC_call hB.below.size rfl (ex_call (vs := #[.slice (some ⟨w.heap.size, 0, none⟩) 32 32, a.eval (.tmp 13)]) rfl (by simp only [List.map_toArray, List.map_cons, List.map_nil, e7]) (by go_simp)) ((HMA.out _ _ w' (W1.out.on hB.below) (rd_part (K1.out.below hB.below K1.out.lt) HKY.out HKC.out (by decide)) e13).mono fun e w3 hh => ⟨_, hh.1, rfl, hh.2⟩)
  · intro vs w4 hB hv
    have e7 : vs 7 = .agg (row8 M).toArray := hv 7 (by decide)
    simp only [List.take_succ_cons, List.take_zero, List.drop_succ_cons, List.drop_zero, putOps, Act.put, List.setIfInBounds_toArray, List.set_cons_zero, List.set_cons_succ, e7]
    have W4 := Lib.hid (W1.out.on hB.below)
    have R4 := Lib.hid (R1.out.below hB.below R1.out.lt)
    clear hv e7 hB
    go_wp2_with ((with_reducible show wpList _ _ _ (Oper.mk _ (.store _ (.tmp 6) (.tmp 14)) _ _ _ _ :: _) _ _); refine wpList_store_blk rfl 24 (.tmp 6) (.tmp 14) rfl (w.heap.size + 1) 0 (row8 M) rfl rfl 24 D0 R4.out (by rw [M32.out, hd0]; exact Nat.le_refl _) (by rw [M32.out]; exact infoS) (row8_one _) ?_; intro w5 b5 g5; rw [splice_all _ _ (by rw [M32.out, hd0])] at b5; have U5 := Lib.hid b5; have W5 := Lib.hid (W4.out.grown g5 W4.out.size (fun g hg => by have := Option.some.inj hg; omega)); clear b5 g5)
    exact bodyPost_ret (results_mid rfl _ _ (w.heap.size + 1) (row8 M) _ rfl U5.out.range Tryd.underlying24 rfl (by rw [M32.out]; exact infoS)) rfl ⟨rfl, W5.out⟩
end Go.Proofs.YtoacdeddkfcllaaDoor
