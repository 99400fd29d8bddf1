/- The sum of a cluster of data, by the document's answer: contract. Written by gen_ndleaf.py. Work ahead for stage 15. Own work. -/
import Derived.Test.YtoacdeddkfcllaaDoorNdSumR
import Derived.Test.YtoacdeddkfcllaaDoorMark
import Derived.Test.YtoacdeddkfcllaaDoorRdPart
import Derived.Test.YtoacdeddkfcllaaDoorHmacR
import Derived.Test.YtoacdeddkfcllaaDoorOct
namespace Go.Proofs.YtoacdeddkfcllaaDoor
open Go.ChangeShapes Go.WideShapes Go.ChangeAt Go.RowKit
open SM
set_option maxRecDepth 100000 in
set_option maxHeartbeats 4000000 in
theorem nrleaf_any (key : List Nat) (hkey : Bytes 32 key) (at_ : Nat) (ha : at_ < 4294967296) (b : List Nat) (hl : b.length ≤ 140737488355160) (v : Value) (w : World) (hv : Rd w v b) (ht : Tab w) : Calls Tryd.prog 20 #[.agg (row8 key).toArray, .int .u32 (at_ : Int), v] w fun e w' => e = .returned (.agg (row8 (mac key ([108, 101, 97, 102] ++ be at_ 4 ++ b))).toArray) ∧ Below w.heap.size w w' := by
  obtain ⟨M, hM⟩ : ∃ M, M = mac key ([108, 101, 97, 102] ++ be at_ 4 ++ b) := ⟨_, rfl⟩
  obtain ⟨KC, hKC⟩ : ∃ L, L = row8 key := ⟨_, rfl⟩
  obtain ⟨D0, hD0⟩ : ∃ D, D = row8 (List.replicate 32 0) := ⟨_, rfl⟩
  have hz : ∀ w, (zeroValue 24).run Tryd.prog w = .ok (.agg D0.toArray) w := by rw [hD0]; exact zeroSmN
  have hd0 : D0.length = 32 := by rw [hD0, row8_len, List.length_replicate]
  have M32 := Lib.hid (show (row8 M).length = 32 by rw [row8_len, hM]; exact (sha_bytes _).1)
  have HKC := Lib.hid (show (KC.drop 0).take 32 = row8 key by rw [hKC, List.drop_zero, List.take_of_length_le (by rw [row8_len, hkey.1]; exact Nat.le_refl _)])
  have HKY := Lib.hid hkey
  have HV := Lib.hid hv
  have HMA := Lib.hid (show ∀ (u x : Value) W, Below w.heap.size w W → Rd W u key → Rd W x ([108, 101, 97, 102] ++ be at_ 4 ++ b) → Calls Tryd.prog 30 #[u, x] W fun e w' => e = .returned (.agg (row8 M).toArray) ∧ Below W.heap.size W w' from fun u x W hW hu hx => by
    rw [hM]
    exact rmac_any key ([108, 101, 97, 102] ++ be at_ 4 ++ b) (by rw [hkey.1]; decide) (by rw [List.length_append, List.length_append, be_len]; show 4 + 4 + _ + 136 ≤ _; omega) u x W hu hx (ht.below hW))
  have HN4 := Lib.hid (fun W => (show Calls Tryd.prog 24 #[.int .u64 (at_ : Int), .int .i64 4] W fun e w' => ∃ v, e = .returned v ∧ Own w' W.heap.size v (be at_ 4) ∧ Below W.heap.size W w' from rput_any at_ 4 (by omega) (by decide) W))
  have ax : IntKind.u64.wrap (at_ : Int) = (at_ : Int) := by rw [IntKind.wrap_u64]; omega
  rw [← hM, ← hKC]
  obtain ⟨w1, hw1⟩ : ∃ x, x = (w.alloc (.cells KC.toArray 39)).alloc (.cells D0.toArray 24) := ⟨_, rfl⟩
  have W1 := Lib.hid (show Below w.heap.size w w1 by rw [hw1]; exact ((Below.refl w.heap.size w).alloc (Nat.le_refl _) _).alloc (by simp) _)
  have K1 := Lib.hid (show Blk w1 w.heap.size 39 KC by rw [hw1]; exact (Blk.new w 39 KC _ rfl).alloc _)
  have R1 := Lib.hid (show Blk w1 (w.heap.size + 1) 24 D0 by rw [hw1]; exact Blk.new _ 24 D0 _ (by simp))
  clear hM hKC hD0 hv ht hkey
  go_enter Tryd.func20, Tryd.ntmps20
  go_upto_region 1 with fail
  rw [← hw1]
  clear hw1
  refine wp_region_g (by kernel_rfl) 10 (by decide) (by kernel_rfl) (by kernel_rfl) (by kernel_rfl) (w1.heap.size) (Nat.le_refl _) [.val (.slice (some ⟨w.heap.size, 0, none⟩) 32 32), .lit ([108, 101, 97, 102]), .full ([108, 101, 97, 102]), .val (.int .u32 (at_ : Int)), .val (.int .u64 (at_ : Int)), .own (be at_ 4), .own ([108, 101, 97, 102] ++ be at_ 4), .val (v), .rd ([108, 101, 97, 102] ++ be at_ 4 ++ b), .val (.agg (row8 M).toArray)] (fun j => if j = 6 then 8 else if j = 1 then 2 else 11) ?_ ?_
  · refine ⟨?_, ?_, ?_, ?_, ?_, ?_, ?_, ?_, ?_, ?_, trivial⟩
    · intro a w' hF hB hd
      have e3 : a.eval (.tmp 3) = .pointer (some ⟨w.heap.size, 0, none⟩) := hF 3 (by decide +kernel)
      have f3 : a.tmps[3]?.getD undef = .pointer (some ⟨w.heap.size, 0, none⟩) := by rw [← Array.getD_eq_getD_getElem?]; exact e3
      exact doesG_val rfl (by unfold execOp; simp only [e3]; go_simp) rfl rfl
    · intro a w' hF hB hd
      exact doesG_lit4 rfl 108 101 97 102 rfl hB.size rfl
    · intro a w' hF hB hd
      have e8 := hd 1 (by decide +kernel) (.inl (by decide))
      exact doesG_mark rfl (.tmp 8) rfl 1 (by decide +kernel) rfl rfl [108, 101, 97, 102] (small_bytes (by decide)) (by decide) _ rfl rfl e8 rfl
    · intro a w' hF hB hd
      have e1 : a.eval (.tmp 1) = .int .u32 (at_ : Int) := hF 1 (by decide +kernel)
      exact doesG_val rfl (ex_move rfl e1) rfl rfl
    · intro a w' hF hB hd
      have e10 : a.eval (.tmp 10) = .int .u32 (at_ : Int) := hd 3 (by decide +kernel) (.inr (by decide))
      exact doesG_val rfl (ex_convert rfl e10 (by go_simp)) rfl rfl
    · intro a w' hF hB hd
      have e11 : a.eval (.tmp 11) = .int .u64 (at_ : Int) := hd 4 (by decide +kernel) (.inr (by decide))
      exact doesG_made rfl (ex_call (vs := #[.int .u64 (at_ : Int), .int .i64 4]) rfl (by simp only [List.map_toArray, List.map_cons, List.map_nil, e11]; rfl) (by go_simp)) ((HN4.out w').mono fun e w2 hh => by obtain ⟨v, he, ho, hb⟩ := hh; exact ⟨v, he, ho.lower hB.size, hb, own_from ho⟩)
    · intro a w' hF hB hd
      have e12 : Own w' w1.heap.size (a.eval (.tmp 12)) (be at_ 4) := hd 5 (by decide +kernel) (.inr (by decide))
      have e9 := hd 2 (by decide +kernel) (.inr (by decide))
      exact doesG_appFull rfl (.tmp 9) (.tmp 12) rfl [108, 101, 97, 102] (be at_ 4) _ _ rfl rfl e9 e12.rd (by rw [be_len]; decide) (by rw [be_len]; decide) hB.size (fun _ _ h => h)
    · intro a w' hF hB hd
      have e2 : a.eval (.tmp 2) = v := hF 2 (by decide +kernel)
      exact doesG_val rfl (ex_move rfl e2) rfl rfl
    · intro a w' hF hB hd
      have e13 : Own w' w1.heap.size (a.eval (.tmp 13)) ([108, 101, 97, 102] ++ be at_ 4) := hd 6 (by decide +kernel) (.inl (by decide))
      have e14 : a.eval (.tmp 14) = v := hd 7 (by decide +kernel) (.inr (by decide))
      exact doesG_app rfl (.tmp 13) (.tmp 14) rfl 6 (by decide +kernel) rfl rfl _ _ _ _ rfl rfl e14 e13 (HV.out.below (W1.out.on hB)) (by rw [List.length_append, be_len]; show 4 + 4 + _ ≤ _; omega) hB.size (fun _ _ h => h.rd)
    · intro a w' hF hB hd
      have e7 : a.eval (.tmp 7) = .slice (some ⟨w.heap.size, 0, none⟩) 32 32 := hd 0 (by decide +kernel) (.inr (by decide))
      have e15 : Rd w' (a.eval (.tmp 15)) ([108, 101, 97, 102] ++ be at_ 4 ++ b) := hd 8 (by decide +kernel) (.inr (by decide))
      exact doesG_call rfl (ex_call (vs := #[.slice (some ⟨w.heap.size, 0, none⟩) 32 32, a.eval (.tmp 15)]) rfl (by simp only [List.map_toArray, List.map_cons, List.map_nil, e7]) (by go_simp)) rfl ((HMA.out _ _ w' (W1.out.on hB) (rd_part (K1.out.below hB K1.out.lt) HKY.out HKC.out (by decide)) e15).mono fun e w2 hh => ⟨_, hh.1, rfl, hh.2⟩)
  · intro vs w4 hb hv hap
    have e9 : vs 9 = .agg (row8 M).toArray := hv 9 (by decide) (by decide)
    simp only [List.take_succ_cons, List.take_zero, List.drop_succ_cons, List.drop_zero, putOps, Act.put, List.setIfInBounds_toArray, List.set_cons_zero, List.set_cons_succ, e9]
    have W4 := Lib.hid (W1.out.on hb)
    have R4 := Lib.hid (R1.out.below hb R1.out.lt)
    clear hv hap e9 hb
    go_wp2_with (refine wpList_store_blk rfl 24 (.tmp 6) (.tmp 16) rfl (w.heap.size + 1) 0 (row8 M) rfl rfl 24 D0 R4.out (by rw [M32.out, hd0]; exact Nat.le_refl _) (by rw [M32.out]; exact infoS) (row8_one _) ?_; intro w5 b5 g5; rw [splice_all _ _ (by rw [M32.out, hd0])] at b5; have U5 := Lib.hid b5; have W5 := Lib.hid (W4.out.grown g5 W4.out.size (fun g hg => by have := Option.some.inj hg; omega)); clear b5 g5)
    exact bodyPost_ret (results_mid rfl _ _ (w.heap.size + 1) (row8 M) _ rfl U5.out.range Tryd.underlying24 rfl (by rw [M32.out]; exact infoS)) rfl ⟨rfl, W5.out⟩
end Go.Proofs.YtoacdeddkfcllaaDoor
