/- The sum of what was written to a Hash, and of parts: contracts. Own work. -/
import Derived.Test.YtllhljhbnopafaaDoorShaEnd
import Derived.Test.YtllhljhbnopafaaDoorPut32
namespace Go.Proofs.YtllhljhbnopafaaDoor
open Go.ChangeShapes Go.WideShapes Go.ChangeAt Go.RowKit
open SM
theorem zeroSum (w : World) : (zeroValue 26).run Tryd.prog w = .ok (.agg (row8 (List.replicate 32 0)).toArray) w := by kernel_rfl
set_option maxRecDepth 100000 in
theorem sum_nil (w : World) : Calls Tryd.prog 23 #[.pointer none] w fun e w' => e = .returned (.agg (row8 (List.replicate 32 0)).toArray) ∧ Below w.heap.size w w' := by
  go_enter Tryd.func23, Tryd.ntmps23
  go_wp2_with (refine wpList_store_mid rfl 26 (.tmp 2) (.tmp 9) rfl w.heap.size 0 (row8 (List.replicate 32 0)).toArray rfl rfl ((Blk.new w 26 (row8 (List.replicate 32 0)) _ rfl).there _ rfl) infoS (row8_one _) ?_)
  simp only [put_none]
  have fin := (Blk.new w 26 (row8 (List.replicate 32 0)) _ rfl).whole (row8 (List.replicate 32 0)) rfl
  exact bodyPost_ret (v := .agg (row8 (List.replicate 32 0)).toArray) (results_mid rfl _ _ w.heap.size (row8 (List.replicate 32 0)) _ rfl fin.range Tryd.underlying26 rfl infoS) rfl ⟨rfl, below_setCells w.heap.size (Nat.le_refl _) _ 0 _ ((Below.refl _ _).alloc (Nat.le_refl _) _)⟩
theorem gb_splice (l p : List Nat) (off k : Nat) (h : off + p.length ≤ l.length) : gb (splice l off p) k = if k < off then gb l k else if k < off + p.length then gb p (k - off) else gb l k := by
  unfold splice gb
  rw [List.getD_eq_getElem?_getD, List.getD_eq_getElem?_getD, List.getD_eq_getElem?_getD]
  by_cases h1 : k < off
  · rw [if_pos h1, List.getElem?_append_left (by rw [List.length_take]; omega), List.getElem?_take, if_pos h1]
  · rw [if_neg h1, List.getElem?_append_right (by rw [List.length_take]; omega), List.length_take, Nat.min_eq_left (by omega)]
    by_cases h2 : k < off + p.length
    · rw [if_pos h2, List.getElem?_append_left (by omega)]
    · rw [if_neg h2, List.getElem?_append_right (by omega), List.getElem?_drop]
      congr 2; omega
theorem outK_word (st : List Nat) (j : Nat) (hj : j < 8) : splice (outK st (4 * j)) (4 * j) (be (gb st j) 4) = outK st (4 * (j + 1)) := by
  apply bytes_ext (n := 32) (by rw [splice_len _ _ _ (by rw [outK_len, be_len]; omega), outK_len]) (outK_len _ _)
  intro k hk
  rw [gb_splice _ _ _ _ (by rw [outK_len, be_len]; omega), be_len]
  unfold outK
  rw [gb_map, gb_map, if_pos hk, if_pos hk]
  by_cases h1 : k < 4 * j
  · rw [if_pos h1, if_pos h1, if_pos (by omega)]
  · rw [if_neg h1]
    by_cases h2 : k < 4 * j + 4
    · have e1 : k / 4 = j := by omega
      rw [if_pos h2, if_pos (by omega), e1]
      unfold be
      rw [gb_map, if_pos (by omega)]
      have e2 : (256 : Nat) ^ (4 - 1 - (k - 4 * j)) = 2 ^ (24 - 8 * (k % 4)) := by
        rw [show (256 : Nat) = 2 ^ 8 from rfl, ← Nat.pow_mul]
        congr 1; omega
      rw [e2]
    · rw [if_neg h2, if_neg h1, if_neg (by omega)]
theorem fork_ex (g : Nat) (L : List Nat) (w : World) (hs : Hs w g L) : Calls Tryd.prog 24 #[.pointer (some ⟨g, 0, none⟩)] w fun e w' => ∃ f, f = w.heap.size ∧ e = .returned (.pointer (some ⟨f, 0, none⟩)) ∧ Hs w' f L ∧ Below w.heap.size w w' :=
  (fork_any g L w hs).mono fun _ _ h => ⟨_, rfl, h⟩
set_option maxRecDepth 100000 in
set_option maxHeartbeats 1000000 in
theorem sum_any (g : Nat) (L : List Nat) (w : World) (hs : Hs w g L) (ht : TabP w) (hn : L.length ≤ 1152921504606846976) :
    Calls Tryd.prog 23 #[.pointer (some ⟨g, 0, none⟩)] w fun e w' => e = .returned (.agg (row8 (sha L)).toArray) ∧ Below w.heap.size w w' := by
  have hlt := hs.lt
  have hs1 := hs.alloc (.cells (row8 (List.replicate 32 0)).toArray 26)
  have bb1 := (Below.refl w.heap.size w).alloc (Nat.le_refl _) (.cells (row8 (List.replicate 32 0)).toArray 26)
  have r1 := Blk.new w 26 (row8 (List.replicate 32 0)) _ rfl
  have HS1 := Lib.hid hs1
  have BB1 := Lib.hid bb1
  have R1 := Lib.hid r1
  have HT := Lib.hid ht
  have HSL := Lib.hid hlt
  clear hs hs1 bb1 r1 ht hlt
  obtain ⟨S, hS⟩ : ∃ S, S = sha L := ⟨_, rfl⟩
  obtain ⟨T, hT⟩ : ∃ T, T = text L := ⟨_, rfl⟩
  rw [← hS]
  have HSS := Lib.hid hS
  have HTX := Lib.hid hT
  clear hS hT
  have HEND := Lib.hid (show ∀ (f : Nat) (W : World), Hs W f L → TabP W → f ≠ 1 → Calls Tryd.prog 29 #[.pointer (some ⟨f, 0, none⟩)] W fun e w' => (∃ v, e = .returned v) ∧ Hs w' f T ∧ W.grownBy w' (some f) from fun f W h1 h2 h3 => by rw [HTX.out]; exact end_any f L W h1 h2 h3 hn)
  go_enter Tryd.func23, Tryd.ntmps23
  go_wp2_with (first
    | (go_at_call 24; refine (fork_ex g L _ HS1.out).mono ?_; rintro e w2 ⟨f, hf, rfl, h2, b2⟩; have HF := Lib.hid hf; clear hf; have H2 := Lib.hid h2; have BB2 := Lib.hid (BB1.out.on b2); have R2 := Lib.hid (R1.out.below b2 R1.out.lt); clear h2 b2)
    | (go_at_call 29; refine (HEND.out _ _ H2.out (HT.out.below BB2.out) (by have := HT.out.lt; have := HF.out; simp at this; omega)).mono ?_; rintro e w3 ⟨⟨v3, rfl⟩, ⟨st, o, hv3, hb3⟩, g3⟩; have H3 := Lib.hid hv3; have B3 := Lib.hid hb3; have BB3 := Lib.hid (BB2.out.grown g3 BB2.out.size (fun k hk => by have := Option.some.inj hk; have := HF.out; simp at this; omega)); have R3 := Lib.hid (R2.out.grown g3 (fun q => by have := Option.some.inj q; have := HF.out; simp at this; omega)); clear hv3 hb3 g3)
    | (refine wpList_load_mid rfl 57 (.tmp 16) rfl f 0 rfl (row32 st) _ (range_part (B3.out.alloc _) 0 _ (fun j v => hc_state H3.out.words.1 _ j v)) Tryd.underlying57 rfl (by rw [row32_len, H3.out.words.1]; exact infoSt) ?_))
  have n3 := Blk.new w3 26 (row8 (List.replicate 32 0)) _ rfl
  have r3 := R3.out.alloc (.cells (row8 (List.replicate 32 0)).toArray 26)
  have bb3 := BB3.out.alloc BB3.out.size (.cells (row8 (List.replicate 32 0)).toArray 26)
  have hsb : w.heap.size < w3.heap.size := R3.out.lt
  obtain ⟨sb, hsbe⟩ : ∃ sb, sb = w3.heap.size := ⟨_, rfl⟩
  rw [← hsbe] at n3 hsb ⊢
  have N3 := Lib.hid n3
  have RR3 := Lib.hid r3
  have BBB3 := Lib.hid bb3
  have HSW := Lib.hid H3.out.words
  have HST := Lib.hid H3.out.st_
  clear n3 r3 bb3 hsbe H2 BB2 R2 B3 BB3 R3 HS1 BB1 R1 H3 HEND
  go_loopw [18] (fun i wr => ∃ j : Nat, j ≤ 8 ∧ i = .int .i64 (j : Int) ∧ Blk wr w.heap.size 26 (row8 (List.replicate 32 0)) ∧ Blk wr sb 26 (row8 (outK st (4 * j))) ∧ Below w.heap.size w wr) (fun i _ => 8 - (intOf i).toNat)
  case atStart => exact ⟨0, Nat.zero_le _, rfl, RR3.out, by rw [Nat.mul_zero, outK_zero]; exact N3.out, BBB3.out⟩
  case round =>
    clear N3 RR3 BBB3
    obtain ⟨j, hj, rfl, r0, n0, b0⟩ := hrel
    by_cases hjt : j < 8
    · have hix := run_index_row 57 53 8 (row32 st).toArray j (.int .u32 ((gb st j : Nat) : Int)) Tryd.underlying57 hjt infoW1 aggW1 (by have := row32_val st j (by rw [HSW.out.1]; omega); simpa using this)
      obtain ⟨x, hx⟩ : ∃ x, x = gb st j := ⟨_, rfl⟩
      have hxw : x < 4294967296 := by rw [hx]; exact HSW.out.2 j
      rw [← hx] at hix
      have R0 := Lib.hid r0
      have N0 := Lib.hid n0
      have B0 := Lib.hid b0
      have HX := Lib.hid hx
      have HW := Lib.hid (outK_word st j hjt)
      clear r0 n0 b0 hx
      go_upto_region 9 with (fail)
      refine wp_region_tail (by kernel_rfl) 5 (by decide) (by kernel_rfl) (by kernel_rfl) (by kernel_rfl) [.val (.int .i64 (j : Int)), .val (.int .i64 (4 * (j : Int))), .val (.slice (some ⟨sb, 4 * j, none⟩) (32 - 4 * j) (32 - 4 * j)), .val (.int .u32 (x : Int)), .rd (be x 4)] ?_ ?_
      · refine ⟨?_, ?_, ?_, ?_, ?_, trivial⟩
        · intro a W hF hB hd
          exact does_val rfl (ex_move rfl (hF 5 (by decide +kernel))) rfl
        · intro a W hF hB hd
          have e22 : a.eval (.tmp 22) = .int .i64 (j : Int) := hd 0 (by decide +kernel)
          exact does_val rfl (ex_binOp rfl rfl e22 (by go_simp) (by go_simp; exact wraps_i64' _ (by omega) (by omega))) rfl
        · intro a W hF hB hd
          have e23 : a.eval (.tmp 23) = .int .i64 (4 * (j : Int)) := hd 1 (by decide +kernel)
          have e4 : a.eval (.tmp 4) = .pointer (some ⟨sb, 0, none⟩) := hF 4 (by decide +kernel)
          have f23 : a.tmps[23]?.getD undef = .int .i64 (4 * (j : Int)) := by rw [← Array.getD_eq_getD_getElem?]; exact e23
          have q0 : (0 : Int) ≤ 4 * (j : Int) := by omega
          have q1 : 4 * (j : Int) ≤ 32 := by omega
          have q2 : (4 * (j : Int)).toNat = 4 * j := by omega
          have q3 : ¬ (32 = 4 * j) := by omega
          exact does_val rfl (v := .slice (some ⟨sb, 4 * j, none⟩) (32 - 4 * j) (32 - 4 * j)) (by unfold execOp; simp only [e4]; go_simp) rfl
        · intro a W hF hB hd
          exact does_val rfl (ex_move rfl (hF 6 (by decide +kernel))) rfl
        · intro a W hF hB hd
          have e25 : a.eval (.tmp 25) = .int .u32 (x : Int) := hd 3 (by decide +kernel)
          exact does_call rfl (ex_call (vs := #[.int .u32 (x : Int)]) rfl (by simp only [List.map_toArray, List.map_cons, List.map_nil, e25]) (by go_simp)) ((put32_any x hxw W).mono fun e w' h => by
            obtain ⟨v, rfl, ho, hB⟩ := h
            exact ⟨v, rfl, ho.rd, hB⟩)
      · intro vs W hB hv
        have e2 : vs 2 = .slice (some ⟨sb, 4 * j, none⟩) (32 - 4 * j) (32 - 4 * j) := hv 2 (by omega)
        have e4 : Rd W (vs 4) (be x 4) := hv 4 (by omega)
        simp only [List.take_succ_cons, List.take_zero, List.drop_succ_cons, List.drop_zero, putOps, Act.put, List.setIfInBounds_toArray, List.set_cons_zero, List.set_cons_succ, e2]
        have E4 := Lib.hid e4
        have r1 := Lib.hid (R0.out.below hB R0.out.lt)
        have n1 := Lib.hid (N0.out.below hB N0.out.lt)
        have b1 := Lib.hid (B0.out.on hB)
        have HK := Lib.hid (show (4 : Nat) = min (be x 4).length (32 - 4 * j) by rw [be_len]; omega)
        have HFI := Lib.hid (show 4 * j + 4 ≤ (row8 (outK st (4 * j))).length by rw [row8_len, outK_len]; omega)
        have HSP := Lib.hid (show splice (row8 (outK st (4 * j))) (4 * j) (row8 ((be x 4).take 4)) = row8 (outK st (4 * (j + 1))) by
          rw [List.take_of_length_le (by rw [be_len]; exact Nat.le_refl _), ← row8_splice, HX.out, HW.out])
        generalize vs 4 = y at *
        clear hv e2 e4 hB
        go_wp2_with ((with_reducible show wpList _ _ _ _ _ _); refine wpList_copy_blk rfl (.tmp 24) (.tmp 26) 22 22 rfl Tryd.underlying22 sb (4 * j) (32 - 4 * j) (32 - 4 * j) 26 (row8 (outK st (4 * j))) n1.out (some ⟨sb, 4 * j, none⟩) rfl y rfl (be x 4) E4.out 4 HK.out (fun _ => rfl) HFI.out ?_; intro w5 hb5 hg5; rw [HSP.out] at hb5; have N5 := Lib.hid hb5; have R5 := Lib.hid (r1.out.grown hg5 (fun q => by have := Option.some.inj q; omega)); have B5 := Lib.hid (b1.out.grown hg5 b1.out.size (fun k hk => by have := Option.some.inj hk; omega)); clear hb5 hg5)
        exact ⟨⟨j + 1, by omega, by go_num, R5.out, N5.out, B5.out⟩, by simp [intOf]; omega⟩
    · obtain rfl : j = 8 := by omega
      have hsha : S = out st := by rw [HSS.out, HST.out, HTX.out]; rfl
      rw [outK_all, ← hsha] at n0
      have H32 := Lib.hid (show (row8 S).length = 32 by rw [hsha, row8_len, ← outK_all, outK_len])
      have R0 := Lib.hid r0
      have N0 := Lib.hid n0
      have B0 := Lib.hid b0
      clear r0 n0 b0 hsha
      go_wp2_with (first | (refine wpList_load_mid rfl 26 (.tmp 4) rfl sb 0 rfl (row8 S) _ N0.out.range Tryd.underlying26 rfl (by rw [H32.out]; exact infoS) ?_) | (refine wpList_store_mid rfl 26 (.tmp 2) (.tmp 29) rfl w.heap.size 0 (row8 S).toArray rfl rfl (R0.out.there _ (by rw [List.size_toArray, H32.out]; rfl)) (by rw [List.size_toArray, H32.out]; exact infoS) (row8_one _) ?_))
      have fin := R0.out.whole (row8 S) (by rw [H32.out]; rfl)
      exact bodyPost_ret (v := .agg (row8 S).toArray) (results_mid rfl _ _ w.heap.size (row8 S) _ rfl fin.range Tryd.underlying26 rfl (by rw [H32.out]; exact infoS)) rfl ⟨rfl, below_setCells w.heap.size (Nat.le_refl _) _ 0 _ B0.out⟩
end Go.Proofs.YtllhljhbnopafaaDoor
