/- Texts of one subject in one file: HmacXn, HmacRef, HmacRefOf. Own work. -/
import Derived.Test.YtoacdeddkfcllaaDoorHmacA
import Derived.Test.YtoacdeddkfcllaaDoorOct
import Derived.Test.YtoacdeddkfcllaaDoorShaD
/- Noughts that become a key's block, exclusive-ored, one by one: on numbers. Own work. -/
namespace Go.Proofs.YtoacdeddkfcllaaDoor
/-- Of 64 noughts the first n are the key's bytes, exclusive-ored with x. -/
def xn (K : List Nat) (x n : Nat) : List Nat := (List.range 64).map fun i => if i < n then gb K i ^^^ x else 0
theorem xn_len (K : List Nat) (x n : Nat) : (xn K x n).length = 64 := by simp [xn]
theorem xn_get (K : List Nat) (x n k : Nat) (hk : k < 64) : gb (xn K x n) k = if k < n then gb K k ^^^ x else 0 := by
  unfold xn; rw [gb_map, if_pos hk]
theorem xn_zero (K : List Nat) (x : Nat) : row8 (xn K x 0) = row8 (List.replicate 64 0) := by
  refine congrArg row8 (bytes_ext (n := 64) (xn_len _ _ _) (by simp) fun k hk => ?_)
  rw [xn_get _ _ _ _ hk, if_neg (by omega)]
  unfold gb
  rw [List.getD_eq_getElem?_getD, List.getElem?_replicate, if_pos hk]
  rfl
theorem xn_step (K : List Nat) (x k : Nat) (hk : k < 64) : (xn K x k).set k (gb K k ^^^ x) = xn K x (k + 1) :=
  bytes_ext (n := 64) (by rw [List.length_set, xn_len]) (xn_len _ _ _) fun j hj => by
    rw [gb_set _ _ _ _ (by rw [xn_len]; exact hk), xn_get _ _ _ _ hj, xn_get _ _ _ _ hj]
    by_cases e : k = j
    · subst e; rw [if_pos rfl, if_pos (by omega)]
    · rw [if_neg e]
      by_cases h : j < k
      · rw [if_pos h, if_pos (by omega)]
      · rw [if_neg h, if_neg (by omega)]
theorem xn_all (K : List Nat) (hK : K.length = 64) (x : Nat) : xn K x 64 = SM.kx K x := by
  unfold xn SM.kx SM.kof
  rw [if_neg (by omega)]
  apply List.map_congr_left
  intro i hi
  rw [if_pos (by simpa using hi)]
theorem xn_kof (l : List Nat) (x : Nat) : xn (SM.kof l) x 64 = SM.kx l x := by
  unfold xn SM.kx
  apply List.map_congr_left
  intro i hi
  rw [if_pos (by simpa using hi)]
theorem xn_byte {K : List Nat} (hK : ∀ k, gb K k < 256) {x : Nat} (hx : x < 256) (n k : Nat) : gb (xn K x n) k < 256 := by
  unfold xn; rw [gb_map]
  split
  · split
    · exact Nat.xor_lt_two_pow (n := 8) (hK k) hx
    · omega
  · omega
theorem gb_past (K : List Nat) (k : Nat) (h : K.length ≤ k) : gb K k = 0 := by
  unfold gb; rw [List.getD_eq_getElem?_getD, List.getElem?_eq_none h]; rfl
end Go.Proofs.YtoacdeddkfcllaaDoor
/- The document's answer for sums with a key: a key's block, and the whole: contracts. Own work. -/
namespace Go.Proofs.YtoacdeddkfcllaaDoor
open Go.ChangeShapes Go.WideShapes Go.ChangeAt Go.RowKit
open SM
set_option maxRecDepth 100000 in
set_option maxHeartbeats 2000000 in
theorem hrblock_any (l : List Nat) (hn : l.length + 72 ≤ 140737488355328) (x : Nat) (hx : x < 256) (v : Value) (w : World) (hv : Rd w v l) (ht : Tab w) :
    Calls Tryd.prog 42 #[v, .int .u8 (x : Int)] w fun e w' => ∃ y, e = .returned y ∧ Own w' w.heap.size y (kx l x) ∧ Below w.heap.size w w' := by
  obtain ⟨ao, cap, rfl, hcap⟩ := hv.shape
  have HV := Lib.hid hv
  obtain ⟨i0, hi, hz0, hz1, hz2⟩ := info_parts infoB
  have hb2 : i0.bytes * 64 ≤ 281474976710656 := by rw [hz2]; omega
  have hb3 : 64 ≤ maxLen := by unfold maxLen; omega
  have HI := Lib.hid hi
  have HZ0 := Lib.hid hz0
  have HZ1 := Lib.hid hz1
  have HB2 := Lib.hid hb2
  have HB3 := Lib.hid hb3
  have HT := Lib.hid ht
  have W0 := Lib.hid (Below.refl w.heap.size w)
  have hvb := hv.byte
  clear hi hz0 hz1 hz2 hb2 hb3 ht hv
  by_cases hlt : 64 < l.length
  · have hlI : (64 : Int) < (l.length : Int) := by omega
    obtain ⟨S, hS⟩ : ∃ S, S = sha l := ⟨_, rfl⟩
    have bS : Bytes 32 S := by rw [hS]; exact sha_bytes l
    have HXK := Lib.hid (show xn S x 64 = kx l x by rw [← xn_kof, hS]; unfold kof; rw [if_pos hlt])
    have KB := Lib.hid bS.2
    have KL := Lib.hid bS.1
    have S32 := Lib.hid (show (row8 S).length = 32 by rw [row8_len]; exact bS.1)
    obtain ⟨D0, hD0⟩ : ∃ C0, C0 = row8 (List.replicate 32 0) := ⟨_, rfl⟩
    have hzs : ∀ w, (zeroValue 24).run Tryd.prog w = .ok (.agg D0.toArray) w := by rw [hD0]; exact zeroSum
    have hd0 : D0.length = 32 := by rw [hD0, row8_len, List.length_replicate]
    have HOF := Lib.hid (rof_any l hn (.slice ao l.length cap) w HV.out HT.out)
    rw [← hS] at HOF
    clear hS bS hD0
    go_enter Tryd.func42, Tryd.ntmps42
    go_upto_region 4 with (first
      | (go_at_call 29; (with_reducible refine HOF.out.mono ?_); rintro e w3 ⟨rfl, b3⟩; have B3 := Lib.hid b3; clear b3)
      | (refine wpList_store_blk rfl 24 (.tmp 5) (.tmp 12) rfl w3.heap.size 0 (row8 S) rfl rfl 24 D0 (Blk.new w3 24 D0 _ rfl) (by rw [S32.out, hd0]; exact Nat.le_refl _) (by rw [S32.out]; exact infoS) (row8_one _) ?_; intro w4 b4 g4; rw [splice_all _ _ (by rw [S32.out, hd0])] at b4; have N4 := Lib.hid b4; have B4 := Lib.hid (own_turn B3.out g4); clear b4 g4))
    obtain ⟨sb, hsb⟩ : ∃ b, b = w3.heap.size := ⟨_, rfl⟩
    rw [← hsb] at N4 ⊢
    have r4 := blk_rd N4.out KB.out (n := 32) (cap := 32) (by rw [KL.out]; omega) (by omega) (by rw [KL.out]; omega)
    rw [List.take_of_length_le (by rw [KL.out]; omega)] at r4
    have R4 := Lib.hid r4
    clear r4 hsb hzs hd0 HOF
    have HX0 := Lib.hid (show row8 (xn S x 0) = List.replicate 64 (.int .u8 0) by rw [xn_zero]; unfold row8; rw [List.map_replicate]; rfl)
    go_wp2_with (refine wpList_make_full _ rfl (.const (.int .i64 64)) (.const (.int .i64 64)) 29 rfl w4.heap.size 5 i0 (.int .u8 0) 1 Tryd.underlying29 HI.out HZ0.out HZ1.out .i64 .i64 _ _ 64 rfl rfl rfl rfl HB2.out HB3.out (Nat.le_refl _) ?_; intro w6 hown hg; have HO := Lib.hid hown; have HG := Lib.hid hg; clear hown hg)
    have hb6 : Below w4.heap.size w4 w6 := below_of_grown HG.out
    have ho6 : Own w6 w.heap.size (.slice (some ⟨w4.heap.size, 0, none⟩) 64 64) (xn S x 0) := by
      refine Own.lower (base := w4.heap.size) ⟨?_, xn_byte KB.out hx 0, by rw [xn_len]; omega⟩ B4.out.size
      rw [xn_len, HX0.out, ← toList_madeCells_one]
      have h := HO.out
      rw [Nat.mul_one] at h
      exact h
    have O6 := Lib.hid ho6
    have B6 := Lib.hid (B4.out.on hb6)
    have R6 := Lib.hid (R4.out.below hb6)
    obtain ⟨yb, hyb⟩ : ∃ b, b = w4.heap.size := ⟨_, rfl⟩
    rw [← hyb] at O6 ⊢
    have HYE := Lib.hid hyb
    have HYB := Lib.hid (show w.heap.size ≤ yb by have := B4.out.size; omega)
    have HRO := Lib.hid (fun (k : Nat) (hk : k < S.length) (V : World) (hV : Below yb w6 V) => (R4.out.below hb6).at_ k hk)
    clear HO HG ho6 HX0 hyb
    go_loopw [7] (fun i wr => ∃ k : Nat, k ≤ 64 ∧ i = .int .i64 (k : Int) ∧ Own wr w.heap.size (.slice (some ⟨yb, 0, none⟩) 64 64) (xn S x k) ∧ Below yb w4 wr ∧ Below w.heap.size w wr) (fun i _ => 64 - (intOf i).toNat)
    case atStart => exact ⟨0, Nat.zero_le _, rfl, O6.out, by rw [HYE.out]; exact hb6, B6.out⟩
    case round =>
      clear O6 B6 R6
      obtain ⟨k, hk, rfl, ho, by_, bb⟩ := hrel
      by_cases hlt : k < 64
      · have hc := ho.cell (by rw [xn_len]) k (by rw [xn_len]; exact hlt)
        have hf := ho.free (by rw [xn_len]) k
        have O := Lib.hid ho
        have BY := Lib.hid by_
        have BW := Lib.hid bb
        have HS1 := Lib.hid (show Own (wr.setCell ⟨yb, k, none⟩ (.int .u8 (x : Int))) w.heap.size (.slice (some ⟨yb, 0, none⟩) 64 64) ((xn S x k).set k x) from by
          have h : Own wr w.heap.size (.slice (some ⟨yb, 0, none⟩) (xn S x k).length 64) (xn S x k) := by rw [xn_len]; exact O.out
          have h2 := h.set k x hx (by rw [xn_len]; exact hlt)
          rw [xn_len] at h2; exact h2)
        have BW1 := Lib.hid (BW.out.setCell (p := ⟨yb, k, none⟩) HYB.out (.int .u8 (x : Int)))
        have BY1 := Lib.hid (BY.out.setCell (p := ⟨yb, k, none⟩) (Nat.le_refl _) (.int .u8 (x : Int)))
        clear ho by_ bb
        by_cases hq : k < S.length
        · have hqI : (k : Int) < 32 := by have := KL.out; omega
          have hr1 := R4.out.later HYE.out BY1.out
          obtain ⟨ad, had, hcc⟩ := hr1.at_ k hq
          obtain rfl : ad = ⟨sb, 0, none⟩ := (Option.some.inj had).symm
          rw [Addr.add_mid, Nat.zero_add] at hcc
          have hxr := u8_xor_nat (gb S k) x (KB.out k) hx
          have hf1 := HS1.out.free (by rw [List.length_set, xn_len]) k
          have hc1 := HS1.out.cell (by rw [List.length_set, xn_len]) k (by rw [List.length_set, xn_len]; exact hlt)
          have HS2 := Lib.hid (show Own ((wr.setCell ⟨yb, k, none⟩ (.int .u8 (x : Int))).setCell ⟨yb, k, none⟩ (.int .u8 ((gb S k ^^^ x : Nat) : Int))) w.heap.size (.slice (some ⟨yb, 0, none⟩) 64 64) (xn S x (k + 1)) from by
            have h : Own (wr.setCell ⟨yb, k, none⟩ (.int .u8 (x : Int))) w.heap.size (.slice (some ⟨yb, 0, none⟩) ((xn S x k).set k x).length 64) ((xn S x k).set k x) := by rw [List.length_set, xn_len]; exact HS1.out
            have h2 := h.set k (gb S k ^^^ x) (Nat.xor_lt_two_pow (n := 8) (KB.out k) hx) (by rw [List.length_set, xn_len]; exact hlt)
            rw [List.length_set, xn_len, List.set_set, xn_step _ _ _ hlt] at h2; exact h2)
          have BW2 := Lib.hid (BW1.out.setCell (p := ⟨yb, k, none⟩) HYB.out (.int .u8 ((gb S k ^^^ x : Nat) : Int)))
          have BY2 := Lib.hid (BY1.out.setCell (p := ⟨yb, k, none⟩) (Nat.le_refl _) (.int .u8 ((gb S k ^^^ x : Nat) : Int)))
          clear hr1 HRO
          go_wp2_with fail
          exact ⟨⟨k + 1, by omega, by go_num, HS2.out, BY2.out, BW2.out⟩, by simp [intOf]; omega⟩
        · have hqI : ¬ (k : Int) < 32 := by have := KL.out; omega
          have hx0 : x = gb S k ^^^ x := by rw [gb_past _ _ (by omega), Nat.zero_xor]
          have hs2 : (xn S x k).set k x = xn S x (k + 1) := by rw [← xn_step _ _ _ hlt, ← hx0]
          rw [hs2] at HS1
          clear hx0 HRO
          go_wp2_with fail
          exact ⟨⟨k + 1, by omega, by go_num, HS1.out, BY1.out, BW1.out⟩, by simp [intOf]; omega⟩
      · obtain rfl : k = 64 := by omega
        rw [HXK.out] at ho
        clear HRO
        go_wp2_with fail
        go_ret
        exact ⟨_, rfl, ho, bb⟩
  · have hlI : ¬ (64 : Int) < (l.length : Int) := by omega
    have HXK := Lib.hid (show xn l x 64 = kx l x by rw [← xn_kof]; unfold kof; rw [if_neg hlt])
    have KB := Lib.hid hvb
    go_enter Tryd.func42, Tryd.ntmps42
    go_upto_region 4 with (fail)
    have HX0 := Lib.hid (show row8 (xn l x 0) = List.replicate 64 (.int .u8 0) by rw [xn_zero]; unfold row8; rw [List.map_replicate]; rfl)
    go_wp2_with (refine wpList_make_full _ rfl (.const (.int .i64 64)) (.const (.int .i64 64)) 29 rfl w.heap.size 5 i0 (.int .u8 0) 1 Tryd.underlying29 HI.out HZ0.out HZ1.out .i64 .i64 _ _ 64 rfl rfl rfl rfl HB2.out HB3.out (Nat.le_refl _) ?_; intro w6 hown hg; have HO := Lib.hid hown; have HG := Lib.hid hg; clear hown hg)
    have hb6 : Below w.heap.size w w6 := below_of_grown HG.out
    have ho6 : Own w6 w.heap.size (.slice (some ⟨w.heap.size, 0, none⟩) 64 64) (xn l x 0) := by
      refine Own.lower (base := w.heap.size) ⟨?_, xn_byte KB.out hx 0, by rw [xn_len]; omega⟩ W0.out.size
      rw [xn_len, HX0.out, ← toList_madeCells_one]
      have h := HO.out
      rw [Nat.mul_one] at h
      exact h
    have O6 := Lib.hid ho6
    have B6 := Lib.hid (W0.out.on hb6)
    have R6 := Lib.hid (HV.out.below hb6)
    have HYB := Lib.hid (show w.heap.size ≤ w.heap.size by have := W0.out.size; omega)
    have HRO := Lib.hid (fun (k : Nat) (hk : k < l.length) (V : World) (hV : Below w.heap.size w6 V) => (HV.out.below hb6).at_ k hk)
    clear HO HG ho6 HX0
    go_loopw [7] (fun i wr => ∃ k : Nat, k ≤ 64 ∧ i = .int .i64 (k : Int) ∧ Own wr w.heap.size (.slice (some ⟨w.heap.size, 0, none⟩) 64 64) (xn l x k) ∧ Below w.heap.size w wr ∧ Below w.heap.size w wr) (fun i _ => 64 - (intOf i).toNat)
    case atStart => exact ⟨0, Nat.zero_le _, rfl, O6.out, hb6, B6.out⟩
    case round =>
      clear O6 B6 R6
      obtain ⟨k, hk, rfl, ho, by_, bb⟩ := hrel
      by_cases hlt : k < 64
      · have hc := ho.cell (by rw [xn_len]) k (by rw [xn_len]; exact hlt)
        have hf := ho.free (by rw [xn_len]) k
        have O := Lib.hid ho
        have BY := Lib.hid by_
        have BW := Lib.hid bb
        have HS1 := Lib.hid (show Own (wr.setCell ⟨w.heap.size, k, none⟩ (.int .u8 (x : Int))) w.heap.size (.slice (some ⟨w.heap.size, 0, none⟩) 64 64) ((xn l x k).set k x) from by
          have h : Own wr w.heap.size (.slice (some ⟨w.heap.size, 0, none⟩) (xn l x k).length 64) (xn l x k) := by rw [xn_len]; exact O.out
          have h2 := h.set k x hx (by rw [xn_len]; exact hlt)
          rw [xn_len] at h2; exact h2)
        have BW1 := Lib.hid (BW.out.setCell (p := ⟨w.heap.size, k, none⟩) HYB.out (.int .u8 (x : Int)))
        have BY1 := Lib.hid (BY.out.setCell (p := ⟨w.heap.size, k, none⟩) (Nat.le_refl _) (.int .u8 (x : Int)))
        clear ho by_ bb
        by_cases hq : k < l.length
        · have hqI : (k : Int) < (l.length : Int) := by have := hn; omega
          have hr1 := HV.out.below BY1.out
          obtain ⟨ad, had, hcc⟩ := hr1.at_ k hq
          subst had
          have hxr := u8_xor_nat (gb l k) x (KB.out k) hx
          have hf1 := HS1.out.free (by rw [List.length_set, xn_len]) k
          have hc1 := HS1.out.cell (by rw [List.length_set, xn_len]) k (by rw [List.length_set, xn_len]; exact hlt)
          have HS2 := Lib.hid (show Own ((wr.setCell ⟨w.heap.size, k, none⟩ (.int .u8 (x : Int))).setCell ⟨w.heap.size, k, none⟩ (.int .u8 ((gb l k ^^^ x : Nat) : Int))) w.heap.size (.slice (some ⟨w.heap.size, 0, none⟩) 64 64) (xn l x (k + 1)) from by
            have h : Own (wr.setCell ⟨w.heap.size, k, none⟩ (.int .u8 (x : Int))) w.heap.size (.slice (some ⟨w.heap.size, 0, none⟩) ((xn l x k).set k x).length 64) ((xn l x k).set k x) := by rw [List.length_set, xn_len]; exact HS1.out
            have h2 := h.set k (gb l k ^^^ x) (Nat.xor_lt_two_pow (n := 8) (KB.out k) hx) (by rw [List.length_set, xn_len]; exact hlt)
            rw [List.length_set, xn_len, List.set_set, xn_step _ _ _ hlt] at h2; exact h2)
          have BW2 := Lib.hid (BW1.out.setCell (p := ⟨w.heap.size, k, none⟩) HYB.out (.int .u8 ((gb l k ^^^ x : Nat) : Int)))
          have BY2 := Lib.hid (BY1.out.setCell (p := ⟨w.heap.size, k, none⟩) (Nat.le_refl _) (.int .u8 ((gb l k ^^^ x : Nat) : Int)))
          clear hr1 HRO
          go_wp2_with fail
          exact ⟨⟨k + 1, by omega, by go_num, HS2.out, BY2.out, BW2.out⟩, by simp [intOf]; omega⟩
        · have hqI : ¬ (k : Int) < (l.length : Int) := by have := hn; omega
          have hx0 : x = gb l k ^^^ x := by rw [gb_past _ _ (by omega), Nat.zero_xor]
          have hs2 : (xn l x k).set k x = xn l x (k + 1) := by rw [← xn_step _ _ _ hlt, ← hx0]
          rw [hs2] at HS1
          clear hx0 HRO
          go_wp2_with fail
          exact ⟨⟨k + 1, by omega, by go_num, HS1.out, BY1.out, BW1.out⟩, by simp [intOf]; omega⟩
      · obtain rfl : k = 64 := by omega
        rw [HXK.out] at ho
        clear HRO
        go_wp2_with fail
        go_ret
        exact ⟨_, rfl, ho, bb⟩
end Go.Proofs.YtoacdeddkfcllaaDoor
/- The document's answer for sums with a key: the whole: contract. Own work. -/
namespace Go.Proofs.YtoacdeddkfcllaaDoor
open Go.ChangeShapes Go.WideShapes Go.ChangeAt Go.RowKit
open SM
set_option maxRecDepth 100000 in
set_option maxHeartbeats 2000000 in
theorem rmac_any (l b : List Nat) (hl : l.length + 72 ≤ 140737488355328) (hb : b.length + 136 ≤ 140737488355328) (u v : Value) (w : World) (hu : Rd w u l) (hv : Rd w v b) (ht : Tab w) :
    Calls Tryd.prog 30 #[u, v] w fun e w' => e = .returned (.agg (row8 (mac l b)).toArray) ∧ Below w.heap.size w w' := by
  obtain ⟨au, cu, rfl, hcu⟩ := hu.shape
  obtain ⟨av, cv, rfl, hcv⟩ := hv.shape
  obtain ⟨KI, hKI⟩ : ∃ K, K = kx l 0x36 := ⟨_, rfl⟩
  obtain ⟨KO, hKO⟩ : ∃ K, K = kx l 0x5c := ⟨_, rfl⟩
  have lKI : KI.length = 64 := by rw [hKI, kx]; simp
  have lKO : KO.length = 64 := by rw [hKO, kx]; simp
  obtain ⟨S, hS⟩ : ∃ S, S = sha (KI ++ b) := ⟨_, rfl⟩
  have bS : Bytes 32 S := by rw [hS]; exact sha_bytes _
  obtain ⟨M, hM⟩ : ∃ M, M = sha (KO ++ S) := ⟨_, rfl⟩
  have bM : Bytes 32 M := by rw [hM]; exact sha_bytes _
  rw [show mac l b = M by rw [hM, hS, hKI, hKO]; rfl]
  have HS := Lib.hid hS
  have HMM := Lib.hid hM
  have HBS := Lib.hid bS
  have S32 := Lib.hid (show (row8 S).length = 32 by rw [row8_len]; exact bS.1)
  have M32 := Lib.hid (show (row8 M).length = 32 by rw [row8_len]; exact bM.1)
  have HLI := Lib.hid lKI
  have HLO := Lib.hid lKO
  have HU := Lib.hid hu
  have HV := Lib.hid hv
  have HT := Lib.hid ht
  have HB6 := Lib.hid (show ∀ W, Below w.heap.size w W → Calls Tryd.prog 42 #[.slice au l.length cu, .int .u8 54] W fun e w' => ∃ y, e = .returned y ∧ Own w' W.heap.size y KI ∧ Below W.heap.size W w' from fun W hW => by rw [hKI]; exact hrblock_any l hl 54 (by omega) (.slice au l.length cu) W (hu.below hW) (ht.below hW))
  have HB5 := Lib.hid (show ∀ W, Below w.heap.size w W → Calls Tryd.prog 42 #[.slice au l.length cu, .int .u8 92] W fun e w' => ∃ y, e = .returned y ∧ Own w' W.heap.size y KO ∧ Below W.heap.size W w' from fun W hW => by rw [hKO]; exact hrblock_any l hl 92 (by omega) (.slice au l.length cu) W (hu.below hW) (ht.below hW))
  obtain ⟨D0, hD0⟩ : ∃ C0, C0 = row8 (List.replicate 32 0) := ⟨_, rfl⟩
  have hzs : ∀ w, (zeroValue 24).run Tryd.prog w = .ok (.agg D0.toArray) w := by rw [hD0]; exact zeroSum
  have hd0 : D0.length = 32 := by rw [hD0, row8_len, List.length_replicate]
  have BB1 := Lib.hid ((Below.refl w.heap.size w).alloc (Nat.le_refl _) (.cells D0.toArray 24))
  have R1 := Lib.hid (Blk.new w 24 D0 _ rfl)
  clear hS hM bS bM hu hv ht hKI hKO lKI lKO hD0
  go_enter Tryd.func30, Tryd.ntmps30
  go_upto_region 2 with (first
    | (go_at_call 42; (with_reducible refine (HB6.out _ BB1.out).mono ?_); rintro e w2 ⟨y, rfl, o2, b2⟩; have O2 := Lib.hid (o2.lower (b' := w.heap.size) BB1.out.size); have B2 := Lib.hid (BB1.out.on b2); have R2 := Lib.hid (R1.out.below b2 R1.out.lt); have N2 := Lib.hid (show y.ownBlock ≠ some w.heap.size from fun q => absurd (o2.from _ q).1 (by simp)); clear o2 b2)
    | (at_builtin; refine wpList_app rfl (.tmp 7) (.tmp 8) rfl w.heap.size y (.slice av b.length cv) KI b rfl rfl O2.out (HV.out.below B2.out) (by have := HLI.out; omega) B2.out.size ?_; intro y3 w3 o3 g3 k3; have B3 := Lib.hid (B2.out.grown g3 B2.out.size (fun k hk => (O2.out.from k hk).1)); have R3 := Lib.hid (R2.out.grown g3 (fun q => N2.out q.symm)); have F3 := Lib.hid (rof_any (KI ++ b) (by rw [List.length_append]; have := HLI.out; omega) y3 w3 o3.rd (HT.out.below B3.out)); rw [← HS.out] at F3; clear o3 g3 k3)
    | (go_at_call 29; (with_reducible refine F3.out.mono ?_); rintro e w4 ⟨rfl, b4⟩; have B4 := Lib.hid (B3.out.on b4); have R4 := Lib.hid (R3.out.below b4 R3.out.lt); clear b4)
    | (refine wpList_store_blk rfl 24 (.tmp 5) (.tmp 10) rfl w4.heap.size 0 (row8 S) rfl rfl 24 D0 (Blk.new w4 24 D0 _ rfl) (by rw [S32.out, hd0]; exact Nat.le_refl _) (by rw [S32.out]; exact infoS) (row8_one _) ?_; intro w5 b5 g5; rw [splice_all _ _ (by rw [S32.out, hd0])] at b5; have N5 := Lib.hid b5; have B5 := Lib.hid (own_turn B4.out g5); have R5 := Lib.hid ((R4.out.alloc (.cells D0.toArray 24)).grown g5 (fun q => by have e : w.heap.size = w4.heap.size := Option.some.inj q; have := R4.out.lt; omega)); clear b5 g5))
  simp only [put_none]
  obtain ⟨sb, hsb⟩ : ∃ b, b = w4.heap.size := ⟨_, rfl⟩
  rw [← hsb] at N5 ⊢
  have SL := Lib.hid N5.out.lt
  have RL := Lib.hid R5.out.lt
  have s9 := blk_rd N5.out HBS.out.2 (n := 32) (cap := 32) (by rw [HBS.out.1]; omega) (by omega) (by rw [HBS.out.1]; omega)
  rw [List.take_of_length_le (by rw [HBS.out.1]; omega)] at s9
  have HX := Lib.hid s9
  clear s9 hsb hzs
  refine wp_region_g (by kernel_rfl) 3 (by decide) (by kernel_rfl) (by kernel_rfl) (by kernel_rfl) w5.heap.size (Nat.le_refl _) [.val (.slice au l.length cu), .own KO, .val (.slice (some ⟨sb, 0, none⟩) 32 32)] (fun _ => 6) ?_ ?_
  · refine ⟨?_, ?_, ?_, trivial⟩
    · intro a w' hF hB hd
      have e0 : a.eval (.tmp 0) = .slice au l.length cu := hF 0 (by decide +kernel)
      exact doesG_val rfl (ex_move rfl e0) rfl rfl
    · intro a w' hF hB hd
      have e11 : a.eval (.tmp 11) = .slice au l.length cu := hd 0 (by decide +kernel) (.inr (by decide))
      exact doesG_made rfl (ex_call (vs := #[.slice au l.length cu, .int .u8 92]) rfl (by simp only [List.map_toArray, List.map_cons, List.map_nil, e11]; rfl) (by go_simp)) ((HB5.out w' (B5.out.on hB)).mono fun e w6 hh => by
        obtain ⟨y, rfl, o6, b6⟩ := hh
        exact ⟨_, rfl, o6.lower hB.size, b6, fun g hg => o6.from g (own_held' o6.rd hg)⟩)
    · intro a w' hF hB hd
      have e5 : a.eval (.tmp 5) = .pointer (some ⟨sb, 0, none⟩) := hF 5 (by decide +kernel)
      exact doesG_val rfl (v := .slice (some ⟨sb, 0, none⟩) 32 32) (by unfold execOp; simp only [e5]; go_simp) rfl rfl
  · intro vs w6 hB hv hap
    have e2 : vs 2 = .slice (some ⟨sb, 0, none⟩) 32 32 := hv 2 (by omega) (by omega)
    have o1 : Own w6 w5.heap.size (vs 1) KO := hv 1 (by omega) (by omega)
    simp only [List.take_succ_cons, List.take_zero, List.drop_succ_cons, List.drop_zero, putOps, Act.put, List.setIfInBounds_toArray, List.set_cons_zero, List.set_cons_succ, e2]
    have O1 := Lib.hid o1
    have B6 := Lib.hid (B5.out.on hB)
    have R6 := Lib.hid (R5.out.below hB R5.out.lt)
    have X6 := Lib.hid (HX.out.below hB)
    have HSZ := Lib.hid hB.size
    obtain ⟨ay, cy, hy, _⟩ := o1.rd.shape
    generalize vs 1 = y at *
    subst hy
    generalize vs 0 = z at *
    clear hv hap e2 o1 hB
    go_wp2_with (first
      | (at_builtin; refine wpList_app rfl (.tmp 12) (.tmp 13) rfl w5.heap.size (.slice ay KO.length cy) (.slice (some ⟨sb, 0, none⟩) 32 32) KO S rfl rfl O1.out X6.out (by have := HLO.out; have := HBS.out.1; omega) HSZ.out ?_; intro y7 w7 o7 g7 k7; have B7 := Lib.hid (B6.out.grown g7 B6.out.size (fun k hk => by have := (O1.out.from k hk).1; have := B5.out.size; omega)); have R7 := Lib.hid (R6.out.grown g7 (fun q => by have := (O1.out.from _ q.symm).1; have := RL.out; omega)); have F7 := Lib.hid (rof_any (KO ++ S) (by rw [List.length_append]; have := HLO.out; have := HBS.out.1; omega) y7 w7 o7.rd (HT.out.below B7.out)); rw [← HMM.out] at F7; clear o7 g7 k7)
      | (go_at_call 29; (with_reducible refine F7.out.mono ?_); rintro e w8 ⟨rfl, b8⟩; have B8 := Lib.hid (B7.out.on b8); have R8 := Lib.hid (R7.out.below b8 R7.out.lt); clear b8)
      | (refine wpList_store_mid rfl 24 (.tmp 4) (.tmp 15) rfl w.heap.size 0 (row8 M).toArray rfl rfl (R8.out.there _ (by rw [List.size_toArray, M32.out, hd0])) (by rw [List.size_toArray, M32.out]; exact infoS) (row8_one _) ?_))
    have fin := R8.out.whole (row8 M) (by rw [M32.out, hd0])
    exact bodyPost_ret (v := .agg (row8 M).toArray) (results_mid rfl _ _ w.heap.size (row8 M) _ rfl fin.range Tryd.underlying24 rfl (by rw [M32.out]; exact infoS)) rfl ⟨rfl, below_setCells w.heap.size (Nat.le_refl _) _ 0 _ B8.out⟩
end Go.Proofs.YtoacdeddkfcllaaDoor
