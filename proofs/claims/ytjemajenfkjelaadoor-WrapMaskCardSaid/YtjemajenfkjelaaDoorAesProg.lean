/- The program's Schedule and New: contracts. Own work. -/
import Derived.Test.YtjemajenfkjelaaDoorAesSchP
namespace Go.Proofs.YtjemajenfkjelaaDoor
open Go.ChangeShapes Go.WideShapes Go.ChangeAt Go.RowKit
open AM FM
theorem blk_rd_at {w : World} {g : Nat} {t : TypeId} {l : List Nat} (h : Blk w g t (row8 l)) (hb : ∀ k, gb l k < 256) (o n cap : Nat) (hn : o + n ≤ l.length) (hc : n ≤ cap) (hf : l.length ≤ 140737488355328) : Rd w (.slice (some ⟨g, o, none⟩) n cap) ((l.drop o).take n) := by
  have e1 : ((l.drop o).take n).length = n := by rw [List.length_take, List.length_drop]; omega
  refine ⟨gb_take_byte _ n (fun k => by rw [gb_drop]; exact hb _), by rw [e1]; omega, .inr ⟨_, cap, by rw [e1], by rw [e1]; exact hc, fun j hj => ?_⟩⟩
  rw [gb_take _ n j (by omega), gb_drop, Addr.add_mid]
  exact h.cell (o + j) _ (row8_val l (o + j) (by omega))
theorem splice_cons (vs : List Value) (o : Nat) (u : Value) (r : List Value) (h : o + (r.length + 1) ≤ vs.length) : splice vs o (u :: r) = splice (vs.set o u) (o + 1) r := by
  have e := list_seg_step vs o u r h
  unfold splice
  rw [← List.append_assoc, ← List.append_assoc]
  exact e.symm
theorem splice_nil {α : Type} (vs : List α) (o : Nat) : splice vs o [] = vs := by
  unfold splice; simp
/-- Four bytes into a row, as stores one by one. -/
theorem splice_four (l : List Nat) (o a b c d : Nat) (h : o + 4 ≤ l.length) : splice (row8 l) o (row8 [a, b, c, d]) = row8 ((((l.set o a).set (o + 1) b).set (o + 2) c).set (o + 3) d) := by
  have hl := row8_len l
  show splice (row8 l) o [.int .u8 (a : Int), .int .u8 (b : Int), .int .u8 (c : Int), .int .u8 (d : Int)] = _
  rw [splice_cons _ _ _ _ (by simp only [List.length_cons, List.length_nil]; omega), splice_cons _ _ _ _ (by rw [List.length_set]; simp only [List.length_cons, List.length_nil]; omega),
    splice_cons _ _ _ _ (by rw [List.length_set, List.length_set]; simp only [List.length_cons, List.length_nil]; omega), splice_cons _ _ _ _ (by rw [List.length_set, List.length_set, List.length_set]; simp only [List.length_nil]; omega), splice_nil]
  rw [row8_set, row8_set, row8_set, row8_set]
theorem swd_splice (S : List Nat) (i : Nat) (hi : i < 60) : splice (row8 (swd S (4 * i))) (i * 4) (row8 (w4 S i)) = row8 (swd S (4 * (i + 1))) := by
  unfold w4
  rw [splice_four _ _ _ _ _ _ (by rw [swd_len]; omega), Nat.mul_comm i 4, swd_step _ _ (by omega), swd_step _ _ (by omega), swd_step _ _ (by omega), swd_step _ _ (by omega)]
  rfl
/-- A word that is under way: i words, of the next one k bytes; behind them those of Z. -/
def inn (S Z : List Nat) (i k : Nat) : List Nat := (List.range 240).map fun j => if j < 4 * i + k then gb S j else if j < 4 * i + 4 then gb Z (j - 4 * i) else 0
theorem inn_len (S Z : List Nat) (i k : Nat) : (inn S Z i k).length = 240 := by simp [inn]
theorem inn_get (S Z : List Nat) (i k j : Nat) (h : j < 240) : gb (inn S Z i k) j = if j < 4 * i + k then gb S j else if j < 4 * i + 4 then gb Z (j - 4 * i) else 0 := by
  unfold inn; rw [gb_map, if_pos h]
theorem inn_zero (S Z : List Nat) (i : Nat) (hi : i < 60) (hZ : Z.length = 4) : splice (row8 (swd S (4 * i))) (i * 4) (row8 Z) = row8 (inn S Z i 0) := by
  obtain ⟨a, b, c, d, rfl⟩ : ∃ a b c d, Z = [a, b, c, d] := ⟨_, _, _, _, four_list Z hZ⟩
  rw [splice_four _ _ _ _ _ _ (by rw [swd_len]; omega)]
  refine congrArg row8 (bytes_ext (n := 240) (by rw [List.length_set, List.length_set, List.length_set, List.length_set, swd_len]) (inn_len _ _ _ _) fun j hj => ?_)
  rw [gb_set _ _ _ _ (by rw [List.length_set, List.length_set, List.length_set, swd_len]; omega), gb_set _ _ _ _ (by rw [List.length_set, List.length_set, swd_len]; omega), gb_set _ _ _ _ (by rw [List.length_set, swd_len]; omega), gb_set _ _ _ _ (by rw [swd_len]; omega), swd_get _ _ _ hj, inn_get _ _ _ _ _ hj]
  by_cases e0 : j < 4 * i
  · rw [if_neg (by omega), if_neg (by omega), if_neg (by omega), if_neg (by omega), if_pos e0, if_pos (by omega)]
  by_cases e4 : 4 * i + 4 ≤ j
  · rw [if_neg (by omega), if_neg (by omega), if_neg (by omega), if_neg (by omega), if_neg e0, if_neg (by omega), if_neg (by omega)]
  obtain ⟨r, hr, hr4⟩ : ∃ r, j = 4 * i + r ∧ r < 4 := ⟨j - 4 * i, by omega, by omega⟩
  rw [if_neg (show ¬ j < 4 * i + 0 by omega), if_pos (show j < 4 * i + 4 by omega), show j - 4 * i = r by omega]
  match r, hr4 with
  | 0, _ => rw [if_neg (by omega), if_neg (by omega), if_neg (by omega), if_pos (by omega)]; rfl
  | 1, _ => rw [if_neg (by omega), if_neg (by omega), if_pos (by omega)]; rfl
  | 2, _ => rw [if_neg (by omega), if_pos (by omega)]; rfl
  | 3, _ => rw [if_pos (by omega)]; rfl
theorem inn_step (S Z : List Nat) (i k : Nat) (hi : i < 60) (hk : k < 4) : (inn S Z i k).set (i * 4 + k) (gb S (4 * i + k)) = inn S Z i (k + 1) :=
  bytes_ext (n := 240) (by rw [List.length_set, inn_len]) (inn_len _ _ _ _) fun j hj => by
    rw [gb_set _ _ _ _ (by rw [inn_len]; omega), inn_get _ _ _ _ _ hj, inn_get _ _ _ _ _ hj]
    by_cases e : i * 4 + k = j
    · subst e; rw [if_pos rfl, if_pos (by omega), show i * 4 + k = 4 * i + k by omega]
    · rw [if_neg e]
      by_cases h : j < 4 * i + k
      · rw [if_pos h, if_pos (by omega)]
      · rw [if_neg h, if_neg (show ¬ j < 4 * i + (k + 1) by omega)]
theorem inn_all (S Z : List Nat) (i : Nat) : inn S Z i 4 = swd S (4 * (i + 1)) :=
  bytes_ext (n := 240) (inn_len _ _ _ _) (swd_len _ _) fun j hj => by
    rw [inn_get _ _ _ _ _ hj, swd_get _ _ _ hj]
    by_cases h : j < 4 * i + 4
    · rw [if_pos h, if_pos (by omega)]
    · rw [if_neg h, if_neg h, if_neg (by omega)]
theorem inn_old (S Z : List Nat) (i k m : Nat) (hm : m < i) (hi : i < 60) (j : Nat) (v : Value) (h : (row8 (w4 S m))[j]? = some v) : (row8 (inn S Z i k))[m * 4 + j]? = some v := by
  by_cases hj : j < 4
  · have h2 := w4_part S (4 * i) m (by omega) (by omega) j v h
    rw [row8_val _ _ (by rw [swd_len]; omega), swd_get _ _ _ (by omega), if_pos (by omega)] at h2
    rw [row8_val _ _ (by rw [inn_len]; omega), inn_get _ _ _ _ _ (by omega), if_pos (by omega), Nat.mul_comm m 4]
    exact h2
  · rw [List.getElem?_eq_none (by rw [row8_len]; show 4 ≤ j; omega)] at h; cases h
/-- A part of an array by value that is an array itself. -/
theorem run_index_part {P : Program} (t e : TypeId) (n m : Nat) (cs ds : Array Value) (k : Nat) (h : P.underlying t = some (.array n e)) (hn : k < n) (h1 : (P.info? e).map (·.size) = some m) (ha : ∀ w, (isAgg e).run P w = .ok true w) (hv : cs.extract (k * m) (k * m + m) = ds) (w : World) :
    (Instr.index t (.agg cs) (.int .i64 k)).run P w = .ok (.agg ds) w := by
  have hk : (0 : Int) ≤ k ∧ (k : Int) < n := by omega
  cases hq : P.info? e with
  | none => simp [hq] at h1
  | some i =>
    simp [hq] at h1
    have hs : ∀ w, (sizeOf e).run P w = .ok m w := fun w => by simp [sizeOf, typeInfo, hq, h1]
    simp [Instr.index, part, run_underlying h, asIntOf, hk, hn, hs, ha, hv, go_sem]
theorem w4_extract (S : List Nat) (hS : S.length = 240) (i : Nat) (hi : i < 60) : (row8 S).toArray.extract (i * 4) (i * 4 + 4) = (row8 (w4 S i)).toArray := by
  apply Array.ext'
  rw [Array.toList_extract]
  show ((row8 S).drop (i * 4)).take (i * 4 + 4 - i * 4) = row8 (w4 S i)
  apply List.ext_getElem?
  intro j
  rw [List.getElem?_take, show i * 4 + 4 - i * 4 = 4 by omega]
  by_cases hj : j < 4
  · rw [if_pos hj, List.getElem?_drop, row8_val _ _ (by omega), row8_val _ _ (show j < 4 from hj)]
    congr 3
    rw [show i * 4 + j = 4 * i + j by omega]
    match j, hj with
    | 0, _ => rfl
    | 1, _ => rfl
    | 2, _ => rfl
    | 3, _ => rfl
  · rw [if_neg hj, List.getElem?_eq_none (by rw [row8_len]; show 4 ≤ j; omega)]
theorem aggW : ∀ w, (isAgg 82).run Tryd.prog w = .ok true w := fun _ => by kernel_rfl
theorem zeroWs (w : World) : (zeroValue 83).run Tryd.prog w = .ok (.agg (row8 (List.replicate 240 0)).toArray) w := by kernel_rfl
theorem infoWs : (Tryd.prog.info? 83).map (·.size) = some 240 := by kernel_rfl
set_option maxRecDepth 100000 in
set_option maxHeartbeats 4000000 in
theorem psched_any (K : List Nat) (hK : Bytes 32 K) (w : World) (hx : TabX w) :
    Calls Tryd.prog 32 #[.agg (row8 K).toArray] w fun e w' => e = .returned (.agg (row8 (sched K)).toArray) ∧ Below w.heap.size w w' := by
  obtain ⟨S, hS⟩ : ∃ S, S = sched K := ⟨_, rfl⟩
  rw [← hS]
  have bS : Bytes 240 S := by rw [hS]; exact sched_bytes hK.2
  have HW := Lib.hid (fun i (h : i < 8) => (show w4 S i = w4 K i by rw [hS]; exact w4_key K i h))
  have HN := Lib.hid (fun i k (h8 : 8 ≤ i) (h60 : i < 60) (hk : k < 4) => (show gb S (4 * (i - 8) + k) ^^^ gb (wt S i) k = gb S (4 * i + k) by rw [hS]; exact (wt_next K i k h8 h60 hk).symm))
  obtain ⟨C0, hC0⟩ : ∃ C0, C0 = row8 (List.replicate 240 0) := ⟨_, rfl⟩
  have hzw : ∀ w, (zeroValue 83).run Tryd.prog w = .ok (.agg C0.toArray) w := by rw [hC0]; exact zeroWs
  have hzk : ∀ w, (zeroValue 50).run Tryd.prog w = .ok (.agg C0.toArray) w := by rw [hC0]; exact zeroK
  have hc0 : C0.length = 240 := by rw [hC0, row8_len, List.length_replicate]
  obtain ⟨D0, hD0⟩ : ∃ D0, D0 = row8 [0, 0, 0, 0] := ⟨_, rfl⟩
  have hz4 : ∀ w, (zeroValue 82).run Tryd.prog w = .ok (.agg D0.toArray) w := by rw [hD0]; exact zeroWd
  have hd0 : D0.length = 4 := by rw [hD0]; rfl
  have HC := Lib.hid hC0
  have w1 := (Below.refl w.heap.size w).alloc (Nat.le_refl _) (.cells (row8 K).toArray 23)
  have w2 := w1.alloc w1.size (.cells C0.toArray 50)
  have w3 := w2.alloc w2.size (.cells C0.toArray 83)
  have K0 := Lib.hid (((Blk.new w 23 (row8 K) _ rfl).alloc (.cells C0.toArray 50)).alloc (.cells C0.toArray 83))
  have R0 := Lib.hid ((Blk.new (w.alloc (.cells (row8 K).toArray 23)) 50 C0 (w.heap.size + 1) (by simp)).alloc (.cells C0.toArray 83))
  have N0 := Lib.hid (Blk.new ((w.alloc (.cells (row8 K).toArray 23)).alloc (.cells C0.toArray 50)) 83 C0 (w.heap.size + 1 + 1) (by simp))
  have B0 := Lib.hid w3
  have HK := Lib.hid hK
  have HBS := Lib.hid bS
  have HX := Lib.hid hx
  clear hC0 hD0 w1 w2 w3 hK bS hS hx
  go_enter Tryd.func32, Tryd.ntmps32
  go_upto_region 3 with (fail)
  go_loopw [11] (fun x wr => ∃ i : Nat, i ≤ 8 ∧ x = .int .i64 (i : Int) ∧ Blk wr w.heap.size 23 (row8 K) ∧ Blk wr (w.heap.size + 1) 50 C0 ∧ Blk wr (w.heap.size + 1 + 1) 83 (row8 (swd S (4 * i))) ∧ Below w.heap.size w wr) (fun x _ => 8 - (intOf x).toNat)
  case atStart => exact ⟨0, by omega, rfl, K0.out, R0.out, by rw [Nat.mul_zero, swd_zero, ← HC.out]; exact N0.out, B0.out⟩
  case round =>
    clear K0 R0 N0 B0
    obtain ⟨i, hi, rfl, k0, r0, n0, b0⟩ := hrel
    by_cases h8 : i < 8
    · have h8I : (i : Int) < 8 := by omega
      have K0 := Lib.hid k0
      have R0 := Lib.hid r0
      have N0 := Lib.hid n0
      have B0 := Lib.hid b0
      clear k0 r0 n0 b0
      have q0 : (0 : Int) ≤ 4 * (i : Int) := by omega
      have q1 : 4 * (i : Int) ≤ 32 := by omega
      have q2 : (4 * (i : Int)).toNat = 4 * i := by omega
      have q3 : (32 : Nat) ≠ 4 * i := by omega
      have q4 : (i : Int) < 60 := by omega
      have HSP := Lib.hid (show splice (row8 (swd S (4 * i))) (i * 4) (row8 (((K.drop (4 * i)).take (32 - 4 * i)).take 4)) = row8 (swd S (4 * (i + 1))) by
        rw [show ((K.drop (4 * i)).take (32 - 4 * i)).take 4 = w4 S i by
          rw [HW.out i h8, List.take_take, Nat.min_eq_left (by omega)]
          refine bytes_ext (n := 4) (by rw [List.length_take, List.length_drop, HK.out.1]; omega) rfl fun j hj => ?_
          rw [gb_take _ _ _ hj, gb_drop]
          match j, hj with
          | 0, _ => rfl
          | 1, _ => rfl
          | 2, _ => rfl
          | 3, _ => rfl]
        exact swd_splice S i (by omega))
      have HMN := Lib.hid (show 4 = min ((K.drop (4 * i)).take (32 - 4 * i)).length 4 by rw [List.length_take, List.length_drop, HK.out.1]; omega)
      have HLE := Lib.hid (show i * 4 + 4 ≤ (row8 (swd S (4 * i))).length by rw [row8_len, swd_len]; omega)
      go_upto_region 5 with (fail)
      refine wp_region_g (by kernel_rfl) 6 (by decide) (by kernel_rfl) (by kernel_rfl) (by kernel_rfl) (wr.heap.size) (Nat.le_refl _) [.val (.int .i64 (i : Int)), .val (.pointer (some ⟨w.heap.size + 1 + 1, i * 4, none⟩)), .val (.slice (some ⟨w.heap.size + 1 + 1, i * 4, none⟩) 4 4), .val (.int .i64 (i : Int)), .val (.int .i64 (4 * (i : Int))), .val (.slice (some ⟨w.heap.size, 4 * i, none⟩) (32 - 4 * i) (32 - 4 * i))] (fun _ => 7) ?_ ?_
      · refine ⟨?_, ?_, ?_, ?_, ?_, ?_, trivial⟩
        · intro a w' hF hB hd
          have e4 : a.eval (.tmp 4) = .int .i64 (i : Int) := hF 4 (by decide +kernel)
          exact doesG_val rfl (ex_move rfl e4) rfl rfl
        · intro a w' hF hB hd
          have e3 : a.eval (.tmp 3) = .pointer (some ⟨w.heap.size + 1 + 1, 0, none⟩) := hF 3 (by decide +kernel)
          have e14 : a.eval (.tmp 14) = .int .i64 (i : Int) := hd 0 (by decide +kernel) (.inr (by decide))
          exact doesG_val rfl (v := .pointer (some ⟨w.heap.size + 1 + 1, i * 4, none⟩)) (by unfold execOp; simp only [e3, e14]; go_simp) rfl rfl
        · intro a w' hF hB hd
          have e15 : a.eval (.tmp 15) = .pointer (some ⟨w.heap.size + 1 + 1, i * 4, none⟩) := hd 1 (by decide +kernel) (.inr (by decide))
          exact doesG_val rfl (v := .slice (some ⟨w.heap.size + 1 + 1, i * 4, none⟩) 4 4) (by unfold execOp; simp only [e15]; go_simp) rfl rfl
        · intro a w' hF hB hd
          have e4 : a.eval (.tmp 4) = .int .i64 (i : Int) := hF 4 (by decide +kernel)
          exact doesG_val rfl (ex_move rfl e4) rfl rfl
        · intro a w' hF hB hd
          have e17 : a.eval (.tmp 17) = .int .i64 (i : Int) := hd 3 (by decide +kernel) (.inr (by decide))
          exact doesG_val rfl (v := .int .i64 (4 * (i : Int))) (by unfold execOp; simp only [e17]; go_simp; rw [IntKind.wrap_i64] <;> omega) rfl rfl
        · intro a w' hF hB hd
          have e1 : a.eval (.tmp 1) = .pointer (some ⟨w.heap.size, 0, none⟩) := hF 1 (by decide +kernel)
          have e18 : a.eval (.tmp 18) = .int .i64 (4 * (i : Int)) := hd 4 (by decide +kernel) (.inr (by decide))
          exact doesG_val rfl (v := .slice (some ⟨w.heap.size, 4 * i, none⟩) (32 - 4 * i) (32 - 4 * i)) (by unfold execOp; simp only [Option.map_some, Option.map_none, e1, e18]; go_simp; try omega) rfl rfl
      · intro vs w6 hB hv hap
        have e16 : vs 2 = .slice (some ⟨w.heap.size + 1 + 1, i * 4, none⟩) 4 4 := hv 2 (by decide) (by decide)
        have e19 : vs 5 = .slice (some ⟨w.heap.size, 4 * i, none⟩) (32 - 4 * i) (32 - 4 * i) := hv 5 (by decide) (by decide)
        simp only [List.take_succ_cons, List.take_zero, List.drop_succ_cons, List.drop_zero, putOps, Act.put, List.setIfInBounds_toArray, List.set_cons_zero, List.set_cons_succ, e16, e19]
        have K6 := Lib.hid (K0.out.below hB K0.out.lt)
        have X6 := Lib.hid (blk_rd_at K6.out HK.out.2 (4 * i) (32 - 4 * i) (32 - 4 * i) (by rw [HK.out.1]; omega) (Nat.le_refl _) (by rw [HK.out.1]; omega))
        have R6 := Lib.hid (R0.out.below hB R0.out.lt)
        have N6 := Lib.hid (N0.out.below hB N0.out.lt)
        have B6 := Lib.hid (B0.out.on hB)
        clear hv hap e16 e19 hB
        generalize vs 0 = v0 at *
        generalize vs 1 = v1 at *
        generalize vs 3 = v3 at *
        generalize vs 4 = v4 at *
        go_wp2_with ((with_reducible show wpList _ _ _ _ _ _); refine wpList_copy_blk rfl (.tmp 16) (.tmp 19) 42 42 rfl Tryd.underlying42 (w.heap.size + 1 + 1) (i * 4) 4 4 83 (row8 (swd S (4 * i))) N6.out (some ⟨w.heap.size + 1 + 1, i * 4, none⟩) rfl (.slice (some ⟨w.heap.size, 4 * i, none⟩) (32 - 4 * i) (32 - 4 * i)) rfl ((K.drop (4 * i)).take (32 - 4 * i)) X6.out 4 HMN.out (fun _ => rfl) HLE.out ?_; intro w7 r7 g7; rw [HSP.out] at r7; have N7 := Lib.hid r7; have K7 := Lib.hid (K6.out.grown g7 (fun q => by have e : w.heap.size = w.heap.size + 1 + 1 := Option.some.inj q; omega)); have R7 := Lib.hid (R6.out.grown g7 (fun q => by have e : w.heap.size + 1 = w.heap.size + 1 + 1 := Option.some.inj q; omega)); have B7 := Lib.hid (B6.out.grown g7 B6.out.size (fun j hj => by have e : w.heap.size + 1 + 1 = j := Option.some.inj hj; omega)); clear r7 g7)
        exact ⟨⟨i + 1, by omega, by go_num, K7.out, R7.out, N7.out, B7.out⟩, by simp [intOf]; omega⟩
    · have h8I : ¬ (i : Int) < 8 := by omega
      obtain rfl : i = 8 := by omega
      have R0 := Lib.hid r0
      have N0 := Lib.hid n0
      have B0 := Lib.hid b0
      clear k0 r0 n0 b0
      go_upto_region 8 with (fail)
      go_loopw [5] (fun x wr => ∃ i : Nat, 8 ≤ i ∧ i ≤ 60 ∧ x = .int .i64 (i : Int) ∧ Blk wr (w.heap.size + 1) 50 C0 ∧ Blk wr (w.heap.size + 1 + 1) 83 (row8 (swd S (4 * i))) ∧ Below w.heap.size w wr) (fun x _ => 60 - (intOf x).toNat)
      case atStart => exact ⟨8, by omega, by omega, rfl, R0.out, N0.out, B0.out⟩
      case round =>
        clear R0 N0 B0 h8 h8I hi
        obtain ⟨i, h8, h60, rfl, r0, n0, b0⟩ := hrel
        by_cases hlt : i < 60
        · have hltI : (i : Int) < 60 := by omega
          obtain ⟨Z, hZ⟩ : ∃ Z, Z = chg (w4 S (i - 1)) i := ⟨_, rfl⟩
          have hw4 := w4_bytes HBS.out.2 (i - 1)
          have bZ : Bytes 4 Z := by rw [hZ]; exact chg_bytes hw4 i
          have HNI := Lib.hid (fun k (hk : k < 4) => (show gb Z k ^^^ gb S (4 * (i - 8) + k) = gb S (4 * i + k) by rw [Nat.xor_comm, hZ, ← wt_chg]; exact HN.out i k h8 hlt hk))
          have HCH := Lib.hid (changed_any (w4 S (i - 1)) hw4 i h8 hlt wr (HX.out.below b0))
          rw [← hZ] at HCH
          have Z4 := Lib.hid (show (row8 Z).length = 4 by rw [row8_len]; exact bZ.1)
          have HBZ := Lib.hid bZ
          have W1 := Lib.hid (show (row8 (w4 S (i - 1))).length = 4 from rfl)
          have W8 := Lib.hid (show (row8 (w4 S (i - 8))).length = 4 from rfl)
          have HRG := Lib.hid (range_part n0 ((i - 1) * 4) (row8 (w4 S (i - 1))) (fun j v h => by rw [show (i - 1) * 4 + j = 4 * (i - 1) + j by omega]; exact w4_part S (4 * i) (i - 1) (by omega) (by omega) j v h))
          have HIZ := Lib.hid (inn_zero S Z i hlt bZ.1)
          have HLE := Lib.hid (show i * 4 + (row8 Z).length ≤ (row8 (swd S (4 * i))).length by rw [Z4.out, row8_len, swd_len]; omega)
          have R0 := Lib.hid r0
          have N0 := Lib.hid n0
          have B0 := Lib.hid b0
          have q0 : (0 : Int) ≤ (i : Int) - 1 := by omega
          have q1 : (i : Int) - 1 < 60 := by omega
          have q2 : ((i : Int) - 1).toNat = i - 1 := by omega
          have q3 : (0 : Int) ≤ (i : Int) - 8 := by omega
          have q4 : (i : Int) - 8 < 60 := by omega
          have q5 : ((i : Int) - 8).toNat = i - 8 := by omega
          obtain ⟨Y, hY⟩ : ∃ Y, Y = w4 S (i - 1) := ⟨_, rfl⟩
          rw [← hY] at HCH W1 HRG
          clear hZ bZ hw4 r0 n0 b0 hY
          go_upto_region 12 with (first
            | (refine wpList_load_mid rfl 82 (.tmp 29) rfl (w.heap.size + 1 + 1) ((i - 1) * 4) rfl (row8 Y) _ HRG.out Tryd.underlying82 rfl (by rw [W1.out]; exact infoW) ?_)
            | (go_at_call 47; (with_reducible refine HCH.out.mono ?_); rintro e wv ⟨rfl, b4⟩; have R4 := Lib.hid (R0.out.below b4 R0.out.lt); have N4 := Lib.hid (N0.out.below b4 N0.out.lt); have B4 := Lib.hid (B0.out.on b4); clear b4)
            | (refine wpList_store_blk rfl 82 (.tmp 33) (.tmp 32) rfl (w.heap.size + 1 + 1) (i * 4) (row8 Z) rfl rfl 83 (row8 (swd S (4 * i))) N4.out HLE.out (by rw [Z4.out]; exact infoW) (row8_one _) ?_; intro w5 b5 g5; rw [HIZ.out] at b5; have N5 := Lib.hid b5; have R5 := Lib.hid (R4.out.grown g5 (fun q => by have e : w.heap.size + 1 = w.heap.size + 1 + 1 := Option.some.inj q; omega)); have B5 := Lib.hid (B4.out.grown g5 B4.out.size (fun k hk => by have e : w.heap.size + 1 + 1 = k := Option.some.inj hk; omega)); have HR8 := Lib.hid (range_part N5.out ((i - 8) * 4) (row8 (w4 S (i - 8))) (fun j v h => inn_old S Z i 0 (i - 8) (by omega) hlt j v h)); clear b5 g5)
            | (refine wpList_load_mid rfl 82 (.tmp 36) rfl (w.heap.size + 1 + 1) ((i - 8) * 4) rfl (row8 (w4 S (i - 8))) _ HR8.out Tryd.underlying82 rfl (by rw [W8.out]; exact infoW) ?_))
          clear HR8 HRG HCH
          go_loopw [38] (fun x wq => ∃ k : Nat, k ≤ 4 ∧ x = .int .i64 (k : Int) ∧ Blk wq (w.heap.size + 1) 50 C0 ∧ Blk wq (w.heap.size + 1 + 1) 83 (row8 (inn S Z i k)) ∧ Below w.heap.size w wq) (fun x _ => 4 - (intOf x).toNat)
          case atStart => exact ⟨0, by omega, rfl, R5.out, N5.out, B5.out⟩
          case round =>
            clear R0 N0 B0 R4 N4 B4 R5 N5 B5
            obtain ⟨k, hk, rfl, r3, n3, b3⟩ := hrel
            by_cases hk4 : k < 4
            · have hk4I : (k : Int) < 4 := by omega
              have hix := run_index_row 82 5 4 (row8 (w4 S (i - 8))).toArray k (.int .u8 ((gb S (4 * (i - 8) + k) : Nat) : Int)) Tryd.underlying82 hk4 info8a agg8a (by
                rw [row8_get _ _ (show k < 4 from hk4)]
                match k, hk4 with
                | 0, _ => rfl
                | 1, _ => rfl
                | 2, _ => rfl
                | 3, _ => rfl)
              have HIC := Lib.hid (show (row8 (inn S Z i k))[i * 4 + k]? = some (.int .u8 ((gb Z k : Nat) : Int)) by
                rw [row8_val _ _ (by rw [inn_len]; omega), inn_get _ _ _ _ _ (by omega), if_neg (by omega), if_pos (by omega), show i * 4 + k - 4 * i = k by omega])
              have HIS := Lib.hid (show (inn S Z i k).set (i * 4 + k) (gb Z k ^^^ gb S (4 * (i - 8) + k)) = inn S Z i (k + 1) by rw [HNI.out k hk4]; exact inn_step S Z i k hlt hk4)
              have R3 := Lib.hid r3
              have N3 := Lib.hid n3
              have B3 := Lib.hid b3
              clear r3 n3 b3
              go_upto_region 14 with (fail)
              refine wp_region_g (by kernel_rfl) 9 (by decide) (by kernel_rfl) (by kernel_rfl) (by kernel_rfl) (wr.heap.size) (Nat.le_refl _) [.val (.int .i64 (i : Int)), .val (.int .i64 (k : Int)), .val (.pointer (some ⟨w.heap.size + 1 + 1, i * 4, none⟩)), .val (.pointer (some ⟨w.heap.size + 1 + 1, i * 4 + k, none⟩)), .val (.int .u8 ((gb Z k : Nat) : Int)), .val (.int .u8 ((gb S (4 * (i - 8) + k) : Nat) : Int)), .val (.int .u8 ((gb Z k ^^^ gb S (4 * (i - 8) + k) : Nat) : Int)), .val (.pointer (some ⟨w.heap.size + 1 + 1, i * 4, none⟩)), .val (.pointer (some ⟨w.heap.size + 1 + 1, i * 4 + k, none⟩))] (fun _ => 10) ?_ ?_
              · refine ⟨?_, ?_, ?_, ?_, ?_, ?_, ?_, ?_, ?_, trivial⟩
                · intro a w' hF hB hd
                  have e5 : a.eval (.tmp 5) = .int .i64 (i : Int) := hF 5 (by decide +kernel)
                  exact doesG_val rfl (ex_move rfl e5) rfl rfl
                · intro a w' hF hB hd
                  have e6 : a.eval (.tmp 6) = .int .i64 (k : Int) := hF 6 (by decide +kernel)
                  exact doesG_val rfl (ex_move rfl e6) rfl rfl
                · intro a w' hF hB hd
                  have e3 : a.eval (.tmp 3) = .pointer (some ⟨w.heap.size + 1 + 1, 0, none⟩) := hF 3 (by decide +kernel)
                  have e42 : a.eval (.tmp 42) = .int .i64 (i : Int) := hd 0 (by decide +kernel) (.inr (by decide))
                  exact doesG_val rfl (v := .pointer (some ⟨w.heap.size + 1 + 1, i * 4, none⟩)) (by unfold execOp; simp only [e3, e42]; go_simp) rfl rfl
                · intro a w' hF hB hd
                  have e44 : a.eval (.tmp 44) = .pointer (some ⟨w.heap.size + 1 + 1, i * 4, none⟩) := hd 2 (by decide +kernel) (.inr (by decide))
                  have e43 : a.eval (.tmp 43) = .int .i64 (k : Int) := hd 1 (by decide +kernel) (.inr (by decide))
                  exact doesG_val rfl (v := .pointer (some ⟨w.heap.size + 1 + 1, i * 4 + k, none⟩)) (by unfold execOp; simp only [e44, e43]; go_simp) rfl rfl
                · intro a w' hF hB hd
                  have e45 : a.eval (.tmp 45) = .pointer (some ⟨w.heap.size + 1 + 1, i * 4 + k, none⟩) := hd 3 (by decide +kernel) (.inr (by decide))
                  have c := (N3.out.below hB N3.out.lt).cell (i * 4 + k) _ HIC.out
                  exact doesG_val rfl (v := .int .u8 ((gb Z k : Nat) : Int)) (by unfold execOp; simp only [e45]; go_simp) rfl rfl
                · intro a w' hF hB hd
                  have e7 : a.eval (.tmp 7) = .int .u8 ((gb S (4 * (i - 8) + k) : Nat) : Int) := hF 7 (by decide +kernel)
                  exact doesG_val rfl (ex_move rfl e7) rfl rfl
                · intro a w' hF hB hd
                  have e46 : a.eval (.tmp 46) = .int .u8 ((gb Z k : Nat) : Int) := hd 4 (by decide +kernel) (.inr (by decide))
                  have e47 : a.eval (.tmp 47) = .int .u8 ((gb S (4 * (i - 8) + k) : Nat) : Int) := hd 5 (by decide +kernel) (.inr (by decide))
                  have hx := u8_xor_nat (gb Z k) (gb S (4 * (i - 8) + k)) (HBZ.out.2 _) (HBS.out.2 _)
                  exact doesG_val rfl (v := .int .u8 ((gb Z k ^^^ gb S (4 * (i - 8) + k) : Nat) : Int)) (by unfold execOp; simp only [e46, e47]; go_simp) rfl rfl
                · intro a w' hF hB hd
                  have e3 : a.eval (.tmp 3) = .pointer (some ⟨w.heap.size + 1 + 1, 0, none⟩) := hF 3 (by decide +kernel)
                  have e42 : a.eval (.tmp 42) = .int .i64 (i : Int) := hd 0 (by decide +kernel) (.inr (by decide))
                  exact doesG_val rfl (v := .pointer (some ⟨w.heap.size + 1 + 1, i * 4, none⟩)) (by unfold execOp; simp only [e3, e42]; go_simp) rfl rfl
                · intro a w' hF hB hd
                  have e49 : a.eval (.tmp 49) = .pointer (some ⟨w.heap.size + 1 + 1, i * 4, none⟩) := hd 7 (by decide +kernel) (.inr (by decide))
                  have e43 : a.eval (.tmp 43) = .int .i64 (k : Int) := hd 1 (by decide +kernel) (.inr (by decide))
                  exact doesG_val rfl (v := .pointer (some ⟨w.heap.size + 1 + 1, i * 4 + k, none⟩)) (by unfold execOp; simp only [e49, e43]; go_simp) rfl rfl
              · intro vs w6 hB hv hap
                have e48 : vs 6 = .int .u8 ((gb Z k ^^^ gb S (4 * (i - 8) + k) : Nat) : Int) := hv 6 (by decide) (by decide)
                have e50 : vs 8 = .pointer (some ⟨w.heap.size + 1 + 1, i * 4 + k, none⟩) := hv 8 (by decide) (by decide)
                simp only [List.take_succ_cons, List.take_zero, List.drop_succ_cons, List.drop_zero, putOps, Act.put, List.setIfInBounds_toArray, List.set_cons_zero, List.set_cons_succ, e48, e50]
                have c6 := (N3.out.below hB N3.out.lt).cell (i * 4 + k) _ HIC.out
                have f6 := (N3.out.below hB N3.out.lt).free (i * 4 + k)
                have N6 := Lib.hid ((N3.out.below hB N3.out.lt).set (i * 4 + k) (.int .u8 ((gb Z k ^^^ gb S (4 * (i - 8) + k) : Nat) : Int)))
                have R6 := Lib.hid ((R3.out.below hB R3.out.lt).other ⟨w.heap.size + 1 + 1, i * 4 + k, none⟩ (.int .u8 ((gb Z k ^^^ gb S (4 * (i - 8) + k) : Nat) : Int)) (by simp <;> omega))
                have B6 := Lib.hid ((B3.out.on hB).setCell (p := ⟨w.heap.size + 1 + 1, i * 4 + k, none⟩) (by simp <;> omega) (.int .u8 ((gb Z k ^^^ gb S (4 * (i - 8) + k) : Nat) : Int)))
                clear hv hap e48 e50 hB N3 R3 B3
                generalize vs 0 = v0 at *
                generalize vs 1 = v1 at *
                generalize vs 2 = v2 at *
                generalize vs 3 = v3 at *
                generalize vs 4 = v4 at *
                generalize vs 5 = v5 at *
                generalize vs 7 = v7 at *
                go_wp2_with fail
                rw [row8_set, HIS.out] at N6
                exact ⟨⟨k + 1, by omega, by go_num, R6.out, N6.out, B6.out⟩, by simp [intOf]; omega⟩
            · have hk4I : ¬ (k : Int) < 4 := by omega
              obtain rfl : k = 4 := by omega
              rw [inn_all] at n3
              have R3 := Lib.hid r3
              have N3 := Lib.hid n3
              have B3 := Lib.hid b3
              clear r3 n3 b3
              go_wp2_with fail
              exact ⟨⟨i + 1, by omega, by omega, by go_num, R3.out, N3.out, B3.out⟩, by simp [intOf]; omega⟩
        · have hltI : ¬ (i : Int) < 60 := by omega
          obtain rfl : i = 60 := by omega
          rw [show 4 * 60 = 240 from rfl, swd_all HBS.out.1] at n0
          have S240 := Lib.hid (show (row8 S).length = 240 by rw [row8_len]; exact HBS.out.1)
          obtain ⟨kb, hkb⟩ : ∃ b, b = wr.heap.size := ⟨_, rfl⟩
          have hkl : w.heap.size + 1 + 1 < kb := by rw [hkb]; exact n0.lt
          have HKB := Lib.hid hkl
          have N1 := Lib.hid (n0.alloc (.cells C0.toArray 50))
          have R1 := Lib.hid (r0.alloc (.cells C0.toArray 50))
          have B1 := Lib.hid (b0.alloc b0.size (.cells C0.toArray 50))
          have M1 := Lib.hid (Blk.new wr 50 C0 kb hkb)
          have HKE := Lib.hid hkb
          clear r0 n0 b0 hkl hkb
          go_upto_region 18 with (refine wpList_load_mid rfl 83 (.tmp 3) rfl (w.heap.size + 1 + 1) 0 rfl (row8 S) _ N1.out.range Tryd.underlying83 rfl (by rw [S240.out]; exact infoWs) ?_)
          rw [← HKE.out]
          go_loopw [53] (fun x wq => ∃ i : Nat, i ≤ 60 ∧ x = .int .i64 (i : Int) ∧ Blk wq (w.heap.size + 1) 50 C0 ∧ Blk wq kb 50 (row8 (swd S (4 * i))) ∧ Below w.heap.size w wq) (fun x _ => 60 - (intOf x).toNat)
          case atStart => exact ⟨0, by omega, rfl, R1.out, by rw [Nat.mul_zero, swd_zero, ← HC.out]; exact M1.out, B1.out⟩
          case round =>
            clear N1 R1 B1 M1 HKE
            obtain ⟨i, hi, rfl, r3, n3, b3⟩ := hrel
            by_cases hlt : i < 60
            · have hltI : (i : Int) < 60 := by omega
              have hix := run_index_part (P := Tryd.prog) 83 82 60 4 (row8 S).toArray (row8 (w4 S i)).toArray i Tryd.underlying83 hlt infoW aggW (w4_extract S HBS.out.1 i hlt)
              have W4 := Lib.hid (show (row8 (w4 S i)).length = 4 from rfl)
              have HBW := Lib.hid (w4_bytes HBS.out.2 i)
              have HOF := Lib.hid (show i / 4 * 16 + 4 * (i % 4) = i * 4 by omega)
              have HMN := Lib.hid (show 4 = min (((w4 S i).drop 0).take 4).length (16 - 4 * (i % 4)) by
                have : (((w4 S i).drop 0).take 4).length = 4 := rfl
                omega)
              have HLE := Lib.hid (show i * 4 + 4 ≤ (row8 (swd S (4 * i))).length by rw [row8_len, swd_len]; omega)
              have HSP := Lib.hid (show splice (row8 (swd S (4 * i))) (i * 4) (row8 ((((w4 S i).drop 0).take 4).take 4)) = row8 (swd S (4 * (i + 1))) from swd_splice S i hlt)
              obtain ⟨tb, htb⟩ : ∃ b, b = wr.heap.size := ⟨_, rfl⟩
              have T3 := Lib.hid (Blk.new wr 82 D0 tb htb)
              have R3 := Lib.hid (r3.alloc (.cells D0.toArray 82))
              have N3 := Lib.hid (n3.alloc (.cells D0.toArray 82))
              have B3 := Lib.hid (b3.alloc b3.size (.cells D0.toArray 82))
              have HTB := Lib.hid (show kb < tb by rw [htb]; exact n3.lt)
              have HTE := Lib.hid htb
              have HDE := Lib.hid (show (row8 (w4 S i)).length = D0.length by rw [hd0]; rfl)
              obtain ⟨WW, hWW⟩ : ∃ W, W = w4 S i := ⟨_, rfl⟩
              rw [← hWW] at hix W4 HBW HMN HSP HDE
              have HWW := Lib.hid hWW
              have d0 : ((((i : Int) / 4)).toNat) = i / 4 := by omega
              clear r3 n3 b3 htb hWW
              go_upto_region 20 with (refine wpList_store_blk rfl 82 (.tmp 10) (.tmp 56) rfl wr.heap.size 0 (row8 WW) rfl rfl 82 D0 (by rw [← HTE.out]; exact T3.out) (by rw [HDE.out]; omega) (by rw [W4.out]; exact infoW) (row8_one _) ?_; intro w5 b5 g5; rw [← HTE.out] at b5 g5; rw [splice_all _ _ HDE.out] at b5; have T5 := Lib.hid b5; have N5 := Lib.hid (N3.out.grown g5 (fun q => by have e : kb = tb := Option.some.inj q; have := HTB.out; omega)); have R5 := Lib.hid (R3.out.grown g5 (fun q => by have e : w.heap.size + 1 = tb := Option.some.inj q; have := HTB.out; have := HKB.out; omega)); have B5 := Lib.hid (B3.out.grown g5 B3.out.size (fun k hk => by have e : tb = k := Option.some.inj hk; have := HTB.out; have := HKB.out; omega)); clear b5 g5)
              rw [← HTE.out]
              clear T3 N3 R3 B3
              have f1 : (0 : Int) ≤ 4 * ((i : Int) % 4) := by omega
              have f2 : 4 * ((i : Int) % 4) ≤ 16 := by omega
              have f3 : (4 * ((i : Int) % 4)).toNat = 4 * (i % 4) := by omega
              have f4 : (16 : Nat) ≠ 4 * (i % 4) := by omega
              refine wp_region_g (by kernel_rfl) 8 (by decide) (by kernel_rfl) (by kernel_rfl) (by kernel_rfl) (w5.heap.size) (Nat.le_refl _) [.val (.int .i64 (i : Int)), .val (.int .i64 ((i / 4 : Nat) : Int)), .val (.pointer (some ⟨kb, i / 4 * 16, none⟩)), .val (.int .i64 (i : Int)), .val (.int .i64 ((i % 4 : Nat) : Int)), .val (.int .i64 ((4 * (i % 4) : Nat) : Int)), .val (.slice (some ⟨kb, i / 4 * 16 + 4 * (i % 4), none⟩) (16 - 4 * (i % 4)) (16 - 4 * (i % 4))), .val (.slice (some ⟨tb, 0, none⟩) 4 4)] (fun _ => 9) ?_ ?_
              · refine ⟨?_, ?_, ?_, ?_, ?_, ?_, ?_, ?_, trivial⟩
                · intro a w' hF hB hd
                  have e9 : a.eval (.tmp 9) = .int .i64 (i : Int) := hF 9 (by decide +kernel)
                  exact doesG_val rfl (ex_move rfl e9) rfl rfl
                · intro a w' hF hB hd
                  have e57 : a.eval (.tmp 57) = .int .i64 (i : Int) := hd 0 (by decide +kernel) (.inr (by decide))
                  exact doesG_val rfl (v := .int .i64 ((i / 4 : Nat) : Int)) (by unfold execOp; simp only [e57]; go_simp; rw [IntKind.wrap_i64] <;> omega) rfl rfl
                · intro a w' hF hB hd
                  have e8 : a.eval (.tmp 8) = .pointer (some ⟨kb, 0, none⟩) := hF 8 (by decide +kernel)
                  have e58 : a.eval (.tmp 58) = .int .i64 ((i / 4 : Nat) : Int) := hd 1 (by decide +kernel) (.inr (by decide))
                  exact doesG_val rfl (v := .pointer (some ⟨kb, i / 4 * 16, none⟩)) (by unfold execOp; simp only [e8, e58]; go_simp; intro h; omega) rfl rfl
                · intro a w' hF hB hd
                  have e9 : a.eval (.tmp 9) = .int .i64 (i : Int) := hF 9 (by decide +kernel)
                  exact doesG_val rfl (ex_move rfl e9) rfl rfl
                · intro a w' hF hB hd
                  have e60 : a.eval (.tmp 60) = .int .i64 (i : Int) := hd 3 (by decide +kernel) (.inr (by decide))
                  exact doesG_val rfl (v := .int .i64 ((i % 4 : Nat) : Int)) (by unfold execOp; simp only [e60]; go_simp; exact Int.tmod_eq_emod_of_nonneg (by omega)) rfl rfl
                · intro a w' hF hB hd
                  have e61 : a.eval (.tmp 61) = .int .i64 ((i % 4 : Nat) : Int) := hd 4 (by decide +kernel) (.inr (by decide))
                  exact doesG_val rfl (v := .int .i64 ((4 * (i % 4) : Nat) : Int)) (by unfold execOp; simp only [e61]; go_simp; rw [IntKind.wrap_i64] <;> omega) rfl rfl
                · intro a w' hF hB hd
                  have e59 : a.eval (.tmp 59) = .pointer (some ⟨kb, i / 4 * 16, none⟩) := hd 2 (by decide +kernel) (.inr (by decide))
                  have e62 : a.eval (.tmp 62) = .int .i64 ((4 * (i % 4) : Nat) : Int) := hd 5 (by decide +kernel) (.inr (by decide))
                  exact doesG_val rfl (v := .slice (some ⟨kb, i / 4 * 16 + 4 * (i % 4), none⟩) (16 - 4 * (i % 4)) (16 - 4 * (i % 4))) (by unfold execOp; simp only [Option.map_some, Option.map_none, e59, e62]; go_simp; try omega) rfl rfl
                · intro a w' hF hB hd
                  have e10 : a.eval (.tmp 10) = .pointer (some ⟨tb, 0, none⟩) := hF 10 (by decide +kernel)
                  exact doesG_val rfl (v := .slice (some ⟨tb, 0, none⟩) 4 4) (by unfold execOp; simp only [e10]; go_simp) rfl rfl
              · intro vs w6 hB hv hap
                have e63 : vs 6 = .slice (some ⟨kb, i / 4 * 16 + 4 * (i % 4), none⟩) (16 - 4 * (i % 4)) (16 - 4 * (i % 4)) := hv 6 (by decide) (by decide)
                have e64 : vs 7 = .slice (some ⟨tb, 0, none⟩) 4 4 := hv 7 (by decide) (by decide)
                simp only [List.take_succ_cons, List.take_zero, List.drop_succ_cons, List.drop_zero, putOps, Act.put, List.setIfInBounds_toArray, List.set_cons_zero, List.set_cons_succ, e63, e64]
                have X6 := Lib.hid (blk_rd_at (T5.out.below hB T5.out.lt) HBW.out.2 0 4 4 (by rw [HBW.out.1]; omega) (Nat.le_refl _) (by rw [HBW.out.1]; omega))
                have R6 := Lib.hid (R5.out.below hB R5.out.lt)
                have N6 := Lib.hid (N5.out.below hB N5.out.lt)
                have B6 := Lib.hid (B5.out.on hB)
                clear hv hap e63 e64 hB
                generalize vs 0 = v0 at *
                generalize vs 1 = v1 at *
                generalize vs 2 = v2 at *
                generalize vs 3 = v3 at *
                generalize vs 4 = v4 at *
                generalize vs 5 = v5 at *
                go_wp2_with ((with_reducible show wpList _ _ _ _ _ _); refine wpList_copy_blk rfl (.tmp 63) (.tmp 64) 42 42 rfl Tryd.underlying42 kb (i * 4) (16 - 4 * (i % 4)) (16 - 4 * (i % 4)) 50 (row8 (swd S (4 * i))) N6.out (some ⟨kb, i / 4 * 16 + 4 * (i % 4), none⟩) rfl (.slice (some ⟨tb, 0, none⟩) 4 4) rfl ((WW.drop 0).take 4) X6.out 4 HMN.out (fun _ => by rw [HOF.out]) HLE.out ?_; intro w7 r7 g7; rw [HSP.out] at r7; have N7 := Lib.hid r7; have R7 := Lib.hid (R6.out.grown g7 (fun q => by have e : w.heap.size + 1 = kb := Option.some.inj q; have := HKB.out; omega)); have B7 := Lib.hid (B6.out.grown g7 B6.out.size (fun j hj => by have e : kb = j := Option.some.inj hj; have := HKB.out; omega)); clear r7 g7)
                exact ⟨⟨i + 1, by omega, by go_num, R7.out, N7.out, B7.out⟩, by simp [intOf]; omega⟩
            · have hltI : ¬ (i : Int) < 60 := by omega
              obtain rfl : i = 60 := by omega
              rw [show 4 * 60 = 240 from rfl, swd_all HBS.out.1] at n3
              have R3 := Lib.hid r3
              have N3 := Lib.hid n3
              have B3 := Lib.hid b3
              clear r3 n3 b3
              go_wp2_with (first
                | (refine wpList_load_mid rfl 50 (.tmp 8) rfl kb 0 rfl (row8 S) _ N3.out.range Tryd.underlying50 rfl (by rw [S240.out]; exact info240) ?_)
                | (refine wpList_store_mid rfl 50 (.tmp 2) (.tmp 67) rfl (w.heap.size + 1) 0 (row8 S).toArray rfl rfl (R3.out.there _ (by rw [List.size_toArray, S240.out, hc0])) (by rw [List.size_toArray, S240.out]; exact info240) (row8_one _) ?_))
              have fin := R3.out.whole (row8 S) (by rw [S240.out, hc0])
              exact bodyPost_ret (v := .agg (row8 S).toArray) (results_mid rfl _ _ (w.heap.size + 1) (row8 S) _ rfl fin.range Tryd.underlying50 rfl (by rw [S240.out]; exact info240)) rfl ⟨rfl, below_setCells (w.heap.size + 1) (by omega) _ 0 _ B3.out⟩
theorem fold_set : ∀ (L : List Value) (k : Nat) (A : List Value), k + L.length ≤ A.length → ((L.zipIdx k).foldl (fun cs (p : Value × Nat) => cs.setIfInBounds (0 + p.2) p.1) A.toArray).toList = A.take k ++ L ++ A.drop (k + L.length)
  | [], k, A, _ => by simp
  | x :: L, k, A, h => by
    simp only [List.length_cons] at h
    have e := fold_set L (k + 1) (A.set k x) (by rw [List.length_set]; omega)
    rw [List.zipIdx_cons, List.foldl_cons]
    have e2 : (A.toArray.setIfInBounds (0 + k) x) = (A.set k x).toArray := by simp
    show (List.foldl _ (A.toArray.setIfInBounds (0 + k) x) _).toList = _
    rw [e2, e]
    have h3 := splice_cons A k x L (by omega)
    unfold splice at h3
    rw [List.append_assoc, ← h3, List.append_assoc]
theorem fill_one (place : Nat → Option (Nat × Nat)) (n : Nat) (hp : place 0 = some (0, n)) (Z : List Value) (hZ : Z.length = n) (L : List Value) (hL : L.length = n) : Instr.fill place Z.toArray [(0, .agg L.toArray)] = some L.toArray := by
  unfold Instr.fill
  rw [hp]
  have hc : (Value.agg L.toArray).cells = L.toArray := rfl
  simp only [hc]
  rw [if_neg (by simp; omega)]
  unfold Instr.fill
  congr 1
  apply Array.ext'
  have e := fold_set L 0 Z (by omega)
  rw [List.take_zero, List.nil_append, List.drop_eq_nil_of_le (by omega), List.append_nil] at e
  rw [← Array.foldl_toList, Array.toList_zipIdx]
  exact e
theorem built_cph (L : List Value) (hL : L.length = 240) : Tryd.prog.built 61 [(0, .agg L.toArray)] = some L.toArray := by
  have e : Tryd.prog.built 61 [(0, .agg L.toArray)] = Instr.fill (#[(0, 240)][·]?) (row8 (List.replicate 240 0)).toArray [(0, .agg L.toArray)] := by kernel_rfl
  rw [e]
  exact fill_one _ 240 rfl _ (by rw [row8_len, List.length_replicate]) L hL
theorem infoKeyP : (Tryd.prog.info? 23).map (·.size) = some 32 := by kernel_rfl
set_option maxRecDepth 100000 in
theorem cph_new (K : List Nat) (hK : Bytes 32 K) (w : World) (hx : TabX w) :
    Calls Tryd.prog 22 #[.agg (row8 K).toArray] w fun e w' => ∃ c, w.heap.size ≤ c ∧ e = .returned (.pointer (some ⟨c, 0, none⟩)) ∧ Cph w' c K ∧ Below w.heap.size w w' := by
  obtain ⟨S, hS⟩ : ∃ S, S = sched K := ⟨_, rfl⟩
  have HSC := Lib.hid (fun W (hW : Below w.heap.size w W) => psched_any K hK W (hx.below hW))
  have S240 := Lib.hid (show (row8 S).length = 240 by rw [hS, row8_len]; exact (sched_bytes hK.2).1)
  have hbd := built_cph (row8 S) S240.out
  have HBD := Lib.hid hbd
  rw [← hS] at HSC
  have N0 := Lib.hid (Blk.new w 23 (row8 K) _ rfl)
  have B0 := Lib.hid ((Below.refl w.heap.size w).alloc (Nat.le_refl _) (.cells (row8 K).toArray 23))
  have K32 := Lib.hid (show (row8 K).length = 32 by rw [row8_len]; exact hK.1)
  have HS := Lib.hid hS
  have HK := Lib.hid hK
  clear hS hbd hx hK
  go_enter Tryd.func22, Tryd.ntmps22
  go_wp2_with (first
    | (refine wpList_load_mid rfl 23 (.tmp 1) rfl w.heap.size 0 rfl (row8 K) _ N0.out.range Tryd.underlying23 rfl (by rw [K32.out]; exact infoKeyP) ?_)
    | (go_at_call 32; (with_reducible refine (HSC.out _ B0.out).mono ?_); rintro e w4 ⟨rfl, b4⟩; have B4 := Lib.hid (B0.out.on b4); clear b4)
    | (refine wpList_buildTo rfl 61 _ rfl (some 5) rfl (row8 S).toArray (Eq.trans (b := Tryd.prog.built 61 [(0, .agg (row8 S).toArray)]) (by kernel_rfl) HBD.out) ?_))
  go_ret
  refine ⟨w4.heap.size, B4.out.size, rfl, ⟨HK.out, ?_⟩, B4.out.alloc B4.out.size _⟩
  rw [← HS.out]
  exact Blk.new w4 61 (row8 S) _ rfl
end Go.Proofs.YtjemajenfkjelaaDoor
