/- Noughts behind bytes, and bytes that are nought: contracts of package octet and of the document's answer. Own work. -/
import Derived.Test.YtngflmdlgaeokaaNumCalls
import Derived.Laws.CopyOwn
namespace Go.Proofs.Ytngflmdlgaeokaa
open Go.RowKit
theorem own_blk {w : World} {base g n : Nat} {l : List Nat} (h : w.ownsRow base 5 1 (.slice (some ⟨g, 0, none⟩) n n) n (row8 l)) : Blk w g 5 (row8 l) := by
  rcases h.2 with ⟨e, _⟩ | ⟨g', cap, cur, e, _, hh, _, _, hs, ht⟩
  · cases e
  · injection e with e1 e2 e3
    injection e1 with e1
    injection e1 with e1
    subst e1; subst e3
    unfold Blk
    rw [hh, ← ht]
    congr 2
    apply Array.toList_inj.1
    exact (List.take_of_length_le (by rw [Array.length_toList, hs]; exact Nat.le_refl _)).symm
theorem blk_own {w : World} {base g : Nat} {l : List Nat} (h : Blk w g 5 (row8 l)) (hb : base ≤ g) (hl : ∀ k, gb l k < 256) (hf : l.length ≤ 140737488351232) : Own w base (.slice (some ⟨g, 0, none⟩) l.length l.length) l := by
  refine ⟨⟨by rw [row8_len, Nat.mul_one], .inr ⟨g, _, _, rfl, hb, h, Nat.le_refl _, by unfold maxLen; omega, ?_, ?_⟩⟩, hl, hf⟩
  · simp [row8_len]
  · simp [← row8_len l]
theorem infoSize : (Try.prog.info? 5).map (·.size) = some 1 := by kernel_rfl
/-- l, and as many noughts behind it that it has n. -/
def padTo (l : List Nat) (n : Nat) : List Nat := l ++ List.replicate (n - l.length) 0
theorem padTo_len (l : List Nat) (n : Nat) (h : l.length ≤ n) : (padTo l n).length = n := by unfold padTo; rw [List.length_append, List.length_replicate]; omega
theorem zeros_byte (n k : Nat) : gb (List.replicate n 0) k < 256 := (bytes_zero n).2 k
theorem padTo_byte (l : List Nat) (n : Nat) (h : ∀ k, gb l k < 256) (k : Nat) : gb (padTo l n) k < 256 := gb_app l _ h (zeros_byte _) k
theorem row8_zeros (n : Nat) : row8 (List.replicate n 0) = List.replicate n (.int .u8 0) := by unfold row8; rw [List.map_replicate]; rfl
theorem pad_splice (l : List Nat) (n : Nat) : splice (row8 (List.replicate n 0)) 0 (row8 l) = row8 (padTo l n) := by
  unfold splice padTo
  rw [row8_app, List.take_zero, List.nil_append, Nat.zero_add, row8_len]
  congr 1
  rw [row8_zeros, row8_zeros, List.drop_replicate]
set_option maxHeartbeats 400000 in
theorem pad_arg (w : World) (v : Value) (l : List Nat) (n : Int) (_h : Rd w v l) (hn : n < 0 ∨ 65536 < n) : Calls Try.prog 17 #[v, .int .i64 n] w fun e w' => e = .returned (.tuple #[.slice none 0 0, .int .i64 2]) ∧ Below w.heap.size w w' := by
  go_enter Try.func17, Try.ntmps17
  rcases hn with hn | hn
  · go_wp2_with fail
    go_ret2
    exact ⟨rfl, Below.refl _ _⟩
  · go_wp2_with fail
    go_ret2
    exact ⟨rfl, Below.refl _ _⟩
set_option maxHeartbeats 400000 in
theorem pad_long (w : World) (v : Value) (l : List Nat) (n : Int) (h : Rd w v l) (h0 : 0 ≤ n) (h1 : n ≤ 65536) (h2 : n < l.length) : Calls Try.prog 17 #[v, .int .i64 n] w fun e w' => e = .returned (.tuple #[.slice none 0 0, .int .i64 5]) ∧ Below w.heap.size w w' := by
  obtain ⟨ao, cap, rfl, _⟩ := h.shape
  clear h
  go_enter Try.func17, Try.ntmps17
  go_wp2_with fail
  go_ret2
  exact ⟨rfl, Below.refl _ _⟩
set_option maxHeartbeats 400000 in
theorem pad_ok (w : World) (v : Value) (l : List Nat) (n : Nat) (h : Rd w v l) (h1 : n ≤ 65536) (h2 : l.length ≤ n) : Calls Try.prog 17 #[v, .int .i64 n] w fun e w' => e = .returned (.tuple #[.slice (some ⟨w.heap.size, 0, none⟩) n n, .int .i64 0]) ∧ Own w' w.heap.size (.slice (some ⟨w.heap.size, 0, none⟩) n n) (padTo l n) ∧ Below w.heap.size w w' := by
  obtain ⟨ao, cap, rfl, hc⟩ := h.shape
  obtain ⟨i0, hi, hz0, hz1, hz2⟩ := info_parts infoB
  have HI := Lib.hid hi
  have HZ0 := Lib.hid hz0
  have HZ1 := Lib.hid hz1
  have HB2 := Lib.hid (show i0.bytes * n ≤ 281474976710656 by rw [hz2]; omega)
  have HB3 := Lib.hid (show n ≤ maxLen by unfold maxLen; omega)
  have H := Lib.hid h
  have hcs : ∀ W, Below w.heap.size w W → 0 < (row8 l).length → ∃ ad, ao = some ad ∧ ∀ j u, (row8 l)[j]? = some u → W.cell? (ad.add j) = some u := fun W hW hp => by
    rw [row8_len] at hp
    have hr := h.below hW
    rcases hr.form with ⟨_, q⟩ | ⟨ad, cap', e, _, hs⟩
    · subst q; simp at hp
    · injection e with e1 _ _
      refine ⟨ad, e1, fun j u hu => ?_⟩
      by_cases hj : j < l.length
      · rw [row8_val l j hj] at hu; rw [hs j hj, ← hu]
      · rw [List.getElem?_eq_none (by rw [row8_len]; omega)] at hu; cases hu
  have HCS := Lib.hid hcs
  have HN := Lib.hid (show (row8 l).length = Nat.min l.length n by rw [row8_len]; exact (Nat.min_eq_left h2).symm)
  have HF := Lib.hid (show 0 + (row8 l).length ≤ (row8 (List.replicate n 0)).length by rw [row8_len, row8_len, List.length_replicate]; omega)
  clear hi hz0 hz1 hz2 h hcs
  go_enter Try.func17, Try.ntmps17
  go_wp2_with (first
    | (refine wpList_make_full _ rfl (.tmp 19) (.tmp 19) 25 rfl w.heap.size 5 i0 (.int .u8 0) 1 Try.underlying25 HI.out HZ0.out HZ1.out .i64 .i64 _ _ n rfl rfl rfl rfl HB2.out HB3.out (Nat.le_refl _) ?_; intro w1 hown hg; have b1 : Blk w1 w.heap.size 5 (row8 (List.replicate n 0)) := (own_blk (l := List.replicate n 0) (by rw [row8_zeros, ← toList_madeCells_one]; rw [Nat.mul_one] at hown; exact hown)); have B1 := Lib.hid b1; have G1 := Lib.hid (below_of_grown hg); clear hown hg b1)
    | ((with_reducible show wpList _ _ _ _ _ _); refine wpList_copy_splice rfl (.tmp 21) (.tmp 22) 25 25 rfl 5 Try.underlying25 infoSize (some ⟨w.heap.size, 0, none⟩) ao n n l.length cap rfl rfl w.heap.size 0 (row8 (List.replicate n 0)) 5 B1.out (row8 l) HN.out (fun hp => ⟨rfl, HCS.out _ G1.out hp⟩) HF.out (row8_one' l) w.heap.size w G1.out (Nat.le_refl _) ?_; intro w2 hh hb; have B2 := Lib.hid hh.out; have G2 := Lib.hid hb; clear hh hb))
  go_ret2
  refine ⟨rfl, ?_, G2.out⟩
  have hb2 := B2.out
  rw [pad_splice] at hb2
  have hr := blk_own (base := w.heap.size) hb2 (Nat.le_refl _) (padTo_byte l n H.out.byte) (by rw [padTo_len l n h2]; omega)
  rw [padTo_len l n h2] at hr
  exact hr

set_option maxHeartbeats 400000 in
theorem rpad_arg (w : World) (v : Value) (l : List Nat) (n : Int) (_h : Rd w v l) (hn : n < 0 ∨ 65536 < n) : Calls Try.prog 18 #[v, .int .i64 n] w fun e w' => e = .returned (.tuple #[.slice none 0 0, .int .i64 2]) ∧ Below w.heap.size w w' := by
  go_enter Try.func18, Try.ntmps18
  rcases hn with hn | hn
  · go_wp2_with fail
    go_ret2
    exact ⟨rfl, Below.refl _ _⟩
  · go_wp2_with fail
    go_ret2
    exact ⟨rfl, Below.refl _ _⟩
set_option maxHeartbeats 400000 in
theorem rpad_long (w : World) (v : Value) (l : List Nat) (n : Int) (h : Rd w v l) (h0 : 0 ≤ n) (h1 : n ≤ 65536) (h2 : n < l.length) : Calls Try.prog 18 #[v, .int .i64 n] w fun e w' => e = .returned (.tuple #[.slice none 0 0, .int .i64 5]) ∧ Below w.heap.size w w' := by
  obtain ⟨ao, cap, rfl, _⟩ := h.shape
  clear h
  go_enter Try.func18, Try.ntmps18
  go_wp2_with fail
  go_ret2
  exact ⟨rfl, Below.refl _ _⟩
def vlen : Value → Nat | .slice _ n _ => n | _ => 0
theorem Own.vlen {w : World} {base : Nat} {v : Value} {l : List Nat} (h : Own w base v l) : vlen v = l.length := by
  obtain ⟨ao, cap, rfl, _⟩ := h.rd.shape
  rfl
theorem zero_app (l : List Nat) (k : Nat) : l ++ List.replicate k 0 ++ [0] = l ++ List.replicate (k + 1) 0 := by
  rw [List.append_assoc, List.replicate_succ']
set_option maxHeartbeats 400000 in
theorem rpad_ok (w : World) (v : Value) (l : List Nat) (n : Nat) (h : Rd w v l) (h1 : n ≤ 65536) (h2 : l.length ≤ n) : Calls Try.prog 18 #[v, .int .i64 n] w fun e w' => ∃ v', e = .returned (.tuple #[v', .int .i64 0]) ∧ Own w' w.heap.size v' (padTo l n) ∧ Below w.heap.size w w' := by
  obtain ⟨ao, cap, rfl, hc⟩ := h.shape
  have H := Lib.hid h
  clear h
  go_enter Try.func18, Try.ntmps18
  go_wp2_with (at_builtin; refine wpList_app rfl (.tmp 19) (.tmp 20) rfl w.heap.size (.slice (some ⟨w.heap.size, 0, none⟩) 0 0) _ [] l rfl rfl (own_empty w rfl (Nat.le_refl _)) (H.out.alloc _) (by have := H.out.fits; simpa using this) (by simp) ?_; intro v1 w1 ho1 hg1 hk1; have HO1 := Lib.hid ho1; have HG1 := Lib.hid (((Below.refl w.heap.size w).alloc (Nat.le_refl _) (.cells #[] 5)).grown hg1 (by simp) (fun k hk => ((own_empty w rfl (Nat.le_refl _)).from k hk).1)); clear ho1 hg1 hk1)
  go_loopw [6] (fun x wr => ∃ k : Nat, l.length + k ≤ n ∧ Own wr w.heap.size x (l ++ List.replicate k 0) ∧ Below w.heap.size w wr) (fun x _ => n - vlen x)
  case atStart => exact ⟨0, by omega, by have h := HO1.out; simpa using h, HG1.out⟩
  case round =>
    clear HO1 HG1
    obtain ⟨k, hk, ho, bb⟩ := hrel
    have hvl := ho.vlen
    rw [List.length_append, List.length_replicate] at hvl
    obtain ⟨a1, c1, rfl, hc1⟩ := ho.rd.shape
    rw [List.length_append, List.length_replicate] at ho ⊢
    have HO := Lib.hid ho
    have BB := Lib.hid bb
    clear ho bb hc1
    by_cases hlt : l.length + k < n
    · have hlt' : ((l.length + k : Nat) : Int) < (n : Int) := by omega
      have hz : Own (wr.alloc (.cells #[.int .u8 0] 5)) wr.heap.size (.slice (some ⟨wr.heap.size, 0, none⟩) 1 1) [0] := own_new wr [0] (fun k => by cases k with | zero => exact Nat.zero_lt_succ _ | succ k => exact Nat.zero_lt_succ _) (by decide) rfl (Nat.le_refl _)
      have HZ := Lib.hid hz.rd
      have HL := Lib.hid (show (l ++ List.replicate k 0).length + [0].length ≤ 140737488351232 by rw [List.length_append, List.length_replicate]; show l.length + k + 1 ≤ _; omega)
      have HB := Lib.hid (show w.heap.size ≤ (wr.alloc (.cells #[.int .u8 0] 5)).heap.size by have := BB.out.size; simp; omega)
      clear hz
      go_wp2_with (at_builtin; refine wpList_app rfl (.tmp 26) (.tmp 27) rfl w.heap.size _ (.slice (some ⟨wr.heap.size, 0, none⟩) 1 1) _ [0] rfl rfl (HO.out.alloc _) HZ.out HL.out HB.out ?_; intro v3 w3 ho hg hk; have O3 := Lib.hid ho; have C3 := Lib.hid ((BB.out.alloc BB.out.size _).grown hg HB.out (fun k hk => (HO.out.from k hk).1)); clear ho hg hk)
      refine ⟨⟨k + 1, by omega, ?_, C3.out⟩, ?_⟩
      · rw [← zero_app]; exact O3.out
      · rw [O3.out.vlen]
        rw [List.length_append, List.length_append, List.length_replicate]
        show n - (l.length + k + 1) < n - (l.length + k)
        omega
    · obtain rfl : l.length + k = n := by omega
      go_wp2_with fail
      go_ret2
      refine ⟨_, rfl, ?_, BB.out⟩
      have h := HO.out
      unfold padTo
      rw [show l.length + k - l.length = k by omega]
      exact h
/-- All bytes are nought. -/
def allZero (l : List Nat) : Bool := l.all (· == 0)
theorem allZero_no {l : List Nat} {k : Nat} (hk : k < l.length) (h : gb l k ≠ 0) : allZero l = false := by
  unfold allZero
  rw [List.all_eq_false]
  refine ⟨l[k], List.getElem_mem hk, ?_⟩
  unfold gb at h
  rw [List.getD_eq_getElem?_getD, List.getElem?_eq_getElem hk] at h
  simpa using h
theorem allZero_yes {l : List Nat} (h : ∀ j, j < l.length → gb l j = 0) : allZero l = true := by
  unfold allZero
  rw [List.all_eq_true]
  intro x hx
  obtain ⟨j, hj, rfl⟩ := List.getElem_of_mem hx
  have := h j hj
  unfold gb at this
  rw [List.getD_eq_getElem?_getD, List.getElem?_eq_getElem hj] at this
  simpa using this
set_option maxHeartbeats 400000 in
theorem nought_any (w : World) (v : Value) (l : List Nat) (h : Rd w v l) : Calls Try.prog 19 #[v] w fun e w' => e = .returned (.bool (allZero l)) ∧ w = w' := by
  obtain ⟨ao, cap, rfl, hc⟩ := h.shape
  have hfit := h.fits
  have H := Lib.hid h
  clear h
  go_enter Try.func19, Try.ntmps19
  go_wp2_with fail
  go_loop [7] (fun i => ∃ k : Nat, k ≤ l.length ∧ i = .int .i64 k ∧ ∀ j, j < k → gb l j = 0) (fun i => l.length - (intOf i).toNat)
  case atStart => exact ⟨0, Nat.zero_le _, rfl, fun j hj => absurd hj (by omega)⟩
  case round =>
    obtain ⟨k, hk, rfl, hz⟩ := hrel
    have HZ := Lib.hid hz
    clear hz
    by_cases hlt : k < l.length
    · obtain ⟨ad, rfl, hcell⟩ := H.out.at_ k hlt
      by_cases h0 : gb l k = 0
      · have HH := Lib.hid h0
        rw [h0] at hcell
        clear h0
        go_wp2_with fail
        refine ⟨⟨k + 1, by omega, by go_num, fun j hj => ?_⟩, by simp [intOf]; omega⟩
        by_cases e : j = k
        · subst e; exact HH.out
        · exact HZ.out j (by omega)
      · have HN := Lib.hid (allZero_no hlt h0)
        have hb : ((gb l k : Nat) : Int) ≠ 0 := by omega
        have hb' : (((gb l k : Nat) : Int) != 0) = true := by simpa using hb
        go_wp2_with fail
        go_ret
        exact ⟨by rw [HN.out]; rfl, rfl⟩
    · obtain rfl : k = l.length := by omega
      have HN := Lib.hid (allZero_yes HZ.out)
      go_wp2_with fail
      go_ret
      exact ⟨by rw [HN.out]; rfl, rfl⟩
set_option maxHeartbeats 400000 in
theorem rnought_any (w : World) (v : Value) (l : List Nat) (h : Rd w v l) : Calls Try.prog 20 #[v] w fun e w' => e = .returned (.bool (allZero l)) ∧ w = w' := by
  obtain ⟨ao, cap, rfl, hc⟩ := h.shape
  have hfit := h.fits
  have H := Lib.hid h
  clear h
  go_enter Try.func20, Try.ntmps20
  go_wp2_with fail
  go_loop [3] (fun i => ∃ k : Nat, k ≤ l.length ∧ i = .int .i64 k ∧ ∀ j, j < k → gb l j = 0) (fun i => l.length - (intOf i).toNat)
  case atStart => exact ⟨0, Nat.zero_le _, rfl, fun j hj => absurd hj (by omega)⟩
  case round =>
    obtain ⟨k, hk, rfl, hz⟩ := hrel
    have HZ := Lib.hid hz
    clear hz
    by_cases hlt : k < l.length
    · obtain ⟨ad, rfl, hcell⟩ := H.out.at_ k hlt
      by_cases h0 : gb l k = 0
      · have HH := Lib.hid h0
        rw [h0] at hcell
        clear h0
        go_wp2_with fail
        refine ⟨⟨k + 1, by omega, by go_num, fun j hj => ?_⟩, by simp [intOf]; omega⟩
        by_cases e : j = k
        · subst e; exact HH.out
        · exact HZ.out j (by omega)
      · have HN := Lib.hid (allZero_no hlt h0)
        have hb : ((gb l k : Nat) : Int) ≠ 0 := by omega
        have hb' : (((gb l k : Nat) : Int) != 0) = true := by simpa using hb
        go_wp2_with fail
        go_ret
        exact ⟨by rw [HN.out]; rfl, rfl⟩
    · obtain rfl : k = l.length := by omega
      have HN := Lib.hid (allZero_yes HZ.out)
      go_wp2_with fail
      go_ret
      exact ⟨by rw [HN.out]; rfl, rfl⟩
/-- The first k bytes raised by one. -/
def incK (l : List Nat) (k : Nat) : List Nat := (List.range l.length).map fun i => if i < k then (gb l i + 1) % 256 else gb l i
theorem incK_len (l : List Nat) (k : Nat) : (incK l k).length = l.length := by simp [incK]
theorem incK_zero (l : List Nat) : incK l 0 = l := by
  apply bytes_ext (n := l.length) (incK_len l 0) rfl
  intro k hk
  unfold incK; rw [gb_map, if_pos hk, if_neg (by omega)]
theorem incK_at (l : List Nat) (k : Nat) (hk : k < l.length) : gb (incK l k) k = gb l k := by
  unfold incK; rw [gb_map, if_pos hk, if_neg (by omega)]
theorem incK_step (l : List Nat) (k : Nat) (hk : k < l.length) : (incK l k).set k ((gb l k + 1) % 256) = incK l (k + 1) := by
  apply bytes_ext (n := l.length) (by rw [List.length_set, incK_len]) (incK_len l _)
  intro j hj
  rw [gb_set _ _ _ _ (by rw [incK_len]; exact hk)]
  unfold incK
  rw [gb_map, gb_map, if_pos hj, if_pos hj]
  by_cases e : k = j
  · subst e; rw [if_pos rfl, if_pos (by omega)]
  · rw [if_neg e]
    by_cases h : j < k
    · rw [if_pos h, if_pos (by omega)]
    · rw [if_neg h, if_neg (by omega)]
end Go.Proofs.Ytngflmdlgaeokaa
