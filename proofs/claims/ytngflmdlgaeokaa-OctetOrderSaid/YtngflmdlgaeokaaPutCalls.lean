/- Numbers laid in bytes, by package octet and as the document says: contracts. Own work. -/
import Derived.Test.YtngflmdlgaeokaaOctMem
import Derived.Laws.BitsAllLaws
import Derived.Laws.Shifts
import Derived.Outline
namespace Go.Proofs.Ytngflmdlgaeokaa
open Go.RowKit
theorem Own.cell {w : World} {base g cap n : Nat} {l : List Nat} (h : Own w base (.slice (some ⟨g, 0, none⟩) n cap) l) (hl : n = l.length) (j : Nat) (hj : j < l.length) : w.cell? ⟨g, j, none⟩ = some (.int .u8 ((gb l j : Nat) : Int)) := by
  subst hl
  rw [h.1.cellAt j (by omega)]; exact row8_val l j hj
theorem Own.free {w : World} {base g cap n : Nat} {l : List Nat} (h : Own w base (.slice (some ⟨g, 0, none⟩) n cap) l) (hl : n = l.length) (j : Nat) : w.frozen? ⟨g, j, none⟩ = false := by
  subst hl; exact h.1.frozenAt j

theorem own_nil (w : World) : Own w w.heap.size (.slice none 0 0) [] := ⟨World.ownsRow_nil w _ _ _, fun k => by rw [gb_nil]; omega, by simp⟩
/-- n in so many bytes, the highest one first, the last k of them laid. -/
def beK (n size k : Nat) : List Nat := (List.range size).map fun i => if i + k < size then 0 else n / 256 ^ (size - 1 - i) % 256
def be (n size : Nat) : List Nat := (List.range size).map fun i => n / 256 ^ (size - 1 - i) % 256
theorem be_len (n size : Nat) : (be n size).length = size := by simp [be]
theorem beK_len (n size k : Nat) : (beK n size k).length = size := by simp [beK]
theorem gb_map (f : Nat → Nat) (n k : Nat) : gb ((List.range n).map f) k = if k < n then f k else 0 := by
  unfold gb
  rw [List.getD_eq_getElem?_getD, List.getElem?_map]
  by_cases h : k < n
  · rw [List.getElem?_range h, if_pos h]; rfl
  · rw [List.getElem?_eq_none (by simpa using h), if_neg h]; rfl
theorem be_byte (n size k : Nat) : gb (be n size) k < 256 := by
  unfold be; rw [gb_map]; split
  · exact Nat.mod_lt _ (by omega)
  · omega
theorem beK_zero (n size : Nat) : row8 (beK n size 0) = List.replicate size (.int .u8 0) := by
  unfold row8 beK
  apply List.ext_getElem
  · simp
  · intro i h1 h2
    simp at h1
    simp [h1]
theorem beK_byte (n size k j : Nat) : gb (beK n size k) j < 256 := by
  unfold beK; rw [gb_map]; split
  · split
    · omega
    · exact Nat.mod_lt _ (by omega)
  · omega
theorem beK_all (n size : Nat) : beK n size size = be n size := by
  unfold beK be
  apply List.map_congr_left
  intro i _
  rw [if_neg (by omega)]
theorem beK_step (n size j : Nat) (hj : j < size) : (beK n size (size - (j + 1))).set j (n / 256 ^ (size - (j + 1)) % 256) = beK n size (size - j) := by
  apply bytes_ext (n := size) (by rw [List.length_set, beK_len]) (beK_len _ _ _)
  intro k hk
  rw [gb_set _ _ _ _ (by rw [beK_len]; exact hj)]
  unfold beK
  rw [gb_map, gb_map, if_pos hk, if_pos hk]
  by_cases e : j = k
  · subst e
    rw [if_pos rfl, if_neg (by omega)]
    congr 3; omega
  · rw [if_neg e]
    by_cases h2 : k + (size - j) < size
    · rw [if_pos h2, if_pos (by omega)]
    · rw [if_neg h2, if_neg (by omega)]

theorem be_get (n size i : Nat) (h : i < (be n size).length) : (be n size)[i] = n / 256 ^ (size - 1 - i) % 256 := by simp [be]
theorem be_step (n size j : Nat) (hj : j < size) : (be n size).take (size - (j + 1)) ++ [n / 256 ^ j % 256] = (be n size).take (size - j) := by
  have hl : size - (j + 1) < (be n size).length := by rw [be_len]; omega
  rw [show size - j = size - (j + 1) + 1 by omega, List.take_succ_eq_append_getElem hl, be_get]
  congr 3; congr 2; omega
set_option maxRecDepth 100000 in
set_option maxHeartbeats 400000 in
theorem lay_any (n size : Nat) (_hn : n < 18446744073709551616) (hs : size ≤ 8) (w : World) :
    Calls Try.prog 31 #[.int .u64 n, .int .i64 size] w fun e w' => ∃ v, e = .returned v ∧ Own w' w.heap.size v (be n size) ∧ Below w.heap.size w w' := by
  obtain ⟨i0, hi, hz0, hz1, hz2⟩ := info_parts infoB
  have hb2 : i0.bytes * size ≤ 281474976710656 := by rw [hz2]; omega
  have hb3 : size ≤ maxLen := by unfold maxLen; omega
  have HI := Lib.hid hi
  have HZ0 := Lib.hid hz0
  have HZ1 := Lib.hid hz1
  have HB2 := Lib.hid hb2
  have HB3 := Lib.hid hb3
  clear hi hz0 hz1 hz2 hb2 hb3
  go_enter Try.func31, Try.ntmps31
  go_wp2_with (refine wpList_make_full _ rfl (.tmp 7) (.tmp 7) 25 rfl w.heap.size 5 i0 (.int .u8 0) 1 Try.underlying25 HI.out HZ0.out HZ1.out .i64 .i64 _ _ size rfl rfl rfl rfl HB2.out HB3.out (Nat.le_refl _) ?_; intro w1 hown hg; have HO := Lib.hid hown; have HG := Lib.hid hg; clear hown hg)
  have h0 : Own w1 w.heap.size (.slice (some ⟨w.heap.size, 0, none⟩) size size) (beK n size 0) := by
    refine ⟨?_, beK_byte n size 0, by rw [beK_len]; omega⟩
    rw [beK_len, beK_zero, ← toList_madeCells_one]
    have h := HO.out
    rw [Nat.mul_one] at h
    exact h
  have bb : Below w.heap.size w w1 := below_of_grown HG.out
  clear HO HG
  have H0 := Lib.hid h0
  have BB := Lib.hid bb
  clear h0 bb
  go_loopw [0, 6] (fun m i wr => ∃ j : Nat, j ≤ size ∧ i = .int .i64 ((j : Int) - 1) ∧ m = .int .u64 ((n / 256 ^ (size - j) : Nat) : Int) ∧ Own wr w.heap.size (.slice (some ⟨w.heap.size, 0, none⟩) size size) (beK n size (size - j)) ∧ Below w.heap.size w wr) (fun _ i _ => (intOf i + 1).toNat)
  case atStart => exact ⟨size, Nat.le_refl _, by go_num, by simp, by simpa using H0.out, BB.out⟩
  case round =>
    clear H0 BB
    obtain ⟨j, hj, rfl, rfl, ho, bb⟩ := hrel
    have HO := Lib.hid ho
    have BB := Lib.hid bb
    clear ho bb
    cases j with
    | zero =>
      go_wp2_with fail
      go_ret
      refine ⟨_, rfl, ?_, BB.out⟩
      have h := HO.out
      rw [Nat.sub_zero, beK_all] at h
      exact h
    | succ j =>
      have hc := HO.out.cell (by rw [beK_len]) j (by rw [beK_len]; omega)
      have hf := HO.out.free (by rw [beK_len]) j
      go_wp2_with fail
      have e2 : n / 256 ^ (size - (j + 1)) / 256 = n / 256 ^ (size - j) := by
        rw [Nat.div_div_eq_div_mul, ← Nat.pow_succ]; congr 2; omega
      refine ⟨⟨j, by omega, rfl, ?_, ?_, BB.out.setCell (Nat.le_refl _) _⟩, by simp [intOf]⟩
      · rw [← e2]; simp
      · rw [← beK_step n size j (by omega)]
        have h : Own wr w.heap.size (.slice (some ⟨w.heap.size, 0, none⟩) (beK n size (size - (j + 1))).length size) (beK n size (size - (j + 1))) := by rw [beK_len]; exact HO.out
        have h2 := h.set j (n / 256 ^ (size - (j + 1)) % 256) (Nat.mod_lt _ (by omega)) (by rw [beK_len]; omega)
        rw [beK_len] at h2
        simpa using h2

set_option maxRecDepth 100000 in
set_option maxHeartbeats 400000 in
theorem rput_any (n size : Nat) (_hn : n < 18446744073709551616) (hs : size ≤ 8) (w : World) :
    Calls Try.prog 11 #[.int .u64 n, .int .i64 size] w fun e w' => ∃ v, e = .returned v ∧ Own w' w.heap.size v (be n size) ∧ Below w.heap.size w w' := by
  go_enter Try.func11, Try.ntmps11
  go_wp2_with fail
  go_loopw [5, 6] (fun v i wr => ∃ j : Nat, j ≤ size ∧ i = .int .i64 ((j : Int) - 1) ∧ Own wr w.heap.size v ((be n size).take (size - j)) ∧ Below w.heap.size w wr) (fun _ i _ => (intOf i + 1).toNat)
  case atStart => exact ⟨size, Nat.le_refl _, by go_num, by simpa using own_nil w, Below.refl _ _⟩
  case round =>
    obtain ⟨j, hj, rfl, ho, bb⟩ := hrel
    have HO := Lib.hid ho
    have BB := Lib.hid bb
    clear ho bb
    cases j with
    | zero =>
      go_wp2_with fail
      go_ret
      refine ⟨_, rfl, ?_, BB.out⟩
      have h := HO.out
      rw [Nat.sub_zero, List.take_of_length_le (by rw [be_len]; exact Nat.le_refl _)] at h
      exact h
    | succ j =>
      have hx : ((n : Int) / 2 ^ (8 * j) % 256) = ((n / 256 ^ j % 256 : Nat) : Int) := by
        rw [show (2 : Int) ^ (8 * j) = ((256 ^ j : Nat) : Int) by rw [Int.pow_mul]; simp]
        omega
      have hy : Rd (wr.alloc (.cells #[.int .u8 ((n : Int) / 2 ^ (8 * j) % 256)] 5)) (.slice (some ⟨wr.heap.size, 0, none⟩) 1 1) [n / 256 ^ j % 256] := by
        have h := own_new wr [n / 256 ^ j % 256] (fun k => by cases k with | zero => exact Nat.mod_lt _ (by omega) | succ k => exact Nat.zero_lt_succ _) (by simp) rfl (Nat.zero_le _)
        rw [hx]; exact h.rd
      have HY := Lib.hid hy
      have HN := Lib.hid (show ((be n size).take (size - (j + 1))).length + [n / 256 ^ j % 256].length ≤ 140737488351232 by rw [List.length_take, be_len]; simp; omega)
      have HB := Lib.hid (show w.heap.size ≤ (wr.alloc (.cells #[.int .u8 ((n : Int) / 2 ^ (8 * j) % 256)] 5)).heap.size by have := BB.out.size; simp; omega)
      clear hx hy
      go_wp2_with (at_builtin; refine wpList_app rfl (.tmp 13) (.tmp 20) rfl w.heap.size _ _ _ _ rfl rfl (HO.out.alloc _) HY.out HN.out HB.out ?_; intro v1 w1 ho1 hg1 hk1; have HO1 := Lib.hid ho1; have HG1 := Lib.hid hg1; clear ho1 hg1 hk1)
      refine ⟨⟨j, by omega, rfl, ?_, (BB.out.alloc (BB.out.size) _).grown HG1.out HB.out (fun k hk => (HO.out.from k hk).1)⟩, by simp [intOf]⟩
      have h := HO1.out
      rw [be_step n size j (by omega)] at h
      exact h

theorem put16_any (n : Nat) (hn : n < 65536) (w : World) : Calls Try.prog 10 #[.int .u16 n] w fun e w' => ∃ v, e = .returned v ∧ Own w' w.heap.size v (be n 2) ∧ Below w.heap.size w w' := by
  go_enter Try.func10, Try.ntmps10
  go_wp2_with (go_at_call 31; refine (lay_any n 2 (by omega) (by omega) _).mono ?_; rintro e w1 ⟨v1, rfl, h1, h2⟩; have H1 := Lib.hid h1; have H2 := Lib.hid h2; clear h1 h2)
  go_ret
  exact ⟨_, rfl, H1.out, H2.out⟩
theorem put32_any (n : Nat) (hn : n < 4294967296) (w : World) : Calls Try.prog 12 #[.int .u32 n] w fun e w' => ∃ v, e = .returned v ∧ Own w' w.heap.size v (be n 4) ∧ Below w.heap.size w w' := by
  go_enter Try.func12, Try.ntmps12
  go_wp2_with (go_at_call 31; refine (lay_any n 4 (by omega) (by omega) _).mono ?_; rintro e w1 ⟨v1, rfl, h1, h2⟩; have H1 := Lib.hid h1; have H2 := Lib.hid h2; clear h1 h2)
  go_ret
  exact ⟨_, rfl, H1.out, H2.out⟩
theorem put64_any (n : Nat) (hn : n < 18446744073709551616) (w : World) : Calls Try.prog 13 #[.int .u64 n] w fun e w' => ∃ v, e = .returned v ∧ Own w' w.heap.size v (be n 8) ∧ Below w.heap.size w w' := by
  go_enter Try.func13, Try.ntmps13
  go_wp2_with (go_at_call 31; refine (lay_any n 8 (by omega) (by omega) _).mono ?_; rintro e w1 ⟨v1, rfl, h1, h2⟩; have H1 := Lib.hid h1; have H2 := Lib.hid h2; clear h1 h2)
  go_ret
  exact ⟨_, rfl, H1.out, H2.out⟩
/-- bytes.Clone. -/
theorem clone_any (v : Value) (l : List Nat) (w : World) (h : Rd w v l) : Calls Try.prog 32 #[v] w fun e w' => ∃ v', e = .returned v' ∧ Own w' w.heap.size v' l ∧ Below w.heap.size w w' := by
  rcases h.form with ⟨rfl, rfl⟩ | ⟨ad, cap, rfl, hc, hs⟩
  · have hq := fun w => Lib.run_eql_slice_nil (P := Try.prog) w 25 5 none 0 0 0 0 Try.underlying25
    go_enter Try.func32, Try.ntmps32
    go_wp2_with fail
    go_ret
    exact ⟨_, rfl, own_nil w, Below.refl _ _⟩
  · have hq := fun w => Lib.run_eql_slice_nil (P := Try.prog) w 25 5 (some ad) l.length cap 0 0 Try.underlying25
    have H := Lib.hid h
    clear h hs
    go_enter Try.func32, Try.ntmps32
    go_wp2_with (at_builtin; refine wpList_app rfl (.tmp 5) (.tmp 6) rfl w.heap.size _ _ [] l rfl rfl (own_empty w rfl (Nat.le_refl _)) (H.out.alloc _) (by have := H.out.fits; simpa using this) (by simp) ?_; intro v1 w1 ho1 hg1 hk1; have HO1 := Lib.hid ho1; have HG1 := Lib.hid hg1; clear ho1 hg1 hk1)
    go_ret
    exact ⟨_, rfl, HO1.out, ((Below.refl _ _).alloc (Nat.le_refl _) _).grown HG1.out (by simp) (fun k hk => ((own_empty w rfl (Nat.le_refl _)).from k hk).1)⟩
end Go.Proofs.Ytngflmdlgaeokaa
