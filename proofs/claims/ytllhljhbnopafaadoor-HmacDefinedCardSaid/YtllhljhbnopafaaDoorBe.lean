/- Numbers laid in bytes, as the document says: contracts. Own work. -/
import Derived.Test.YtllhljhbnopafaaDoorOctMem
import Derived.Laws.BitsAllLaws
import Derived.Laws.Shifts
import Derived.Outline
namespace Go.Proofs.YtllhljhbnopafaaDoor
open Go.RowKit
theorem Own.cell {w : World} {base g cap n : Nat} {l : List Nat} (h : Own w base (.slice (some ⟨g, 0, none⟩) n cap) l) (hl : n = l.length) (j : Nat) (hj : j < l.length) : w.cell? ⟨g, j, none⟩ = some (.int .u8 ((gb l j : Nat) : Int)) := by
  subst hl
  rw [h.1.cellAt j (by omega)]; exact row8_val l j hj
theorem Own.free {w : World} {base g cap n : Nat} {l : List Nat} (h : Own w base (.slice (some ⟨g, 0, none⟩) n cap) l) (hl : n = l.length) (j : Nat) : w.frozen? ⟨g, j, none⟩ = false := by
  subst hl; exact h.1.frozenAt j

theorem own_nil (w : World) : Own w w.heap.size (.slice none 0 0) [] := ⟨World.ownsRow_nil w _ _ _, fun k => by rw [gb_nil]; omega, by simp⟩
/-- n in so many bytes, the highest one first, the last k of them laid. -/
def beK (n size k : Nat) : List Nat := (List.range size).map fun i => if i + k < size then 0 else n / 256 ^ (size - 1 - i) % 256
def be (n size : Nat) : List Nat := (List.range size).map fun i => n / 256 ^ (size - 1 - i) % 256
theorem be_len (n size : Nat) : (be n size).length = size := by simp [be]
theorem beK_len (n size k : Nat) : (beK n size k).length = size := by simp [beK]
theorem gb_map (f : Nat → Nat) (n k : Nat) : gb ((List.range n).map f) k = if k < n then f k else 0 := by
  unfold gb
  rw [List.getD_eq_getElem?_getD, List.getElem?_map]
  by_cases h : k < n
  · rw [List.getElem?_range h, if_pos h]; rfl
  · rw [List.getElem?_eq_none (by simpa using h), if_neg h]; rfl
theorem be_byte (n size k : Nat) : gb (be n size) k < 256 := by
  unfold be; rw [gb_map]; split
  · exact Nat.mod_lt _ (by omega)
  · omega
theorem beK_zero (n size : Nat) : row8 (beK n size 0) = List.replicate size (.int .u8 0) := by
  unfold row8 beK
  apply List.ext_getElem
  · simp
  · intro i h1 h2
    simp at h1
    simp [h1]
theorem beK_byte (n size k j : Nat) : gb (beK n size k) j < 256 := by
  unfold beK; rw [gb_map]; split
  · split
    · omega
    · exact Nat.mod_lt _ (by omega)
  · omega
theorem beK_all (n size : Nat) : beK n size size = be n size := by
  unfold beK be
  apply List.map_congr_left
  intro i _
  rw [if_neg (by omega)]
theorem beK_step (n size j : Nat) (hj : j < size) : (beK n size (size - (j + 1))).set j (n / 256 ^ (size - (j + 1)) % 256) = beK n size (size - j) := by
  apply bytes_ext (n := size) (by rw [List.length_set, beK_len]) (beK_len _ _ _)
  intro k hk
  rw [gb_set _ _ _ _ (by rw [beK_len]; exact hj)]
  unfold beK
  rw [gb_map, gb_map, if_pos hk, if_pos hk]
  by_cases e : j = k
  · subst e
    rw [if_pos rfl, if_neg (by omega)]
    congr 3; omega
  · rw [if_neg e]
    by_cases h2 : k + (size - j) < size
    · rw [if_pos h2, if_pos (by omega)]
    · rw [if_neg h2, if_neg (by omega)]

theorem be_get (n size i : Nat) (h : i < (be n size).length) : (be n size)[i] = n / 256 ^ (size - 1 - i) % 256 := by simp [be]
theorem be_step (n size j : Nat) (hj : j < size) : (be n size).take (size - (j + 1)) ++ [n / 256 ^ j % 256] = (be n size).take (size - j) := by
  have hl : size - (j + 1) < (be n size).length := by rw [be_len]; omega
  rw [show size - j = size - (j + 1) + 1 by omega, List.take_succ_eq_append_getElem hl, be_get]
  congr 3; congr 2; omega
set_option maxRecDepth 100000 in
set_option maxHeartbeats 400000 in
theorem rput_any (n size : Nat) (_hn : n < 18446744073709551616) (hs : size ≤ 8) (w : World) :
    Calls Tryd.prog 26 #[.int .u64 n, .int .i64 size] w fun e w' => ∃ v, e = .returned v ∧ Own w' w.heap.size v (be n size) ∧ Below w.heap.size w w' := by
  go_enter Tryd.func26, Tryd.ntmps26
  go_wp2_with fail
  go_loopw [5, 6] (fun v i wr => ∃ j : Nat, j ≤ size ∧ i = .int .i64 ((j : Int) - 1) ∧ Own wr w.heap.size v ((be n size).take (size - j)) ∧ Below w.heap.size w wr) (fun _ i _ => (intOf i + 1).toNat)
  case atStart => exact ⟨size, Nat.le_refl _, by go_num, by simpa using own_nil w, Below.refl _ _⟩
  case round =>
    obtain ⟨j, hj, rfl, ho, bb⟩ := hrel
    have HO := Lib.hid ho
    have BB := Lib.hid bb
    clear ho bb
    cases j with
    | zero =>
      go_wp2_with fail
      go_ret
      refine ⟨_, rfl, ?_, BB.out⟩
      have h := HO.out
      rw [Nat.sub_zero, List.take_of_length_le (by rw [be_len]; exact Nat.le_refl _)] at h
      exact h
    | succ j =>
      have hx : ((n : Int) / 2 ^ (8 * j) % 256) = ((n / 256 ^ j % 256 : Nat) : Int) := by
        rw [show (2 : Int) ^ (8 * j) = ((256 ^ j : Nat) : Int) by rw [Int.pow_mul]; simp]
        omega
      have hy : Rd (wr.alloc (.cells #[.int .u8 ((n : Int) / 2 ^ (8 * j) % 256)] 5)) (.slice (some ⟨wr.heap.size, 0, none⟩) 1 1) [n / 256 ^ j % 256] := by
        have h := own_new wr [n / 256 ^ j % 256] (fun k => by cases k with | zero => exact Nat.mod_lt _ (by omega) | succ k => exact Nat.zero_lt_succ _) (by simp) rfl (Nat.zero_le _)
        rw [hx]; exact h.rd
      have HY := Lib.hid hy
      have HN := Lib.hid (show ((be n size).take (size - (j + 1))).length + [n / 256 ^ j % 256].length ≤ 140737488351232 by rw [List.length_take, be_len]; simp; omega)
      have HB := Lib.hid (show w.heap.size ≤ (wr.alloc (.cells #[.int .u8 ((n : Int) / 2 ^ (8 * j) % 256)] 5)).heap.size by have := BB.out.size; simp; omega)
      clear hx hy
      go_wp2_with (at_builtin; refine wpList_app rfl (.tmp 13) (.tmp 20) rfl w.heap.size _ _ _ _ rfl rfl (HO.out.alloc _) HY.out HN.out HB.out ?_; intro v1 w1 ho1 hg1 hk1; have HO1 := Lib.hid ho1; have HG1 := Lib.hid hg1; clear ho1 hg1 hk1)
      refine ⟨⟨j, by omega, rfl, ?_, (BB.out.alloc (BB.out.size) _).grown HG1.out HB.out (fun k hk => (HO.out.from k hk).1)⟩, by simp [intOf]⟩
      have h := HO1.out
      rw [be_step n size j (by omega)] at h
      exact h
end Go.Proofs.YtllhljhbnopafaaDoor
