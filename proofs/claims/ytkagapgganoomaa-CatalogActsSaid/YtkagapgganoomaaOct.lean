/- Texts of one subject in one file: BePut, Lay, Put32, Put64. Own work. -/
import Derived.Test.YtkagapgganoomaaMem
import Derived.Laws.BitsAllLaws
import Derived.Laws.Shifts
import Derived.Outline
/- The document's Put: contract. Own work. -/
namespace Go.Proofs.Ytkagapgganoomaa
open Go.RowKit
set_option maxRecDepth 100000 in
set_option maxHeartbeats 400000 in
theorem rput_any (n size : Nat) (_hn : n < 18446744073709551616) (hs : size ≤ 8) (w : World) :
    Calls Try.prog 57 #[.int .u64 n, .int .i64 size] w fun e w' => ∃ v, e = .returned v ∧ Own w' w.heap.size v (be n size) ∧ Below w.heap.size w w' := by
  go_enter Try.func57, Try.ntmps57
  go_wp2_with fail
  go_loopw [5, 6] (fun v i wr => ∃ j : Nat, j ≤ size ∧ i = .int .i64 ((j : Int) - 1) ∧ Own wr w.heap.size v ((be n size).take (size - j)) ∧ Below w.heap.size w wr) (fun _ i _ => (intOf i + 1).toNat)
  case atStart => exact ⟨size, Nat.le_refl _, by go_num, by simpa using own_nil w, Below.refl _ _⟩
  case round =>
    obtain ⟨j, hj, rfl, ho, bb⟩ := hrel
    have HO := Lib.hid ho
    have BB := Lib.hid bb
    clear ho bb
    cases j with
    | zero =>
      go_wp2_with fail
      go_ret
      refine ⟨_, rfl, ?_, BB.out⟩
      have h := HO.out
      rw [Nat.sub_zero, List.take_of_length_le (by rw [be_len]; exact Nat.le_refl _)] at h
      exact h
    | succ j =>
      have hx : ((n : Int) / 2 ^ (8 * j) % 256) = ((n / 256 ^ j % 256 : Nat) : Int) := by
        rw [show (2 : Int) ^ (8 * j) = ((256 ^ j : Nat) : Int) by rw [Int.pow_mul]; simp]
        omega
      have hy : Rd (wr.alloc (.cells #[.int .u8 ((n : Int) / 2 ^ (8 * j) % 256)] 5)) (.slice (some ⟨wr.heap.size, 0, none⟩) 1 1) [n / 256 ^ j % 256] := by
        have h := own_new wr [n / 256 ^ j % 256] (fun k => by cases k with | zero => exact Nat.mod_lt _ (by omega) | succ k => exact Nat.zero_lt_succ _) (by simp) rfl (Nat.zero_le _)
        rw [hx]; exact h.rd
      have HY := Lib.hid hy
      have HN := Lib.hid (show ((be n size).take (size - (j + 1))).length + [n / 256 ^ j % 256].length ≤ 140737488355328 by rw [List.length_take, be_len]; simp; omega)
      have HB := Lib.hid (show w.heap.size ≤ (wr.alloc (.cells #[.int .u8 ((n : Int) / 2 ^ (8 * j) % 256)] 5)).heap.size by have := BB.out.size; simp; omega)
      clear hx hy
      go_wp2_with (at_builtin; refine wpList_app rfl (.tmp 13) (.tmp 20) rfl w.heap.size _ _ _ _ rfl rfl (HO.out.alloc _) HY.out HN.out HB.out ?_; intro v1 w1 ho1 hg1 hk1; have HO1 := Lib.hid ho1; have HG1 := Lib.hid hg1; clear ho1 hg1 hk1)
      refine ⟨⟨j, by omega, rfl, ?_, (BB.out.alloc (BB.out.size) _).grown HG1.out HB.out (fun k hk => (HO.out.from k hk).1)⟩, by simp [intOf]⟩
      have h := HO1.out
      rw [be_step n size j (by omega)] at h
      exact h
end Go.Proofs.Ytkagapgganoomaa
/- Numbers laid in bytes, by package octet: contracts. Own work. -/
namespace Go.Proofs.Ytkagapgganoomaa
open Go.RowKit
set_option maxRecDepth 100000 in
set_option maxHeartbeats 400000 in
theorem lay_any (n size : Nat) (_hn : n < 18446744073709551616) (hs : size ≤ 8) (w : World) :
    Calls Try.prog 71 #[.int .u64 n, .int .i64 size] w fun e w' => ∃ v, e = .returned v ∧ Own w' w.heap.size v (be n size) ∧ Below w.heap.size w w' := by
  obtain ⟨i0, hi, hz0, hz1, hz2⟩ := info_parts infoB
  have hb2 : i0.bytes * size ≤ 281474976710656 := by rw [hz2]; omega
  have hb3 : size ≤ maxLen := by unfold maxLen; omega
  have HI := Lib.hid hi
  have HZ0 := Lib.hid hz0
  have HZ1 := Lib.hid hz1
  have HB2 := Lib.hid hb2
  have HB3 := Lib.hid hb3
  clear hi hz0 hz1 hz2 hb2 hb3
  go_enter Try.func71, Try.ntmps71
  go_wp2_with (refine wpList_make_full _ rfl (.tmp 7) (.tmp 7) 33 rfl w.heap.size 5 i0 (.int .u8 0) 1 Try.underlying33 HI.out HZ0.out HZ1.out .i64 .i64 _ _ size rfl rfl rfl rfl HB2.out HB3.out (Nat.le_refl _) ?_; intro w1 hown hg; have HO := Lib.hid hown; have HG := Lib.hid hg; clear hown hg)
  have h0 : Own w1 w.heap.size (.slice (some ⟨w.heap.size, 0, none⟩) size size) (beK n size 0) := by
    refine ⟨?_, beK_byte n size 0, by rw [beK_len]; omega⟩
    rw [beK_len, beK_zero, ← toList_madeCells_one]
    have h := HO.out
    rw [Nat.mul_one] at h
    exact h
  have bb : Below w.heap.size w w1 := below_of_grown HG.out
  clear HO HG
  have H0 := Lib.hid h0
  have BB := Lib.hid bb
  clear h0 bb
  go_loopw [0, 6] (fun m i wr => ∃ j : Nat, j ≤ size ∧ i = .int .i64 ((j : Int) - 1) ∧ m = .int .u64 ((n / 256 ^ (size - j) : Nat) : Int) ∧ Own wr w.heap.size (.slice (some ⟨w.heap.size, 0, none⟩) size size) (beK n size (size - j)) ∧ Below w.heap.size w wr) (fun _ i _ => (intOf i + 1).toNat)
  case atStart => exact ⟨size, Nat.le_refl _, by go_num, by simp, by simpa using H0.out, BB.out⟩
  case round =>
    clear H0 BB
    obtain ⟨j, hj, rfl, rfl, ho, bb⟩ := hrel
    have HO := Lib.hid ho
    have BB := Lib.hid bb
    clear ho bb
    cases j with
    | zero =>
      go_wp2_with fail
      go_ret
      refine ⟨_, rfl, ?_, BB.out⟩
      have h := HO.out
      rw [Nat.sub_zero, beK_all] at h
      exact h
    | succ j =>
      have hc := HO.out.cell (by rw [beK_len]) j (by rw [beK_len]; omega)
      have hf := HO.out.free (by rw [beK_len]) j
      go_wp2_with fail
      have e2 : n / 256 ^ (size - (j + 1)) / 256 = n / 256 ^ (size - j) := by
        rw [Nat.div_div_eq_div_mul, ← Nat.pow_succ]; congr 2; omega
      refine ⟨⟨j, by omega, rfl, ?_, ?_, BB.out.setCell (Nat.le_refl _) _⟩, by simp [intOf]⟩
      · rw [← e2]; simp
      · rw [← beK_step n size j (by omega)]
        have h : Own wr w.heap.size (.slice (some ⟨w.heap.size, 0, none⟩) (beK n size (size - (j + 1))).length size) (beK n size (size - (j + 1))) := by rw [beK_len]; exact HO.out
        have h2 := h.set j (n / 256 ^ (size - (j + 1)) % 256) (Nat.mod_lt _ (by omega)) (by rw [beK_len]; omega)
        rw [beK_len] at h2
        simpa using h2
end Go.Proofs.Ytkagapgganoomaa
/- A number of four bytes laid by package octet: contract. Own work. -/
namespace Go.Proofs.Ytkagapgganoomaa
open Go.RowKit
theorem put32_any (n : Nat) (hn : n < 4294967296) (w : World) : Calls Try.prog 56 #[.int .u32 n] w fun e w' => ∃ v, e = .returned v ∧ Own w' w.heap.size v (be n 4) ∧ Below w.heap.size w w' := by
  go_enter Try.func56, Try.ntmps56
  go_wp2_with (go_at_call 71; refine (lay_any n 4 (by omega) (by omega) _).mono ?_; rintro e w1 ⟨v1, rfl, h1, h2⟩; have H1 := Lib.hid h1; have H2 := Lib.hid h2; clear h1 h2)
  go_ret
  exact ⟨_, rfl, H1.out, H2.out⟩
end Go.Proofs.Ytkagapgganoomaa
/- A number of eight bytes laid by package octet: contract. Own work. -/
namespace Go.Proofs.Ytkagapgganoomaa
open Go.RowKit
end Go.Proofs.Ytkagapgganoomaa
