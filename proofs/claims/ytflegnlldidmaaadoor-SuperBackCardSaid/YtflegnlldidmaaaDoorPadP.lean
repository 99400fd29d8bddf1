/- Noughts behind bytes, by package octet: contract (for what fits). Own work. -/
import Derived.Test.YtflegnlldidmaaaDoorApp0
import Derived.Laws.CopyOwn
namespace Go.Proofs.YtflegnlldidmaaaDoor
open Go.RowKit
theorem padTo_byte (l : List Nat) (n : Nat) (h : ∀ k, gb l k < 256) (k : Nat) : gb (padTo l n) k < 256 := gb_app l _ h (fun j => by rw [gb_zeros]; omega) k
theorem pad_splice (l : List Nat) (n : Nat) : splice (row8 (List.replicate n 0)) 0 (row8 l) = row8 (padTo l n) := by
  unfold splice padTo
  rw [row8_app, List.take_zero, List.nil_append, Nat.zero_add, row8_len]
  congr 1
  rw [zeros_row, zeros_row, List.drop_replicate]
set_option maxHeartbeats 400000 in
theorem pad_ok (w : World) (v : Value) (l : List Nat) (n : Nat) (h : Rd w v l) (h1 : n ≤ 65536) (h2 : l.length ≤ n) : Calls Tryd.prog 19 #[v, .int .i64 n] w fun e w' => e = .returned (.tuple #[.slice (some ⟨w.heap.size, 0, none⟩) n n, .int .i64 0]) ∧ Own w' w.heap.size (.slice (some ⟨w.heap.size, 0, none⟩) n n) (padTo l n) ∧ Below w.heap.size w w' := by
  obtain ⟨ao, cap, rfl, hc⟩ := h.shape
  obtain ⟨i0, hi, hz0, hz1, hz2⟩ := info_parts infoB
  have HI := Lib.hid hi
  have HZ0 := Lib.hid hz0
  have HZ1 := Lib.hid hz1
  have HB2 := Lib.hid (show i0.bytes * n ≤ 281474976710656 by rw [hz2]; omega)
  have HB3 := Lib.hid (show n ≤ maxLen by unfold maxLen; omega)
  have H := Lib.hid h
  have hcs : ∀ W, Below w.heap.size w W → 0 < (row8 l).length → ∃ ad, ao = some ad ∧ ∀ j u, (row8 l)[j]? = some u → W.cell? (ad.add j) = some u := fun W hW hp => by
    rw [row8_len] at hp
    have hr := h.below hW
    rcases hr.form with ⟨_, q⟩ | ⟨ad, cap', e, _, hs⟩
    · subst q; simp at hp
    · injection e with e1 _ _
      refine ⟨ad, e1, fun j u hu => ?_⟩
      by_cases hj : j < l.length
      · rw [row8_val l j hj] at hu; rw [hs j hj, ← hu]
      · rw [List.getElem?_eq_none (by rw [row8_len]; omega)] at hu; cases hu
  have HCS := Lib.hid hcs
  have HN := Lib.hid (show (row8 l).length = Nat.min l.length n by rw [row8_len]; exact (Nat.min_eq_left h2).symm)
  have HF := Lib.hid (show 0 + (row8 l).length ≤ (row8 (List.replicate n 0)).length by rw [row8_len, row8_len, List.length_replicate]; omega)
  clear hi hz0 hz1 hz2 h hcs
  go_enter Tryd.func19, Tryd.ntmps19
  go_wp2_with (first
    | (refine wpList_make_full _ rfl (.tmp 19) (.tmp 19) 24 rfl w.heap.size 5 i0 (.int .u8 0) 1 Tryd.underlying24 HI.out HZ0.out HZ1.out .i64 .i64 _ _ n rfl rfl rfl rfl HB2.out HB3.out (Nat.le_refl _) ?_; intro w1 hown hg; have b1 : Blk w1 w.heap.size 5 (row8 (List.replicate n 0)) := (own_blk (l := List.replicate n 0) (by rw [zeros_row, ← toList_madeCells_one]; rw [Nat.mul_one] at hown; exact hown)); have B1 := Lib.hid b1; have G1 := Lib.hid (below_of_grown hg); clear hown hg b1)
    | ((with_reducible show wpList _ _ _ _ _ _); refine wpList_copy_splice rfl (.tmp 21) (.tmp 22) 24 24 rfl 5 Tryd.underlying24 infoSize (some ⟨w.heap.size, 0, none⟩) ao n n l.length cap rfl rfl w.heap.size 0 (row8 (List.replicate n 0)) 5 B1.out (row8 l) HN.out (fun hp => ⟨rfl, HCS.out _ G1.out hp⟩) HF.out (row8_one' l) w.heap.size w G1.out (Nat.le_refl _) ?_; intro w2 hh hb; have B2 := Lib.hid hh.out; have G2 := Lib.hid hb; clear hh hb))
  go_ret2
  refine ⟨rfl, ?_, G2.out⟩
  have hb2 := B2.out
  rw [pad_splice] at hb2
  have hl : (padTo l n).length = n := by rw [padTo_len]; omega
  have hr := blk_own (base := w.heap.size) hb2 (Nat.le_refl _) (padTo_byte l n H.out.byte) (by rw [hl]; omega)
  rw [hl] at hr
  exact hr
end Go.Proofs.YtflegnlldidmaaaDoor
