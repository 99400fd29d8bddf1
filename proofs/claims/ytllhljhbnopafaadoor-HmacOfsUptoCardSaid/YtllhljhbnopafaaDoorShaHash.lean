/- A sum under way in memory: what its cells hold behind some bytes. Own work. -/
import Derived.Test.YtllhljhbnopafaaDoorShaAfter
import Derived.Test.YtllhljhbnopafaaDoorCopyRow
import Derived.Test.YtllhljhbnopafaaDoorShaOf
namespace Go.Proofs.YtllhljhbnopafaaDoor
open Go.ChangeShapes Go.WideShapes Go.ChangeAt Go.RowKit
open SM
/-- The cells of a Hash: its state, its open block, how many bytes. -/
def hc (st o : List Nat) (n : Nat) : List Value := row32 st ++ (row8 o ++ [.int .i64 (n : Int)])
theorem hc_len {st o : List Nat} (hs : st.length = 8) (ho : o.length = 64) (n : Nat) : (hc st o n).length = 73 := by
  unfold hc; simp [row32_len, row8_len, hs, ho]
theorem hc_size {st o : List Nat} (hs : st.length = 8) (ho : o.length = 64) (n : Nat) : (hc st o n)[72]? = some (.int .i64 (n : Int)) := by
  unfold hc
  rw [List.getElem?_append_right (by rw [row32_len]; omega), row32_len, hs, List.getElem?_append_right (by rw [row8_len]; omega), row8_len, ho]
  rfl
theorem hc_state {st o : List Nat} (hs : st.length = 8) (n j : Nat) (v : Value) (h : (row32 st)[j]? = some v) : (hc st o n)[0 + j]? = some v := by
  have hj : j < (row32 st).length := (List.getElem?_eq_some_iff.1 h).1
  have _ := hs
  unfold hc; rw [Nat.zero_add, List.getElem?_append_left hj]; exact h
theorem hc_open {st o : List Nat} (hs : st.length = 8) (n j : Nat) (v : Value) (h : (row8 o)[j]? = some v) : (hc st o n)[8 + j]? = some v := by
  have hj : j < (row8 o).length := (List.getElem?_eq_some_iff.1 h).1
  unfold hc
  rw [List.getElem?_append_right (by rw [row32_len]; omega), row32_len, hs, show 8 + j - 8 = j by omega, List.getElem?_append_left hj]; exact h
theorem hc_setSize {st o : List Nat} (hs : st.length = 8) (ho : o.length = 64) (n m : Nat) : (hc st o n).set 72 (.int .i64 (m : Int)) = hc st o m := by
  unfold hc
  rw [List.set_append_right _ _ (by rw [row32_len]; omega), row32_len, hs, List.set_append_right _ _ (by rw [row8_len]; omega), row8_len, ho]
  rfl
theorem splice_len {α : Type} (L : List α) (off : Nat) (cs : List α) (h : off + cs.length ≤ L.length) : (splice L off cs).length = L.length := length_splice L off cs h
theorem row8_splice (o : List Nat) (f : Nat) (p : List Nat) : row8 (splice o f p) = splice (row8 o) f (row8 p) := by
  unfold splice row8; simp
theorem hc_copy {st o : List Nat} (hs : st.length = 8) (n f : Nat) (p : List Nat) (hf : f + p.length ≤ o.length) : splice (hc st o n) (8 + f) (row8 p) = hc st (splice o f p) n := by
  unfold hc
  rw [row8_splice]
  unfold splice
  rw [row8_len, List.take_append, row32_len, hs, show 8 + f - 8 = f by omega, List.take_of_length_le (by rw [row32_len]; omega), List.take_append_of_le_length (by rw [row8_len]; omega), List.drop_append, row32_len, hs, List.drop_eq_nil_of_le (by rw [row32_len]; omega), show 8 + f + p.length - 8 = f + p.length by omega, List.drop_append_of_le_length (by rw [row8_len]; omega)]
  simp
theorem hc_newState {st o st' : List Nat} (hs : st.length = 8) (hs' : st'.length = 8) (n : Nat) : splice (hc st o n) 0 (row32 st') = hc st' o n := by
  unfold hc splice
  rw [row32_len, hs', List.drop_append, row32_len, hs]
  simp [List.drop_of_length_le, row32_len, hs]
theorem hc_newOpen {st o o' : List Nat} (hs : st.length = 8) (ho : o.length = 64) (ho' : o'.length = 64) (n : Nat) : splice (hc st o n) 8 (row8 o') = hc st o' n := by
  have := hc_copy (o := o) hs n 0 o' (by omega)
  rw [this]
  congr 1
  unfold splice
  rw [ho']
  simp [List.drop_of_length_le, ho]

theorem stTo_app (l m : List Nat) : ∀ n, 64 * n ≤ l.length → stTo (l ++ m) n = stTo l n
  | 0, _ => rfl
  | n + 1, h => by
    unfold stTo
    rw [stTo_app l m n (by omega), List.drop_append_of_le_length (by omega), List.take_append_of_le_length (by rw [List.length_drop]; omega)]
/-- State and open block behind the bytes L. -/
structure HV (st o L : List Nat) : Prop where
  st_ : st = stTo L (L.length / 64)
  open_ : Bytes 64 o
  rest : o.take (L.length % 64) = L.drop (64 * (L.length / 64))
theorem HV.words {st o L : List Nat} (h : HV st o L) : Words 8 st := by rw [h.st_]; exact stTo_w _
theorem HV.start : HV h0 (List.replicate 64 0) [] := ⟨rfl, bytes_zero 64, rfl⟩
theorem splice_take {α : Type} (o p : List α) (f : Nat) (h : f + p.length ≤ o.length) : (splice o f p).take (f + p.length) = o.take f ++ p := by
  unfold splice
  rw [← List.append_assoc, List.take_append_of_le_length (by rw [List.length_append, List.length_take]; omega), List.take_of_length_le (by rw [List.length_append, List.length_take]; omega)]
theorem splice_bytes {o p : List Nat} (ho : Bytes 64 o) (f : Nat) (hp : ∀ k, gb p k < 256) (h : f + p.length ≤ 64) : Bytes 64 (splice o f p) := by
  refine ⟨by rw [splice_len _ _ _ (by rw [ho.1]; exact h)]; exact ho.1, ?_⟩
  unfold splice
  exact gb_app _ _ (gb_take_byte _ _ ho.2) (gb_app _ _ hp (fun k => by rw [gb_drop]; exact ho.2 _))
/-- Less than a block comes to be. -/
theorem HV.part {st o L p : List Nat} (h : HV st o L) (hp : ∀ k, gb p k < 256) (hl : L.length % 64 + p.length < 64) : HV st (splice o (L.length % 64) p) (L ++ p) := by
  have e1 : (L ++ p).length / 64 = L.length / 64 := by rw [List.length_append]; omega
  have e2 : (L ++ p).length % 64 = L.length % 64 + p.length := by rw [List.length_append]; omega
  refine ⟨?_, splice_bytes h.open_ _ hp (by omega), ?_⟩
  · rw [e1, stTo_app _ _ _ (by omega)]; exact h.st_
  · rw [e1, e2, splice_take _ _ _ (by rw [h.open_.1]; omega), h.rest, List.drop_append_of_le_length (by omega)]
/-- A block comes to be whole. -/
theorem HV.full {st o L p : List Nat} (h : HV st o L) (hl : L.length % 64 + p.length = 64) : HV (blk st (splice o (L.length % 64) p)) (List.replicate 64 0) (L ++ p) := by
  have e1 : (L ++ p).length / 64 = L.length / 64 + 1 := by rw [List.length_append]; omega
  have e2 : (L ++ p).length % 64 = 0 := by rw [List.length_append]; omega
  have hd : (L ++ p).drop (64 * (L.length / 64)) = splice o (L.length % 64) p := by
    rw [List.drop_append_of_le_length (by omega), ← h.rest, ← splice_take _ _ _ (by rw [h.open_.1]; omega)]
    exact List.take_of_length_le (by rw [splice_len _ _ _ (by rw [h.open_.1]; omega), h.open_.1]; omega)
  refine ⟨?_, bytes_zero 64, ?_⟩
  · rw [e1]
    show _ = blk (stTo (L ++ p) (L.length / 64)) (((L ++ p).drop (64 * (L.length / 64))).take 64)
    rw [stTo_app _ _ _ (by omega), ← h.st_, hd, List.take_of_length_le (by rw [splice_len _ _ _ (by rw [h.open_.1]; omega), h.open_.1]; omega)]
  · rw [e1, e2]
    rw [List.take_zero, List.drop_eq_nil_of_le (by rw [List.length_append]; omega)]

/-- In block g there is a Hash behind the bytes L. -/
def Hs (w : World) (g : Nat) (L : List Nat) : Prop := ∃ st o, HV st o L ∧ Blk w g 60 (hc st o L.length)
theorem Hs.lt {w : World} {g : Nat} {L : List Nat} (h : Hs w g L) : g < w.heap.size := by obtain ⟨_, _, _, hb⟩ := h; exact hb.lt
theorem Hs.below {w w' : World} {g B : Nat} {L : List Nat} (h : Hs w g L) (hb : Below B w w') (hlt : g < B) : Hs w' g L := by
  obtain ⟨st, o, hv, hb'⟩ := h; exact ⟨st, o, hv, hb'.below hb hlt⟩
theorem Hs.grown {w w' : World} {g : Nat} {L : List Nat} (h : Hs w g L) {row : Option Nat} (hg : w.grownBy w' row) (hne : some g ≠ row) : Hs w' g L := by
  obtain ⟨st, o, hv, hb'⟩ := h; exact ⟨st, o, hv, hb'.grown hg hne⟩
theorem Hs.drew {w : World} {g : Nat} {L : List Nat} (h : Hs w g L) : Hs w.drew g L := h
theorem Hs.alloc {w : World} {g : Nat} {L : List Nat} (h : Hs w g L) (ob : Obj) : Hs (w.alloc ob) g L := by
  obtain ⟨st, o, hv, hb'⟩ := h; exact ⟨st, o, hv, hb'.alloc ob⟩
end Go.Proofs.YtllhljhbnopafaaDoor
