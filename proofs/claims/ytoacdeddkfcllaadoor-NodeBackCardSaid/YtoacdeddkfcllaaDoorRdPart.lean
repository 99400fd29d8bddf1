/- A part of a block reads as bytes. Cut off RtPutR in round 15. Own work. -/
import Derived.Test.YtoacdeddkfcllaaDoorMem
namespace Go.Proofs.YtoacdeddkfcllaaDoor
open Go.ChangeShapes Go.WideShapes Go.ChangeAt Go.RowKit
/-- A part of a block reads as bytes. -/
theorem rd_part {w : World} {b : Nat} {t : TypeId} {L : List Value} (h : Blk w b t L) {o n : Nat} {l : List Nat} (hl : Bytes n l) (he : (L.drop o).take n = row8 l) (hn : n ≤ 140737488355328) : Rd w (.slice (some ⟨b, o, none⟩) n n) l := by
  refine ⟨hl.2, by rw [hl.1]; exact hn, .inr ⟨_, n, by rw [hl.1], by rw [hl.1]; exact Nat.le_refl _, fun j hj => ?_⟩⟩
  rw [Addr.add_mid]
  refine h.cell (o + j) _ ?_
  have h1 := row8_val l j hj
  rw [← he, List.getElem?_take, if_pos (by rw [← hl.1]; exact hj), List.getElem?_drop] at h1
  exact h1
end Go.Proofs.YtoacdeddkfcllaaDoor
