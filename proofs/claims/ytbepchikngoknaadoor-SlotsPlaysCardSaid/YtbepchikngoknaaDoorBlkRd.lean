/- A piece of a block reads as bytes. Own work. -/
import Derived.Test.YtbepchikngoknaaDoorMem
namespace Go.Proofs.YtbepchikngoknaaDoor
open Go.RowKit
theorem blk_rd_at {w : World} {g : Nat} {t : TypeId} {l : List Nat} (h : Blk w g t (row8 l)) (hb : ∀ k, gb l k < 256) (o n cap : Nat) (hn : o + n ≤ l.length) (hc : n ≤ cap) (hf : l.length ≤ 140737488355328) : Rd w (.slice (some ⟨g, o, none⟩) n cap) ((l.drop o).take n) := by
  have e1 : ((l.drop o).take n).length = n := by rw [List.length_take, List.length_drop]; omega
  refine ⟨gb_take_byte _ n (fun k => by rw [gb_drop]; exact hb _), by rw [e1]; omega, .inr ⟨_, cap, by rw [e1], by rw [e1]; exact hc, fun j hj => ?_⟩⟩
  rw [gb_take _ n j (by omega), gb_drop, Addr.add_mid]
  exact h.cell (o + j) _ (row8_val l (o + j) (by omega))
end Go.Proofs.YtbepchikngoknaaDoor
