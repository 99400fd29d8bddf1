/- A cell of a slice of the call's own; a store turns one block. Own work. -/
import Derived.Test.YtflegnlldidmaaaDoorMem
namespace Go.Proofs.YtflegnlldidmaaaDoor
open Go.RowKit
theorem own_at {w : World} {base n cap : Nat} {ao : Option Addr} {l : List Nat} (h : Own w base (.slice ao n cap) l) (hl : 0 < l.length) : ∃ b, ao = some ⟨b, 0, none⟩ := by
  rcases h.1.2 with ⟨_, q⟩ | ⟨g, cap', cur, q, _⟩
  · omega
  · injection q with q1 _ _
    exact ⟨g, q1⟩
theorem grownBy_cell (w : World) (b j : Nat) (v : Value) : w.grownBy (w.setCell ⟨b, j, none⟩ v) (some b) := only_set (World.grownBy.refl w (some b)) (p := ⟨b, j, none⟩) (.inl rfl) v
end Go.Proofs.YtflegnlldidmaaaDoor
