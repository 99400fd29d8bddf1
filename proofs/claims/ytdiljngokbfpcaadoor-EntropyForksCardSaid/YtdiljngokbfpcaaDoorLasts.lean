/- What lies in memory lasts while a range over a function does its own book-keeping. Own work. -/
import Derived.Test.YtdiljngokbfpcaaDoorRangeFn
import Derived.Test.YtdiljngokbfpcaaDoorShaD
namespace Go.Proofs.YtdiljngokbfpcaaDoor
open Go.RowKit
theorem blk_ne {A A' : World} {g B : Nat} {t : TypeId} {vs : List Value} {row : Option Nat} (h : Blk A g t vs) (hr : ∀ r, row = some r → B ≤ r ∧ ∃ o : Obj, A.heap[r]? = some o ∧ o.isCells = false) : some g ≠ row := fun e => by
  obtain ⟨_, o, ho, hc⟩ := hr g e.symm
  rw [show A.heap[g]? = _ from h] at ho; cases ho; cases hc
theorem lasts_blk {B g : Nat} {t : TypeId} {vs : List Value} : Lasts B (fun w => Blk w g t vs) := lasts_cells
theorem lasts_hs {B g : Nat} {L : List Nat} : Lasts B (fun w => Hs w g L) := fun A A' ⟨st, o, hv, hb⟩ hs => ⟨st, o, hv, lasts_blk A A' hb hs⟩
theorem cell_block {w : World} {a : Addr} {v : Value} (h : w.cell? a = some v) : ∃ o : Obj, w.heap[a.block]? = some o ∧ o.isCells = true := by
  unfold World.cell? at h
  cases ho : w.heap[a.block]? with
  | none => rw [ho] at h; cases h
  | some o =>
    refine ⟨o, rfl, ?_⟩
    rw [ho] at h
    cases o <;> first | rfl | (exfalso; revert h; simp)
theorem lasts_tab {B : Nat} : Lasts B (fun w => TabP w) := by
  rintro A A' hi ⟨row, hg, hr⟩
  refine hi.keep (hg.block _ hi.lt fun e => ?_)
  obtain ⟨_, o, ho, hc⟩ := hr _ e.symm
  obtain ⟨o', ho', hc'⟩ := cell_block (hi 0 (by omega))
  rw [ho] at ho'; cases ho'; rw [hc] at hc'; cases hc'
theorem lasts_own {B base : Nat} {v : Value} {l : List Nat} : Lasts B (fun w => Own w base v l) := by
  rintro A A' hi ⟨row, hg, hr⟩
  refine hi.keep hg ?_
  rcases hi.1.2 with ⟨e, _⟩ | ⟨g, cap, cur, e, _, hh, _⟩
  · left; rw [e]; rfl
  · right
    rw [e]
    intro q
    obtain ⟨_, o, ho, hc⟩ := hr g q.symm
    rw [hh] at ho; cases ho; cases hc
end Go.Proofs.YtdiljngokbfpcaaDoor
