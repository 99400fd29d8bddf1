/- The document's table of words and the program's, as a row lists them both. Own work. -/
import Derived.Test.YtllhljhbnopafaaDoorDoor
import Derived.Test.YtllhljhbnopafaaDoorDoorP
import Derived.LaidSub
namespace Go.Proofs.YtllhljhbnopafaaDoor
open Go.ChangeShapes Go.WideShapes Go.ChangeAt Go.RowKit
def laidB : List (String × DataW Unit) := [("reliquary/reliquaryref03.k", Rows.laid_reliquary_reliquaryref03_k), ("reliquary/sha.constants", Rows.laid_reliquary_sha_constants)]
theorem laidB_k : laidB.filter (fun x => x.1 == "reliquary/reliquaryref03.k") = laidK := by
  unfold laidB laidK
  rw [List.filter_cons_of_pos (by decide), List.filter_cons_of_neg (by decide)]; rfl
theorem laidB_p : laidB.filter (fun x => x.1 == "reliquary/sha.constants") = laidP := by
  unfold laidB laidP
  rw [List.filter_cons_of_neg (by decide), List.filter_cons_of_pos (by decide)]; rfl
theorem tabs_of_laid {W : World} (h : laidMetH Tryd.prog laidB W) : Tab W ∧ TabP W := by
  have h1 := h.filter (fun x => x.1 == "reliquary/reliquaryref03.k")
  have h2 := h.filter (fun x => x.1 == "reliquary/sha.constants")
  rw [laidB_k] at h1
  rw [laidB_p] at h2
  exact ⟨tab_of_laid h1, tabP_of_laid h2⟩
theorem doorB_met (os : Os) (args : Array Value) : laidMetH Tryd.prog laidB ((World.doorLaid Tryd.prog 400 os).forCall (fun _ _ => 0) ⟨#[], args, []⟩).memory :=
  laidMetH_of_parts3 (fuel := 8) (laidMet_of_run' 8 (by kernel_rfl) (by kernel_rfl)) (by kernel_rfl) (by kernel_rfl)
end Go.Proofs.YtllhljhbnopafaaDoor
