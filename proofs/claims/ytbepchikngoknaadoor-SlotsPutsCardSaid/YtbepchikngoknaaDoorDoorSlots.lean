/- Three tables that a row lists together: what the condition gives, and that the door's own heap meets it. Own work. -/
import Derived.Test.YtbepchikngoknaaDoorDoorWrap
namespace Go.Proofs.YtbepchikngoknaaDoor
open Go.ChangeShapes Go.WideShapes Go.ChangeAt Go.RowKit
def laidXKPs : List (String × DataW Unit) := [("reliquary/aes.boxes", Rows.laid_reliquary_aes_boxes), ("reliquary/reliquaryref03.k", Rows.laid_reliquary_reliquaryref03_k), ("reliquary/sha.constants", Rows.laid_reliquary_sha_constants)]
theorem laidXKPs_X : laidXKPs.filter (fun x => x.1 == "reliquary/aes.boxes") = laidX := by
  unfold laidXKPs laidX
  rw [List.filter_cons_of_pos (by decide), List.filter_cons_of_neg (by decide), List.filter_cons_of_neg (by decide)]; rfl
theorem laidXKPs_K : laidXKPs.filter (fun x => x.1 == "reliquary/reliquaryref03.k") = laidK := by
  unfold laidXKPs laidK
  rw [List.filter_cons_of_neg (by decide), List.filter_cons_of_pos (by decide), List.filter_cons_of_neg (by decide)]; rfl
theorem laidXKPs_P : laidXKPs.filter (fun x => x.1 == "reliquary/sha.constants") = laidP := by
  unfold laidXKPs laidP
  rw [List.filter_cons_of_neg (by decide), List.filter_cons_of_neg (by decide), List.filter_cons_of_pos (by decide)]; rfl
theorem tabsXKPs_of_laid {W : World} (h : laidMetH Tryd.prog laidXKPs W) : TabX W ∧ Tab W ∧ TabP W := by
  have h0 := h.filter (fun x => x.1 == "reliquary/aes.boxes")
  rw [laidXKPs_X] at h0
  have h1 := h.filter (fun x => x.1 == "reliquary/reliquaryref03.k")
  rw [laidXKPs_K] at h1
  have h2 := h.filter (fun x => x.1 == "reliquary/sha.constants")
  rw [laidXKPs_P] at h2
  exact ⟨tabX_of_laid h0, tab_of_laid h1, tabP_of_laid h2⟩
theorem doorXKPs_met (os : Os) (args : Array Value) : laidMetH Tryd.prog laidXKPs ((World.doorLaid Tryd.prog 400 os).forCall (fun _ _ => 0) ⟨#[], args, []⟩).memory := by
  rw [MakeChecks.laidMetH_plain _ _ _ (by kernel_rfl)]
  exact laidMet_many (fuel := 8) [tabledX, tabledK, tabledP] (by
    intro x hx
    simp only [List.mem_cons, List.not_mem_nil, or_false] at hx
    rcases hx with rfl | rfl | rfl
    · exact metX os args
    · exact metK os args
    · exact metP os args) (by decide)
end Go.Proofs.YtbepchikngoknaaDoor
