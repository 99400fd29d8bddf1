/- Tables that rows list together: what the conditions give, and that the door's own heap meets them. Own work. -/
import Derived.Test.YtbepchikngoknaaDoorAesP
import Derived.Test.YtbepchikngoknaaDoorShaD
import Derived.ProofKit
import Derived.LaidMore
import Derived.OpenShut
import Derived.Stop.Joined
import Derived.Lib.LaidTab
import Derived.Test.YtbepchikngoknaaDoorLaidX
import Derived.LaidSub
namespace Go.Proofs.YtbepchikngoknaaDoor
open Go.ChangeShapes Go.WideShapes Go.ChangeAt Go.RowKit
theorem cells1_uint64 : Tryd.prog.cellsOf 66 = 1 := by kernel_rfl
theorem cells32_uint64 : Tryd.prog.cellsOf 158 = 32 := by kernel_rfl
theorem cells1_uint8 : Tryd.prog.cellsOf 5 = 1 := by kernel_rfl
theorem cells256_uint8 : Tryd.prog.cellsOf 143 = 256 := by kernel_rfl
def laidX : List (String × DataW Unit) := [("reliquary/aes.boxes", Rows.laid_reliquary_aes_boxes)]
theorem gX : Tryd.prog.globalNamed "reliquary/aes.boxes" = some 3 := by kernel_rfl
theorem tX : (Tryd.prog.globals[3]?).map (·.type) = some 158 := by kernel_rfl
theorem laid_tabX : (Rows.laid_reliquary_aes_boxes : DataW Unit) = Lib.tabData .u64 (AM.wtab.map fun n : Nat => (n : Int)) := by kernel_rfl
theorem lenX : AM.wtab.length = 32 := by kernel_rfl
theorem tabX_of_laid {W : World} (h : laidMetH Tryd.prog laidX W) : TabX W := by
  rw [MakeChecks.laidMetH_plain _ _ _ (by kernel_rfl)] at h
  unfold laidX at h
  rw [laid_tabX] at h
  have ht := Lib.tabIs_of_head gX tX Tryd.underlying158 Tryd.underlying66 cells1_uint64 cells32_uint64 h
  intro t htt
  have hc := ht.cell gX t (by rw [List.length_map, lenX]; exact htt)
  rw [hc]
  unfold gb
  rw [List.getD_eq_getElem?_getD, List.getD_eq_getElem?_getD, List.getElem?_map, List.getElem?_eq_getElem (by rw [lenX]; exact htt)]
  rfl
def laidA : List (String × DataW Unit) := [("reliquary/reliquaryref06.Box", Rows.laid_reliquary_reliquaryref06_Box)]
theorem gA : Tryd.prog.globalNamed "reliquary/reliquaryref06.Box" = some 2 := by kernel_rfl
theorem tA : (Tryd.prog.globals[2]?).map (·.type) = some 143 := by kernel_rfl
theorem laid_tabA : (Rows.laid_reliquary_reliquaryref06_Box : DataW Unit) = Lib.tabData .u8 (AM.tab.map fun n : Nat => (n : Int)) := by kernel_rfl
theorem lenA : AM.tab.length = 256 := by kernel_rfl
theorem tabA_of_laid {W : World} (h : laidMetH Tryd.prog laidA W) : TabA W := by
  rw [MakeChecks.laidMetH_plain _ _ _ (by kernel_rfl)] at h
  unfold laidA at h
  rw [laid_tabA] at h
  have ht := Lib.tabIs_of_head gA tA Tryd.underlying143 Tryd.underlying5 cells1_uint8 cells256_uint8 h
  intro t htt
  have hc := ht.cell gA t (by rw [List.length_map, lenA]; exact htt)
  rw [hc]
  unfold AM.box gb
  rw [List.getD_eq_getElem?_getD, List.getD_eq_getElem?_getD, List.getElem?_map, List.getElem?_eq_getElem (by rw [lenA]; exact htt)]
  rfl
def tabledK : Tabled := (("reliquary/reliquaryref03.k", Rows.laid_reliquary_reliquaryref03_k), 0, 64)
theorem metK (os : Os) (args : Array Value) : tabledK.met Tryd.prog ((World.doorLaid Tryd.prog 400 os).forCall (fun _ _ => 0) ⟨#[], args, []⟩).memory 8 := ⟨by kernel_rfl, by kernel_rfl⟩
def tabledP : Tabled := (("reliquary/sha.constants", Rows.laid_reliquary_sha_constants), 1, 64)
theorem metP (os : Os) (args : Array Value) : tabledP.met Tryd.prog ((World.doorLaid Tryd.prog 400 os).forCall (fun _ _ => 0) ⟨#[], args, []⟩).memory 8 := ⟨by kernel_rfl, by kernel_rfl⟩
def tabledX : Tabled := (("reliquary/aes.boxes", Rows.laid_reliquary_aes_boxes), 3, 32)
theorem metX (os : Os) (args : Array Value) : tabledX.met Tryd.prog ((World.doorLaid Tryd.prog 400 os).forCall (fun _ _ => 0) ⟨#[], args, []⟩).memory 8 := ⟨by kernel_rfl, by kernel_rfl⟩
def tabledA : Tabled := (("reliquary/reliquaryref06.Box", Rows.laid_reliquary_reliquaryref06_Box), 2, 256)
theorem metA (os : Os) (args : Array Value) : tabledA.met Tryd.prog ((World.doorLaid Tryd.prog 400 os).forCall (fun _ _ => 0) ⟨#[], args, []⟩).memory 8 := ⟨by kernel_rfl, by kernel_rfl⟩
def laidXPs : List (String × DataW Unit) := [("reliquary/aes.boxes", Rows.laid_reliquary_aes_boxes), ("reliquary/sha.constants", Rows.laid_reliquary_sha_constants)]
theorem laidXPs_X : laidXPs.filter (fun x => x.1 == "reliquary/aes.boxes") = laidX := by
  unfold laidXPs laidX
  rw [List.filter_cons_of_pos (by decide), List.filter_cons_of_neg (by decide)]; rfl
theorem laidXPs_P : laidXPs.filter (fun x => x.1 == "reliquary/sha.constants") = laidP := by
  unfold laidXPs laidP
  rw [List.filter_cons_of_neg (by decide), List.filter_cons_of_pos (by decide)]; rfl
theorem tabsXPs_of_laid {W : World} (h : laidMetH Tryd.prog laidXPs W) : TabX W ∧ TabP W := by
  have h0 := h.filter (fun x => x.1 == "reliquary/aes.boxes")
  rw [laidXPs_X] at h0
  have h1 := h.filter (fun x => x.1 == "reliquary/sha.constants")
  rw [laidXPs_P] at h1
  exact ⟨tabX_of_laid h0, tabP_of_laid h1⟩
theorem doorXPs_met (os : Os) (args : Array Value) : laidMetH Tryd.prog laidXPs ((World.doorLaid Tryd.prog 400 os).forCall (fun _ _ => 0) ⟨#[], args, []⟩).memory := by
  rw [MakeChecks.laidMetH_plain _ _ _ (by kernel_rfl)]
  exact laidMet_many (fuel := 8) [tabledX, tabledP] (by
    intro x hx
    simp only [List.mem_cons, List.not_mem_nil, or_false] at hx
    rcases hx with rfl | rfl
    · exact metX os args
    · exact metP os args) (by decide)
def laidXKAPs : List (String × DataW Unit) := [("reliquary/aes.boxes", Rows.laid_reliquary_aes_boxes), ("reliquary/reliquaryref03.k", Rows.laid_reliquary_reliquaryref03_k), ("reliquary/reliquaryref06.Box", Rows.laid_reliquary_reliquaryref06_Box), ("reliquary/sha.constants", Rows.laid_reliquary_sha_constants)]
theorem laidXKAPs_X : laidXKAPs.filter (fun x => x.1 == "reliquary/aes.boxes") = laidX := by
  unfold laidXKAPs laidX
  rw [List.filter_cons_of_pos (by decide), List.filter_cons_of_neg (by decide), List.filter_cons_of_neg (by decide), List.filter_cons_of_neg (by decide)]; rfl
theorem laidXKAPs_K : laidXKAPs.filter (fun x => x.1 == "reliquary/reliquaryref03.k") = laidK := by
  unfold laidXKAPs laidK
  rw [List.filter_cons_of_neg (by decide), List.filter_cons_of_pos (by decide), List.filter_cons_of_neg (by decide), List.filter_cons_of_neg (by decide)]; rfl
theorem laidXKAPs_A : laidXKAPs.filter (fun x => x.1 == "reliquary/reliquaryref06.Box") = laidA := by
  unfold laidXKAPs laidA
  rw [List.filter_cons_of_neg (by decide), List.filter_cons_of_neg (by decide), List.filter_cons_of_pos (by decide), List.filter_cons_of_neg (by decide)]; rfl
theorem laidXKAPs_P : laidXKAPs.filter (fun x => x.1 == "reliquary/sha.constants") = laidP := by
  unfold laidXKAPs laidP
  rw [List.filter_cons_of_neg (by decide), List.filter_cons_of_neg (by decide), List.filter_cons_of_neg (by decide), List.filter_cons_of_pos (by decide)]; rfl
theorem tabsXKAPs_of_laid {W : World} (h : laidMetH Tryd.prog laidXKAPs W) : TabX W ∧ Tab W ∧ TabA W ∧ TabP W := by
  have h0 := h.filter (fun x => x.1 == "reliquary/aes.boxes")
  rw [laidXKAPs_X] at h0
  have h1 := h.filter (fun x => x.1 == "reliquary/reliquaryref03.k")
  rw [laidXKAPs_K] at h1
  have h2 := h.filter (fun x => x.1 == "reliquary/reliquaryref06.Box")
  rw [laidXKAPs_A] at h2
  have h3 := h.filter (fun x => x.1 == "reliquary/sha.constants")
  rw [laidXKAPs_P] at h3
  exact ⟨tabX_of_laid h0, tab_of_laid h1, tabA_of_laid h2, tabP_of_laid h3⟩
theorem doorXKAPs_met (os : Os) (args : Array Value) : laidMetH Tryd.prog laidXKAPs ((World.doorLaid Tryd.prog 400 os).forCall (fun _ _ => 0) ⟨#[], args, []⟩).memory := by
  rw [MakeChecks.laidMetH_plain _ _ _ (by kernel_rfl)]
  exact laidMet_many (fuel := 8) [tabledX, tabledK, tabledA, tabledP] (by
    intro x hx
    simp only [List.mem_cons, List.not_mem_nil, or_false] at hx
    rcases hx with rfl | rfl | rfl | rfl
    · exact metX os args
    · exact metK os args
    · exact metA os args
    · exact metP os args) (by decide)
end Go.Proofs.YtbepchikngoknaaDoor
