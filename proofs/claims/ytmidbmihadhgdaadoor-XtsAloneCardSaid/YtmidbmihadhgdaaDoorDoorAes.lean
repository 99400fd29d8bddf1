/- The tables of AES, as the rows list them: what the conditions give, and that the door's own heap meets them. Own work. -/
import Derived.Test.YtmidbmihadhgdaaDoorAesProg
import Derived.ProofKit
import Derived.LaidMore
import Derived.OpenShut
import Derived.Stop.Joined
import Derived.Lib.LaidTab
import Derived.Test.YtmidbmihadhgdaaDoorLaidTwo
import Derived.LaidSub
namespace Go.Proofs.YtmidbmihadhgdaaDoor
open Go.ChangeShapes Go.WideShapes Go.ChangeAt Go.RowKit
theorem cells1_uint64 : Tryd.prog.cellsOf 25 = 1 := by kernel_rfl
theorem cells32_uint64 : Tryd.prog.cellsOf 75 = 32 := by kernel_rfl
theorem cells1_uint8 : Tryd.prog.cellsOf 5 = 1 := by kernel_rfl
theorem cells256_uint8 : Tryd.prog.cellsOf 61 = 256 := by kernel_rfl
def laidX : List (String × DataW Unit) := [("reliquary/aes.boxes", Rows.laid_reliquary_aes_boxes)]
theorem gX : Tryd.prog.globalNamed "reliquary/aes.boxes" = some 1 := by kernel_rfl
theorem tX : (Tryd.prog.globals[1]?).map (·.type) = some 75 := by kernel_rfl
theorem laid_tabX : (Rows.laid_reliquary_aes_boxes : DataW Unit) = Lib.tabData .u64 (AM.wtab.map fun n : Nat => (n : Int)) := by kernel_rfl
theorem lenX : AM.wtab.length = 32 := by kernel_rfl
theorem tabX_of_laid {W : World} (h : laidMetH Tryd.prog laidX W) : TabX W := by
  rw [MakeChecks.laidMetH_plain _ _ _ (by kernel_rfl)] at h
  unfold laidX at h
  rw [laid_tabX] at h
  have ht := Lib.tabIs_of_head gX tX Tryd.underlying75 Tryd.underlying25 cells1_uint64 cells32_uint64 h
  intro t htt
  have hc := ht.cell gX t (by rw [List.length_map, lenX]; exact htt)
  rw [hc]
  unfold gb
  rw [List.getD_eq_getElem?_getD, List.getD_eq_getElem?_getD, List.getElem?_map, List.getElem?_eq_getElem (by rw [lenX]; exact htt)]
  rfl
theorem doorX_met (os : Os) (args : Array Value) : laidMetH Tryd.prog laidX ((World.doorLaid Tryd.prog 400 os).forCall (fun _ _ => 0) ⟨#[], args, []⟩).memory :=
  laidMetH_of_parts3 (fuel := 8) (laidMet_of_run' 8 (by kernel_rfl) (by kernel_rfl)) (by kernel_rfl) (by kernel_rfl)
def laidA : List (String × DataW Unit) := [("reliquary/reliquaryref06.Box", Rows.laid_reliquary_reliquaryref06_Box)]
theorem gA : Tryd.prog.globalNamed "reliquary/reliquaryref06.Box" = some 0 := by kernel_rfl
theorem tA : (Tryd.prog.globals[0]?).map (·.type) = some 61 := by kernel_rfl
theorem laid_tabA : (Rows.laid_reliquary_reliquaryref06_Box : DataW Unit) = Lib.tabData .u8 (AM.tab.map fun n : Nat => (n : Int)) := by kernel_rfl
theorem lenA : AM.tab.length = 256 := by kernel_rfl
theorem tabA_of_laid {W : World} (h : laidMetH Tryd.prog laidA W) : TabA W := by
  rw [MakeChecks.laidMetH_plain _ _ _ (by kernel_rfl)] at h
  unfold laidA at h
  rw [laid_tabA] at h
  have ht := Lib.tabIs_of_head gA tA Tryd.underlying61 Tryd.underlying5 cells1_uint8 cells256_uint8 h
  intro t htt
  have hc := ht.cell gA t (by rw [List.length_map, lenA]; exact htt)
  rw [hc]
  unfold AM.box gb
  rw [List.getD_eq_getElem?_getD, List.getD_eq_getElem?_getD, List.getElem?_map, List.getElem?_eq_getElem (by rw [lenA]; exact htt)]
  rfl
theorem doorA_met (os : Os) (args : Array Value) : laidMetH Tryd.prog laidA ((World.doorLaid Tryd.prog 400 os).forCall (fun _ _ => 0) ⟨#[], args, []⟩).memory :=
  laidMetH_of_parts3 (fuel := 8) (laidMet_of_run' 8 (by kernel_rfl) (by kernel_rfl)) (by kernel_rfl) (by kernel_rfl)
def laidU : List (String × DataW Unit) := [("reliquary/aes.unboxes", Rows.laid_reliquary_aes_unboxes)]
theorem gU : Tryd.prog.globalNamed "reliquary/aes.unboxes" = some 2 := by kernel_rfl
theorem tU : (Tryd.prog.globals[2]?).map (·.type) = some 75 := by kernel_rfl
theorem laid_tabU : (Rows.laid_reliquary_aes_unboxes : DataW Unit) = Lib.tabData .u64 (AM.wuntab.map fun n : Nat => (n : Int)) := by kernel_rfl
theorem lenU : AM.wuntab.length = 32 := by kernel_rfl
theorem tabU_of_laid {W : World} (h : laidMetH Tryd.prog laidU W) : TabU W := by
  rw [MakeChecks.laidMetH_plain _ _ _ (by kernel_rfl)] at h
  unfold laidU at h
  rw [laid_tabU] at h
  have ht := Lib.tabIs_of_head gU tU Tryd.underlying75 Tryd.underlying25 cells1_uint64 cells32_uint64 h
  intro t htt
  have hc := ht.cell gU t (by rw [List.length_map, lenU]; exact htt)
  rw [hc]
  unfold gb
  rw [List.getD_eq_getElem?_getD, List.getD_eq_getElem?_getD, List.getElem?_map, List.getElem?_eq_getElem (by rw [lenU]; exact htt)]
  rfl
theorem doorU_met (os : Os) (args : Array Value) : laidMetH Tryd.prog laidU ((World.doorLaid Tryd.prog 400 os).forCall (fun _ _ => 0) ⟨#[], args, []⟩).memory :=
  laidMetH_of_parts3 (fuel := 8) (laidMet_of_run' 8 (by kernel_rfl) (by kernel_rfl)) (by kernel_rfl) (by kernel_rfl)
def laidXA : List (String × DataW Unit) := [("reliquary/aes.boxes", Rows.laid_reliquary_aes_boxes), ("reliquary/reliquaryref06.Box", Rows.laid_reliquary_reliquaryref06_Box)]
theorem laidXA_X : laidXA.filter (fun x => x.1 == "reliquary/aes.boxes") = laidX := by
  unfold laidXA laidX
  rw [List.filter_cons_of_pos (by decide), List.filter_cons_of_neg (by decide)]; rfl
theorem laidXA_A : laidXA.filter (fun x => x.1 == "reliquary/reliquaryref06.Box") = laidA := by
  unfold laidXA laidA
  rw [List.filter_cons_of_neg (by decide), List.filter_cons_of_pos (by decide)]; rfl
theorem tabsXA_of_laid {W : World} (h : laidMetH Tryd.prog laidXA W) : TabX W ∧ TabA W := by
  have h0 := h.filter (fun x => x.1 == "reliquary/aes.boxes")
  rw [laidXA_X] at h0
  have h1 := h.filter (fun x => x.1 == "reliquary/reliquaryref06.Box")
  rw [laidXA_A] at h1
  exact ⟨tabX_of_laid h0, tabA_of_laid h1⟩
theorem doorXA_met (os : Os) (args : Array Value) : laidMetH Tryd.prog laidXA ((World.doorLaid Tryd.prog 400 os).forCall (fun _ _ => 0) ⟨#[], args, []⟩).memory := by
  rw [MakeChecks.laidMetH_plain _ _ _ (by kernel_rfl)]
  exact laidMet_two (fuel := 8) (ga := 1) (gb := 0) (m := 32) (n := 256) (by kernel_rfl) (by kernel_rfl) (by kernel_rfl) (by kernel_rfl) (by decide)
def laidXU : List (String × DataW Unit) := [("reliquary/aes.boxes", Rows.laid_reliquary_aes_boxes), ("reliquary/aes.unboxes", Rows.laid_reliquary_aes_unboxes)]
theorem laidXU_X : laidXU.filter (fun x => x.1 == "reliquary/aes.boxes") = laidX := by
  unfold laidXU laidX
  rw [List.filter_cons_of_pos (by decide), List.filter_cons_of_neg (by decide)]; rfl
theorem laidXU_U : laidXU.filter (fun x => x.1 == "reliquary/aes.unboxes") = laidU := by
  unfold laidXU laidU
  rw [List.filter_cons_of_neg (by decide), List.filter_cons_of_pos (by decide)]; rfl
theorem tabsXU_of_laid {W : World} (h : laidMetH Tryd.prog laidXU W) : TabX W ∧ TabU W := by
  have h0 := h.filter (fun x => x.1 == "reliquary/aes.boxes")
  rw [laidXU_X] at h0
  have h1 := h.filter (fun x => x.1 == "reliquary/aes.unboxes")
  rw [laidXU_U] at h1
  exact ⟨tabX_of_laid h0, tabU_of_laid h1⟩
theorem doorXU_met (os : Os) (args : Array Value) : laidMetH Tryd.prog laidXU ((World.doorLaid Tryd.prog 400 os).forCall (fun _ _ => 0) ⟨#[], args, []⟩).memory := by
  rw [MakeChecks.laidMetH_plain _ _ _ (by kernel_rfl)]
  exact laidMet_two (fuel := 8) (ga := 1) (gb := 2) (m := 32) (n := 32) (by kernel_rfl) (by kernel_rfl) (by kernel_rfl) (by kernel_rfl) (by decide)
def laidXUA : List (String × DataW Unit) := [("reliquary/aes.boxes", Rows.laid_reliquary_aes_boxes), ("reliquary/aes.unboxes", Rows.laid_reliquary_aes_unboxes), ("reliquary/reliquaryref06.Box", Rows.laid_reliquary_reliquaryref06_Box)]
theorem laidXUA_X : laidXUA.filter (fun x => x.1 == "reliquary/aes.boxes") = laidX := by
  unfold laidXUA laidX
  rw [List.filter_cons_of_pos (by decide), List.filter_cons_of_neg (by decide), List.filter_cons_of_neg (by decide)]; rfl
theorem laidXUA_U : laidXUA.filter (fun x => x.1 == "reliquary/aes.unboxes") = laidU := by
  unfold laidXUA laidU
  rw [List.filter_cons_of_neg (by decide), List.filter_cons_of_pos (by decide), List.filter_cons_of_neg (by decide)]; rfl
theorem laidXUA_A : laidXUA.filter (fun x => x.1 == "reliquary/reliquaryref06.Box") = laidA := by
  unfold laidXUA laidA
  rw [List.filter_cons_of_neg (by decide), List.filter_cons_of_neg (by decide), List.filter_cons_of_pos (by decide)]; rfl
theorem tabsXUA_of_laid {W : World} (h : laidMetH Tryd.prog laidXUA W) : TabX W ∧ TabU W ∧ TabA W := by
  have h0 := h.filter (fun x => x.1 == "reliquary/aes.boxes")
  rw [laidXUA_X] at h0
  have h1 := h.filter (fun x => x.1 == "reliquary/aes.unboxes")
  rw [laidXUA_U] at h1
  have h2 := h.filter (fun x => x.1 == "reliquary/reliquaryref06.Box")
  rw [laidXUA_A] at h2
  exact ⟨tabX_of_laid h0, tabU_of_laid h1, tabA_of_laid h2⟩
theorem doorXUA_met (os : Os) (args : Array Value) : laidMetH Tryd.prog laidXUA ((World.doorLaid Tryd.prog 400 os).forCall (fun _ _ => 0) ⟨#[], args, []⟩).memory := by
  rw [MakeChecks.laidMetH_plain _ _ _ (by kernel_rfl)]
  exact laidMet_three (fuel := 8) (ga := 1) (gb := 2) (gc := 0) (m := 32) (n := 32) (k := 256) (by kernel_rfl) (by kernel_rfl) (by kernel_rfl) (by kernel_rfl) (by kernel_rfl) (by kernel_rfl) (by decide) (by decide) (by decide)
end Go.Proofs.YtmidbmihadhgdaaDoor
