/- The table by which math/bits finds the lowest bit, as the row lists it: what the condition gives, and that the door's own heap meets it. Own work. -/
import Derived.Test.YtlckhlcccifbfaaDoorAlBits
import Derived.ProofKit
import Derived.LaidMore
import Derived.OpenShut
import Derived.Stop.Joined
import Derived.Lib.LaidTab
namespace Go.Proofs.YtlckhlcccifbfaaDoor
open Go.ChangeShapes Go.WideShapes Go.ChangeAt Go.RowKit
def laidD : List (String × DataW Unit) := [("math/bits.deBruijn64tab", Rows.laid_math_bits_deBruijn64tab)]
theorem gD : Tryd.prog.globalNamed "math/bits.deBruijn64tab" = some 0 := by kernel_rfl
theorem tD : (Tryd.prog.globals[0]?).map (·.type) = some 65 := by kernel_rfl
theorem cellsD1 : Tryd.prog.cellsOf 5 = 1 := by kernel_rfl
theorem cellsD64 : Tryd.prog.cellsOf 65 = 64 := by kernel_rfl
theorem laid_tabD : (Rows.laid_math_bits_deBruijn64tab : DataW Unit) = Lib.tabData .u8 (Lib.deBruijn64tab.map fun n : Nat => (n : Int)) := rfl
theorem tabD_of_laid {W : World} (h : laidMetH Tryd.prog laidD W) : TabD W := by
  rw [MakeChecks.laidMetH_plain _ _ _ (by kernel_rfl)] at h
  unfold laidD at h
  rw [laid_tabD] at h
  have ht := Lib.tabIs_of_head gD tD Tryd.underlying65 Tryd.underlying5 cellsD1 cellsD64 h
  intro t htt
  have hc := ht.cell gD t (by rw [List.length_map]; exact htt)
  rw [hc]
  unfold gb
  rw [List.getD_eq_getElem?_getD, List.getD_eq_getElem?_getD, List.getElem?_map, List.getElem?_eq_getElem (by exact htt)]
  rfl
theorem doorD_met (os : Os) (args : Array Value) : laidMetH Tryd.prog laidD ((World.doorLaid Tryd.prog 400 os).forCall (fun _ _ => 0) ⟨#[], args, []⟩).memory :=
  laidMetH_of_parts3 (fuel := 8) (laidMet_of_run' 8 (by kernel_rfl) (by kernel_rfl)) (by kernel_rfl) (by kernel_rfl)
end Go.Proofs.YtlckhlcccifbfaaDoor
