/- The program's table of words, as the row lists it: what the condition gives, and that the door's own heap meets it. Own work. -/
import Derived.Test.YtllhljhbnopafaaDoorShaAfter
import Derived.ProofKit
import Derived.LaidMore
import Derived.OpenShut
import Derived.Stop.Joined
import Derived.Lib.LaidTab
namespace Go.Proofs.YtllhljhbnopafaaDoor
open Go.ChangeShapes Go.WideShapes Go.ChangeAt Go.RowKit
def laidP : List (String × DataW Unit) := [("reliquary/sha.constants", Rows.laid_reliquary_sha_constants)]
theorem gP : Tryd.prog.globalNamed "reliquary/sha.constants" = some 1 := by kernel_rfl
theorem tP : (Tryd.prog.globals[1]?).map (·.type) = some 63 := by kernel_rfl
theorem cellsW' : Tryd.prog.cellsOf 53 = 1 := by kernel_rfl
theorem cellsW64' : Tryd.prog.cellsOf 63 = 64 := by kernel_rfl
theorem laid_tabP : (Rows.laid_reliquary_sha_constants : DataW Unit) = Lib.tabData .u32 (SM.kk.map fun n : Nat => (n : Int)) := rfl
theorem tabP_of_laid {W : World} (h : laidMetH Tryd.prog laidP W) : TabP W := by
  rw [MakeChecks.laidMetH_plain _ _ _ (by kernel_rfl)] at h
  unfold laidP at h
  rw [laid_tabP] at h
  have ht := Lib.tabIs_of_head gP tP Tryd.underlying63 Tryd.underlying53 cellsW' cellsW64' h
  intro t htt
  have hc := ht.cell gP t (by rw [List.length_map]; exact htt)
  rw [hc]
  unfold gb
  rw [List.getD_eq_getElem?_getD, List.getD_eq_getElem?_getD, List.getElem?_map, List.getElem?_eq_getElem (by exact htt)]
  rfl
theorem doorP_met (os : Os) (args : Array Value) : laidMetH Tryd.prog laidP ((World.doorLaid Tryd.prog 400 os).forCall (fun _ _ => 0) ⟨#[], args, []⟩).memory :=
  laidMetH_of_parts3 (fuel := 8) (laidMet_of_run' 8 (by kernel_rfl) (by kernel_rfl)) (by kernel_rfl) (by kernel_rfl)
end Go.Proofs.YtllhljhbnopafaaDoor
