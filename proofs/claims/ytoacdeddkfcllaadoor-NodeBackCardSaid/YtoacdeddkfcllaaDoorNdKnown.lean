/- The node of node's closed case, and two sums that differ, reckoned. Own work. -/
import Derived.Test.YtoacdeddkfcllaaDoorNdM
import Derived.Test.YtoacdeddkfcllaaDoorShaD
namespace Go.Proofs.YtoacdeddkfcllaaDoor
open RT
namespace ND
def aP : Pg := ⟨258, List.replicate 32 0⟩
def aN : List Pg := List.replicate 7 zp ++ [aP]
theorem aP_ok : Pok aP := ⟨by decide, bytes_zero 32⟩
theorem aN_ok : Nok aN := ⟨by decide, fun p hp => by
  rcases List.mem_append.1 hp with q | q
  · rw [List.eq_of_mem_replicate q]; exact zp_ok
  · rw [List.mem_singleton.1 q]; exact aP_ok⟩
theorem aN_may : may aN = true := by decide +kernel
theorem aN_empty : empty aN = false := by decide +kernel
theorem aN_254 : gb (ones aN) 254 = 1 := by decide +kernel
theorem aN_255 : gb (ones aN) 255 = 2 := by decide +kernel
theorem aN_at : (pcs aN)[231]? = some (.int .u32 258) := pcs_at aN_ok.ok (k := 7) (by decide)
set_option maxRecDepth 100000 in
theorem apart : SM.sha [110, 111, 100, 101] ≠ SM.sha [112, 97, 103, 101] := by decide +kernel
end ND
end Go.Proofs.YtoacdeddkfcllaaDoor
