/- An array of sixteen bytes has sixteen cells. Own work. -/
import Derived.Test.YtmidbmihadhgdaaDoorRows
import Derived.WalkKit
import Derived.ProofKit
namespace Go.Proofs.YtmidbmihadhgdaaDoor
theorem info16 : (Tryd.prog.info? 35).map (·.size) = some 16 := by kernel_rfl
end Go.Proofs.YtmidbmihadhgdaaDoor
