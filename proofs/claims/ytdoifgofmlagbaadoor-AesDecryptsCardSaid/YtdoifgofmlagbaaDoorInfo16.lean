/- An array of sixteen bytes has sixteen cells. Own work. -/
import Derived.Test.YtdoifgofmlagbaaDoorRows
import Derived.WalkKit
import Derived.ProofKit
namespace Go.Proofs.YtdoifgofmlagbaaDoor
theorem info16 : (Tryd.prog.info? 28).map (·.size) = some 16 := by kernel_rfl
end Go.Proofs.YtdoifgofmlagbaaDoor
