/- An array of sixteen bytes has sixteen cells. Own work. -/
import Derived.Test.YtjemajenfkjelaaDoorRows
import Derived.WalkKit
import Derived.ProofKit
namespace Go.Proofs.YtjemajenfkjelaaDoor
theorem info16 : (Tryd.prog.info? 47).map (·.size) = some 16 := by kernel_rfl
end Go.Proofs.YtjemajenfkjelaaDoor
