/- A byte that comes in, as a number. Own work. -/
import Derived.Test.YtdoifgofmlagbaaDoorRows
import Derived.OpenShut
namespace Go.Proofs.YtdoifgofmlagbaaDoor
theorem u8_nat {a : Int} (h : (Lit.int .u8 a).wf = true) : ∃ n : Nat, n < 256 ∧ a = (n : Int) := by
  have k : 0 ≤ a ∧ a ≤ 255 := by simpa [Lit.wf, IntKind.min, IntKind.max, IntKind.signed, IntKind.bits] using h
  exact ⟨a.toNat, by omega, by omega⟩
end Go.Proofs.YtdoifgofmlagbaaDoor
