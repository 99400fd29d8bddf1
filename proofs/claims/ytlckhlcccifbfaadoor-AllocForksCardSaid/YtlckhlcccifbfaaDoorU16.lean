/- A number of sixteen bits among a law's arguments. Own work. -/
import Derived.Test.YtlckhlcccifbfaaDoorMem
namespace Go.Proofs.YtlckhlcccifbfaaDoor
theorem u16_nat {a : Int} (h : (Lit.int .u16 a).wf = true) : ∃ n : Nat, n < 65536 ∧ a = (n : Int) := by
  have k : 0 ≤ a ∧ a ≤ 65535 := by simpa [Lit.wf, IntKind.min, IntKind.max, IntKind.signed, IntKind.bits] using h
  exact ⟨a.toNat, by omega, by omega⟩
end Go.Proofs.YtlckhlcccifbfaaDoor
