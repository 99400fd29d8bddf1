/- An argument of 64 bits without a sign as a number. Own work. -/
import Derived.Test.YtglhlhflbomkoaaRows
import Derived.WalkKit
namespace Go.Proofs.Ytglhlhflbomkoaa
theorem u64_nat {a : Int} (h : (Lit.int .u64 a).wf = true) : ∃ n : Nat, n < 18446744073709551616 ∧ a = (n : Int) := by
  have k : 0 ≤ a ∧ a ≤ 18446744073709551615 := by simpa [Lit.wf, IntKind.min, IntKind.max, IntKind.signed, IntKind.bits] using h
  exact ⟨a.toNat, by omega, by omega⟩
end Go.Proofs.Ytglhlhflbomkoaa
