/- A part of an array by value that is an array or a struct itself. Cut off AesProg in round 16. Own work. -/
import Derived.Test.YtoacdeddkfcllaaDoorMem
namespace Go.Proofs.YtoacdeddkfcllaaDoor
open Go.ChangeShapes Go.WideShapes Go.ChangeAt Go.RowKit
/-- A part of an array by value that is an array itself. -/
theorem run_index_part {P : Program} (t e : TypeId) (n m : Nat) (cs ds : Array Value) (k : Nat) (h : P.underlying t = some (.array n e)) (hn : k < n) (h1 : (P.info? e).map (·.size) = some m) (ha : ∀ w, (isAgg e).run P w = .ok true w) (hv : cs.extract (k * m) (k * m + m) = ds) (w : World) :
    (Instr.index t (.agg cs) (.int .i64 k)).run P w = .ok (.agg ds) w := by
  have hk : (0 : Int) ≤ k ∧ (k : Int) < n := by omega
  cases hq : P.info? e with
  | none => simp [hq] at h1
  | some i =>
    simp [hq] at h1
    have hs : ∀ w, (sizeOf e).run P w = .ok m w := fun w => by simp [sizeOf, typeInfo, hq, h1]
    simp [Instr.index, part, run_underlying h, asIntOf, hk, hn, hs, ha, hv, go_sem]
end Go.Proofs.YtoacdeddkfcllaaDoor
