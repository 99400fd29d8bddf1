/- Results that are a struct or an array, out of the variable in which it stands, and a slot. Own work. -/
import Derived.Test.YtflegnlldidmaaaDoorRows
import Derived.WalkKit
import Derived.ProofKit
import Derived.Deep.MidRow
namespace Go.Proofs.YtflegnlldidmaaaDoor
open Go.RowKit
/-- Results that are a row of cells, out of the variable in which it stands, and a slot. -/
theorem results_mid2 {P : Program} {fn : Func} {p t : Tmp} {ty : TypeId} (h : fn.results = #[.cell p ty, .tmp t]) (tmps : Array Value) (w : World) (b : Nat) (cs : List Value) (d : TypeDesc)
    (hp : tmps.getD p undef = .pointer (some ⟨b, 0, none⟩)) (hr : w.rangeAt b 0 cs) (hu : P.underlying ty = some d) (hd : d.isRow = true) (hi : (P.info? ty).map (·.size) = some cs.length) :
    (results fn tmps).run P w = .ok (.tuple #[.agg cs.toArray, tmps.getD t undef]) w := by
  have hp' : tmps[p]?.getD undef = .pointer (some ⟨b, 0, none⟩) := by simpa using hp
  simp [results, h, hp', asAddr, run_loadVar_mid w b 0 ty cs d hr hu hd hi]
end Go.Proofs.YtflegnlldidmaaaDoor
