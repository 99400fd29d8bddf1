/- Results that are a struct or an array, out of the variable in which it stands, and a slot. Own work. -/
import Derived.Test.YtlckhlcccifbfaaDoorRows
import Derived.WalkKit
import Derived.ProofKit
import Derived.Deep.MidRow
namespace Go.Proofs.YtlckhlcccifbfaaDoor
open Go.RowKit
/-- Results that are a row of cells, out of the variable in which it stands, and a slot. -/
theorem results_mid2 {P : Program} {fn : Func} {p t : Tmp} {ty : TypeId} (h : fn.results = #[.cell p ty, .tmp t]) (tmps : Array Value) (w : World) (b : Nat) (cs : List Value) (d : TypeDesc)
    (hp : tmps.getD p undef = .pointer (some ⟨b, 0, none⟩)) (hr : w.rangeAt b 0 cs) (hu : P.underlying ty = some d) (hd : d.isRow = true) (hi : (P.info? ty).map (·.size) = some cs.length) :
    (results fn tmps).run P w = .ok (.tuple #[.agg cs.toArray, tmps.getD t undef]) w := by
  have hp' : tmps[p]?.getD undef = .pointer (some ⟨b, 0, none⟩) := by simpa using hp
  simp [results, h, hp', asAddr, run_loadVar_mid w b 0 ty cs d hr hu hd hi]
/-- Results that are two rows of cells, out of the variables in which they stand; a row and a slot. -/
theorem results_cc {P : Program} {fn : Func} {p q : Tmp} {ty tz : TypeId} (h : fn.results = #[.cell p ty, .cell q tz]) (tmps : Array Value) (w : World) (b c : Nat) (cs ds : List Value) (d e : TypeDesc)
    (hp : tmps.getD p undef = .pointer (some ⟨b, 0, none⟩)) (hq : tmps.getD q undef = .pointer (some ⟨c, 0, none⟩)) (hr : w.rangeAt b 0 cs) (hs : w.rangeAt c 0 ds) (hu : P.underlying ty = some d) (hv : P.underlying tz = some e) (hd : d.isRow = true) (he : e.isRow = true)
    (hi : (P.info? ty).map (·.size) = some cs.length) (hj : (P.info? tz).map (·.size) = some ds.length) :
    (results fn tmps).run P w = .ok (.tuple #[.agg cs.toArray, .agg ds.toArray]) w := by
  have hp' : tmps[p]?.getD undef = .pointer (some ⟨b, 0, none⟩) := by simpa using hp
  have hq' : tmps[q]?.getD undef = .pointer (some ⟨c, 0, none⟩) := by simpa using hq
  simp [results, h, hp', hq', asAddr, run_loadVar_mid w b 0 ty cs d hr hu hd hi, run_loadVar_mid w c 0 tz ds e hs hv he hj]
end Go.Proofs.YtlckhlcccifbfaaDoor
