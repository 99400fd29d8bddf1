/-
  No cell of these rows narrows 'for every input' (looked for: loops, veiled, ifaces, maps, wideKeys, modest, calm, conditions, laid).
  DERIVED. THE GIVEN ROWS OF THIS SEAT. 3 by the template 'for every input the law returns true; each argument reads behind the call as it read before'; 0 by the template 'total and deterministic' (their statements: YtglhlhflbomkoaaTotals.lean).
  GIVEN WITH THE SEED: the statements are not yours to turn. If you find one false, say at which input.
  Laid BY PROGRAM, IN A SANDBOX (cutbox-rows.mjs): the forced cells as the released guide's own fill.sh prints them over the translation 784b05e2cc1f4c84… (all of the seat's roots in one cut). By AI agents, Wed Nov 11 2026. No macro, syntax, notation, axiom, sorry.
-/
import Derived.Test.YtglhlhflbomkoaaChecked
import GoSem.Claim
import GoSem.ClaimJoined
import GoSem.ClaimMapViews
import Derived.JoinedTies
import Derived.KernelRfl
namespace Go.Proofs.Ytglhlhflbomkoaa
/- THE CELL 'sum', in the pinned program and in every row, IS THE sha256 OF THE DUMP (.gsa) THAT YtglhlhflbomkoaaProg.lean LOADS. Nothing in Lean hashes anything: it is a label: what it is worth is what the hold of that sum in a sandbox is worth. -/
noncomputable def Try.pinned : Pinned := { name := "ytglhlhflbomkoaa", sum := "784b05e2cc1f4c84c57ea77988e95d9486c8c81be37af5eeb719e8f92e0dcd3f", checked := Try.checked }
namespace Rows
def none {H : Type} : Left H := { results := [], args := [] }

/-- 'reliquarylaw10.CellRaises': WHATEVER THE INPUT: true; the input reads as it did. -/
def cellRaisesSpec : ChangeSpec := { name := "cellRaises", fn := fun _ => fun
  | [d1, d2] => { results := [.lit (.bool true)], args := [d1, d2] }
  | _ => none }
def cellRaisesRow : OpenClaim := { program := "ytglhlhflbomkoaa", sum := "784b05e2cc1f4c84c57ea77988e95d9486c8c81be37af5eeb719e8f92e0dcd3f", func := "reliquary/reliquarylaw10.CellRaises", spec := "cellRaises", inPlace := ["sync/atomic.AddInt64", "sync/atomic.LoadInt64"], apart := false }
def CellRaisesSaid : Prop := cellRaisesRow.holds Try.pinned (OpenSpec.ofChange cellRaisesSpec)

/-- ITS FALSE NEIGHBOUR: 'it returns false'. Refute it at one input. -/
def cellRaisesWrong : ChangeSpec := { name := "cellRaises", fn := fun _ => fun
  | [d1, d2] => { results := [.lit (.bool false)], args := [d1, d2] }
  | _ => none }
def CellRaisesWrongFalsely : Prop := cellRaisesRow.holds Try.pinned (OpenSpec.ofChange cellRaisesWrong)

/-- 'reliquarylaw10.CellRises': WHATEVER THE INPUT: true; the input reads as it did. -/
def cellRisesSpec : ChangeSpec := { name := "cellRises", fn := fun _ => fun
  | [d1, d2] => { results := [.lit (.bool true)], args := [d1, d2] }
  | _ => none }
def cellRisesRow : OpenClaim := { program := "ytglhlhflbomkoaa", sum := "784b05e2cc1f4c84c57ea77988e95d9486c8c81be37af5eeb719e8f92e0dcd3f", func := "reliquary/reliquarylaw10.CellRises", spec := "cellRises", inPlace := ["sync/atomic.AddInt64"], apart := false }
def CellRisesSaid : Prop := cellRisesRow.holds Try.pinned (OpenSpec.ofChange cellRisesSpec)

/-- ITS FALSE NEIGHBOUR: 'it returns false'. Refute it at one input. -/
def cellRisesWrong : ChangeSpec := { name := "cellRises", fn := fun _ => fun
  | [d1, d2] => { results := [.lit (.bool false)], args := [d1, d2] }
  | _ => none }
def CellRisesWrongFalsely : Prop := cellRisesRow.holds Try.pinned (OpenSpec.ofChange cellRisesWrong)

/-- 'reliquarylaw10.CellForks': WHATEVER THE INPUT: true; the input reads as it did. -/
def cellForksSpec : ChangeSpec := { name := "cellForks", fn := fun _ => fun
  | [d] => { results := [.lit (.bool true)], args := [d] }
  | _ => none }
def cellForksRow : OpenClaim := { program := "ytglhlhflbomkoaa", sum := "784b05e2cc1f4c84c57ea77988e95d9486c8c81be37af5eeb719e8f92e0dcd3f", func := "reliquary/reliquarylaw10.CellForks", spec := "cellForks", inPlace := ["sync/atomic.LoadInt64", "sync/atomic.StoreInt64", "sync/atomic.AddInt64"], apart := false }
def CellForksSaid : Prop := cellForksRow.holds Try.pinned (OpenSpec.ofChange cellForksSpec)

/-- ITS FALSE NEIGHBOUR: 'it returns false'. Refute it at one input. -/
def cellForksWrong : ChangeSpec := { name := "cellForks", fn := fun _ => fun
  | [d] => { results := [.lit (.bool false)], args := [d] }
  | _ => none }
def CellForksWrongFalsely : Prop := cellForksRow.holds Try.pinned (OpenSpec.ofChange cellForksWrong)

/- THE SECOND FORM. 'bulk': how many values and letters a reading holds, each counted each time it is reached (what is shared counts as often as it is met; a slice's spare places count too). A statement '..UptoSaid' is the law's where the arguments, and the package variables that the reading takes, are together of bulk at most 1048576: NARROWER than '..Said'. Prove '..Said' where nothing that the law and all that it calls make is longer than what came in: it says more and counts as full. Else prove '..UptoSaid'. A law counts once. -/
mutual
def uptoBulk {H : Type} : DataW H → Nat
  | .lit (.string bytes) => bytes.length + 1
  | .lit _ => 1
  | .nil => 1
  | .ptr d => uptoBulk d + 1
  | .slice elems spare => uptoBulkAll elems + uptoBulkAll spare + 1
  | .agg parts => uptoBulkAll parts + 1
  | .iface _ d => uptoBulk d + 1
  | .map entries => uptoBulkEntries entries + 1
  | .held _ => 1
def uptoBulkAll {H : Type} : List (DataW H) → Nat
  | [] => 0
  | d :: r => uptoBulk d + uptoBulkAll r
def uptoBulkEntries {H : Type} : List (Lit × DataW H) → Nat
  | [] => 0
  | x :: r => uptoBulkEntry x + uptoBulkEntries r
def uptoBulkEntry {H : Type} : Lit × DataW H → Nat
  | (.string bytes, d) => bytes.length + uptoBulk d + 1
  | (_, d) => uptoBulk d + 1
 end
def uptoSmall : (H : Type) → List (DataW H) → Bool := fun _ ds => decide (uptoBulkAll ds ≤ 1048576)
def OpenSpec.upto (s : _root_.Go.ChangeSpec) : _root_.Go.OpenSpec := { _root_.Go.OpenSpec.ofChange s with cond := some uptoSmall }

/-- 'reliquarylaw10.CellRaises', WHERE WHAT IT READS IS OF BULK AT MOST 1048576: true; the input reads as it did. -/
def cellRaisesUptoRow : OpenClaim := { program := "ytglhlhflbomkoaa", sum := "784b05e2cc1f4c84c57ea77988e95d9486c8c81be37af5eeb719e8f92e0dcd3f", func := "reliquary/reliquarylaw10.CellRaises", spec := "cellRaises", inPlace := ["sync/atomic.AddInt64", "sync/atomic.LoadInt64"], apart := false, narrowed := true }
def CellRaisesUptoSaid : Prop := cellRaisesUptoRow.holds Try.pinned (OpenSpec.upto cellRaisesSpec)

/-- 'reliquarylaw10.CellRises', WHERE WHAT IT READS IS OF BULK AT MOST 1048576: true; the input reads as it did. -/
def cellRisesUptoRow : OpenClaim := { program := "ytglhlhflbomkoaa", sum := "784b05e2cc1f4c84c57ea77988e95d9486c8c81be37af5eeb719e8f92e0dcd3f", func := "reliquary/reliquarylaw10.CellRises", spec := "cellRises", inPlace := ["sync/atomic.AddInt64"], apart := false, narrowed := true }
def CellRisesUptoSaid : Prop := cellRisesUptoRow.holds Try.pinned (OpenSpec.upto cellRisesSpec)

/-- 'reliquarylaw10.CellForks', WHERE WHAT IT READS IS OF BULK AT MOST 1048576: true; the input reads as it did. -/
def cellForksUptoRow : OpenClaim := { program := "ytglhlhflbomkoaa", sum := "784b05e2cc1f4c84c57ea77988e95d9486c8c81be37af5eeb719e8f92e0dcd3f", func := "reliquary/reliquarylaw10.CellForks", spec := "cellForks", inPlace := ["sync/atomic.LoadInt64", "sync/atomic.StoreInt64", "sync/atomic.AddInt64"], apart := false, narrowed := true }
def CellForksUptoSaid : Prop := cellForksUptoRow.holds Try.pinned (OpenSpec.upto cellForksSpec)

end Rows
end Go.Proofs.Ytglhlhflbomkoaa
