/-
  NARROWER THAN 'FOR EVERY INPUT', by the rows' own cells (each row's printed sentence says how): RootPuts: laid · RootGets: laid · RootNewest: laid · RootSames: laid · RootBack: laid · RootTurned: laid · RootNewer: laid.
  DERIVED. THE GIVEN ROWS OF THIS SEAT. 7 by the template 'for every input the law returns true; each argument reads behind the call as it read before'; 0 by the template 'total and deterministic' (their statements: YtenigdbnfepkeaaDoorTotals.lean).
  GIVEN WITH THE SEED: the statements are not yours to turn. If you find one false, say at which input.
  Laid BY PROGRAM, IN A SANDBOX (cutbox-rows.mjs): the forced cells as the released guide's own fill.sh prints them over the translation 1863248c471feff3… (all of the seat's roots in one cut). By AI agents, Wed Nov 11 2026. No macro, syntax, notation, axiom, sorry.
-/
import Derived.Test.YtenigdbnfepkeaaDoorChecked
import GoSem.Claim
import GoSem.ClaimJoined
import GoSem.ClaimMapViews
import Derived.JoinedTies
import Derived.KernelRfl
namespace Go.Proofs.YtenigdbnfepkeaaDoor
/- THE CELL 'sum', in the pinned program and in every row, IS THE sha256 OF THE DUMP (.gsa) THAT YtenigdbnfepkeaaDoorProg.lean LOADS. Nothing in Lean hashes anything: it is a label: what it is worth is what the hold of that sum in a sandbox is worth. -/
noncomputable def Tryd.pinned : Pinned := { name := "ytenigdbnfepkeaadoor", sum := "1863248c471feff31fa89297c696efdf2f4e2c53d2b7c9c24901e93d6da69335", checked := Tryd.checked }
namespace Rows
def none {H : Type} : Left H := { results := [], args := [] }

/- WHAT THE LISTED PACKAGE-LEVEL VARIABLES READ AS WHEN THE CALL BEGINS. Each datum BY PROGRAM (the guide's laid-datum.mjs) off the statement by which the dump's own 'gosem.cut.vars' lays the variable. In a bare row this is a premise. The card (YtenigdbnfepkeaaDoorCards.lean) ties it to the program's text. -/
def laid_reliquary_reliquaryref03_k {H : Type} : DataW H := .agg [.lit (.int .u32 1116352408), .lit (.int .u32 1899447441), .lit (.int .u32 3049323471), .lit (.int .u32 3921009573), .lit (.int .u32 961987163), .lit (.int .u32 1508970993), .lit (.int .u32 2453635748), .lit (.int .u32 2870763221), .lit (.int .u32 3624381080), .lit (.int .u32 310598401), .lit (.int .u32 607225278), .lit (.int .u32 1426881987), .lit (.int .u32 1925078388), .lit (.int .u32 2162078206), .lit (.int .u32 2614888103), .lit (.int .u32 3248222580), .lit (.int .u32 3835390401), .lit (.int .u32 4022224774), .lit (.int .u32 264347078), .lit (.int .u32 604807628), .lit (.int .u32 770255983), .lit (.int .u32 1249150122), .lit (.int .u32 1555081692), .lit (.int .u32 1996064986), .lit (.int .u32 2554220882), .lit (.int .u32 2821834349), .lit (.int .u32 2952996808), .lit (.int .u32 3210313671), .lit (.int .u32 3336571891), .lit (.int .u32 3584528711), .lit (.int .u32 113926993), .lit (.int .u32 338241895), .lit (.int .u32 666307205), .lit (.int .u32 773529912), .lit (.int .u32 1294757372), .lit (.int .u32 1396182291), .lit (.int .u32 1695183700), .lit (.int .u32 1986661051), .lit (.int .u32 2177026350), .lit (.int .u32 2456956037), .lit (.int .u32 2730485921), .lit (.int .u32 2820302411), .lit (.int .u32 3259730800), .lit (.int .u32 3345764771), .lit (.int .u32 3516065817), .lit (.int .u32 3600352804), .lit (.int .u32 4094571909), .lit (.int .u32 275423344), .lit (.int .u32 430227734), .lit (.int .u32 506948616), .lit (.int .u32 659060556), .lit (.int .u32 883997877), .lit (.int .u32 958139571), .lit (.int .u32 1322822218), .lit (.int .u32 1537002063), .lit (.int .u32 1747873779), .lit (.int .u32 1955562222), .lit (.int .u32 2024104815), .lit (.int .u32 2227730452), .lit (.int .u32 2361852424), .lit (.int .u32 2428436474), .lit (.int .u32 2756734187), .lit (.int .u32 3204031479), .lit (.int .u32 3329325298)]
def laid_reliquary_sha_constants {H : Type} : DataW H := .agg [.lit (.int .u32 1116352408), .lit (.int .u32 1899447441), .lit (.int .u32 3049323471), .lit (.int .u32 3921009573), .lit (.int .u32 961987163), .lit (.int .u32 1508970993), .lit (.int .u32 2453635748), .lit (.int .u32 2870763221), .lit (.int .u32 3624381080), .lit (.int .u32 310598401), .lit (.int .u32 607225278), .lit (.int .u32 1426881987), .lit (.int .u32 1925078388), .lit (.int .u32 2162078206), .lit (.int .u32 2614888103), .lit (.int .u32 3248222580), .lit (.int .u32 3835390401), .lit (.int .u32 4022224774), .lit (.int .u32 264347078), .lit (.int .u32 604807628), .lit (.int .u32 770255983), .lit (.int .u32 1249150122), .lit (.int .u32 1555081692), .lit (.int .u32 1996064986), .lit (.int .u32 2554220882), .lit (.int .u32 2821834349), .lit (.int .u32 2952996808), .lit (.int .u32 3210313671), .lit (.int .u32 3336571891), .lit (.int .u32 3584528711), .lit (.int .u32 113926993), .lit (.int .u32 338241895), .lit (.int .u32 666307205), .lit (.int .u32 773529912), .lit (.int .u32 1294757372), .lit (.int .u32 1396182291), .lit (.int .u32 1695183700), .lit (.int .u32 1986661051), .lit (.int .u32 2177026350), .lit (.int .u32 2456956037), .lit (.int .u32 2730485921), .lit (.int .u32 2820302411), .lit (.int .u32 3259730800), .lit (.int .u32 3345764771), .lit (.int .u32 3516065817), .lit (.int .u32 3600352804), .lit (.int .u32 4094571909), .lit (.int .u32 275423344), .lit (.int .u32 430227734), .lit (.int .u32 506948616), .lit (.int .u32 659060556), .lit (.int .u32 883997877), .lit (.int .u32 958139571), .lit (.int .u32 1322822218), .lit (.int .u32 1537002063), .lit (.int .u32 1747873779), .lit (.int .u32 1955562222), .lit (.int .u32 2024104815), .lit (.int .u32 2227730452), .lit (.int .u32 2361852424), .lit (.int .u32 2428436474), .lit (.int .u32 2756734187), .lit (.int .u32 3204031479), .lit (.int .u32 3329325298)]

/-- 'reliquarylaw14.RootPuts': WHATEVER THE INPUT: true; the input reads as it did. -/
def rootPutsSpec : ChangeSpec := { name := "rootPuts", fn := fun _ => fun
  | [d1, d2] => { results := [.lit (.bool true)], args := [d1, d2] }
  | _ => none }
def rootPutsRow : OpenClaim := { program := "ytenigdbnfepkeaadoor", sum := "1863248c471feff31fa89297c696efdf2f4e2c53d2b7c9c24901e93d6da69335", func := "reliquary/reliquarylaw14.RootPuts", spec := "rootPuts", unfollowed := true, recurses := true, named := ["reliquary/sha.constants", "reliquary/reliquaryref03.k"], apart := false, laid := [("reliquary/reliquaryref03.k", laid_reliquary_reliquaryref03_k), ("reliquary/sha.constants", laid_reliquary_sha_constants)] }
def RootPutsSaid : Prop := rootPutsRow.holds Tryd.pinned (OpenSpec.ofChange rootPutsSpec)

/-- ITS FALSE NEIGHBOUR: 'it returns false'. Refute it at one input. -/
def rootPutsWrong : ChangeSpec := { name := "rootPuts", fn := fun _ => fun
  | [d1, d2] => { results := [.lit (.bool false)], args := [d1, d2] }
  | _ => none }
def RootPutsWrongFalsely : Prop := rootPutsRow.holds Tryd.pinned (OpenSpec.ofChange rootPutsWrong)

/-- 'reliquarylaw14.RootGets': WHATEVER THE INPUT: true; the input reads as it did. -/
def rootGetsSpec : ChangeSpec := { name := "rootGets", fn := fun _ => fun
  | [d1, d2] => { results := [.lit (.bool true)], args := [d1, d2] }
  | _ => none }
def rootGetsRow : OpenClaim := { program := "ytenigdbnfepkeaadoor", sum := "1863248c471feff31fa89297c696efdf2f4e2c53d2b7c9c24901e93d6da69335", func := "reliquary/reliquarylaw14.RootGets", spec := "rootGets", unfollowed := true, recurses := true, named := ["reliquary/sha.constants", "reliquary/reliquaryref03.k"], apart := false, laid := [("reliquary/reliquaryref03.k", laid_reliquary_reliquaryref03_k), ("reliquary/sha.constants", laid_reliquary_sha_constants)] }
def RootGetsSaid : Prop := rootGetsRow.holds Tryd.pinned (OpenSpec.ofChange rootGetsSpec)

/-- ITS FALSE NEIGHBOUR: 'it returns false'. Refute it at one input. -/
def rootGetsWrong : ChangeSpec := { name := "rootGets", fn := fun _ => fun
  | [d1, d2] => { results := [.lit (.bool false)], args := [d1, d2] }
  | _ => none }
def RootGetsWrongFalsely : Prop := rootGetsRow.holds Tryd.pinned (OpenSpec.ofChange rootGetsWrong)

/-- 'reliquarylaw14.RootNewest': WHATEVER THE INPUT: true; the input reads as it did. -/
def rootNewestSpec : ChangeSpec := { name := "rootNewest", fn := fun _ => fun
  | [d1, d2, d3] => { results := [.lit (.bool true)], args := [d1, d2, d3] }
  | _ => none }
def rootNewestRow : OpenClaim := { program := "ytenigdbnfepkeaadoor", sum := "1863248c471feff31fa89297c696efdf2f4e2c53d2b7c9c24901e93d6da69335", func := "reliquary/reliquarylaw14.RootNewest", spec := "rootNewest", unfollowed := true, recurses := true, named := ["reliquary/sha.constants", "reliquary/reliquaryref03.k"], apart := false, laid := [("reliquary/reliquaryref03.k", laid_reliquary_reliquaryref03_k), ("reliquary/sha.constants", laid_reliquary_sha_constants)] }
def RootNewestSaid : Prop := rootNewestRow.holds Tryd.pinned (OpenSpec.ofChange rootNewestSpec)

/-- ITS FALSE NEIGHBOUR: 'it returns false'. Refute it at one input. -/
def rootNewestWrong : ChangeSpec := { name := "rootNewest", fn := fun _ => fun
  | [d1, d2, d3] => { results := [.lit (.bool false)], args := [d1, d2, d3] }
  | _ => none }
def RootNewestWrongFalsely : Prop := rootNewestRow.holds Tryd.pinned (OpenSpec.ofChange rootNewestWrong)

/-- 'reliquarylaw14.RootSames': WHATEVER THE INPUT: true; the input reads as it did. -/
def rootSamesSpec : ChangeSpec := { name := "rootSames", fn := fun _ => fun
  | [d1, d2] => { results := [.lit (.bool true)], args := [d1, d2] }
  | _ => none }
def rootSamesRow : OpenClaim := { program := "ytenigdbnfepkeaadoor", sum := "1863248c471feff31fa89297c696efdf2f4e2c53d2b7c9c24901e93d6da69335", func := "reliquary/reliquarylaw14.RootSames", spec := "rootSames", unfollowed := true, recurses := true, named := ["reliquary/sha.constants"], apart := false, laid := [("reliquary/sha.constants", laid_reliquary_sha_constants)] }
def RootSamesSaid : Prop := rootSamesRow.holds Tryd.pinned (OpenSpec.ofChange rootSamesSpec)

/-- ITS FALSE NEIGHBOUR: 'it returns false'. Refute it at one input. -/
def rootSamesWrong : ChangeSpec := { name := "rootSames", fn := fun _ => fun
  | [d1, d2] => { results := [.lit (.bool false)], args := [d1, d2] }
  | _ => none }
def RootSamesWrongFalsely : Prop := rootSamesRow.holds Tryd.pinned (OpenSpec.ofChange rootSamesWrong)

/-- 'reliquarylaw14.RootBack': WHATEVER THE INPUT: true; the input reads as it did. -/
def rootBackSpec : ChangeSpec := { name := "rootBack", fn := fun _ => fun
  | [d1, d2, d3] => { results := [.lit (.bool true)], args := [d1, d2, d3] }
  | _ => none }
def rootBackRow : OpenClaim := { program := "ytenigdbnfepkeaadoor", sum := "1863248c471feff31fa89297c696efdf2f4e2c53d2b7c9c24901e93d6da69335", func := "reliquary/reliquarylaw14.RootBack", spec := "rootBack", unfollowed := true, recurses := true, named := ["reliquary/sha.constants"], apart := false, laid := [("reliquary/sha.constants", laid_reliquary_sha_constants)] }
def RootBackSaid : Prop := rootBackRow.holds Tryd.pinned (OpenSpec.ofChange rootBackSpec)

/-- ITS FALSE NEIGHBOUR: 'it returns false'. Refute it at one input. -/
def rootBackWrong : ChangeSpec := { name := "rootBack", fn := fun _ => fun
  | [d1, d2, d3] => { results := [.lit (.bool false)], args := [d1, d2, d3] }
  | _ => none }
def RootBackWrongFalsely : Prop := rootBackRow.holds Tryd.pinned (OpenSpec.ofChange rootBackWrong)

/-- 'reliquarylaw14.RootTurned': WHATEVER THE INPUT: true; the input reads as it did. -/
def rootTurnedSpec : ChangeSpec := { name := "rootTurned", fn := fun _ => fun
  | [d1, d2, d3] => { results := [.lit (.bool true)], args := [d1, d2, d3] }
  | _ => none }
def rootTurnedRow : OpenClaim := { program := "ytenigdbnfepkeaadoor", sum := "1863248c471feff31fa89297c696efdf2f4e2c53d2b7c9c24901e93d6da69335", func := "reliquary/reliquarylaw14.RootTurned", spec := "rootTurned", unfollowed := true, recurses := true, named := ["reliquary/sha.constants"], apart := false, laid := [("reliquary/sha.constants", laid_reliquary_sha_constants)] }
def RootTurnedSaid : Prop := rootTurnedRow.holds Tryd.pinned (OpenSpec.ofChange rootTurnedSpec)

/-- ITS FALSE NEIGHBOUR: 'it returns false'. Refute it at one input. -/
def rootTurnedWrong : ChangeSpec := { name := "rootTurned", fn := fun _ => fun
  | [d1, d2, d3] => { results := [.lit (.bool false)], args := [d1, d2, d3] }
  | _ => none }
def RootTurnedWrongFalsely : Prop := rootTurnedRow.holds Tryd.pinned (OpenSpec.ofChange rootTurnedWrong)

/-- 'reliquarylaw14.RootNewer': WHATEVER THE INPUT: true; the input reads as it did. -/
def rootNewerSpec : ChangeSpec := { name := "rootNewer", fn := fun _ => fun
  | [d1, d2, d3] => { results := [.lit (.bool true)], args := [d1, d2, d3] }
  | _ => none }
def rootNewerRow : OpenClaim := { program := "ytenigdbnfepkeaadoor", sum := "1863248c471feff31fa89297c696efdf2f4e2c53d2b7c9c24901e93d6da69335", func := "reliquary/reliquarylaw14.RootNewer", spec := "rootNewer", unfollowed := true, recurses := true, named := ["reliquary/sha.constants"], apart := false, laid := [("reliquary/sha.constants", laid_reliquary_sha_constants)] }
def RootNewerSaid : Prop := rootNewerRow.holds Tryd.pinned (OpenSpec.ofChange rootNewerSpec)

/-- ITS FALSE NEIGHBOUR: 'it returns false'. Refute it at one input. -/
def rootNewerWrong : ChangeSpec := { name := "rootNewer", fn := fun _ => fun
  | [d1, d2, d3] => { results := [.lit (.bool false)], args := [d1, d2, d3] }
  | _ => none }
def RootNewerWrongFalsely : Prop := rootNewerRow.holds Tryd.pinned (OpenSpec.ofChange rootNewerWrong)

/- THE SECOND FORM. 'bulk': how many values and letters a reading holds, each counted each time it is reached (what is shared counts as often as it is met; a slice's spare places count too). A statement '..UptoSaid' is the law's where the arguments, and the package variables that the reading takes, are together of bulk at most 1048576: NARROWER than '..Said'. Prove '..Said' where nothing that the law and all that it calls make is longer than what came in: it says more and counts as full. Else prove '..UptoSaid'. A law counts once. -/
mutual
def uptoBulk {H : Type} : DataW H → Nat
  | .lit (.string bytes) => bytes.length + 1
  | .lit _ => 1
  | .nil => 1
  | .ptr d => uptoBulk d + 1
  | .slice elems spare => uptoBulkAll elems + uptoBulkAll spare + 1
  | .agg parts => uptoBulkAll parts + 1
  | .iface _ d => uptoBulk d + 1
  | .map entries => uptoBulkEntries entries + 1
  | .held _ => 1
def uptoBulkAll {H : Type} : List (DataW H) → Nat
  | [] => 0
  | d :: r => uptoBulk d + uptoBulkAll r
def uptoBulkEntries {H : Type} : List (Lit × DataW H) → Nat
  | [] => 0
  | x :: r => uptoBulkEntry x + uptoBulkEntries r
def uptoBulkEntry {H : Type} : Lit × DataW H → Nat
  | (.string bytes, d) => bytes.length + uptoBulk d + 1
  | (_, d) => uptoBulk d + 1
 end
def uptoSmall : (H : Type) → List (DataW H) → Bool := fun _ ds => decide (uptoBulkAll ds ≤ 1048576)
def OpenSpec.upto (s : _root_.Go.ChangeSpec) : _root_.Go.OpenSpec := { _root_.Go.OpenSpec.ofChange s with cond := some uptoSmall }

/-- 'reliquarylaw14.RootPuts', WHERE WHAT IT READS IS OF BULK AT MOST 1048576: true; the input reads as it did. -/
def rootPutsUptoRow : OpenClaim := { program := "ytenigdbnfepkeaadoor", sum := "1863248c471feff31fa89297c696efdf2f4e2c53d2b7c9c24901e93d6da69335", func := "reliquary/reliquarylaw14.RootPuts", spec := "rootPuts", unfollowed := true, recurses := true, named := ["reliquary/sha.constants", "reliquary/reliquaryref03.k"], apart := false, laid := [("reliquary/reliquaryref03.k", laid_reliquary_reliquaryref03_k), ("reliquary/sha.constants", laid_reliquary_sha_constants)], narrowed := true }
def RootPutsUptoSaid : Prop := rootPutsUptoRow.holds Tryd.pinned (OpenSpec.upto rootPutsSpec)

/-- 'reliquarylaw14.RootGets', WHERE WHAT IT READS IS OF BULK AT MOST 1048576: true; the input reads as it did. -/
def rootGetsUptoRow : OpenClaim := { program := "ytenigdbnfepkeaadoor", sum := "1863248c471feff31fa89297c696efdf2f4e2c53d2b7c9c24901e93d6da69335", func := "reliquary/reliquarylaw14.RootGets", spec := "rootGets", unfollowed := true, recurses := true, named := ["reliquary/sha.constants", "reliquary/reliquaryref03.k"], apart := false, laid := [("reliquary/reliquaryref03.k", laid_reliquary_reliquaryref03_k), ("reliquary/sha.constants", laid_reliquary_sha_constants)], narrowed := true }
def RootGetsUptoSaid : Prop := rootGetsUptoRow.holds Tryd.pinned (OpenSpec.upto rootGetsSpec)

/-- 'reliquarylaw14.RootNewest', WHERE WHAT IT READS IS OF BULK AT MOST 1048576: true; the input reads as it did. -/
def rootNewestUptoRow : OpenClaim := { program := "ytenigdbnfepkeaadoor", sum := "1863248c471feff31fa89297c696efdf2f4e2c53d2b7c9c24901e93d6da69335", func := "reliquary/reliquarylaw14.RootNewest", spec := "rootNewest", unfollowed := true, recurses := true, named := ["reliquary/sha.constants", "reliquary/reliquaryref03.k"], apart := false, laid := [("reliquary/reliquaryref03.k", laid_reliquary_reliquaryref03_k), ("reliquary/sha.constants", laid_reliquary_sha_constants)], narrowed := true }
def RootNewestUptoSaid : Prop := rootNewestUptoRow.holds Tryd.pinned (OpenSpec.upto rootNewestSpec)

/-- 'reliquarylaw14.RootSames', WHERE WHAT IT READS IS OF BULK AT MOST 1048576: true; the input reads as it did. -/
def rootSamesUptoRow : OpenClaim := { program := "ytenigdbnfepkeaadoor", sum := "1863248c471feff31fa89297c696efdf2f4e2c53d2b7c9c24901e93d6da69335", func := "reliquary/reliquarylaw14.RootSames", spec := "rootSames", unfollowed := true, recurses := true, named := ["reliquary/sha.constants"], apart := false, laid := [("reliquary/sha.constants", laid_reliquary_sha_constants)], narrowed := true }
def RootSamesUptoSaid : Prop := rootSamesUptoRow.holds Tryd.pinned (OpenSpec.upto rootSamesSpec)

/-- 'reliquarylaw14.RootBack', WHERE WHAT IT READS IS OF BULK AT MOST 1048576: true; the input reads as it did. -/
def rootBackUptoRow : OpenClaim := { program := "ytenigdbnfepkeaadoor", sum := "1863248c471feff31fa89297c696efdf2f4e2c53d2b7c9c24901e93d6da69335", func := "reliquary/reliquarylaw14.RootBack", spec := "rootBack", unfollowed := true, recurses := true, named := ["reliquary/sha.constants"], apart := false, laid := [("reliquary/sha.constants", laid_reliquary_sha_constants)], narrowed := true }
def RootBackUptoSaid : Prop := rootBackUptoRow.holds Tryd.pinned (OpenSpec.upto rootBackSpec)

/-- 'reliquarylaw14.RootTurned', WHERE WHAT IT READS IS OF BULK AT MOST 1048576: true; the input reads as it did. -/
def rootTurnedUptoRow : OpenClaim := { program := "ytenigdbnfepkeaadoor", sum := "1863248c471feff31fa89297c696efdf2f4e2c53d2b7c9c24901e93d6da69335", func := "reliquary/reliquarylaw14.RootTurned", spec := "rootTurned", unfollowed := true, recurses := true, named := ["reliquary/sha.constants"], apart := false, laid := [("reliquary/sha.constants", laid_reliquary_sha_constants)], narrowed := true }
def RootTurnedUptoSaid : Prop := rootTurnedUptoRow.holds Tryd.pinned (OpenSpec.upto rootTurnedSpec)

/-- 'reliquarylaw14.RootNewer', WHERE WHAT IT READS IS OF BULK AT MOST 1048576: true; the input reads as it did. -/
def rootNewerUptoRow : OpenClaim := { program := "ytenigdbnfepkeaadoor", sum := "1863248c471feff31fa89297c696efdf2f4e2c53d2b7c9c24901e93d6da69335", func := "reliquary/reliquarylaw14.RootNewer", spec := "rootNewer", unfollowed := true, recurses := true, named := ["reliquary/sha.constants"], apart := false, laid := [("reliquary/sha.constants", laid_reliquary_sha_constants)], narrowed := true }
def RootNewerUptoSaid : Prop := rootNewerUptoRow.holds Tryd.pinned (OpenSpec.upto rootNewerSpec)

end Rows
end Go.Proofs.YtenigdbnfepkeaaDoor
