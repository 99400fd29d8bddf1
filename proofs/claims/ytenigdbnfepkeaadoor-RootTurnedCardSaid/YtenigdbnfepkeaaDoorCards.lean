/-
  DERIVED. GIVEN WITH THE SEED: THE CARDS: each row of YtenigdbnfepkeaaDoorRows.lean that lists a variable, with what it lists TIED to the program's text (the seventh form; the later family's looks); each row that meets fmt, with fmt's text TOLD by the authors' own Lean function (tested against real Go, not proved from fmt's source: count such statements apart). THE CARD IS WHAT COUNTS. Prove the row's statement (the work); the ties are given (YtenigdbnfepkeaaDoorTie.lean); close each card by the builder's one call (the guide's Derived/Test/ToyasCard.lean, 'card_holds'). Laid BY PROGRAM, IN A SANDBOX (cutbox-door.mjs). By AI agents, Wed Nov 11 2026. No macro, syntax, notation, axiom, sorry.
-/
import Derived.Test.YtenigdbnfepkeaaDoorRows
import GoSem.ClaimSeven
namespace Go.Proofs.YtenigdbnfepkeaaDoor
namespace Rows

/-- THE TIED CARD OF 'reliquarylaw14.RootPuts'. -/
def rootPutsCard : Claim7 := { stood := { row := rootPutsRow, standIns := [], harness := (true, "8ff6abde260ec5461a47e8de58ecbbd3c0d150b31c7fd0cbce9064c9e87954f4"), looks := false }, kinds := [], alts := [], laidByText := true, laidKinds := [.data, .data], laidTests := true, laidLooks := .later }
def RootPutsCardSaid : Prop := Claim7.holds Tryd.pinned (.plain (OpenSpec.ofChange rootPutsSpec)) rootPutsCard

/-- THE TIED CARD OF 'reliquarylaw14.RootGets'. -/
def rootGetsCard : Claim7 := { stood := { row := rootGetsRow, standIns := [], harness := (true, "8ff6abde260ec5461a47e8de58ecbbd3c0d150b31c7fd0cbce9064c9e87954f4"), looks := false }, kinds := [], alts := [], laidByText := true, laidKinds := [.data, .data], laidTests := true, laidLooks := .later }
def RootGetsCardSaid : Prop := Claim7.holds Tryd.pinned (.plain (OpenSpec.ofChange rootGetsSpec)) rootGetsCard

/-- THE TIED CARD OF 'reliquarylaw14.RootNewest'. -/
def rootNewestCard : Claim7 := { stood := { row := rootNewestRow, standIns := [], harness := (true, "8ff6abde260ec5461a47e8de58ecbbd3c0d150b31c7fd0cbce9064c9e87954f4"), looks := false }, kinds := [], alts := [], laidByText := true, laidKinds := [.data, .data], laidTests := true, laidLooks := .later }
def RootNewestCardSaid : Prop := Claim7.holds Tryd.pinned (.plain (OpenSpec.ofChange rootNewestSpec)) rootNewestCard

/-- THE TIED CARD OF 'reliquarylaw14.RootSames'. -/
def rootSamesCard : Claim7 := { stood := { row := rootSamesRow, standIns := [], harness := (true, "8ff6abde260ec5461a47e8de58ecbbd3c0d150b31c7fd0cbce9064c9e87954f4"), looks := false }, kinds := [], alts := [], laidByText := true, laidKinds := [.data], laidTests := true, laidLooks := .later }
def RootSamesCardSaid : Prop := Claim7.holds Tryd.pinned (.plain (OpenSpec.ofChange rootSamesSpec)) rootSamesCard

/-- THE TIED CARD OF 'reliquarylaw14.RootBack'. -/
def rootBackCard : Claim7 := { stood := { row := rootBackRow, standIns := [], harness := (true, "8ff6abde260ec5461a47e8de58ecbbd3c0d150b31c7fd0cbce9064c9e87954f4"), looks := false }, kinds := [], alts := [], laidByText := true, laidKinds := [.data], laidTests := true, laidLooks := .later }
def RootBackCardSaid : Prop := Claim7.holds Tryd.pinned (.plain (OpenSpec.ofChange rootBackSpec)) rootBackCard

/-- THE TIED CARD OF 'reliquarylaw14.RootTurned'. -/
def rootTurnedCard : Claim7 := { stood := { row := rootTurnedRow, standIns := [], harness := (true, "8ff6abde260ec5461a47e8de58ecbbd3c0d150b31c7fd0cbce9064c9e87954f4"), looks := false }, kinds := [], alts := [], laidByText := true, laidKinds := [.data], laidTests := true, laidLooks := .later }
def RootTurnedCardSaid : Prop := Claim7.holds Tryd.pinned (.plain (OpenSpec.ofChange rootTurnedSpec)) rootTurnedCard

/-- THE TIED CARD OF 'reliquarylaw14.RootNewer'. -/
def rootNewerCard : Claim7 := { stood := { row := rootNewerRow, standIns := [], harness := (true, "8ff6abde260ec5461a47e8de58ecbbd3c0d150b31c7fd0cbce9064c9e87954f4"), looks := false }, kinds := [], alts := [], laidByText := true, laidKinds := [.data], laidTests := true, laidLooks := .later }
def RootNewerCardSaid : Prop := Claim7.holds Tryd.pinned (.plain (OpenSpec.ofChange rootNewerSpec)) rootNewerCard

/-- THE SECOND FORM's CARD OF 'reliquarylaw14.RootPuts'. -/
def rootPutsUptoCard : Claim7 := { stood := { row := rootPutsUptoRow, standIns := [], harness := (true, "8ff6abde260ec5461a47e8de58ecbbd3c0d150b31c7fd0cbce9064c9e87954f4"), looks := false }, kinds := [], alts := [], laidByText := true, laidKinds := [.data, .data], laidTests := true, laidLooks := .later }
def RootPutsUptoCardSaid : Prop := Claim7.holds Tryd.pinned (.plain (OpenSpec.upto rootPutsSpec)) rootPutsUptoCard

/-- THE SECOND FORM's CARD OF 'reliquarylaw14.RootGets'. -/
def rootGetsUptoCard : Claim7 := { stood := { row := rootGetsUptoRow, standIns := [], harness := (true, "8ff6abde260ec5461a47e8de58ecbbd3c0d150b31c7fd0cbce9064c9e87954f4"), looks := false }, kinds := [], alts := [], laidByText := true, laidKinds := [.data, .data], laidTests := true, laidLooks := .later }
def RootGetsUptoCardSaid : Prop := Claim7.holds Tryd.pinned (.plain (OpenSpec.upto rootGetsSpec)) rootGetsUptoCard

/-- THE SECOND FORM's CARD OF 'reliquarylaw14.RootNewest'. -/
def rootNewestUptoCard : Claim7 := { stood := { row := rootNewestUptoRow, standIns := [], harness := (true, "8ff6abde260ec5461a47e8de58ecbbd3c0d150b31c7fd0cbce9064c9e87954f4"), looks := false }, kinds := [], alts := [], laidByText := true, laidKinds := [.data, .data], laidTests := true, laidLooks := .later }
def RootNewestUptoCardSaid : Prop := Claim7.holds Tryd.pinned (.plain (OpenSpec.upto rootNewestSpec)) rootNewestUptoCard

/-- THE SECOND FORM's CARD OF 'reliquarylaw14.RootSames'. -/
def rootSamesUptoCard : Claim7 := { stood := { row := rootSamesUptoRow, standIns := [], harness := (true, "8ff6abde260ec5461a47e8de58ecbbd3c0d150b31c7fd0cbce9064c9e87954f4"), looks := false }, kinds := [], alts := [], laidByText := true, laidKinds := [.data], laidTests := true, laidLooks := .later }
def RootSamesUptoCardSaid : Prop := Claim7.holds Tryd.pinned (.plain (OpenSpec.upto rootSamesSpec)) rootSamesUptoCard

/-- THE SECOND FORM's CARD OF 'reliquarylaw14.RootBack'. -/
def rootBackUptoCard : Claim7 := { stood := { row := rootBackUptoRow, standIns := [], harness := (true, "8ff6abde260ec5461a47e8de58ecbbd3c0d150b31c7fd0cbce9064c9e87954f4"), looks := false }, kinds := [], alts := [], laidByText := true, laidKinds := [.data], laidTests := true, laidLooks := .later }
def RootBackUptoCardSaid : Prop := Claim7.holds Tryd.pinned (.plain (OpenSpec.upto rootBackSpec)) rootBackUptoCard

/-- THE SECOND FORM's CARD OF 'reliquarylaw14.RootTurned'. -/
def rootTurnedUptoCard : Claim7 := { stood := { row := rootTurnedUptoRow, standIns := [], harness := (true, "8ff6abde260ec5461a47e8de58ecbbd3c0d150b31c7fd0cbce9064c9e87954f4"), looks := false }, kinds := [], alts := [], laidByText := true, laidKinds := [.data], laidTests := true, laidLooks := .later }
def RootTurnedUptoCardSaid : Prop := Claim7.holds Tryd.pinned (.plain (OpenSpec.upto rootTurnedSpec)) rootTurnedUptoCard

/-- THE SECOND FORM's CARD OF 'reliquarylaw14.RootNewer'. -/
def rootNewerUptoCard : Claim7 := { stood := { row := rootNewerUptoRow, standIns := [], harness := (true, "8ff6abde260ec5461a47e8de58ecbbd3c0d150b31c7fd0cbce9064c9e87954f4"), looks := false }, kinds := [], alts := [], laidByText := true, laidKinds := [.data], laidTests := true, laidLooks := .later }
def RootNewerUptoCardSaid : Prop := Claim7.holds Tryd.pinned (.plain (OpenSpec.upto rootNewerSpec)) rootNewerUptoCard
end Rows
end Go.Proofs.YtenigdbnfepkeaaDoor
