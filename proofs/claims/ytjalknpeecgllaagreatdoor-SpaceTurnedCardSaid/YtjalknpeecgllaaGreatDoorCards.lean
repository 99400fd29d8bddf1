/-
  DERIVED. GIVEN WITH THE SEED: THE CARDS: each row of YtjalknpeecgllaaGreatDoorRows.lean that lists a variable, with what it lists TIED to the program's text (the seventh form; the later family's looks); each row that meets fmt, with fmt's text TOLD by the authors' own Lean function (tested against real Go, not proved from fmt's source: count such statements apart). THE CARD IS WHAT COUNTS. Prove the row's statement (the work); the ties are given (YtjalknpeecgllaaGreatDoorTie.lean); close each card by the builder's one call (the guide's Derived/Test/ToyasCard.lean, 'card_holds'). Laid BY PROGRAM, IN A SANDBOX (cutbox-door.mjs). By AI agents, Wed Nov 11 2026. No macro, syntax, notation, axiom, sorry.
-/
import Derived.Test.YtjalknpeecgllaaGreatDoorRows
import GoSem.ClaimSeven
namespace Go.Proofs.YtjalknpeecgllaaGreatDoor
namespace Rows

/-- THE TIED CARD OF 'reliquarylaw16.SpacePlays'. -/
def spacePlaysCard : Claim7 := { stood := { row := spacePlaysRow, standIns := [], harness := (true, "6ab73373a837a84d3f9064b1f2aaf4062b2aae3cf0cd53e3cd03693820bad4b3"), looks := false }, kinds := [], alts := [], laidByText := true, laidKinds := [.data, .data, .data, .data, .data], laidTests := true, laidLooks := .later }
def SpacePlaysCardSaid : Prop := Claim7.holds Tryz.pinned (.plain (OpenSpec.ofChange spacePlaysSpec)) spacePlaysCard

/-- THE TIED CARD OF 'reliquarylaw16.SpaceNobody'. -/
def spaceNobodyCard : Claim7 := { stood := { row := spaceNobodyRow, standIns := [], harness := (true, "6ab73373a837a84d3f9064b1f2aaf4062b2aae3cf0cd53e3cd03693820bad4b3"), looks := false }, kinds := [], alts := [], laidByText := true, laidKinds := [.data, .data, .data], laidTests := true, laidLooks := .later }
def SpaceNobodyCardSaid : Prop := Claim7.holds Tryz.pinned (.plain (OpenSpec.ofChange spaceNobodySpec)) spaceNobodyCard

/-- THE TIED CARD OF 'reliquarylaw16.SpaceBack'. -/
def spaceBackCard : Claim7 := { stood := { row := spaceBackRow, standIns := [], harness := (true, "6ab73373a837a84d3f9064b1f2aaf4062b2aae3cf0cd53e3cd03693820bad4b3"), looks := false }, kinds := [], alts := [], laidByText := true, laidKinds := [.data, .data, .data], laidTests := true, laidLooks := .later }
def SpaceBackCardSaid : Prop := Claim7.holds Tryz.pinned (.plain (OpenSpec.ofChange spaceBackSpec)) spaceBackCard

/-- THE TIED CARD OF 'reliquarylaw16.SpaceTurned'. -/
def spaceTurnedCard : Claim7 := { stood := { row := spaceTurnedRow, standIns := [], harness := (true, "6ab73373a837a84d3f9064b1f2aaf4062b2aae3cf0cd53e3cd03693820bad4b3"), looks := false }, kinds := [], alts := [], laidByText := true, laidKinds := [.data, .data, .data], laidTests := true, laidLooks := .later }
def SpaceTurnedCardSaid : Prop := Claim7.holds Tryz.pinned (.plain (OpenSpec.ofChange spaceTurnedSpec)) spaceTurnedCard

/-- THE SECOND FORM's CARD OF 'reliquarylaw16.SpacePlays'. -/
def spacePlaysUptoCard : Claim7 := { stood := { row := spacePlaysUptoRow, standIns := [], harness := (true, "6ab73373a837a84d3f9064b1f2aaf4062b2aae3cf0cd53e3cd03693820bad4b3"), looks := false }, kinds := [], alts := [], laidByText := true, laidKinds := [.data, .data, .data, .data, .data], laidTests := true, laidLooks := .later }
def SpacePlaysUptoCardSaid : Prop := Claim7.holds Tryz.pinned (.plain (OpenSpec.upto spacePlaysSpec)) spacePlaysUptoCard

/-- THE SECOND FORM's CARD OF 'reliquarylaw16.SpaceNobody'. -/
def spaceNobodyUptoCard : Claim7 := { stood := { row := spaceNobodyUptoRow, standIns := [], harness := (true, "6ab73373a837a84d3f9064b1f2aaf4062b2aae3cf0cd53e3cd03693820bad4b3"), looks := false }, kinds := [], alts := [], laidByText := true, laidKinds := [.data, .data, .data], laidTests := true, laidLooks := .later }
def SpaceNobodyUptoCardSaid : Prop := Claim7.holds Tryz.pinned (.plain (OpenSpec.upto spaceNobodySpec)) spaceNobodyUptoCard

/-- THE SECOND FORM's CARD OF 'reliquarylaw16.SpaceBack'. -/
def spaceBackUptoCard : Claim7 := { stood := { row := spaceBackUptoRow, standIns := [], harness := (true, "6ab73373a837a84d3f9064b1f2aaf4062b2aae3cf0cd53e3cd03693820bad4b3"), looks := false }, kinds := [], alts := [], laidByText := true, laidKinds := [.data, .data, .data], laidTests := true, laidLooks := .later }
def SpaceBackUptoCardSaid : Prop := Claim7.holds Tryz.pinned (.plain (OpenSpec.upto spaceBackSpec)) spaceBackUptoCard

/-- THE SECOND FORM's CARD OF 'reliquarylaw16.SpaceTurned'. -/
def spaceTurnedUptoCard : Claim7 := { stood := { row := spaceTurnedUptoRow, standIns := [], harness := (true, "6ab73373a837a84d3f9064b1f2aaf4062b2aae3cf0cd53e3cd03693820bad4b3"), looks := false }, kinds := [], alts := [], laidByText := true, laidKinds := [.data, .data, .data], laidTests := true, laidLooks := .later }
def SpaceTurnedUptoCardSaid : Prop := Claim7.holds Tryz.pinned (.plain (OpenSpec.upto spaceTurnedSpec)) spaceTurnedUptoCard
end Rows
end Go.Proofs.YtjalknpeecgllaaGreatDoor
