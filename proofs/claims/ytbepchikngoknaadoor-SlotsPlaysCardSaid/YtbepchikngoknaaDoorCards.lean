/-
  DERIVED. GIVEN WITH THE SEED: THE CARDS: each row of YtbepchikngoknaaDoorRows.lean that lists a variable, with what it lists TIED to the program's text (the seventh form; the later family's looks); each row that meets fmt, with fmt's text TOLD by the authors' own Lean function (tested against real Go, not proved from fmt's source: count such statements apart). THE CARD IS WHAT COUNTS. Prove the row's statement (the work); the ties are given (YtbepchikngoknaaDoorTie.lean); close each card by the builder's one call (the guide's Derived/Test/ToyasCard.lean, 'card_holds'). Laid BY PROGRAM, IN A SANDBOX (cutbox-door.mjs). By AI agents, Wed Nov 11 2026. No macro, syntax, notation, axiom, sorry.
-/
import Derived.Test.YtbepchikngoknaaDoorRows
import GoSem.ClaimSeven
namespace Go.Proofs.YtbepchikngoknaaDoor
namespace Rows

/-- THE TIED CARD OF 'reliquarylaw12.SlotsPuts'. -/
def slotsPutsCard : Claim7 := { stood := { row := slotsPutsRow, standIns := [], harness := (true, "d77832069ef8b60d7eb36ada6a70b7b193887c0082492226a4dc4eb0008664ad"), looks := false }, kinds := [], alts := [], laidByText := true, laidKinds := [.data, .data, .data], laidTests := true, laidLooks := .later }
def SlotsPutsCardSaid : Prop := Claim7.holds Tryd.pinned (.plain (OpenSpec.ofChange slotsPutsSpec)) slotsPutsCard

/-- THE TIED CARD OF 'reliquarylaw12.SlotsGets'. -/
def slotsGetsCard : Claim7 := { stood := { row := slotsGetsRow, standIns := [], harness := (true, "d77832069ef8b60d7eb36ada6a70b7b193887c0082492226a4dc4eb0008664ad"), looks := false }, kinds := [], alts := [], laidByText := true, laidKinds := [.data, .data], laidTests := true, laidLooks := .later }
def SlotsGetsCardSaid : Prop := Claim7.holds Tryd.pinned (.plain (OpenSpec.ofChange slotsGetsSpec)) slotsGetsCard

/-- THE TIED CARD OF 'reliquarylaw12.SlotsOpens'. -/
def slotsOpensCard : Claim7 := { stood := { row := slotsOpensRow, standIns := [], harness := (true, "d77832069ef8b60d7eb36ada6a70b7b193887c0082492226a4dc4eb0008664ad"), looks := false }, kinds := [], alts := [], laidByText := true, laidKinds := [.data, .data, .data, .data], laidTests := true, laidLooks := .later }
def SlotsOpensCardSaid : Prop := Claim7.holds Tryd.pinned (.plain (OpenSpec.ofChange slotsOpensSpec)) slotsOpensCard

/-- THE TIED CARD OF 'reliquarylaw12.SlotsPlays'. -/
def slotsPlaysCard : Claim7 := { stood := { row := slotsPlaysRow, standIns := [], harness := (true, "d77832069ef8b60d7eb36ada6a70b7b193887c0082492226a4dc4eb0008664ad"), looks := false }, kinds := [], alts := [], laidByText := true, laidKinds := [.data, .data, .data, .data], laidTests := true, laidLooks := .later }
def SlotsPlaysCardSaid : Prop := Claim7.holds Tryd.pinned (.plain (OpenSpec.ofChange slotsPlaysSpec)) slotsPlaysCard

/-- THE TIED CARD OF 'reliquarylaw12.SlotsBack'. -/
def slotsBackCard : Claim7 := { stood := { row := slotsBackRow, standIns := [], harness := (true, "d77832069ef8b60d7eb36ada6a70b7b193887c0082492226a4dc4eb0008664ad"), looks := false }, kinds := [], alts := [], laidByText := true, laidKinds := [.data, .data], laidTests := true, laidLooks := .later }
def SlotsBackCardSaid : Prop := Claim7.holds Tryd.pinned (.plain (OpenSpec.ofChange slotsBackSpec)) slotsBackCard

/-- THE TIED CARD OF 'reliquarylaw12.SlotsRotates'. -/
def slotsRotatesCard : Claim7 := { stood := { row := slotsRotatesRow, standIns := [], harness := (true, "d77832069ef8b60d7eb36ada6a70b7b193887c0082492226a4dc4eb0008664ad"), looks := false }, kinds := [], alts := [], laidByText := true, laidKinds := [.data, .data, .data, .data], laidTests := true, laidLooks := .later }
def SlotsRotatesCardSaid : Prop := Claim7.holds Tryd.pinned (.plain (OpenSpec.ofChange slotsRotatesSpec)) slotsRotatesCard

/-- THE SECOND FORM's CARD OF 'reliquarylaw12.SlotsPuts'. -/
def slotsPutsUptoCard : Claim7 := { stood := { row := slotsPutsUptoRow, standIns := [], harness := (true, "d77832069ef8b60d7eb36ada6a70b7b193887c0082492226a4dc4eb0008664ad"), looks := false }, kinds := [], alts := [], laidByText := true, laidKinds := [.data, .data, .data], laidTests := true, laidLooks := .later }
def SlotsPutsUptoCardSaid : Prop := Claim7.holds Tryd.pinned (.plain (OpenSpec.upto slotsPutsSpec)) slotsPutsUptoCard

/-- THE SECOND FORM's CARD OF 'reliquarylaw12.SlotsGets'. -/
def slotsGetsUptoCard : Claim7 := { stood := { row := slotsGetsUptoRow, standIns := [], harness := (true, "d77832069ef8b60d7eb36ada6a70b7b193887c0082492226a4dc4eb0008664ad"), looks := false }, kinds := [], alts := [], laidByText := true, laidKinds := [.data, .data], laidTests := true, laidLooks := .later }
def SlotsGetsUptoCardSaid : Prop := Claim7.holds Tryd.pinned (.plain (OpenSpec.upto slotsGetsSpec)) slotsGetsUptoCard

/-- THE SECOND FORM's CARD OF 'reliquarylaw12.SlotsOpens'. -/
def slotsOpensUptoCard : Claim7 := { stood := { row := slotsOpensUptoRow, standIns := [], harness := (true, "d77832069ef8b60d7eb36ada6a70b7b193887c0082492226a4dc4eb0008664ad"), looks := false }, kinds := [], alts := [], laidByText := true, laidKinds := [.data, .data, .data, .data], laidTests := true, laidLooks := .later }
def SlotsOpensUptoCardSaid : Prop := Claim7.holds Tryd.pinned (.plain (OpenSpec.upto slotsOpensSpec)) slotsOpensUptoCard

/-- THE SECOND FORM's CARD OF 'reliquarylaw12.SlotsPlays'. -/
def slotsPlaysUptoCard : Claim7 := { stood := { row := slotsPlaysUptoRow, standIns := [], harness := (true, "d77832069ef8b60d7eb36ada6a70b7b193887c0082492226a4dc4eb0008664ad"), looks := false }, kinds := [], alts := [], laidByText := true, laidKinds := [.data, .data, .data, .data], laidTests := true, laidLooks := .later }
def SlotsPlaysUptoCardSaid : Prop := Claim7.holds Tryd.pinned (.plain (OpenSpec.upto slotsPlaysSpec)) slotsPlaysUptoCard

/-- THE SECOND FORM's CARD OF 'reliquarylaw12.SlotsBack'. -/
def slotsBackUptoCard : Claim7 := { stood := { row := slotsBackUptoRow, standIns := [], harness := (true, "d77832069ef8b60d7eb36ada6a70b7b193887c0082492226a4dc4eb0008664ad"), looks := false }, kinds := [], alts := [], laidByText := true, laidKinds := [.data, .data], laidTests := true, laidLooks := .later }
def SlotsBackUptoCardSaid : Prop := Claim7.holds Tryd.pinned (.plain (OpenSpec.upto slotsBackSpec)) slotsBackUptoCard

/-- THE SECOND FORM's CARD OF 'reliquarylaw12.SlotsRotates'. -/
def slotsRotatesUptoCard : Claim7 := { stood := { row := slotsRotatesUptoRow, standIns := [], harness := (true, "d77832069ef8b60d7eb36ada6a70b7b193887c0082492226a4dc4eb0008664ad"), looks := false }, kinds := [], alts := [], laidByText := true, laidKinds := [.data, .data, .data, .data], laidTests := true, laidLooks := .later }
def SlotsRotatesUptoCardSaid : Prop := Claim7.holds Tryd.pinned (.plain (OpenSpec.upto slotsRotatesSpec)) slotsRotatesUptoCard
end Rows
end Go.Proofs.YtbepchikngoknaaDoor
