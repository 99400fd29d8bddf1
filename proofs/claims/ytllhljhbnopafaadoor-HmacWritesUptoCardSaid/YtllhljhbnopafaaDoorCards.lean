/-
  DERIVED. GIVEN WITH THE SEED: THE CARDS: each row of YtllhljhbnopafaaDoorRows.lean that lists a variable, with what it lists TIED to the program's text (the seventh form; the later family's looks); each row that meets fmt, with fmt's text TOLD by the authors' own Lean function (tested against real Go, not proved from fmt's source: count such statements apart). THE CARD IS WHAT COUNTS. Prove the row's statement (the work); the ties are given (YtllhljhbnopafaaDoorTie.lean); close each card by the builder's one call (the guide's Derived/Test/ToyasCard.lean, 'card_holds'). Laid BY PROGRAM, IN A SANDBOX (cutbox-door.mjs). By AI agents, Wed Nov 11 2026. No macro, syntax, notation, axiom, sorry.
-/
import Derived.Test.YtllhljhbnopafaaDoorRows
import GoSem.ClaimSeven
namespace Go.Proofs.YtllhljhbnopafaaDoor
namespace Rows

/-- THE TIED CARD OF 'reliquarylaw04.HmacOfs'. -/
def hmacOfsCard : Claim7 := { stood := { row := hmacOfsRow, standIns := [], harness := (true, "c1da3804a203375ad144ef9954f272b9f6bd6ba7989f2c1c5424c82f966d58a2"), looks := false }, kinds := [], alts := [], laidByText := true, laidKinds := [.data, .data], laidTests := true, laidLooks := .later }
def HmacOfsCardSaid : Prop := Claim7.holds Tryd.pinned (.plain (OpenSpec.ofChange hmacOfsSpec)) hmacOfsCard

/-- THE TIED CARD OF 'reliquarylaw04.HmacWrites'. -/
def hmacWritesCard : Claim7 := { stood := { row := hmacWritesRow, standIns := [], harness := (true, "c1da3804a203375ad144ef9954f272b9f6bd6ba7989f2c1c5424c82f966d58a2"), looks := false }, kinds := [], alts := [], laidByText := true, laidKinds := [.data, .data], laidTests := true, laidLooks := .later }
def HmacWritesCardSaid : Prop := Claim7.holds Tryd.pinned (.plain (OpenSpec.ofChange hmacWritesSpec)) hmacWritesCard

/-- THE TIED CARD OF 'reliquarylaw04.HmacEquals'. -/
def hmacEqualsCard : Claim7 := { stood := { row := hmacEqualsRow, standIns := [], harness := (true, "c1da3804a203375ad144ef9954f272b9f6bd6ba7989f2c1c5424c82f966d58a2"), looks := false }, kinds := [], alts := [], laidByText := true, laidKinds := [.data], laidTests := true, laidLooks := .later }
def HmacEqualsCardSaid : Prop := Claim7.holds Tryd.pinned (.plain (OpenSpec.ofChange hmacEqualsSpec)) hmacEqualsCard

/-- THE TIED CARD OF 'reliquarylaw04.HmacKeys'. -/
def hmacKeysCard : Claim7 := { stood := { row := hmacKeysRow, standIns := [], harness := (true, "c1da3804a203375ad144ef9954f272b9f6bd6ba7989f2c1c5424c82f966d58a2"), looks := false }, kinds := [], alts := [], laidByText := true, laidKinds := [.data], laidTests := true, laidLooks := .later }
def HmacKeysCardSaid : Prop := Claim7.holds Tryd.pinned (.plain (OpenSpec.ofChange hmacKeysSpec)) hmacKeysCard

/-- THE TIED CARD OF 'reliquarylaw04.HmacCuts'. -/
def hmacCutsCard : Claim7 := { stood := { row := hmacCutsRow, standIns := [], harness := (true, "c1da3804a203375ad144ef9954f272b9f6bd6ba7989f2c1c5424c82f966d58a2"), looks := false }, kinds := [], alts := [], laidByText := true, laidKinds := [.data], laidTests := true, laidLooks := .later }
def HmacCutsCardSaid : Prop := Claim7.holds Tryd.pinned (.plain (OpenSpec.ofChange hmacCutsSpec)) hmacCutsCard

/-- THE TIED CARD OF 'reliquarylaw04.HmacDefined'. -/
def hmacDefinedCard : Claim7 := { stood := { row := hmacDefinedRow, standIns := [], harness := (true, "c1da3804a203375ad144ef9954f272b9f6bd6ba7989f2c1c5424c82f966d58a2"), looks := false }, kinds := [], alts := [], laidByText := true, laidKinds := [.data], laidTests := true, laidLooks := .later }
def HmacDefinedCardSaid : Prop := Claim7.holds Tryd.pinned (.plain (OpenSpec.ofChange hmacDefinedSpec)) hmacDefinedCard

/-- THE SECOND FORM's CARD OF 'reliquarylaw04.HmacOfs'. -/
def hmacOfsUptoCard : Claim7 := { stood := { row := hmacOfsUptoRow, standIns := [], harness := (true, "c1da3804a203375ad144ef9954f272b9f6bd6ba7989f2c1c5424c82f966d58a2"), looks := false }, kinds := [], alts := [], laidByText := true, laidKinds := [.data, .data], laidTests := true, laidLooks := .later }
def HmacOfsUptoCardSaid : Prop := Claim7.holds Tryd.pinned (.plain (OpenSpec.upto hmacOfsSpec)) hmacOfsUptoCard

/-- THE SECOND FORM's CARD OF 'reliquarylaw04.HmacWrites'. -/
def hmacWritesUptoCard : Claim7 := { stood := { row := hmacWritesUptoRow, standIns := [], harness := (true, "c1da3804a203375ad144ef9954f272b9f6bd6ba7989f2c1c5424c82f966d58a2"), looks := false }, kinds := [], alts := [], laidByText := true, laidKinds := [.data, .data], laidTests := true, laidLooks := .later }
def HmacWritesUptoCardSaid : Prop := Claim7.holds Tryd.pinned (.plain (OpenSpec.upto hmacWritesSpec)) hmacWritesUptoCard

/-- THE SECOND FORM's CARD OF 'reliquarylaw04.HmacEquals'. -/
def hmacEqualsUptoCard : Claim7 := { stood := { row := hmacEqualsUptoRow, standIns := [], harness := (true, "c1da3804a203375ad144ef9954f272b9f6bd6ba7989f2c1c5424c82f966d58a2"), looks := false }, kinds := [], alts := [], laidByText := true, laidKinds := [.data], laidTests := true, laidLooks := .later }
def HmacEqualsUptoCardSaid : Prop := Claim7.holds Tryd.pinned (.plain (OpenSpec.upto hmacEqualsSpec)) hmacEqualsUptoCard

/-- THE SECOND FORM's CARD OF 'reliquarylaw04.HmacKeys'. -/
def hmacKeysUptoCard : Claim7 := { stood := { row := hmacKeysUptoRow, standIns := [], harness := (true, "c1da3804a203375ad144ef9954f272b9f6bd6ba7989f2c1c5424c82f966d58a2"), looks := false }, kinds := [], alts := [], laidByText := true, laidKinds := [.data], laidTests := true, laidLooks := .later }
def HmacKeysUptoCardSaid : Prop := Claim7.holds Tryd.pinned (.plain (OpenSpec.upto hmacKeysSpec)) hmacKeysUptoCard

/-- THE SECOND FORM's CARD OF 'reliquarylaw04.HmacCuts'. -/
def hmacCutsUptoCard : Claim7 := { stood := { row := hmacCutsUptoRow, standIns := [], harness := (true, "c1da3804a203375ad144ef9954f272b9f6bd6ba7989f2c1c5424c82f966d58a2"), looks := false }, kinds := [], alts := [], laidByText := true, laidKinds := [.data], laidTests := true, laidLooks := .later }
def HmacCutsUptoCardSaid : Prop := Claim7.holds Tryd.pinned (.plain (OpenSpec.upto hmacCutsSpec)) hmacCutsUptoCard

/-- THE SECOND FORM's CARD OF 'reliquarylaw04.HmacDefined'. -/
def hmacDefinedUptoCard : Claim7 := { stood := { row := hmacDefinedUptoRow, standIns := [], harness := (true, "c1da3804a203375ad144ef9954f272b9f6bd6ba7989f2c1c5424c82f966d58a2"), looks := false }, kinds := [], alts := [], laidByText := true, laidKinds := [.data], laidTests := true, laidLooks := .later }
def HmacDefinedUptoCardSaid : Prop := Claim7.holds Tryd.pinned (.plain (OpenSpec.upto hmacDefinedSpec)) hmacDefinedUptoCard
end Rows
end Go.Proofs.YtllhljhbnopafaaDoor
