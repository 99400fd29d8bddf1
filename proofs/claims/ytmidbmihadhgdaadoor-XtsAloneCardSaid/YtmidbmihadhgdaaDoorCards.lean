/-
  DERIVED. GIVEN WITH THE SEED: THE CARDS: each row of YtmidbmihadhgdaaDoorRows.lean that lists a variable, with what it lists TIED to the program's text (the seventh form; the later family's looks); each row that meets fmt, with fmt's text TOLD by the authors' own Lean function (tested against real Go, not proved from fmt's source: count such statements apart). THE CARD IS WHAT COUNTS. Prove the row's statement (the work); the ties are given (YtmidbmihadhgdaaDoorTie.lean); close each card by the builder's one call (the guide's Derived/Test/ToyasCard.lean, 'card_holds'). Laid BY PROGRAM, IN A SANDBOX (cutbox-door.mjs). By AI agents, Wed Nov 11 2026. No macro, syntax, notation, axiom, sorry.
-/
import Derived.Test.YtmidbmihadhgdaaDoorRows
import GoSem.ClaimSeven
namespace Go.Proofs.YtmidbmihadhgdaaDoor
namespace Rows

/-- THE TIED CARD OF 'reliquarylaw07.XtsSeals'. -/
def xtsSealsCard : Claim7 := { stood := { row := xtsSealsRow, standIns := [], harness := (true, "be1c21d7e8f159d7275bd2647de3d6faf0920161b1101ed29cbdfc4ea3313657"), looks := false }, kinds := [], alts := [], laidByText := true, laidKinds := [.data, .data, .data], laidTests := true, laidLooks := .later }
def XtsSealsCardSaid : Prop := Claim7.holds Tryd.pinned (.plain (OpenSpec.ofChange xtsSealsSpec)) xtsSealsCard

/-- THE TIED CARD OF 'reliquarylaw07.XtsOpens'. -/
def xtsOpensCard : Claim7 := { stood := { row := xtsOpensRow, standIns := [], harness := (true, "be1c21d7e8f159d7275bd2647de3d6faf0920161b1101ed29cbdfc4ea3313657"), looks := false }, kinds := [], alts := [], laidByText := true, laidKinds := [.data, .data, .data], laidTests := true, laidLooks := .later }
def XtsOpensCardSaid : Prop := Claim7.holds Tryd.pinned (.plain (OpenSpec.ofChange xtsOpensSpec)) xtsOpensCard

/-- THE TIED CARD OF 'reliquarylaw07.XtsBack'. -/
def xtsBackCard : Claim7 := { stood := { row := xtsBackRow, standIns := [], harness := (true, "be1c21d7e8f159d7275bd2647de3d6faf0920161b1101ed29cbdfc4ea3313657"), looks := false }, kinds := [], alts := [], laidByText := true, laidKinds := [.data, .data], laidTests := true, laidLooks := .later }
def XtsBackCardSaid : Prop := Claim7.holds Tryd.pinned (.plain (OpenSpec.ofChange xtsBackSpec)) xtsBackCard

/-- THE TIED CARD OF 'reliquarylaw07.XtsAlone'. -/
def xtsAloneCard : Claim7 := { stood := { row := xtsAloneRow, standIns := [], harness := (true, "be1c21d7e8f159d7275bd2647de3d6faf0920161b1101ed29cbdfc4ea3313657"), looks := false }, kinds := [], alts := [], laidByText := true, laidKinds := [.data, .data], laidTests := true, laidLooks := .later }
def XtsAloneCardSaid : Prop := Claim7.holds Tryd.pinned (.plain (OpenSpec.ofChange xtsAloneSpec)) xtsAloneCard

/-- THE TIED CARD OF 'reliquarylaw07.XtsBlock'. -/
def xtsBlockCard : Claim7 := { stood := { row := xtsBlockRow, standIns := [], harness := (true, "be1c21d7e8f159d7275bd2647de3d6faf0920161b1101ed29cbdfc4ea3313657"), looks := false }, kinds := [], alts := [], laidByText := true, laidKinds := [.data, .data], laidTests := true, laidLooks := .later }
def XtsBlockCardSaid : Prop := Claim7.holds Tryd.pinned (.plain (OpenSpec.ofChange xtsBlockSpec)) xtsBlockCard

/-- THE SECOND FORM's CARD OF 'reliquarylaw07.XtsSeals'. -/
def xtsSealsUptoCard : Claim7 := { stood := { row := xtsSealsUptoRow, standIns := [], harness := (true, "be1c21d7e8f159d7275bd2647de3d6faf0920161b1101ed29cbdfc4ea3313657"), looks := false }, kinds := [], alts := [], laidByText := true, laidKinds := [.data, .data, .data], laidTests := true, laidLooks := .later }
def XtsSealsUptoCardSaid : Prop := Claim7.holds Tryd.pinned (.plain (OpenSpec.upto xtsSealsSpec)) xtsSealsUptoCard

/-- THE SECOND FORM's CARD OF 'reliquarylaw07.XtsOpens'. -/
def xtsOpensUptoCard : Claim7 := { stood := { row := xtsOpensUptoRow, standIns := [], harness := (true, "be1c21d7e8f159d7275bd2647de3d6faf0920161b1101ed29cbdfc4ea3313657"), looks := false }, kinds := [], alts := [], laidByText := true, laidKinds := [.data, .data, .data], laidTests := true, laidLooks := .later }
def XtsOpensUptoCardSaid : Prop := Claim7.holds Tryd.pinned (.plain (OpenSpec.upto xtsOpensSpec)) xtsOpensUptoCard

/-- THE SECOND FORM's CARD OF 'reliquarylaw07.XtsBack'. -/
def xtsBackUptoCard : Claim7 := { stood := { row := xtsBackUptoRow, standIns := [], harness := (true, "be1c21d7e8f159d7275bd2647de3d6faf0920161b1101ed29cbdfc4ea3313657"), looks := false }, kinds := [], alts := [], laidByText := true, laidKinds := [.data, .data], laidTests := true, laidLooks := .later }
def XtsBackUptoCardSaid : Prop := Claim7.holds Tryd.pinned (.plain (OpenSpec.upto xtsBackSpec)) xtsBackUptoCard

/-- THE SECOND FORM's CARD OF 'reliquarylaw07.XtsAlone'. -/
def xtsAloneUptoCard : Claim7 := { stood := { row := xtsAloneUptoRow, standIns := [], harness := (true, "be1c21d7e8f159d7275bd2647de3d6faf0920161b1101ed29cbdfc4ea3313657"), looks := false }, kinds := [], alts := [], laidByText := true, laidKinds := [.data, .data], laidTests := true, laidLooks := .later }
def XtsAloneUptoCardSaid : Prop := Claim7.holds Tryd.pinned (.plain (OpenSpec.upto xtsAloneSpec)) xtsAloneUptoCard

/-- THE SECOND FORM's CARD OF 'reliquarylaw07.XtsBlock'. -/
def xtsBlockUptoCard : Claim7 := { stood := { row := xtsBlockUptoRow, standIns := [], harness := (true, "be1c21d7e8f159d7275bd2647de3d6faf0920161b1101ed29cbdfc4ea3313657"), looks := false }, kinds := [], alts := [], laidByText := true, laidKinds := [.data, .data], laidTests := true, laidLooks := .later }
def XtsBlockUptoCardSaid : Prop := Claim7.holds Tryd.pinned (.plain (OpenSpec.upto xtsBlockSpec)) xtsBlockUptoCard
end Rows
end Go.Proofs.YtmidbmihadhgdaaDoor
