/-
  DERIVED. GIVEN WITH THE SEED: THE CARDS: each row of YtdiljngokbfpcaaDoorRows.lean that lists a variable, with what it lists TIED to the program's text (the seventh form; the later family's looks); each row that meets fmt, with fmt's text TOLD by the authors' own Lean function (tested against real Go, not proved from fmt's source: count such statements apart). THE CARD IS WHAT COUNTS. Prove the row's statement (the work); the ties are given (YtdiljngokbfpcaaDoorTie.lean); close each card by the builder's one call (the guide's Derived/Test/ToyasCard.lean, 'card_holds'). Laid BY PROGRAM, IN A SANDBOX (cutbox-door.mjs). By AI agents, Wed Nov 11 2026. No macro, syntax, notation, axiom, sorry.
-/
import Derived.Test.YtdiljngokbfpcaaDoorRows
import GoSem.ClaimSeven
namespace Go.Proofs.YtdiljngokbfpcaaDoor
namespace Rows

/-- THE TIED CARD OF 'reliquarylaw09.EntropyDraws'. -/
def entropyDrawsCard : Claim7 := { stood := { row := entropyDrawsRow, standIns := [], harness := (true, "1ec8ba44f3b752a667522875cce0a8745ca2d8fc0b06d8e5e95fcc2b0e5a24a7"), looks := false }, kinds := [], alts := [], laidByText := true, laidKinds := [.data, .data], laidTests := true, laidLooks := .later }
def EntropyDrawsCardSaid : Prop := Claim7.holds Tryd.pinned (.plain (OpenSpec.ofChange entropyDrawsSpec)) entropyDrawsCard

/-- THE TIED CARD OF 'reliquarylaw09.EntropyCuts'. -/
def entropyCutsCard : Claim7 := { stood := { row := entropyCutsRow, standIns := [], harness := (true, "1ec8ba44f3b752a667522875cce0a8745ca2d8fc0b06d8e5e95fcc2b0e5a24a7"), looks := false }, kinds := [], alts := [], laidByText := true, laidKinds := [.data], laidTests := true, laidLooks := .later }
def EntropyCutsCardSaid : Prop := Claim7.holds Tryd.pinned (.plain (OpenSpec.ofChange entropyCutsSpec)) entropyCutsCard

/-- THE TIED CARD OF 'reliquarylaw09.EntropyForks'. -/
def entropyForksCard : Claim7 := { stood := { row := entropyForksRow, standIns := [], harness := (true, "1ec8ba44f3b752a667522875cce0a8745ca2d8fc0b06d8e5e95fcc2b0e5a24a7"), looks := false }, kinds := [], alts := [], laidByText := true, laidKinds := [.data], laidTests := true, laidLooks := .later }
def EntropyForksCardSaid : Prop := Claim7.holds Tryd.pinned (.plain (OpenSpec.ofChange entropyForksSpec)) entropyForksCard

/-- THE SECOND FORM's CARD OF 'reliquarylaw09.EntropyDraws'. -/
def entropyDrawsUptoCard : Claim7 := { stood := { row := entropyDrawsUptoRow, standIns := [], harness := (true, "1ec8ba44f3b752a667522875cce0a8745ca2d8fc0b06d8e5e95fcc2b0e5a24a7"), looks := false }, kinds := [], alts := [], laidByText := true, laidKinds := [.data, .data], laidTests := true, laidLooks := .later }
def EntropyDrawsUptoCardSaid : Prop := Claim7.holds Tryd.pinned (.plain (OpenSpec.upto entropyDrawsSpec)) entropyDrawsUptoCard

/-- THE SECOND FORM's CARD OF 'reliquarylaw09.EntropyCuts'. -/
def entropyCutsUptoCard : Claim7 := { stood := { row := entropyCutsUptoRow, standIns := [], harness := (true, "1ec8ba44f3b752a667522875cce0a8745ca2d8fc0b06d8e5e95fcc2b0e5a24a7"), looks := false }, kinds := [], alts := [], laidByText := true, laidKinds := [.data], laidTests := true, laidLooks := .later }
def EntropyCutsUptoCardSaid : Prop := Claim7.holds Tryd.pinned (.plain (OpenSpec.upto entropyCutsSpec)) entropyCutsUptoCard

/-- THE SECOND FORM's CARD OF 'reliquarylaw09.EntropyForks'. -/
def entropyForksUptoCard : Claim7 := { stood := { row := entropyForksUptoRow, standIns := [], harness := (true, "1ec8ba44f3b752a667522875cce0a8745ca2d8fc0b06d8e5e95fcc2b0e5a24a7"), looks := false }, kinds := [], alts := [], laidByText := true, laidKinds := [.data], laidTests := true, laidLooks := .later }
def EntropyForksUptoCardSaid : Prop := Claim7.holds Tryd.pinned (.plain (OpenSpec.upto entropyForksSpec)) entropyForksUptoCard
end Rows
end Go.Proofs.YtdiljngokbfpcaaDoor
