/- The table of one passphrase, reckoned: what 'a' seals, 'b' does not open. Own work. -/
import Derived.Test.YtbepchikngoknaaDoorSlN
namespace Go.Proofs.YtbepchikngoknaaDoor
open SM WM
namespace SL
def aSalt : List Nat := 1 :: List.replicate 15 0
def aKey : List Nat := 7 :: List.replicate 31 0
set_option maxRecDepth 100000 in
theorem a_apart : wcheck (key [98] aSalt 1) (wseal (key [97] aSalt 1) aKey) ≠ wcheck (key [97] aSalt 1) (wseal (key [97] aSalt 1) aKey) := by decide +kernel
end SL
end Go.Proofs.YtbepchikngoknaaDoor
