/-
  DERIVED. GIVEN WITH THE SEED: THE PROGRAM's TIES (one call each: nine closed facts by the kernel) AND EACH ROW's TIE, after the 31st guide's Derived/Test/Toyas{Tie, Card}.lean. No idea stands in it: it is a product of the set-up. Laid BY PROGRAM, IN A SANDBOX (cutbox-door.mjs). By AI agents, Wed Nov 11 2026. No macro, syntax, notation, axiom, sorry.
-/
import Derived.Test.YtflnodkajhokhaaDoorRows
import Derived.LaidByTextLater
import Derived.SevenTiedAt
import Derived.LaidSub
import Derived.LaidOnce
namespace Go.Proofs.YtflnodkajhokhaaDoor
open Go
set_option maxRecDepth 100000
theorem seatTie1 : Tryd.prog.laidByTextLater [("reliquary/aes.boxes", Rows.laid_reliquary_aes_boxes), ("reliquary/aes.unboxes", Rows.laid_reliquary_aes_unboxes), ("reliquary/sha.constants", Rows.laid_reliquary_sha_constants)] [.data, .data, .data] true :=
  Program.laidByTextLater_by_one 24 8 65 (by kernel_rfl) (by kernel_rfl) (by kernel_rfl) (by kernel_rfl) (by kernel_rfl) (by kernel_rfl) (fun _ _ => by kernel_rfl)
theorem noOwnUnsafe : Tryd.pinned.checked.prog.headLifts.contains "ownunsafe" = false := by kernel_rfl
theorem tie : Tryd.prog.laidByTextLater [("reliquary/aes.boxes", Rows.laid_reliquary_aes_boxes), ("reliquary/aes.unboxes", Rows.laid_reliquary_aes_unboxes), ("reliquary/sha.constants", Rows.laid_reliquary_sha_constants)] [.data, .data, .data] true :=
  Program.laidByTextLater.sub seatTie1 ["reliquary/aes.boxes", "reliquary/aes.unboxes", "reliquary/sha.constants"] (by kernel_rfl) (by kernel_rfl)
theorem spaceApart_row_tie : Rows.spaceApartRow.laidByTextAt .later Tryd.pinned [.data, .data, .data] true :=
  OpenClaim.laidByTextAt_later rfl rfl tie noOwnUnsafe
theorem spaceApartUpto_row_tie : Rows.spaceApartUptoRow.laidByTextAt .later Tryd.pinned [.data, .data, .data] true :=
  OpenClaim.laidByTextAt_later rfl rfl tie noOwnUnsafe
end Go.Proofs.YtflnodkajhokhaaDoor
