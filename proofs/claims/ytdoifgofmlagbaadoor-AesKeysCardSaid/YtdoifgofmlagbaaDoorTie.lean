/-
  DERIVED. GIVEN WITH THE SEED: THE PROGRAM's TIES (one call each: nine closed facts by the kernel) AND EACH ROW's TIE, after the 31st guide's Derived/Test/Toyas{Tie, Card}.lean. No idea stands in it: it is a product of the set-up. Laid BY PROGRAM, IN A SANDBOX (cutbox-door.mjs). By AI agents, Wed Nov 11 2026. No macro, syntax, notation, axiom, sorry.
-/
import Derived.Test.YtdoifgofmlagbaaDoorRows
import Derived.LaidByTextLater
import Derived.SevenTiedAt
import Derived.LaidSub
import Derived.LaidOnce
namespace Go.Proofs.YtdoifgofmlagbaaDoor
open Go
set_option maxRecDepth 100000
theorem seatTie1 : Tryd.prog.laidByTextLater [("reliquary/aes.boxes", Rows.laid_reliquary_aes_boxes), ("reliquary/aes.unboxes", Rows.laid_reliquary_aes_unboxes), ("reliquary/reliquaryref06.Box", Rows.laid_reliquary_reliquaryref06_Box)] [.data, .data, .data] true :=
  Program.laidByTextLater_by_one 24 8 257 (by kernel_rfl) (by kernel_rfl) (by kernel_rfl) (by kernel_rfl) (by kernel_rfl) (by kernel_rfl) (fun _ _ => by kernel_rfl)
theorem seatTie2 : Tryd.prog.laidByTextLater [("reliquary/aes.boxes", Rows.laid_reliquary_aes_boxes), ("reliquary/reliquaryref06.Box", Rows.laid_reliquary_reliquaryref06_Box)] [.data, .data] true :=
  Program.laidByTextLater_by_one 24 8 257 (by kernel_rfl) (by kernel_rfl) (by kernel_rfl) (by kernel_rfl) (by kernel_rfl) (by kernel_rfl) (fun _ _ => by kernel_rfl)
theorem seatTie3 : Tryd.prog.laidByTextLater [("reliquary/aes.boxes", Rows.laid_reliquary_aes_boxes), ("reliquary/aes.unboxes", Rows.laid_reliquary_aes_unboxes)] [.data, .data] true :=
  Program.laidByTextLater_by_one 24 8 257 (by kernel_rfl) (by kernel_rfl) (by kernel_rfl) (by kernel_rfl) (by kernel_rfl) (by kernel_rfl) (fun _ _ => by kernel_rfl)
theorem noOwnUnsafe : Tryd.pinned.checked.prog.headLifts.contains "ownunsafe" = false := by kernel_rfl
theorem tie : Tryd.prog.laidByTextLater [("reliquary/aes.boxes", Rows.laid_reliquary_aes_boxes), ("reliquary/aes.unboxes", Rows.laid_reliquary_aes_unboxes), ("reliquary/reliquaryref06.Box", Rows.laid_reliquary_reliquaryref06_Box)] [.data, .data, .data] true :=
  Program.laidByTextLater.sub seatTie1 ["reliquary/aes.boxes", "reliquary/aes.unboxes", "reliquary/reliquaryref06.Box"] (by kernel_rfl) (by kernel_rfl)
theorem aesBoxes_row_tie : Rows.aesBoxesRow.laidByTextAt .later Tryd.pinned [.data, .data, .data] true :=
  OpenClaim.laidByTextAt_later rfl rfl tie noOwnUnsafe
theorem aesDecrypts_row_tie : Rows.aesDecryptsRow.laidByTextAt .later Tryd.pinned [.data, .data, .data] true :=
  OpenClaim.laidByTextAt_later rfl rfl tie noOwnUnsafe
theorem tie2 : Tryd.prog.laidByTextLater [("reliquary/aes.boxes", Rows.laid_reliquary_aes_boxes), ("reliquary/reliquaryref06.Box", Rows.laid_reliquary_reliquaryref06_Box)] [.data, .data] true :=
  Program.laidByTextLater.sub seatTie2 ["reliquary/aes.boxes", "reliquary/reliquaryref06.Box"] (by kernel_rfl) (by kernel_rfl)
theorem aesSchedules_row_tie : Rows.aesSchedulesRow.laidByTextAt .later Tryd.pinned [.data, .data] true :=
  OpenClaim.laidByTextAt_later rfl rfl tie2 noOwnUnsafe
theorem aesEncrypts_row_tie : Rows.aesEncryptsRow.laidByTextAt .later Tryd.pinned [.data, .data] true :=
  OpenClaim.laidByTextAt_later rfl rfl tie2 noOwnUnsafe
theorem tie3 : Tryd.prog.laidByTextLater [("reliquary/aes.boxes", Rows.laid_reliquary_aes_boxes), ("reliquary/aes.unboxes", Rows.laid_reliquary_aes_unboxes)] [.data, .data] true :=
  Program.laidByTextLater.sub seatTie3 ["reliquary/aes.boxes", "reliquary/aes.unboxes"] (by kernel_rfl) (by kernel_rfl)
theorem aesBoxed_row_tie : Rows.aesBoxedRow.laidByTextAt .later Tryd.pinned [.data, .data] true :=
  OpenClaim.laidByTextAt_later rfl rfl tie3 noOwnUnsafe
theorem aesBack_row_tie : Rows.aesBackRow.laidByTextAt .later Tryd.pinned [.data, .data] true :=
  OpenClaim.laidByTextAt_later rfl rfl tie3 noOwnUnsafe
theorem tie4 : Tryd.prog.laidByTextLater [("reliquary/aes.boxes", Rows.laid_reliquary_aes_boxes)] [.data] true :=
  Program.laidByTextLater.sub seatTie2 ["reliquary/aes.boxes"] (by kernel_rfl) (by kernel_rfl)
theorem aesKeys_row_tie : Rows.aesKeysRow.laidByTextAt .later Tryd.pinned [.data] true :=
  OpenClaim.laidByTextAt_later rfl rfl tie4 noOwnUnsafe
theorem aesBoxesUpto_row_tie : Rows.aesBoxesUptoRow.laidByTextAt .later Tryd.pinned [.data, .data, .data] true :=
  OpenClaim.laidByTextAt_later rfl rfl tie noOwnUnsafe
theorem aesSchedulesUpto_row_tie : Rows.aesSchedulesUptoRow.laidByTextAt .later Tryd.pinned [.data, .data] true :=
  OpenClaim.laidByTextAt_later rfl rfl tie2 noOwnUnsafe
theorem aesEncryptsUpto_row_tie : Rows.aesEncryptsUptoRow.laidByTextAt .later Tryd.pinned [.data, .data] true :=
  OpenClaim.laidByTextAt_later rfl rfl tie2 noOwnUnsafe
theorem aesDecryptsUpto_row_tie : Rows.aesDecryptsUptoRow.laidByTextAt .later Tryd.pinned [.data, .data, .data] true :=
  OpenClaim.laidByTextAt_later rfl rfl tie noOwnUnsafe
theorem aesBoxedUpto_row_tie : Rows.aesBoxedUptoRow.laidByTextAt .later Tryd.pinned [.data, .data] true :=
  OpenClaim.laidByTextAt_later rfl rfl tie3 noOwnUnsafe
theorem aesBackUpto_row_tie : Rows.aesBackUptoRow.laidByTextAt .later Tryd.pinned [.data, .data] true :=
  OpenClaim.laidByTextAt_later rfl rfl tie3 noOwnUnsafe
theorem aesKeysUpto_row_tie : Rows.aesKeysUptoRow.laidByTextAt .later Tryd.pinned [.data] true :=
  OpenClaim.laidByTextAt_later rfl rfl tie4 noOwnUnsafe
end Go.Proofs.YtdoifgofmlagbaaDoor
