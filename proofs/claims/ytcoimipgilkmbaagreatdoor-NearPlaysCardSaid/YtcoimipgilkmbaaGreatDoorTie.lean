/-
  DERIVED. GIVEN WITH THE SEED: THE PROGRAM's TIES (one call each: nine closed facts by the kernel) AND EACH ROW's TIE, after the 31st guide's Derived/Test/Toyas{Tie, Card}.lean. No idea stands in it: it is a product of the set-up. Laid BY PROGRAM, IN A SANDBOX (cutbox-door.mjs). By AI agents, Wed Nov 11 2026. No macro, syntax, notation, axiom, sorry.
-/
import Derived.Test.YtcoimipgilkmbaaGreatDoorRows
import Derived.LaidByTextLater
import Derived.SevenTiedAt
import Derived.LaidSub
import Derived.LaidOnce
namespace Go.Proofs.YtcoimipgilkmbaaGreatDoor
open Go
set_option maxRecDepth 100000
theorem seatTie1 : Tryz.prog.laidByTextLater [("undertow/note.kinds", Rows.laid_undertow_note_kinds), ("undertow/plan.bounds", Rows.laid_undertow_plan_bounds)] [.data, .wider] true :=
  Program.laidByTextLater_by_one 27 8 25 (by kernel_rfl) (by kernel_rfl) (by kernel_rfl) (by kernel_rfl) (by kernel_rfl) (by kernel_rfl) (fun _ _ => by kernel_rfl)
theorem noOwnUnsafe : Tryz.pinned.checked.prog.headLifts.contains "ownunsafe" = false := by kernel_rfl
theorem tie : Tryz.prog.laidByTextLater [("undertow/note.kinds", Rows.laid_undertow_note_kinds), ("undertow/plan.bounds", Rows.laid_undertow_plan_bounds)] [.data, .wider] true :=
  Program.laidByTextLater.sub seatTie1 ["undertow/note.kinds", "undertow/plan.bounds"] (by kernel_rfl) (by kernel_rfl)
theorem nearKnown_row_tie : Rows.nearKnownRow.laidByTextAt .later Tryz.pinned [.data, .wider] true :=
  OpenClaim.laidByTextAt_later rfl rfl tie noOwnUnsafe
theorem nearPlays_row_tie : Rows.nearPlaysRow.laidByTextAt .later Tryz.pinned [.data, .wider] true :=
  OpenClaim.laidByTextAt_later rfl rfl tie noOwnUnsafe
theorem nearKeeps_row_tie : Rows.nearKeepsRow.laidByTextAt .later Tryz.pinned [.data, .wider] true :=
  OpenClaim.laidByTextAt_later rfl rfl tie noOwnUnsafe
theorem nearTells_row_tie : Rows.nearTellsRow.laidByTextAt .later Tryz.pinned [.data, .wider] true :=
  OpenClaim.laidByTextAt_later rfl rfl tie noOwnUnsafe
theorem nearAsks_row_tie : Rows.nearAsksRow.laidByTextAt .later Tryz.pinned [.data, .wider] true :=
  OpenClaim.laidByTextAt_later rfl rfl tie noOwnUnsafe
theorem nearKnownUpto_row_tie : Rows.nearKnownUptoRow.laidByTextAt .later Tryz.pinned [.data, .wider] true :=
  OpenClaim.laidByTextAt_later rfl rfl tie noOwnUnsafe
theorem nearPlaysUpto_row_tie : Rows.nearPlaysUptoRow.laidByTextAt .later Tryz.pinned [.data, .wider] true :=
  OpenClaim.laidByTextAt_later rfl rfl tie noOwnUnsafe
theorem nearKeepsUpto_row_tie : Rows.nearKeepsUptoRow.laidByTextAt .later Tryz.pinned [.data, .wider] true :=
  OpenClaim.laidByTextAt_later rfl rfl tie noOwnUnsafe
theorem nearTellsUpto_row_tie : Rows.nearTellsUptoRow.laidByTextAt .later Tryz.pinned [.data, .wider] true :=
  OpenClaim.laidByTextAt_later rfl rfl tie noOwnUnsafe
theorem nearAsksUpto_row_tie : Rows.nearAsksUptoRow.laidByTextAt .later Tryz.pinned [.data, .wider] true :=
  OpenClaim.laidByTextAt_later rfl rfl tie noOwnUnsafe
end Go.Proofs.YtcoimipgilkmbaaGreatDoor
