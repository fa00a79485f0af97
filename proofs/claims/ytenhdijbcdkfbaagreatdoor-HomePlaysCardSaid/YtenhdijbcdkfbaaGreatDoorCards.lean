/-
  DERIVED. GIVEN WITH THE SEED: THE CARDS: each row of YtenhdijbcdkfbaaGreatDoorRows.lean that lists a variable, with what it lists TIED to the program's text (the seventh form; the later family's looks); each row that meets fmt, with fmt's text TOLD by the authors' own Lean function (tested against real Go, not proved from fmt's source: count such statements apart). THE CARD IS WHAT COUNTS. Prove the row's statement (the work); the ties are given (YtenhdijbcdkfbaaGreatDoorTie.lean); close each card by the builder's one call (the guide's Derived/Test/ToyasCard.lean, 'card_holds'). Laid BY PROGRAM, IN A SANDBOX (cutbox-door.mjs). By AI agents, Wed Nov 11 2026. No macro, syntax, notation, axiom, sorry.
-/
import Derived.Test.YtenhdijbcdkfbaaGreatDoorRows
import GoSem.ClaimSeven
namespace Go.Proofs.YtenhdijbcdkfbaaGreatDoor
namespace Rows

/-- THE TIED CARD OF 'undertowlaw11.HomePlays'. -/
def homePlaysCard : Claim7 := { stood := { row := homePlaysRow, standIns := [], harness := (true, "fa116212a9b822be0dcf45b5f510004427caa229e8a507a48e0d049558427ed7"), looks := true }, kinds := [], alts := [], laidByText := true, laidKinds := [.data, .data, .wider], laidTests := true, laidLooks := .later }
def HomePlaysCardSaid : Prop := Claim7.holds Tryz.pinned (.plain (OpenSpec.ofChange homePlaysSpec)) homePlaysCard

/-- THE SECOND FORM's CARD OF 'undertowlaw11.HomePlays'. -/
def homePlaysUptoCard : Claim7 := { stood := { row := homePlaysUptoRow, standIns := [], harness := (true, "fa116212a9b822be0dcf45b5f510004427caa229e8a507a48e0d049558427ed7"), looks := true }, kinds := [], alts := [], laidByText := true, laidKinds := [.data, .data, .wider], laidTests := true, laidLooks := .later }
def HomePlaysUptoCardSaid : Prop := Claim7.holds Tryz.pinned (.plain (OpenSpec.upto homePlaysSpec)) homePlaysUptoCard
end Rows
end Go.Proofs.YtenhdijbcdkfbaaGreatDoor
