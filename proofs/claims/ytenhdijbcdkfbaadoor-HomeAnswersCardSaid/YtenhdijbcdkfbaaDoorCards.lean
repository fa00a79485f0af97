/-
  DERIVED. GIVEN WITH THE SEED: THE CARDS: each row of YtenhdijbcdkfbaaDoorRows.lean that lists a variable, with what it lists TIED to the program's text (the seventh form; the later family's looks); each row that meets fmt, with fmt's text TOLD by the authors' own Lean function (tested against real Go, not proved from fmt's source: count such statements apart). THE CARD IS WHAT COUNTS. Prove the row's statement (the work); the ties are given (YtenhdijbcdkfbaaDoorTie.lean); close each card by the builder's one call (the guide's Derived/Test/ToyasCard.lean, 'card_holds'). Laid BY PROGRAM, IN A SANDBOX (cutbox-door.mjs). By AI agents, Wed Nov 11 2026. No macro, syntax, notation, axiom, sorry.
-/
import Derived.Test.YtenhdijbcdkfbaaDoorRows
import GoSem.ClaimSeven
namespace Go.Proofs.YtenhdijbcdkfbaaDoor
namespace Rows

/-- THE TIED CARD OF 'undertowlaw11.HomeKnown'. -/
def homeKnownCard : Claim7 := { stood := { row := homeKnownRow, standIns := [], harness := (true, "a239d8c6d90be123454291bd643b64da765ba89e415c1774dc952468b7d5d0f3"), looks := true }, kinds := [], alts := [], laidByText := true, laidKinds := [.data, .data, .wider], laidTests := true, laidLooks := .later }
def HomeKnownCardSaid : Prop := Claim7.holds Tryd.pinned (.plain (OpenSpec.ofChange homeKnownSpec)) homeKnownCard

/-- THE TIED CARD OF 'undertowlaw11.HomeAnswers'. -/
def homeAnswersCard : Claim7 := { stood := { row := homeAnswersRow, standIns := [], harness := (true, "a239d8c6d90be123454291bd643b64da765ba89e415c1774dc952468b7d5d0f3"), looks := true }, kinds := [], alts := [], laidByText := true, laidKinds := [.data, .data, .wider], laidTests := true, laidLooks := .later }
def HomeAnswersCardSaid : Prop := Claim7.holds Tryd.pinned (.plain (OpenSpec.ofChange homeAnswersSpec)) homeAnswersCard

/-- THE TIED CARD OF 'undertowlaw11.HomeOwned'. -/
def homeOwnedCard : Claim7 := { stood := { row := homeOwnedRow, standIns := [], harness := (true, "a239d8c6d90be123454291bd643b64da765ba89e415c1774dc952468b7d5d0f3"), looks := true }, kinds := [], alts := [], laidByText := true, laidKinds := [.data, .data, .wider], laidTests := true, laidLooks := .later }
def HomeOwnedCardSaid : Prop := Claim7.holds Tryd.pinned (.plain (OpenSpec.ofChange homeOwnedSpec)) homeOwnedCard

/-- THE TIED CARD OF 'undertowlaw11.HomeMemory'. -/
def homeMemoryCard : Claim7 := { stood := { row := homeMemoryRow, standIns := [], harness := (true, "a239d8c6d90be123454291bd643b64da765ba89e415c1774dc952468b7d5d0f3"), looks := true }, kinds := [], alts := [], laidByText := true, laidKinds := [.data, .data, .wider], laidTests := true, laidLooks := .later }
def HomeMemoryCardSaid : Prop := Claim7.holds Tryd.pinned (.plain (OpenSpec.ofChange homeMemorySpec)) homeMemoryCard

/-- THE TIED CARD OF 'undertowlaw11.HomeCopies'. -/
def homeCopiesCard : Claim7 := { stood := { row := homeCopiesRow, standIns := [], harness := (true, "a239d8c6d90be123454291bd643b64da765ba89e415c1774dc952468b7d5d0f3"), looks := true }, kinds := [], alts := [], laidByText := true, laidKinds := [.data, .data, .wider], laidTests := true, laidLooks := .later }
def HomeCopiesCardSaid : Prop := Claim7.holds Tryd.pinned (.plain (OpenSpec.ofChange homeCopiesSpec)) homeCopiesCard

/-- THE SECOND FORM's CARD OF 'undertowlaw11.HomeKnown'. -/
def homeKnownUptoCard : Claim7 := { stood := { row := homeKnownUptoRow, standIns := [], harness := (true, "a239d8c6d90be123454291bd643b64da765ba89e415c1774dc952468b7d5d0f3"), looks := true }, kinds := [], alts := [], laidByText := true, laidKinds := [.data, .data, .wider], laidTests := true, laidLooks := .later }
def HomeKnownUptoCardSaid : Prop := Claim7.holds Tryd.pinned (.plain (OpenSpec.upto homeKnownSpec)) homeKnownUptoCard

/-- THE SECOND FORM's CARD OF 'undertowlaw11.HomeAnswers'. -/
def homeAnswersUptoCard : Claim7 := { stood := { row := homeAnswersUptoRow, standIns := [], harness := (true, "a239d8c6d90be123454291bd643b64da765ba89e415c1774dc952468b7d5d0f3"), looks := true }, kinds := [], alts := [], laidByText := true, laidKinds := [.data, .data, .wider], laidTests := true, laidLooks := .later }
def HomeAnswersUptoCardSaid : Prop := Claim7.holds Tryd.pinned (.plain (OpenSpec.upto homeAnswersSpec)) homeAnswersUptoCard

/-- THE SECOND FORM's CARD OF 'undertowlaw11.HomeOwned'. -/
def homeOwnedUptoCard : Claim7 := { stood := { row := homeOwnedUptoRow, standIns := [], harness := (true, "a239d8c6d90be123454291bd643b64da765ba89e415c1774dc952468b7d5d0f3"), looks := true }, kinds := [], alts := [], laidByText := true, laidKinds := [.data, .data, .wider], laidTests := true, laidLooks := .later }
def HomeOwnedUptoCardSaid : Prop := Claim7.holds Tryd.pinned (.plain (OpenSpec.upto homeOwnedSpec)) homeOwnedUptoCard

/-- THE SECOND FORM's CARD OF 'undertowlaw11.HomeMemory'. -/
def homeMemoryUptoCard : Claim7 := { stood := { row := homeMemoryUptoRow, standIns := [], harness := (true, "a239d8c6d90be123454291bd643b64da765ba89e415c1774dc952468b7d5d0f3"), looks := true }, kinds := [], alts := [], laidByText := true, laidKinds := [.data, .data, .wider], laidTests := true, laidLooks := .later }
def HomeMemoryUptoCardSaid : Prop := Claim7.holds Tryd.pinned (.plain (OpenSpec.upto homeMemorySpec)) homeMemoryUptoCard

/-- THE SECOND FORM's CARD OF 'undertowlaw11.HomeCopies'. -/
def homeCopiesUptoCard : Claim7 := { stood := { row := homeCopiesUptoRow, standIns := [], harness := (true, "a239d8c6d90be123454291bd643b64da765ba89e415c1774dc952468b7d5d0f3"), looks := true }, kinds := [], alts := [], laidByText := true, laidKinds := [.data, .data, .wider], laidTests := true, laidLooks := .later }
def HomeCopiesUptoCardSaid : Prop := Claim7.holds Tryd.pinned (.plain (OpenSpec.upto homeCopiesSpec)) homeCopiesUptoCard
end Rows
end Go.Proofs.YtenhdijbcdkfbaaDoor
