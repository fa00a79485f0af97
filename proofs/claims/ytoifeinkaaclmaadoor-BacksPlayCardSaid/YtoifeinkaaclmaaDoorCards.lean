/-
  DERIVED. GIVEN WITH THE SEED: THE CARDS: each row of YtoifeinkaaclmaaDoorRows.lean that lists a variable, with what it lists TIED to the program's text (the seventh form; the later family's looks); each row that meets fmt, with fmt's text TOLD by the authors' own Lean function (tested against real Go, not proved from fmt's source: count such statements apart). THE CARD IS WHAT COUNTS. Prove the row's statement (the work); the ties are given (YtoifeinkaaclmaaDoorTie.lean); close each card by the builder's one call (the guide's Derived/Test/ToyasCard.lean, 'card_holds'). Laid BY PROGRAM, IN A SANDBOX (cutbox-door.mjs). By AI agents, Wed Nov 11 2026. No macro, syntax, notation, axiom, sorry.
-/
import Derived.Test.YtoifeinkaaclmaaDoorRows
import GoSem.ClaimSeven
namespace Go.Proofs.YtoifeinkaaclmaaDoor
namespace Rows

/-- THE TIED CARD OF 'undertowlaw12.BacksKnown'. -/
def backsKnownCard : Claim7 := { stood := { row := backsKnownRow, standIns := [], harness := (true, "afe1186cf1cba67d8fdc019ca1d1fc4605d0fd1420806dac92038dd23f5fbec8"), looks := false }, kinds := [], alts := [], laidByText := true, laidKinds := [.wider], laidTests := true, laidLooks := .later }
def BacksKnownCardSaid : Prop := Claim7.holds Tryd.pinned (.plain (OpenSpec.ofChange backsKnownSpec)) backsKnownCard

/-- THE TIED CARD OF 'undertowlaw12.BacksPlay'. -/
def backsPlayCard : Claim7 := { stood := { row := backsPlayRow, standIns := [], harness := (true, "afe1186cf1cba67d8fdc019ca1d1fc4605d0fd1420806dac92038dd23f5fbec8"), looks := false }, kinds := [], alts := [], laidByText := true, laidKinds := [.wider], laidTests := true, laidLooks := .later }
def BacksPlayCardSaid : Prop := Claim7.holds Tryd.pinned (.plain (OpenSpec.ofChange backsPlaySpec)) backsPlayCard

/-- THE TIED CARD OF 'undertowlaw12.BacksKeep'. -/
def backsKeepCard : Claim7 := { stood := { row := backsKeepRow, standIns := [], harness := (true, "afe1186cf1cba67d8fdc019ca1d1fc4605d0fd1420806dac92038dd23f5fbec8"), looks := false }, kinds := [], alts := [], laidByText := true, laidKinds := [.wider], laidTests := true, laidLooks := .later }
def BacksKeepCardSaid : Prop := Claim7.holds Tryd.pinned (.plain (OpenSpec.ofChange backsKeepSpec)) backsKeepCard

/-- THE TIED CARD OF 'undertowlaw12.BacksMost'. -/
def backsMostCard : Claim7 := { stood := { row := backsMostRow, standIns := [], harness := (true, "afe1186cf1cba67d8fdc019ca1d1fc4605d0fd1420806dac92038dd23f5fbec8"), looks := false }, kinds := [], alts := [], laidByText := true, laidKinds := [.wider], laidTests := true, laidLooks := .later }
def BacksMostCardSaid : Prop := Claim7.holds Tryd.pinned (.plain (OpenSpec.ofChange backsMostSpec)) backsMostCard

/-- THE TIED CARD OF 'undertowlaw12.BacksCopies'. -/
def backsCopiesCard : Claim7 := { stood := { row := backsCopiesRow, standIns := [], harness := (true, "afe1186cf1cba67d8fdc019ca1d1fc4605d0fd1420806dac92038dd23f5fbec8"), looks := false }, kinds := [], alts := [], laidByText := true, laidKinds := [.wider], laidTests := true, laidLooks := .later }
def BacksCopiesCardSaid : Prop := Claim7.holds Tryd.pinned (.plain (OpenSpec.ofChange backsCopiesSpec)) backsCopiesCard

/-- THE SECOND FORM's CARD OF 'undertowlaw12.BacksKnown'. -/
def backsKnownUptoCard : Claim7 := { stood := { row := backsKnownUptoRow, standIns := [], harness := (true, "afe1186cf1cba67d8fdc019ca1d1fc4605d0fd1420806dac92038dd23f5fbec8"), looks := false }, kinds := [], alts := [], laidByText := true, laidKinds := [.wider], laidTests := true, laidLooks := .later }
def BacksKnownUptoCardSaid : Prop := Claim7.holds Tryd.pinned (.plain (OpenSpec.upto backsKnownSpec)) backsKnownUptoCard

/-- THE SECOND FORM's CARD OF 'undertowlaw12.BacksPlay'. -/
def backsPlayUptoCard : Claim7 := { stood := { row := backsPlayUptoRow, standIns := [], harness := (true, "afe1186cf1cba67d8fdc019ca1d1fc4605d0fd1420806dac92038dd23f5fbec8"), looks := false }, kinds := [], alts := [], laidByText := true, laidKinds := [.wider], laidTests := true, laidLooks := .later }
def BacksPlayUptoCardSaid : Prop := Claim7.holds Tryd.pinned (.plain (OpenSpec.upto backsPlaySpec)) backsPlayUptoCard

/-- THE SECOND FORM's CARD OF 'undertowlaw12.BacksKeep'. -/
def backsKeepUptoCard : Claim7 := { stood := { row := backsKeepUptoRow, standIns := [], harness := (true, "afe1186cf1cba67d8fdc019ca1d1fc4605d0fd1420806dac92038dd23f5fbec8"), looks := false }, kinds := [], alts := [], laidByText := true, laidKinds := [.wider], laidTests := true, laidLooks := .later }
def BacksKeepUptoCardSaid : Prop := Claim7.holds Tryd.pinned (.plain (OpenSpec.upto backsKeepSpec)) backsKeepUptoCard

/-- THE SECOND FORM's CARD OF 'undertowlaw12.BacksMost'. -/
def backsMostUptoCard : Claim7 := { stood := { row := backsMostUptoRow, standIns := [], harness := (true, "afe1186cf1cba67d8fdc019ca1d1fc4605d0fd1420806dac92038dd23f5fbec8"), looks := false }, kinds := [], alts := [], laidByText := true, laidKinds := [.wider], laidTests := true, laidLooks := .later }
def BacksMostUptoCardSaid : Prop := Claim7.holds Tryd.pinned (.plain (OpenSpec.upto backsMostSpec)) backsMostUptoCard

/-- THE SECOND FORM's CARD OF 'undertowlaw12.BacksCopies'. -/
def backsCopiesUptoCard : Claim7 := { stood := { row := backsCopiesUptoRow, standIns := [], harness := (true, "afe1186cf1cba67d8fdc019ca1d1fc4605d0fd1420806dac92038dd23f5fbec8"), looks := false }, kinds := [], alts := [], laidByText := true, laidKinds := [.wider], laidTests := true, laidLooks := .later }
def BacksCopiesUptoCardSaid : Prop := Claim7.holds Tryd.pinned (.plain (OpenSpec.upto backsCopiesSpec)) backsCopiesUptoCard
end Rows
end Go.Proofs.YtoifeinkaaclmaaDoor
