/-
  DERIVED. GIVEN WITH THE SEED: THE CARDS: each row of YtegaalhbebibgaaDoorRows.lean that lists a variable, with what it lists TIED to the program's text (the seventh form; the later family's looks); each row that meets fmt, with fmt's text TOLD by the authors' own Lean function (tested against real Go, not proved from fmt's source: count such statements apart). THE CARD IS WHAT COUNTS. Prove the row's statement (the work); the ties are given (YtegaalhbebibgaaDoorTie.lean); close each card by the builder's one call (the guide's Derived/Test/ToyasCard.lean, 'card_holds'). Laid BY PROGRAM, IN A SANDBOX (cutbox-door.mjs). By AI agents, Wed Nov 11 2026. No macro, syntax, notation, axiom, sorry.
-/
import Derived.Test.YtegaalhbebibgaaDoorRows
import GoSem.ClaimSeven
namespace Go.Proofs.YtegaalhbebibgaaDoor
namespace Rows

/-- THE TIED CARD OF 'undertowlaw13.MarksKnown'. -/
def marksKnownCard : Claim7 := { stood := { row := marksKnownRow, standIns := [], harness := (true, "f369f8632598e431fe938ecf5581bb5983d485fb43c25a0526698aa151ea671e"), looks := true }, kinds := [], alts := [], laidByText := true, laidKinds := [.wider], laidTests := true, laidLooks := .later }
def MarksKnownCardSaid : Prop := Claim7.holds Tryd.pinned (.plain (OpenSpec.ofChange marksKnownSpec)) marksKnownCard

/-- THE TIED CARD OF 'undertowlaw13.MarksPlay'. -/
def marksPlayCard : Claim7 := { stood := { row := marksPlayRow, standIns := [], harness := (true, "f369f8632598e431fe938ecf5581bb5983d485fb43c25a0526698aa151ea671e"), looks := true }, kinds := [], alts := [], laidByText := true, laidKinds := [.wider], laidTests := true, laidLooks := .later }
def MarksPlayCardSaid : Prop := Claim7.holds Tryd.pinned (.plain (OpenSpec.ofChange marksPlaySpec)) marksPlayCard

/-- THE TIED CARD OF 'undertowlaw13.MarksMore'. -/
def marksMoreCard : Claim7 := { stood := { row := marksMoreRow, standIns := [], harness := (true, "f369f8632598e431fe938ecf5581bb5983d485fb43c25a0526698aa151ea671e"), looks := true }, kinds := [], alts := [], laidByText := true, laidKinds := [.wider], laidTests := true, laidLooks := .later }
def MarksMoreCardSaid : Prop := Claim7.holds Tryd.pinned (.plain (OpenSpec.ofChange marksMoreSpec)) marksMoreCard

/-- THE TIED CARD OF 'undertowlaw13.MarksApart'. -/
def marksApartCard : Claim7 := { stood := { row := marksApartRow, standIns := [], harness := (true, "f369f8632598e431fe938ecf5581bb5983d485fb43c25a0526698aa151ea671e"), looks := true }, kinds := [], alts := [], laidByText := true, laidKinds := [.wider], laidTests := true, laidLooks := .later }
def MarksApartCardSaid : Prop := Claim7.holds Tryd.pinned (.plain (OpenSpec.ofChange marksApartSpec)) marksApartCard

/-- THE TIED CARD OF 'undertowlaw13.MarksAll'. -/
def marksAllCard : Claim7 := { stood := { row := marksAllRow, standIns := [], harness := (true, "f369f8632598e431fe938ecf5581bb5983d485fb43c25a0526698aa151ea671e"), looks := true }, kinds := [], alts := [], laidByText := true, laidKinds := [.wider], laidTests := true, laidLooks := .later }
def MarksAllCardSaid : Prop := Claim7.holds Tryd.pinned (.plain (OpenSpec.ofChange marksAllSpec)) marksAllCard

/-- THE SECOND FORM's CARD OF 'undertowlaw13.MarksKnown'. -/
def marksKnownUptoCard : Claim7 := { stood := { row := marksKnownUptoRow, standIns := [], harness := (true, "f369f8632598e431fe938ecf5581bb5983d485fb43c25a0526698aa151ea671e"), looks := true }, kinds := [], alts := [], laidByText := true, laidKinds := [.wider], laidTests := true, laidLooks := .later }
def MarksKnownUptoCardSaid : Prop := Claim7.holds Tryd.pinned (.plain (OpenSpec.upto marksKnownSpec)) marksKnownUptoCard

/-- THE SECOND FORM's CARD OF 'undertowlaw13.MarksPlay'. -/
def marksPlayUptoCard : Claim7 := { stood := { row := marksPlayUptoRow, standIns := [], harness := (true, "f369f8632598e431fe938ecf5581bb5983d485fb43c25a0526698aa151ea671e"), looks := true }, kinds := [], alts := [], laidByText := true, laidKinds := [.wider], laidTests := true, laidLooks := .later }
def MarksPlayUptoCardSaid : Prop := Claim7.holds Tryd.pinned (.plain (OpenSpec.upto marksPlaySpec)) marksPlayUptoCard

/-- THE SECOND FORM's CARD OF 'undertowlaw13.MarksMore'. -/
def marksMoreUptoCard : Claim7 := { stood := { row := marksMoreUptoRow, standIns := [], harness := (true, "f369f8632598e431fe938ecf5581bb5983d485fb43c25a0526698aa151ea671e"), looks := true }, kinds := [], alts := [], laidByText := true, laidKinds := [.wider], laidTests := true, laidLooks := .later }
def MarksMoreUptoCardSaid : Prop := Claim7.holds Tryd.pinned (.plain (OpenSpec.upto marksMoreSpec)) marksMoreUptoCard

/-- THE SECOND FORM's CARD OF 'undertowlaw13.MarksApart'. -/
def marksApartUptoCard : Claim7 := { stood := { row := marksApartUptoRow, standIns := [], harness := (true, "f369f8632598e431fe938ecf5581bb5983d485fb43c25a0526698aa151ea671e"), looks := true }, kinds := [], alts := [], laidByText := true, laidKinds := [.wider], laidTests := true, laidLooks := .later }
def MarksApartUptoCardSaid : Prop := Claim7.holds Tryd.pinned (.plain (OpenSpec.upto marksApartSpec)) marksApartUptoCard

/-- THE SECOND FORM's CARD OF 'undertowlaw13.MarksAll'. -/
def marksAllUptoCard : Claim7 := { stood := { row := marksAllUptoRow, standIns := [], harness := (true, "f369f8632598e431fe938ecf5581bb5983d485fb43c25a0526698aa151ea671e"), looks := true }, kinds := [], alts := [], laidByText := true, laidKinds := [.wider], laidTests := true, laidLooks := .later }
def MarksAllUptoCardSaid : Prop := Claim7.holds Tryd.pinned (.plain (OpenSpec.upto marksAllSpec)) marksAllUptoCard
end Rows
end Go.Proofs.YtegaalhbebibgaaDoor
