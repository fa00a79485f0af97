/-
  DERIVED. GIVEN WITH THE SEED: THE CARDS: each row of YtkeeajiikfddgaaDoorRows.lean that lists a variable, with what it lists TIED to the program's text (the seventh form; the later family's looks); each row that meets fmt, with fmt's text TOLD by the authors' own Lean function (tested against real Go, not proved from fmt's source: count such statements apart). THE CARD IS WHAT COUNTS. Prove the row's statement (the work); the ties are given (YtkeeajiikfddgaaDoorTie.lean); close each card by the builder's one call (the guide's Derived/Test/ToyasCard.lean, 'card_holds'). Laid BY PROGRAM, IN A SANDBOX (cutbox-door.mjs). By AI agents, Wed Nov 11 2026. No macro, syntax, notation, axiom, sorry.
-/
import Derived.Test.YtkeeajiikfddgaaDoorRows
import GoSem.ClaimSeven
namespace Go.Proofs.YtkeeajiikfddgaaDoor
namespace Rows

/-- THE TIED CARD OF 'undertowlaw05.PlanKnown'. -/
def planKnownCard : Claim7 := { stood := { row := planKnownRow, standIns := [], harness := (true, "21b4824a9635dee37563c3f70d1ab0368d7b8fcbcac1d4b880b9dcaeaa9d367c"), looks := false }, kinds := [], alts := [], laidByText := true, laidKinds := [.wider], laidTests := true, laidLooks := .later }
def PlanKnownCardSaid : Prop := Claim7.holds Tryd.pinned (.plain (OpenSpec.ofChange planKnownSpec)) planKnownCard

/-- THE TIED CARD OF 'undertowlaw05.PlanMay'. -/
def planMayCard : Claim7 := { stood := { row := planMayRow, standIns := [], harness := (true, "21b4824a9635dee37563c3f70d1ab0368d7b8fcbcac1d4b880b9dcaeaa9d367c"), looks := false }, kinds := [], alts := [], laidByText := true, laidKinds := [.wider], laidTests := true, laidLooks := .later }
def PlanMayCardSaid : Prop := Claim7.holds Tryd.pinned (.plain (OpenSpec.ofChange planMaySpec)) planMayCard

/-- THE TIED CARD OF 'undertowlaw05.PlanWhere'. -/
def planWhereCard : Claim7 := { stood := { row := planWhereRow, standIns := [], harness := (true, "21b4824a9635dee37563c3f70d1ab0368d7b8fcbcac1d4b880b9dcaeaa9d367c"), looks := false }, kinds := [], alts := [], laidByText := true, laidKinds := [.wider], laidTests := true, laidLooks := .later }
def PlanWhereCardSaid : Prop := Claim7.holds Tryd.pinned (.plain (OpenSpec.ofChange planWhereSpec)) planWhereCard

/-- THE TIED CARD OF 'undertowlaw05.PlanAddrs'. -/
def planAddrsCard : Claim7 := { stood := { row := planAddrsRow, standIns := [], harness := (true, "21b4824a9635dee37563c3f70d1ab0368d7b8fcbcac1d4b880b9dcaeaa9d367c"), looks := false }, kinds := [], alts := [], laidByText := true, laidKinds := [.wider], laidTests := true, laidLooks := .later }
def PlanAddrsCardSaid : Prop := Claim7.holds Tryd.pinned (.plain (OpenSpec.ofChange planAddrsSpec)) planAddrsCard

/-- THE TIED CARD OF 'undertowlaw05.PlanParts'. -/
def planPartsCard : Claim7 := { stood := { row := planPartsRow, standIns := [], harness := (true, "21b4824a9635dee37563c3f70d1ab0368d7b8fcbcac1d4b880b9dcaeaa9d367c"), looks := false }, kinds := [], alts := [], laidByText := true, laidKinds := [.wider], laidTests := true, laidLooks := .later }
def PlanPartsCardSaid : Prop := Claim7.holds Tryd.pinned (.plain (OpenSpec.ofChange planPartsSpec)) planPartsCard

/-- THE TIED CARD OF 'undertowlaw05.PlanBack'. -/
def planBackCard : Claim7 := { stood := { row := planBackRow, standIns := [], harness := (true, "21b4824a9635dee37563c3f70d1ab0368d7b8fcbcac1d4b880b9dcaeaa9d367c"), looks := false }, kinds := [], alts := [], laidByText := true, laidKinds := [.wider], laidTests := true, laidLooks := .later }
def PlanBackCardSaid : Prop := Claim7.holds Tryd.pinned (.plain (OpenSpec.ofChange planBackSpec)) planBackCard

/-- THE TIED CARD OF 'undertowlaw05.PlanSets'. -/
def planSetsCard : Claim7 := { stood := { row := planSetsRow, standIns := [], harness := (true, "21b4824a9635dee37563c3f70d1ab0368d7b8fcbcac1d4b880b9dcaeaa9d367c"), looks := false }, kinds := [], alts := [], laidByText := true, laidKinds := [.wider], laidTests := true, laidLooks := .later }
def PlanSetsCardSaid : Prop := Claim7.holds Tryd.pinned (.plain (OpenSpec.ofChange planSetsSpec)) planSetsCard

/-- THE SECOND FORM's CARD OF 'undertowlaw05.PlanKnown'. -/
def planKnownUptoCard : Claim7 := { stood := { row := planKnownUptoRow, standIns := [], harness := (true, "21b4824a9635dee37563c3f70d1ab0368d7b8fcbcac1d4b880b9dcaeaa9d367c"), looks := false }, kinds := [], alts := [], laidByText := true, laidKinds := [.wider], laidTests := true, laidLooks := .later }
def PlanKnownUptoCardSaid : Prop := Claim7.holds Tryd.pinned (.plain (OpenSpec.upto planKnownSpec)) planKnownUptoCard

/-- THE SECOND FORM's CARD OF 'undertowlaw05.PlanMay'. -/
def planMayUptoCard : Claim7 := { stood := { row := planMayUptoRow, standIns := [], harness := (true, "21b4824a9635dee37563c3f70d1ab0368d7b8fcbcac1d4b880b9dcaeaa9d367c"), looks := false }, kinds := [], alts := [], laidByText := true, laidKinds := [.wider], laidTests := true, laidLooks := .later }
def PlanMayUptoCardSaid : Prop := Claim7.holds Tryd.pinned (.plain (OpenSpec.upto planMaySpec)) planMayUptoCard

/-- THE SECOND FORM's CARD OF 'undertowlaw05.PlanWhere'. -/
def planWhereUptoCard : Claim7 := { stood := { row := planWhereUptoRow, standIns := [], harness := (true, "21b4824a9635dee37563c3f70d1ab0368d7b8fcbcac1d4b880b9dcaeaa9d367c"), looks := false }, kinds := [], alts := [], laidByText := true, laidKinds := [.wider], laidTests := true, laidLooks := .later }
def PlanWhereUptoCardSaid : Prop := Claim7.holds Tryd.pinned (.plain (OpenSpec.upto planWhereSpec)) planWhereUptoCard

/-- THE SECOND FORM's CARD OF 'undertowlaw05.PlanAddrs'. -/
def planAddrsUptoCard : Claim7 := { stood := { row := planAddrsUptoRow, standIns := [], harness := (true, "21b4824a9635dee37563c3f70d1ab0368d7b8fcbcac1d4b880b9dcaeaa9d367c"), looks := false }, kinds := [], alts := [], laidByText := true, laidKinds := [.wider], laidTests := true, laidLooks := .later }
def PlanAddrsUptoCardSaid : Prop := Claim7.holds Tryd.pinned (.plain (OpenSpec.upto planAddrsSpec)) planAddrsUptoCard

/-- THE SECOND FORM's CARD OF 'undertowlaw05.PlanParts'. -/
def planPartsUptoCard : Claim7 := { stood := { row := planPartsUptoRow, standIns := [], harness := (true, "21b4824a9635dee37563c3f70d1ab0368d7b8fcbcac1d4b880b9dcaeaa9d367c"), looks := false }, kinds := [], alts := [], laidByText := true, laidKinds := [.wider], laidTests := true, laidLooks := .later }
def PlanPartsUptoCardSaid : Prop := Claim7.holds Tryd.pinned (.plain (OpenSpec.upto planPartsSpec)) planPartsUptoCard

/-- THE SECOND FORM's CARD OF 'undertowlaw05.PlanBack'. -/
def planBackUptoCard : Claim7 := { stood := { row := planBackUptoRow, standIns := [], harness := (true, "21b4824a9635dee37563c3f70d1ab0368d7b8fcbcac1d4b880b9dcaeaa9d367c"), looks := false }, kinds := [], alts := [], laidByText := true, laidKinds := [.wider], laidTests := true, laidLooks := .later }
def PlanBackUptoCardSaid : Prop := Claim7.holds Tryd.pinned (.plain (OpenSpec.upto planBackSpec)) planBackUptoCard

/-- THE SECOND FORM's CARD OF 'undertowlaw05.PlanSets'. -/
def planSetsUptoCard : Claim7 := { stood := { row := planSetsUptoRow, standIns := [], harness := (true, "21b4824a9635dee37563c3f70d1ab0368d7b8fcbcac1d4b880b9dcaeaa9d367c"), looks := false }, kinds := [], alts := [], laidByText := true, laidKinds := [.wider], laidTests := true, laidLooks := .later }
def PlanSetsUptoCardSaid : Prop := Claim7.holds Tryd.pinned (.plain (OpenSpec.upto planSetsSpec)) planSetsUptoCard
end Rows
end Go.Proofs.YtkeeajiikfddgaaDoor
