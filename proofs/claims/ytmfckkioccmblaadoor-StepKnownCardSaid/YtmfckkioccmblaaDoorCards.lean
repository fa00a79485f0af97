/-
  DERIVED. GIVEN WITH THE SEED: THE CARDS: each row of YtmfckkioccmblaaDoorRows.lean that lists a variable, with what it lists TIED to the program's text (the seventh form; the later family's looks); each row that meets fmt, with fmt's text TOLD by the authors' own Lean function (tested against real Go, not proved from fmt's source: count such statements apart). THE CARD IS WHAT COUNTS. Prove the row's statement (the work); the ties are given (YtmfckkioccmblaaDoorTie.lean); close each card by the builder's one call (the guide's Derived/Test/ToyasCard.lean, 'card_holds'). Laid BY PROGRAM, IN A SANDBOX (cutbox-door.mjs). By AI agents, Wed Nov 11 2026. No macro, syntax, notation, axiom, sorry.
-/
import Derived.Test.YtmfckkioccmblaaDoorRows
import GoSem.ClaimSeven
namespace Go.Proofs.YtmfckkioccmblaaDoor
namespace Rows

/-- THE TIED CARD OF 'undertowlaw19.StepKnown'. -/
def stepKnownCard : Claim7 := { stood := { row := stepKnownRow, standIns := [], harness := (true, "7f1b74585f1c03efc2b4d3e72978c4f5b409d50b5768c617dbc0bdc08020e383"), looks := false }, kinds := [], alts := [], laidByText := true, laidKinds := [.data, .data], laidTests := true, laidLooks := .later }
def StepKnownCardSaid : Prop := Claim7.holds Tryd.pinned (.plain (OpenSpec.ofChange stepKnownSpec)) stepKnownCard

/-- THE TIED CARD OF 'undertowlaw19.StepDoes'. -/
def stepDoesCard : Claim7 := { stood := { row := stepDoesRow, standIns := [], harness := (true, "7f1b74585f1c03efc2b4d3e72978c4f5b409d50b5768c617dbc0bdc08020e383"), looks := false }, kinds := [], alts := [], laidByText := true, laidKinds := [.data, .data], laidTests := true, laidLooks := .later }
def StepDoesCardSaid : Prop := Claim7.holds Tryd.pinned (.plain (OpenSpec.ofChange stepDoesSpec)) stepDoesCard

/-- THE TIED CARD OF 'undertowlaw19.StepRegs'. -/
def stepRegsCard : Claim7 := { stood := { row := stepRegsRow, standIns := [], harness := (true, "7f1b74585f1c03efc2b4d3e72978c4f5b409d50b5768c617dbc0bdc08020e383"), looks := false }, kinds := [], alts := [], laidByText := true, laidKinds := [.data, .data], laidTests := true, laidLooks := .later }
def StepRegsCardSaid : Prop := Claim7.holds Tryd.pinned (.plain (OpenSpec.ofChange stepRegsSpec)) stepRegsCard

/-- THE TIED CARD OF 'undertowlaw19.StepOne'. -/
def stepOneCard : Claim7 := { stood := { row := stepOneRow, standIns := [], harness := (true, "7f1b74585f1c03efc2b4d3e72978c4f5b409d50b5768c617dbc0bdc08020e383"), looks := false }, kinds := [], alts := [], laidByText := true, laidKinds := [.data, .data], laidTests := true, laidLooks := .later }
def StepOneCardSaid : Prop := Claim7.holds Tryd.pinned (.plain (OpenSpec.ofChange stepOneSpec)) stepOneCard

/-- THE TIED CARD OF 'undertowlaw19.StepGoes'. -/
def stepGoesCard : Claim7 := { stood := { row := stepGoesRow, standIns := [], harness := (true, "7f1b74585f1c03efc2b4d3e72978c4f5b409d50b5768c617dbc0bdc08020e383"), looks := false }, kinds := [], alts := [], laidByText := true, laidKinds := [.data, .data], laidTests := true, laidLooks := .later }
def StepGoesCardSaid : Prop := Claim7.holds Tryd.pinned (.plain (OpenSpec.ofChange stepGoesSpec)) stepGoesCard

/-- THE SECOND FORM's CARD OF 'undertowlaw19.StepKnown'. -/
def stepKnownUptoCard : Claim7 := { stood := { row := stepKnownUptoRow, standIns := [], harness := (true, "7f1b74585f1c03efc2b4d3e72978c4f5b409d50b5768c617dbc0bdc08020e383"), looks := false }, kinds := [], alts := [], laidByText := true, laidKinds := [.data, .data], laidTests := true, laidLooks := .later }
def StepKnownUptoCardSaid : Prop := Claim7.holds Tryd.pinned (.plain (OpenSpec.upto stepKnownSpec)) stepKnownUptoCard

/-- THE SECOND FORM's CARD OF 'undertowlaw19.StepDoes'. -/
def stepDoesUptoCard : Claim7 := { stood := { row := stepDoesUptoRow, standIns := [], harness := (true, "7f1b74585f1c03efc2b4d3e72978c4f5b409d50b5768c617dbc0bdc08020e383"), looks := false }, kinds := [], alts := [], laidByText := true, laidKinds := [.data, .data], laidTests := true, laidLooks := .later }
def StepDoesUptoCardSaid : Prop := Claim7.holds Tryd.pinned (.plain (OpenSpec.upto stepDoesSpec)) stepDoesUptoCard

/-- THE SECOND FORM's CARD OF 'undertowlaw19.StepRegs'. -/
def stepRegsUptoCard : Claim7 := { stood := { row := stepRegsUptoRow, standIns := [], harness := (true, "7f1b74585f1c03efc2b4d3e72978c4f5b409d50b5768c617dbc0bdc08020e383"), looks := false }, kinds := [], alts := [], laidByText := true, laidKinds := [.data, .data], laidTests := true, laidLooks := .later }
def StepRegsUptoCardSaid : Prop := Claim7.holds Tryd.pinned (.plain (OpenSpec.upto stepRegsSpec)) stepRegsUptoCard

/-- THE SECOND FORM's CARD OF 'undertowlaw19.StepOne'. -/
def stepOneUptoCard : Claim7 := { stood := { row := stepOneUptoRow, standIns := [], harness := (true, "7f1b74585f1c03efc2b4d3e72978c4f5b409d50b5768c617dbc0bdc08020e383"), looks := false }, kinds := [], alts := [], laidByText := true, laidKinds := [.data, .data], laidTests := true, laidLooks := .later }
def StepOneUptoCardSaid : Prop := Claim7.holds Tryd.pinned (.plain (OpenSpec.upto stepOneSpec)) stepOneUptoCard

/-- THE SECOND FORM's CARD OF 'undertowlaw19.StepGoes'. -/
def stepGoesUptoCard : Claim7 := { stood := { row := stepGoesUptoRow, standIns := [], harness := (true, "7f1b74585f1c03efc2b4d3e72978c4f5b409d50b5768c617dbc0bdc08020e383"), looks := false }, kinds := [], alts := [], laidByText := true, laidKinds := [.data, .data], laidTests := true, laidLooks := .later }
def StepGoesUptoCardSaid : Prop := Claim7.holds Tryd.pinned (.plain (OpenSpec.upto stepGoesSpec)) stepGoesUptoCard
end Rows
end Go.Proofs.YtmfckkioccmblaaDoor
