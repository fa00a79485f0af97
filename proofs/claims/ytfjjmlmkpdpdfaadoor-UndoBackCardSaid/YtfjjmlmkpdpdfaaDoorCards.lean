/-
  DERIVED. GIVEN WITH THE SEED: THE CARDS: each row of YtfjjmlmkpdpdfaaDoorRows.lean that lists a variable, with what it lists TIED to the program's text (the seventh form; the later family's looks); each row that meets fmt, with fmt's text TOLD by the authors' own Lean function (tested against real Go, not proved from fmt's source: count such statements apart). THE CARD IS WHAT COUNTS. Prove the row's statement (the work); the ties are given (YtfjjmlmkpdpdfaaDoorTie.lean); close each card by the builder's one call (the guide's Derived/Test/ToyasCard.lean, 'card_holds'). Laid BY PROGRAM, IN A SANDBOX (cutbox-door.mjs). By AI agents, Wed Nov 11 2026. No macro, syntax, notation, axiom, sorry.
-/
import Derived.Test.YtfjjmlmkpdpdfaaDoorRows
import GoSem.ClaimSeven
namespace Go.Proofs.YtfjjmlmkpdpdfaaDoor
namespace Rows

/-- THE TIED CARD OF 'undertowlaw15.UndoKnown'. -/
def undoKnownCard : Claim7 := { stood := { row := undoKnownRow, standIns := [], harness := (true, "4961b5f5d431907a695eb6abf7d3361e5e3439c8a08da48851d7b5d730ba9614"), looks := false }, kinds := [], alts := [], laidByText := true, laidKinds := [.wider], laidTests := true, laidLooks := .later }
def UndoKnownCardSaid : Prop := Claim7.holds Tryd.pinned (.plain (OpenSpec.ofChange undoKnownSpec)) undoKnownCard

/-- THE TIED CARD OF 'undertowlaw15.UndoPlays'. -/
def undoPlaysCard : Claim7 := { stood := { row := undoPlaysRow, standIns := [], harness := (true, "4961b5f5d431907a695eb6abf7d3361e5e3439c8a08da48851d7b5d730ba9614"), looks := false }, kinds := [], alts := [], laidByText := true, laidKinds := [.wider], laidTests := true, laidLooks := .later }
def UndoPlaysCardSaid : Prop := Claim7.holds Tryd.pinned (.plain (OpenSpec.ofChange undoPlaysSpec)) undoPlaysCard

/-- THE TIED CARD OF 'undertowlaw15.UndoBack'. -/
def undoBackCard : Claim7 := { stood := { row := undoBackRow, standIns := [], harness := (true, "4961b5f5d431907a695eb6abf7d3361e5e3439c8a08da48851d7b5d730ba9614"), looks := false }, kinds := [], alts := [], laidByText := true, laidKinds := [.wider], laidTests := true, laidLooks := .later }
def UndoBackCardSaid : Prop := Claim7.holds Tryd.pinned (.plain (OpenSpec.ofChange undoBackSpec)) undoBackCard

/-- THE TIED CARD OF 'undertowlaw15.UndoOwn'. -/
def undoOwnCard : Claim7 := { stood := { row := undoOwnRow, standIns := [], harness := (true, "4961b5f5d431907a695eb6abf7d3361e5e3439c8a08da48851d7b5d730ba9614"), looks := false }, kinds := [], alts := [], laidByText := true, laidKinds := [.wider], laidTests := true, laidLooks := .later }
def UndoOwnCardSaid : Prop := Claim7.holds Tryd.pinned (.plain (OpenSpec.ofChange undoOwnSpec)) undoOwnCard

/-- THE TIED CARD OF 'undertowlaw15.UndoTells'. -/
def undoTellsCard : Claim7 := { stood := { row := undoTellsRow, standIns := [], harness := (true, "4961b5f5d431907a695eb6abf7d3361e5e3439c8a08da48851d7b5d730ba9614"), looks := false }, kinds := [], alts := [], laidByText := true, laidKinds := [.wider], laidTests := true, laidLooks := .later }
def UndoTellsCardSaid : Prop := Claim7.holds Tryd.pinned (.plain (OpenSpec.ofChange undoTellsSpec)) undoTellsCard

/-- THE SECOND FORM's CARD OF 'undertowlaw15.UndoKnown'. -/
def undoKnownUptoCard : Claim7 := { stood := { row := undoKnownUptoRow, standIns := [], harness := (true, "4961b5f5d431907a695eb6abf7d3361e5e3439c8a08da48851d7b5d730ba9614"), looks := false }, kinds := [], alts := [], laidByText := true, laidKinds := [.wider], laidTests := true, laidLooks := .later }
def UndoKnownUptoCardSaid : Prop := Claim7.holds Tryd.pinned (.plain (OpenSpec.upto undoKnownSpec)) undoKnownUptoCard

/-- THE SECOND FORM's CARD OF 'undertowlaw15.UndoPlays'. -/
def undoPlaysUptoCard : Claim7 := { stood := { row := undoPlaysUptoRow, standIns := [], harness := (true, "4961b5f5d431907a695eb6abf7d3361e5e3439c8a08da48851d7b5d730ba9614"), looks := false }, kinds := [], alts := [], laidByText := true, laidKinds := [.wider], laidTests := true, laidLooks := .later }
def UndoPlaysUptoCardSaid : Prop := Claim7.holds Tryd.pinned (.plain (OpenSpec.upto undoPlaysSpec)) undoPlaysUptoCard

/-- THE SECOND FORM's CARD OF 'undertowlaw15.UndoBack'. -/
def undoBackUptoCard : Claim7 := { stood := { row := undoBackUptoRow, standIns := [], harness := (true, "4961b5f5d431907a695eb6abf7d3361e5e3439c8a08da48851d7b5d730ba9614"), looks := false }, kinds := [], alts := [], laidByText := true, laidKinds := [.wider], laidTests := true, laidLooks := .later }
def UndoBackUptoCardSaid : Prop := Claim7.holds Tryd.pinned (.plain (OpenSpec.upto undoBackSpec)) undoBackUptoCard

/-- THE SECOND FORM's CARD OF 'undertowlaw15.UndoOwn'. -/
def undoOwnUptoCard : Claim7 := { stood := { row := undoOwnUptoRow, standIns := [], harness := (true, "4961b5f5d431907a695eb6abf7d3361e5e3439c8a08da48851d7b5d730ba9614"), looks := false }, kinds := [], alts := [], laidByText := true, laidKinds := [.wider], laidTests := true, laidLooks := .later }
def UndoOwnUptoCardSaid : Prop := Claim7.holds Tryd.pinned (.plain (OpenSpec.upto undoOwnSpec)) undoOwnUptoCard

/-- THE SECOND FORM's CARD OF 'undertowlaw15.UndoTells'. -/
def undoTellsUptoCard : Claim7 := { stood := { row := undoTellsUptoRow, standIns := [], harness := (true, "4961b5f5d431907a695eb6abf7d3361e5e3439c8a08da48851d7b5d730ba9614"), looks := false }, kinds := [], alts := [], laidByText := true, laidKinds := [.wider], laidTests := true, laidLooks := .later }
def UndoTellsUptoCardSaid : Prop := Claim7.holds Tryd.pinned (.plain (OpenSpec.upto undoTellsSpec)) undoTellsUptoCard
end Rows
end Go.Proofs.YtfjjmlmkpdpdfaaDoor
