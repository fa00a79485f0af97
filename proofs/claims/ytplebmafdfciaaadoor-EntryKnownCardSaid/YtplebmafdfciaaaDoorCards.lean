/-
  DERIVED. GIVEN WITH THE SEED: THE CARDS: each row of YtplebmafdfciaaaDoorRows.lean that lists a variable, with what it lists TIED to the program's text (the seventh form; the later family's looks); each row that meets fmt, with fmt's text TOLD by the authors' own Lean function (tested against real Go, not proved from fmt's source: count such statements apart). THE CARD IS WHAT COUNTS. Prove the row's statement (the work); the ties are given (YtplebmafdfciaaaDoorTie.lean); close each card by the builder's one call (the guide's Derived/Test/ToyasCard.lean, 'card_holds'). Laid BY PROGRAM, IN A SANDBOX (cutbox-door.mjs). By AI agents, Wed Nov 11 2026. No macro, syntax, notation, axiom, sorry.
-/
import Derived.Test.YtplebmafdfciaaaDoorRows
import GoSem.ClaimSeven
namespace Go.Proofs.YtplebmafdfciaaaDoor
namespace Rows

/-- THE TIED CARD OF 'undertowlaw10.EntryKnown'. -/
def entryKnownCard : Claim7 := { stood := { row := entryKnownRow, standIns := [], harness := (true, "3f095d4461ebb3b785b934f92742c442c19e9c659bc58c0a4ffaf8bbe6f64492"), looks := false }, kinds := [], alts := [], laidByText := true, laidKinds := [.data], laidTests := true, laidLooks := .later }
def EntryKnownCardSaid : Prop := Claim7.holds Tryd.pinned (.plain (OpenSpec.ofChange entryKnownSpec)) entryKnownCard

/-- THE TIED CARD OF 'undertowlaw10.EntryAsks'. -/
def entryAsksCard : Claim7 := { stood := { row := entryAsksRow, standIns := [], harness := (true, "3f095d4461ebb3b785b934f92742c442c19e9c659bc58c0a4ffaf8bbe6f64492"), looks := false }, kinds := [], alts := [], laidByText := true, laidKinds := [.data], laidTests := true, laidLooks := .later }
def EntryAsksCardSaid : Prop := Claim7.holds Tryd.pinned (.plain (OpenSpec.ofChange entryAsksSpec)) entryAsksCard

/-- THE TIED CARD OF 'undertowlaw10.EntryOne'. -/
def entryOneCard : Claim7 := { stood := { row := entryOneRow, standIns := [], harness := (true, "3f095d4461ebb3b785b934f92742c442c19e9c659bc58c0a4ffaf8bbe6f64492"), looks := false }, kinds := [], alts := [], laidByText := true, laidKinds := [.data], laidTests := true, laidLooks := .later }
def EntryOneCardSaid : Prop := Claim7.holds Tryd.pinned (.plain (OpenSpec.ofChange entryOneSpec)) entryOneCard

/-- THE TIED CARD OF 'undertowlaw10.EntryKnows'. -/
def entryKnowsCard : Claim7 := { stood := { row := entryKnowsRow, standIns := [], harness := (true, "3f095d4461ebb3b785b934f92742c442c19e9c659bc58c0a4ffaf8bbe6f64492"), looks := false }, kinds := [], alts := [], laidByText := true, laidKinds := [.data], laidTests := true, laidLooks := .later }
def EntryKnowsCardSaid : Prop := Claim7.holds Tryd.pinned (.plain (OpenSpec.ofChange entryKnowsSpec)) entryKnowsCard

/-- THE SECOND FORM's CARD OF 'undertowlaw10.EntryKnown'. -/
def entryKnownUptoCard : Claim7 := { stood := { row := entryKnownUptoRow, standIns := [], harness := (true, "3f095d4461ebb3b785b934f92742c442c19e9c659bc58c0a4ffaf8bbe6f64492"), looks := false }, kinds := [], alts := [], laidByText := true, laidKinds := [.data], laidTests := true, laidLooks := .later }
def EntryKnownUptoCardSaid : Prop := Claim7.holds Tryd.pinned (.plain (OpenSpec.upto entryKnownSpec)) entryKnownUptoCard

/-- THE SECOND FORM's CARD OF 'undertowlaw10.EntryAsks'. -/
def entryAsksUptoCard : Claim7 := { stood := { row := entryAsksUptoRow, standIns := [], harness := (true, "3f095d4461ebb3b785b934f92742c442c19e9c659bc58c0a4ffaf8bbe6f64492"), looks := false }, kinds := [], alts := [], laidByText := true, laidKinds := [.data], laidTests := true, laidLooks := .later }
def EntryAsksUptoCardSaid : Prop := Claim7.holds Tryd.pinned (.plain (OpenSpec.upto entryAsksSpec)) entryAsksUptoCard

/-- THE SECOND FORM's CARD OF 'undertowlaw10.EntryOne'. -/
def entryOneUptoCard : Claim7 := { stood := { row := entryOneUptoRow, standIns := [], harness := (true, "3f095d4461ebb3b785b934f92742c442c19e9c659bc58c0a4ffaf8bbe6f64492"), looks := false }, kinds := [], alts := [], laidByText := true, laidKinds := [.data], laidTests := true, laidLooks := .later }
def EntryOneUptoCardSaid : Prop := Claim7.holds Tryd.pinned (.plain (OpenSpec.upto entryOneSpec)) entryOneUptoCard

/-- THE SECOND FORM's CARD OF 'undertowlaw10.EntryKnows'. -/
def entryKnowsUptoCard : Claim7 := { stood := { row := entryKnowsUptoRow, standIns := [], harness := (true, "3f095d4461ebb3b785b934f92742c442c19e9c659bc58c0a4ffaf8bbe6f64492"), looks := false }, kinds := [], alts := [], laidByText := true, laidKinds := [.data], laidTests := true, laidLooks := .later }
def EntryKnowsUptoCardSaid : Prop := Claim7.holds Tryd.pinned (.plain (OpenSpec.upto entryKnowsSpec)) entryKnowsUptoCard
end Rows
end Go.Proofs.YtplebmafdfciaaaDoor
