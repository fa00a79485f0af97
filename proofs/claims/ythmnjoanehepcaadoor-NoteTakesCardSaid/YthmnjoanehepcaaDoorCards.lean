/-
  DERIVED. GIVEN WITH THE SEED: THE CARDS: each row of YthmnjoanehepcaaDoorRows.lean that lists a variable, with what it lists TIED to the program's text (the seventh form; the later family's looks); each row that meets fmt, with fmt's text TOLD by the authors' own Lean function (tested against real Go, not proved from fmt's source: count such statements apart). THE CARD IS WHAT COUNTS. Prove the row's statement (the work); the ties are given (YthmnjoanehepcaaDoorTie.lean); close each card by the builder's one call (the guide's Derived/Test/ToyasCard.lean, 'card_holds'). Laid BY PROGRAM, IN A SANDBOX (cutbox-door.mjs). By AI agents, Wed Nov 11 2026. No macro, syntax, notation, axiom, sorry.
-/
import Derived.Test.YthmnjoanehepcaaDoorRows
import GoSem.ClaimSeven
namespace Go.Proofs.YthmnjoanehepcaaDoor
namespace Rows

/-- THE TIED CARD OF 'undertowlaw08.NoteKnown'. -/
def noteKnownCard : Claim7 := { stood := { row := noteKnownRow, standIns := [], harness := (true, "d0972d75fa53496c9b3b59c6d41ecc240a486176be70bcc7bdff7b37f78902e8"), looks := false }, kinds := [], alts := [], laidByText := true, laidKinds := [.data], laidTests := true, laidLooks := .later }
def NoteKnownCardSaid : Prop := Claim7.holds Tryd.pinned (.plain (OpenSpec.ofChange noteKnownSpec)) noteKnownCard

/-- THE TIED CARD OF 'undertowlaw08.NotePuts'. -/
def notePutsCard : Claim7 := { stood := { row := notePutsRow, standIns := [], harness := (true, "d0972d75fa53496c9b3b59c6d41ecc240a486176be70bcc7bdff7b37f78902e8"), looks := false }, kinds := [], alts := [], laidByText := true, laidKinds := [.data], laidTests := true, laidLooks := .later }
def NotePutsCardSaid : Prop := Claim7.holds Tryd.pinned (.plain (OpenSpec.ofChange notePutsSpec)) notePutsCard

/-- THE TIED CARD OF 'undertowlaw08.NoteTakes'. -/
def noteTakesCard : Claim7 := { stood := { row := noteTakesRow, standIns := [], harness := (true, "d0972d75fa53496c9b3b59c6d41ecc240a486176be70bcc7bdff7b37f78902e8"), looks := false }, kinds := [], alts := [], laidByText := true, laidKinds := [.data], laidTests := true, laidLooks := .later }
def NoteTakesCardSaid : Prop := Claim7.holds Tryd.pinned (.plain (OpenSpec.ofChange noteTakesSpec)) noteTakesCard

/-- THE TIED CARD OF 'undertowlaw08.NoteBack'. -/
def noteBackCard : Claim7 := { stood := { row := noteBackRow, standIns := [], harness := (true, "d0972d75fa53496c9b3b59c6d41ecc240a486176be70bcc7bdff7b37f78902e8"), looks := false }, kinds := [], alts := [], laidByText := true, laidKinds := [.data], laidTests := true, laidLooks := .later }
def NoteBackCardSaid : Prop := Claim7.holds Tryd.pinned (.plain (OpenSpec.ofChange noteBackSpec)) noteBackCard

/-- THE TIED CARD OF 'undertowlaw08.NoteOnce'. -/
def noteOnceCard : Claim7 := { stood := { row := noteOnceRow, standIns := [], harness := (true, "d0972d75fa53496c9b3b59c6d41ecc240a486176be70bcc7bdff7b37f78902e8"), looks := false }, kinds := [], alts := [], laidByText := true, laidKinds := [.data], laidTests := true, laidLooks := .later }
def NoteOnceCardSaid : Prop := Claim7.holds Tryd.pinned (.plain (OpenSpec.ofChange noteOnceSpec)) noteOnceCard

/-- THE TIED CARD OF 'undertowlaw08.NoteKinds'. -/
def noteKindsCard : Claim7 := { stood := { row := noteKindsRow, standIns := [], harness := (true, "d0972d75fa53496c9b3b59c6d41ecc240a486176be70bcc7bdff7b37f78902e8"), looks := false }, kinds := [], alts := [], laidByText := true, laidKinds := [.data], laidTests := true, laidLooks := .later }
def NoteKindsCardSaid : Prop := Claim7.holds Tryd.pinned (.plain (OpenSpec.ofChange noteKindsSpec)) noteKindsCard

/-- THE SECOND FORM's CARD OF 'undertowlaw08.NoteKnown'. -/
def noteKnownUptoCard : Claim7 := { stood := { row := noteKnownUptoRow, standIns := [], harness := (true, "d0972d75fa53496c9b3b59c6d41ecc240a486176be70bcc7bdff7b37f78902e8"), looks := false }, kinds := [], alts := [], laidByText := true, laidKinds := [.data], laidTests := true, laidLooks := .later }
def NoteKnownUptoCardSaid : Prop := Claim7.holds Tryd.pinned (.plain (OpenSpec.upto noteKnownSpec)) noteKnownUptoCard

/-- THE SECOND FORM's CARD OF 'undertowlaw08.NotePuts'. -/
def notePutsUptoCard : Claim7 := { stood := { row := notePutsUptoRow, standIns := [], harness := (true, "d0972d75fa53496c9b3b59c6d41ecc240a486176be70bcc7bdff7b37f78902e8"), looks := false }, kinds := [], alts := [], laidByText := true, laidKinds := [.data], laidTests := true, laidLooks := .later }
def NotePutsUptoCardSaid : Prop := Claim7.holds Tryd.pinned (.plain (OpenSpec.upto notePutsSpec)) notePutsUptoCard

/-- THE SECOND FORM's CARD OF 'undertowlaw08.NoteTakes'. -/
def noteTakesUptoCard : Claim7 := { stood := { row := noteTakesUptoRow, standIns := [], harness := (true, "d0972d75fa53496c9b3b59c6d41ecc240a486176be70bcc7bdff7b37f78902e8"), looks := false }, kinds := [], alts := [], laidByText := true, laidKinds := [.data], laidTests := true, laidLooks := .later }
def NoteTakesUptoCardSaid : Prop := Claim7.holds Tryd.pinned (.plain (OpenSpec.upto noteTakesSpec)) noteTakesUptoCard

/-- THE SECOND FORM's CARD OF 'undertowlaw08.NoteBack'. -/
def noteBackUptoCard : Claim7 := { stood := { row := noteBackUptoRow, standIns := [], harness := (true, "d0972d75fa53496c9b3b59c6d41ecc240a486176be70bcc7bdff7b37f78902e8"), looks := false }, kinds := [], alts := [], laidByText := true, laidKinds := [.data], laidTests := true, laidLooks := .later }
def NoteBackUptoCardSaid : Prop := Claim7.holds Tryd.pinned (.plain (OpenSpec.upto noteBackSpec)) noteBackUptoCard

/-- THE SECOND FORM's CARD OF 'undertowlaw08.NoteOnce'. -/
def noteOnceUptoCard : Claim7 := { stood := { row := noteOnceUptoRow, standIns := [], harness := (true, "d0972d75fa53496c9b3b59c6d41ecc240a486176be70bcc7bdff7b37f78902e8"), looks := false }, kinds := [], alts := [], laidByText := true, laidKinds := [.data], laidTests := true, laidLooks := .later }
def NoteOnceUptoCardSaid : Prop := Claim7.holds Tryd.pinned (.plain (OpenSpec.upto noteOnceSpec)) noteOnceUptoCard

/-- THE SECOND FORM's CARD OF 'undertowlaw08.NoteKinds'. -/
def noteKindsUptoCard : Claim7 := { stood := { row := noteKindsUptoRow, standIns := [], harness := (true, "d0972d75fa53496c9b3b59c6d41ecc240a486176be70bcc7bdff7b37f78902e8"), looks := false }, kinds := [], alts := [], laidByText := true, laidKinds := [.data], laidTests := true, laidLooks := .later }
def NoteKindsUptoCardSaid : Prop := Claim7.holds Tryd.pinned (.plain (OpenSpec.upto noteKindsSpec)) noteKindsUptoCard
end Rows
end Go.Proofs.YthmnjoanehepcaaDoor
