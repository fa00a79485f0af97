/-
  DERIVED. GIVEN WITH THE SEED: THE CARDS: each row of YtcoimipgilkmbaaGreatDoorRows.lean that lists a variable, with what it lists TIED to the program's text (the seventh form; the later family's looks); each row that meets fmt, with fmt's text TOLD by the authors' own Lean function (tested against real Go, not proved from fmt's source: count such statements apart). THE CARD IS WHAT COUNTS. Prove the row's statement (the work); the ties are given (YtcoimipgilkmbaaGreatDoorTie.lean); close each card by the builder's one call (the guide's Derived/Test/ToyasCard.lean, 'card_holds'). Laid BY PROGRAM, IN A SANDBOX (cutbox-door.mjs). By AI agents, Wed Nov 11 2026. No macro, syntax, notation, axiom, sorry.
-/
import Derived.Test.YtcoimipgilkmbaaGreatDoorRows
import GoSem.ClaimSeven
namespace Go.Proofs.YtcoimipgilkmbaaGreatDoor
namespace Rows

/-- THE TIED CARD OF 'undertowlaw17.NearKnown'. -/
def nearKnownCard : Claim7 := { stood := { row := nearKnownRow, standIns := [], harness := (true, "44d018fd9c01ee7ecb1c9a131380fd1b9c71c56a9d6e36f3408365ee97111c64"), looks := true }, kinds := [], alts := [], laidByText := true, laidKinds := [.data, .wider], laidTests := true, laidLooks := .later }
def NearKnownCardSaid : Prop := Claim7.holds Tryz.pinned (.plain (OpenSpec.ofChange nearKnownSpec)) nearKnownCard

/-- THE TIED CARD OF 'undertowlaw17.NearPlays'. -/
def nearPlaysCard : Claim7 := { stood := { row := nearPlaysRow, standIns := [], harness := (true, "44d018fd9c01ee7ecb1c9a131380fd1b9c71c56a9d6e36f3408365ee97111c64"), looks := true }, kinds := [], alts := [], laidByText := true, laidKinds := [.data, .wider], laidTests := true, laidLooks := .later }
def NearPlaysCardSaid : Prop := Claim7.holds Tryz.pinned (.plain (OpenSpec.ofChange nearPlaysSpec)) nearPlaysCard

/-- THE TIED CARD OF 'undertowlaw17.NearKeeps'. -/
def nearKeepsCard : Claim7 := { stood := { row := nearKeepsRow, standIns := [], harness := (true, "44d018fd9c01ee7ecb1c9a131380fd1b9c71c56a9d6e36f3408365ee97111c64"), looks := true }, kinds := [], alts := [], laidByText := true, laidKinds := [.data, .wider], laidTests := true, laidLooks := .later }
def NearKeepsCardSaid : Prop := Claim7.holds Tryz.pinned (.plain (OpenSpec.ofChange nearKeepsSpec)) nearKeepsCard

/-- THE TIED CARD OF 'undertowlaw17.NearTells'. -/
def nearTellsCard : Claim7 := { stood := { row := nearTellsRow, standIns := [], harness := (true, "44d018fd9c01ee7ecb1c9a131380fd1b9c71c56a9d6e36f3408365ee97111c64"), looks := true }, kinds := [], alts := [], laidByText := true, laidKinds := [.data, .wider], laidTests := true, laidLooks := .later }
def NearTellsCardSaid : Prop := Claim7.holds Tryz.pinned (.plain (OpenSpec.ofChange nearTellsSpec)) nearTellsCard

/-- THE TIED CARD OF 'undertowlaw17.NearAsks'. -/
def nearAsksCard : Claim7 := { stood := { row := nearAsksRow, standIns := [], harness := (true, "44d018fd9c01ee7ecb1c9a131380fd1b9c71c56a9d6e36f3408365ee97111c64"), looks := true }, kinds := [], alts := [], laidByText := true, laidKinds := [.data, .wider], laidTests := true, laidLooks := .later }
def NearAsksCardSaid : Prop := Claim7.holds Tryz.pinned (.plain (OpenSpec.ofChange nearAsksSpec)) nearAsksCard

/-- THE SECOND FORM's CARD OF 'undertowlaw17.NearKnown'. -/
def nearKnownUptoCard : Claim7 := { stood := { row := nearKnownUptoRow, standIns := [], harness := (true, "44d018fd9c01ee7ecb1c9a131380fd1b9c71c56a9d6e36f3408365ee97111c64"), looks := true }, kinds := [], alts := [], laidByText := true, laidKinds := [.data, .wider], laidTests := true, laidLooks := .later }
def NearKnownUptoCardSaid : Prop := Claim7.holds Tryz.pinned (.plain (OpenSpec.upto nearKnownSpec)) nearKnownUptoCard

/-- THE SECOND FORM's CARD OF 'undertowlaw17.NearPlays'. -/
def nearPlaysUptoCard : Claim7 := { stood := { row := nearPlaysUptoRow, standIns := [], harness := (true, "44d018fd9c01ee7ecb1c9a131380fd1b9c71c56a9d6e36f3408365ee97111c64"), looks := true }, kinds := [], alts := [], laidByText := true, laidKinds := [.data, .wider], laidTests := true, laidLooks := .later }
def NearPlaysUptoCardSaid : Prop := Claim7.holds Tryz.pinned (.plain (OpenSpec.upto nearPlaysSpec)) nearPlaysUptoCard

/-- THE SECOND FORM's CARD OF 'undertowlaw17.NearKeeps'. -/
def nearKeepsUptoCard : Claim7 := { stood := { row := nearKeepsUptoRow, standIns := [], harness := (true, "44d018fd9c01ee7ecb1c9a131380fd1b9c71c56a9d6e36f3408365ee97111c64"), looks := true }, kinds := [], alts := [], laidByText := true, laidKinds := [.data, .wider], laidTests := true, laidLooks := .later }
def NearKeepsUptoCardSaid : Prop := Claim7.holds Tryz.pinned (.plain (OpenSpec.upto nearKeepsSpec)) nearKeepsUptoCard

/-- THE SECOND FORM's CARD OF 'undertowlaw17.NearTells'. -/
def nearTellsUptoCard : Claim7 := { stood := { row := nearTellsUptoRow, standIns := [], harness := (true, "44d018fd9c01ee7ecb1c9a131380fd1b9c71c56a9d6e36f3408365ee97111c64"), looks := true }, kinds := [], alts := [], laidByText := true, laidKinds := [.data, .wider], laidTests := true, laidLooks := .later }
def NearTellsUptoCardSaid : Prop := Claim7.holds Tryz.pinned (.plain (OpenSpec.upto nearTellsSpec)) nearTellsUptoCard

/-- THE SECOND FORM's CARD OF 'undertowlaw17.NearAsks'. -/
def nearAsksUptoCard : Claim7 := { stood := { row := nearAsksUptoRow, standIns := [], harness := (true, "44d018fd9c01ee7ecb1c9a131380fd1b9c71c56a9d6e36f3408365ee97111c64"), looks := true }, kinds := [], alts := [], laidByText := true, laidKinds := [.data, .wider], laidTests := true, laidLooks := .later }
def NearAsksUptoCardSaid : Prop := Claim7.holds Tryz.pinned (.plain (OpenSpec.upto nearAsksSpec)) nearAsksUptoCard
end Rows
end Go.Proofs.YtcoimipgilkmbaaGreatDoor
