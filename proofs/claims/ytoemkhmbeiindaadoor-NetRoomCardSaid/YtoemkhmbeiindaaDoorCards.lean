/-
  DERIVED. GIVEN WITH THE SEED: THE CARDS: each row of YtoemkhmbeiindaaDoorRows.lean that lists a variable, with what it lists TIED to the program's text (the seventh form; the later family's looks); each row that meets fmt, with fmt's text TOLD by the authors' own Lean function (tested against real Go, not proved from fmt's source: count such statements apart). THE CARD IS WHAT COUNTS. Prove the row's statement (the work); the ties are given (YtoemkhmbeiindaaDoorTie.lean); close each card by the builder's one call (the guide's Derived/Test/ToyasCard.lean, 'card_holds'). Laid BY PROGRAM, IN A SANDBOX (cutbox-door.mjs). By AI agents, Wed Nov 11 2026. No macro, syntax, notation, axiom, sorry.
-/
import Derived.Test.YtoemkhmbeiindaaDoorRows
import GoSem.ClaimSeven
namespace Go.Proofs.YtoemkhmbeiindaaDoor
namespace Rows

/-- THE TIED CARD OF 'undertowlaw09.NetKnown'. -/
def netKnownCard : Claim7 := { stood := { row := netKnownRow, standIns := [], harness := (true, "9e256e7c454301efff781fb29f5518c1beb3437e43af31d7922b5067ae469e3a"), looks := false }, kinds := [], alts := [], laidByText := true, laidKinds := [.data, .wider], laidTests := true, laidLooks := .later }
def NetKnownCardSaid : Prop := Claim7.holds Tryd.pinned (.plain (OpenSpec.ofChange netKnownSpec)) netKnownCard

/-- THE TIED CARD OF 'undertowlaw09.NetPlays'. -/
def netPlaysCard : Claim7 := { stood := { row := netPlaysRow, standIns := [], harness := (true, "9e256e7c454301efff781fb29f5518c1beb3437e43af31d7922b5067ae469e3a"), looks := false }, kinds := [], alts := [], laidByText := true, laidKinds := [.data, .wider], laidTests := true, laidLooks := .later }
def NetPlaysCardSaid : Prop := Claim7.holds Tryd.pinned (.plain (OpenSpec.ofChange netPlaysSpec)) netPlaysCard

/-- THE TIED CARD OF 'undertowlaw09.NetOnce'. -/
def netOnceCard : Claim7 := { stood := { row := netOnceRow, standIns := [], harness := (true, "9e256e7c454301efff781fb29f5518c1beb3437e43af31d7922b5067ae469e3a"), looks := false }, kinds := [], alts := [], laidByText := true, laidKinds := [.data, .wider], laidTests := true, laidLooks := .later }
def NetOnceCardSaid : Prop := Claim7.holds Tryd.pinned (.plain (OpenSpec.ofChange netOnceSpec)) netOnceCard

/-- THE TIED CARD OF 'undertowlaw09.NetRoom'. -/
def netRoomCard : Claim7 := { stood := { row := netRoomRow, standIns := [], harness := (true, "9e256e7c454301efff781fb29f5518c1beb3437e43af31d7922b5067ae469e3a"), looks := false }, kinds := [], alts := [], laidByText := true, laidKinds := [.data, .wider], laidTests := true, laidLooks := .later }
def NetRoomCardSaid : Prop := Claim7.holds Tryd.pinned (.plain (OpenSpec.ofChange netRoomSpec)) netRoomCard

/-- THE TIED CARD OF 'undertowlaw09.NetCopies'. -/
def netCopiesCard : Claim7 := { stood := { row := netCopiesRow, standIns := [], harness := (true, "9e256e7c454301efff781fb29f5518c1beb3437e43af31d7922b5067ae469e3a"), looks := false }, kinds := [], alts := [], laidByText := true, laidKinds := [.data, .wider], laidTests := true, laidLooks := .later }
def NetCopiesCardSaid : Prop := Claim7.holds Tryd.pinned (.plain (OpenSpec.ofChange netCopiesSpec)) netCopiesCard

/-- THE TIED CARD OF 'undertowlaw09.NetOrder'. -/
def netOrderCard : Claim7 := { stood := { row := netOrderRow, standIns := [], harness := (true, "9e256e7c454301efff781fb29f5518c1beb3437e43af31d7922b5067ae469e3a"), looks := false }, kinds := [], alts := [], laidByText := true, laidKinds := [.data, .wider], laidTests := true, laidLooks := .later }
def NetOrderCardSaid : Prop := Claim7.holds Tryd.pinned (.plain (OpenSpec.ofChange netOrderSpec)) netOrderCard

/-- THE SECOND FORM's CARD OF 'undertowlaw09.NetKnown'. -/
def netKnownUptoCard : Claim7 := { stood := { row := netKnownUptoRow, standIns := [], harness := (true, "9e256e7c454301efff781fb29f5518c1beb3437e43af31d7922b5067ae469e3a"), looks := false }, kinds := [], alts := [], laidByText := true, laidKinds := [.data, .wider], laidTests := true, laidLooks := .later }
def NetKnownUptoCardSaid : Prop := Claim7.holds Tryd.pinned (.plain (OpenSpec.upto netKnownSpec)) netKnownUptoCard

/-- THE SECOND FORM's CARD OF 'undertowlaw09.NetPlays'. -/
def netPlaysUptoCard : Claim7 := { stood := { row := netPlaysUptoRow, standIns := [], harness := (true, "9e256e7c454301efff781fb29f5518c1beb3437e43af31d7922b5067ae469e3a"), looks := false }, kinds := [], alts := [], laidByText := true, laidKinds := [.data, .wider], laidTests := true, laidLooks := .later }
def NetPlaysUptoCardSaid : Prop := Claim7.holds Tryd.pinned (.plain (OpenSpec.upto netPlaysSpec)) netPlaysUptoCard

/-- THE SECOND FORM's CARD OF 'undertowlaw09.NetOnce'. -/
def netOnceUptoCard : Claim7 := { stood := { row := netOnceUptoRow, standIns := [], harness := (true, "9e256e7c454301efff781fb29f5518c1beb3437e43af31d7922b5067ae469e3a"), looks := false }, kinds := [], alts := [], laidByText := true, laidKinds := [.data, .wider], laidTests := true, laidLooks := .later }
def NetOnceUptoCardSaid : Prop := Claim7.holds Tryd.pinned (.plain (OpenSpec.upto netOnceSpec)) netOnceUptoCard

/-- THE SECOND FORM's CARD OF 'undertowlaw09.NetRoom'. -/
def netRoomUptoCard : Claim7 := { stood := { row := netRoomUptoRow, standIns := [], harness := (true, "9e256e7c454301efff781fb29f5518c1beb3437e43af31d7922b5067ae469e3a"), looks := false }, kinds := [], alts := [], laidByText := true, laidKinds := [.data, .wider], laidTests := true, laidLooks := .later }
def NetRoomUptoCardSaid : Prop := Claim7.holds Tryd.pinned (.plain (OpenSpec.upto netRoomSpec)) netRoomUptoCard

/-- THE SECOND FORM's CARD OF 'undertowlaw09.NetCopies'. -/
def netCopiesUptoCard : Claim7 := { stood := { row := netCopiesUptoRow, standIns := [], harness := (true, "9e256e7c454301efff781fb29f5518c1beb3437e43af31d7922b5067ae469e3a"), looks := false }, kinds := [], alts := [], laidByText := true, laidKinds := [.data, .wider], laidTests := true, laidLooks := .later }
def NetCopiesUptoCardSaid : Prop := Claim7.holds Tryd.pinned (.plain (OpenSpec.upto netCopiesSpec)) netCopiesUptoCard

/-- THE SECOND FORM's CARD OF 'undertowlaw09.NetOrder'. -/
def netOrderUptoCard : Claim7 := { stood := { row := netOrderUptoRow, standIns := [], harness := (true, "9e256e7c454301efff781fb29f5518c1beb3437e43af31d7922b5067ae469e3a"), looks := false }, kinds := [], alts := [], laidByText := true, laidKinds := [.data, .wider], laidTests := true, laidLooks := .later }
def NetOrderUptoCardSaid : Prop := Claim7.holds Tryd.pinned (.plain (OpenSpec.upto netOrderSpec)) netOrderUptoCard
end Rows
end Go.Proofs.YtoemkhmbeiindaaDoor
