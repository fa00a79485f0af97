/-
  DERIVED. GIVEN WITH THE SEED: THE CARDS: each row of YtjbapfjeildfoaaDoorRows.lean that lists a variable, with what it lists TIED to the program's text (the seventh form; the later family's looks); each row that meets fmt, with fmt's text TOLD by the authors' own Lean function (tested against real Go, not proved from fmt's source: count such statements apart). THE CARD IS WHAT COUNTS. Prove the row's statement (the work); the ties are given (YtjbapfjeildfoaaDoorTie.lean); close each card by the builder's one call (the guide's Derived/Test/ToyasCard.lean, 'card_holds'). Laid BY PROGRAM, IN A SANDBOX (cutbox-door.mjs). By AI agents, Wed Nov 11 2026. No macro, syntax, notation, axiom, sorry.
-/
import Derived.Test.YtjbapfjeildfoaaDoorRows
import GoSem.ClaimSeven
namespace Go.Proofs.YtjbapfjeildfoaaDoor
namespace Rows

/-- THE TIED CARD OF 'undertowlaw07.CacheKnown'. -/
def cacheKnownCard : Claim7 := { stood := { row := cacheKnownRow, standIns := [], harness := (true, "2046ca148d049a04b9ee00282e6d317e55790efb1aafef371ce16929eb36bfd0"), looks := false }, kinds := [], alts := [], laidByText := true, laidKinds := [.wider], laidTests := true, laidLooks := .later }
def CacheKnownCardSaid : Prop := Claim7.holds Tryd.pinned (.plain (OpenSpec.ofChange cacheKnownSpec)) cacheKnownCard

/-- THE TIED CARD OF 'undertowlaw07.CachePlays'. -/
def cachePlaysCard : Claim7 := { stood := { row := cachePlaysRow, standIns := [], harness := (true, "2046ca148d049a04b9ee00282e6d317e55790efb1aafef371ce16929eb36bfd0"), looks := false }, kinds := [], alts := [], laidByText := true, laidKinds := [.wider], laidTests := true, laidLooks := .later }
def CachePlaysCardSaid : Prop := Claim7.holds Tryd.pinned (.plain (OpenSpec.ofChange cachePlaysSpec)) cachePlaysCard

/-- THE TIED CARD OF 'undertowlaw07.CacheSets'. -/
def cacheSetsCard : Claim7 := { stood := { row := cacheSetsRow, standIns := [], harness := (true, "2046ca148d049a04b9ee00282e6d317e55790efb1aafef371ce16929eb36bfd0"), looks := false }, kinds := [], alts := [], laidByText := true, laidKinds := [.wider], laidTests := true, laidLooks := .later }
def CacheSetsCardSaid : Prop := Claim7.holds Tryd.pinned (.plain (OpenSpec.ofChange cacheSetsSpec)) cacheSetsCard

/-- THE TIED CARD OF 'undertowlaw07.CacheKeeps'. -/
def cacheKeepsCard : Claim7 := { stood := { row := cacheKeepsRow, standIns := [], harness := (true, "2046ca148d049a04b9ee00282e6d317e55790efb1aafef371ce16929eb36bfd0"), looks := false }, kinds := [], alts := [], laidByText := true, laidKinds := [.wider], laidTests := true, laidLooks := .later }
def CacheKeepsCardSaid : Prop := Claim7.holds Tryd.pinned (.plain (OpenSpec.ofChange cacheKeepsSpec)) cacheKeepsCard

/-- THE TIED CARD OF 'undertowlaw07.CacheRoom'. -/
def cacheRoomCard : Claim7 := { stood := { row := cacheRoomRow, standIns := [], harness := (true, "2046ca148d049a04b9ee00282e6d317e55790efb1aafef371ce16929eb36bfd0"), looks := false }, kinds := [], alts := [], laidByText := true, laidKinds := [.wider], laidTests := true, laidLooks := .later }
def CacheRoomCardSaid : Prop := Claim7.holds Tryd.pinned (.plain (OpenSpec.ofChange cacheRoomSpec)) cacheRoomCard

/-- THE SECOND FORM's CARD OF 'undertowlaw07.CacheKnown'. -/
def cacheKnownUptoCard : Claim7 := { stood := { row := cacheKnownUptoRow, standIns := [], harness := (true, "2046ca148d049a04b9ee00282e6d317e55790efb1aafef371ce16929eb36bfd0"), looks := false }, kinds := [], alts := [], laidByText := true, laidKinds := [.wider], laidTests := true, laidLooks := .later }
def CacheKnownUptoCardSaid : Prop := Claim7.holds Tryd.pinned (.plain (OpenSpec.upto cacheKnownSpec)) cacheKnownUptoCard

/-- THE SECOND FORM's CARD OF 'undertowlaw07.CachePlays'. -/
def cachePlaysUptoCard : Claim7 := { stood := { row := cachePlaysUptoRow, standIns := [], harness := (true, "2046ca148d049a04b9ee00282e6d317e55790efb1aafef371ce16929eb36bfd0"), looks := false }, kinds := [], alts := [], laidByText := true, laidKinds := [.wider], laidTests := true, laidLooks := .later }
def CachePlaysUptoCardSaid : Prop := Claim7.holds Tryd.pinned (.plain (OpenSpec.upto cachePlaysSpec)) cachePlaysUptoCard

/-- THE SECOND FORM's CARD OF 'undertowlaw07.CacheSets'. -/
def cacheSetsUptoCard : Claim7 := { stood := { row := cacheSetsUptoRow, standIns := [], harness := (true, "2046ca148d049a04b9ee00282e6d317e55790efb1aafef371ce16929eb36bfd0"), looks := false }, kinds := [], alts := [], laidByText := true, laidKinds := [.wider], laidTests := true, laidLooks := .later }
def CacheSetsUptoCardSaid : Prop := Claim7.holds Tryd.pinned (.plain (OpenSpec.upto cacheSetsSpec)) cacheSetsUptoCard

/-- THE SECOND FORM's CARD OF 'undertowlaw07.CacheKeeps'. -/
def cacheKeepsUptoCard : Claim7 := { stood := { row := cacheKeepsUptoRow, standIns := [], harness := (true, "2046ca148d049a04b9ee00282e6d317e55790efb1aafef371ce16929eb36bfd0"), looks := false }, kinds := [], alts := [], laidByText := true, laidKinds := [.wider], laidTests := true, laidLooks := .later }
def CacheKeepsUptoCardSaid : Prop := Claim7.holds Tryd.pinned (.plain (OpenSpec.upto cacheKeepsSpec)) cacheKeepsUptoCard

/-- THE SECOND FORM's CARD OF 'undertowlaw07.CacheRoom'. -/
def cacheRoomUptoCard : Claim7 := { stood := { row := cacheRoomUptoRow, standIns := [], harness := (true, "2046ca148d049a04b9ee00282e6d317e55790efb1aafef371ce16929eb36bfd0"), looks := false }, kinds := [], alts := [], laidByText := true, laidKinds := [.wider], laidTests := true, laidLooks := .later }
def CacheRoomUptoCardSaid : Prop := Claim7.holds Tryd.pinned (.plain (OpenSpec.upto cacheRoomSpec)) cacheRoomUptoCard
end Rows
end Go.Proofs.YtjbapfjeildfoaaDoor
