/-
  No cell of these rows narrows 'for every input' (looked for: loops, veiled, ifaces, maps, wideKeys, modest, calm, conditions, laid).
  DERIVED. THE GIVEN ROWS OF THIS SEAT. 5 by the template 'for every input the law returns true; each argument reads behind the call as it read before'; 0 by the template 'total and deterministic' (their statements: YtndgodpbikgnaaaTotals.lean).
  GIVEN WITH THE SEED: the statements are not yours to turn. If you find one false, say at which input.
  Laid BY PROGRAM, IN A SANDBOX (cutbox-rows.mjs): the forced cells as the released guide's own fill.sh prints them over the translation c3cedc87f6ae1415… (all of the seat's roots in one cut). By AI agents, Wed Nov 11 2026. No macro, syntax, notation, axiom, sorry.
-/
import Derived.Test.YtndgodpbikgnaaaChecked
import GoSem.Claim
import GoSem.ClaimJoined
import GoSem.ClaimMapViews
import Derived.JoinedTies
import Derived.KernelRfl
namespace Go.Proofs.Ytndgodpbikgnaaa
/- THE CELL 'sum', in the pinned program and in every row, IS THE sha256 OF THE DUMP (.gsa) THAT YtndgodpbikgnaaaProg.lean LOADS. Nothing in Lean hashes anything: it is a label: what it is worth is what the hold of that sum in a sandbox is worth. -/
noncomputable def Try.pinned : Pinned := { name := "ytndgodpbikgnaaa", sum := "c3cedc87f6ae14154ab7b1eb21ec838a693c34eee5945e7eb7d88065b5beb571", checked := Try.checked }
namespace Rows
def none {H : Type} : Left H := { results := [], args := [] }

/-- 'undertowlaw14.OrderKnown': WHATEVER THE INPUT: true; the input reads as it did. -/
def orderKnownSpec : ChangeSpec := { name := "orderKnown", fn := fun _ => fun
  | [] => { results := [.lit (.bool true)], args := [] }
  | _ => none }
def orderKnownRow : OpenClaim := { program := "ytndgodpbikgnaaa", sum := "c3cedc87f6ae14154ab7b1eb21ec838a693c34eee5945e7eb7d88065b5beb571", func := "undertow/undertowlaw14.OrderKnown", spec := "orderKnown", apart := false }
def OrderKnownSaid : Prop := orderKnownRow.holds Try.pinned (OpenSpec.ofChange orderKnownSpec)

/-- ITS FALSE NEIGHBOUR: 'it returns false'. Refute it at one input. -/
def orderKnownWrong : ChangeSpec := { name := "orderKnown", fn := fun _ => fun
  | [] => { results := [.lit (.bool false)], args := [] }
  | _ => none }
def OrderKnownWrongFalsely : Prop := orderKnownRow.holds Try.pinned (OpenSpec.ofChange orderKnownWrong)

/-- 'undertowlaw14.OrderOlder': WHATEVER THE INPUT: true; the input reads as it did. -/
def orderOlderSpec : ChangeSpec := { name := "orderOlder", fn := fun _ => fun
  | [d1, d2] => { results := [.lit (.bool true)], args := [d1, d2] }
  | _ => none }
def orderOlderRow : OpenClaim := { program := "ytndgodpbikgnaaa", sum := "c3cedc87f6ae14154ab7b1eb21ec838a693c34eee5945e7eb7d88065b5beb571", func := "undertow/undertowlaw14.OrderOlder", spec := "orderOlder", apart := false }
def OrderOlderSaid : Prop := orderOlderRow.holds Try.pinned (OpenSpec.ofChange orderOlderSpec)

/-- ITS FALSE NEIGHBOUR: 'it returns false'. Refute it at one input. -/
def orderOlderWrong : ChangeSpec := { name := "orderOlder", fn := fun _ => fun
  | [d1, d2] => { results := [.lit (.bool false)], args := [d1, d2] }
  | _ => none }
def OrderOlderWrongFalsely : Prop := orderOlderRow.holds Try.pinned (OpenSpec.ofChange orderOlderWrong)

/-- 'undertowlaw14.OrderAsked': WHATEVER THE INPUT: true; the input reads as it did. -/
def orderAskedSpec : ChangeSpec := { name := "orderAsked", fn := fun _ => fun
  | [d1, d2, d3, d4] => { results := [.lit (.bool true)], args := [d1, d2, d3, d4] }
  | _ => none }
def orderAskedRow : OpenClaim := { program := "ytndgodpbikgnaaa", sum := "c3cedc87f6ae14154ab7b1eb21ec838a693c34eee5945e7eb7d88065b5beb571", func := "undertow/undertowlaw14.OrderAsked", spec := "orderAsked", apart := false }
def OrderAskedSaid : Prop := orderAskedRow.holds Try.pinned (OpenSpec.ofChange orderAskedSpec)

/-- ITS FALSE NEIGHBOUR: 'it returns false'. Refute it at one input. -/
def orderAskedWrong : ChangeSpec := { name := "orderAsked", fn := fun _ => fun
  | [d1, d2, d3, d4] => { results := [.lit (.bool false)], args := [d1, d2, d3, d4] }
  | _ => none }
def OrderAskedWrongFalsely : Prop := orderAskedRow.holds Try.pinned (OpenSpec.ofChange orderAskedWrong)

/-- 'undertowlaw14.OrderRing': WHATEVER THE INPUT: true; the input reads as it did. -/
def orderRingSpec : ChangeSpec := { name := "orderRing", fn := fun _ => fun
  | [d1, d2] => { results := [.lit (.bool true)], args := [d1, d2] }
  | _ => none }
def orderRingRow : OpenClaim := { program := "ytndgodpbikgnaaa", sum := "c3cedc87f6ae14154ab7b1eb21ec838a693c34eee5945e7eb7d88065b5beb571", func := "undertow/undertowlaw14.OrderRing", spec := "orderRing", recurses := true, apart := false }
def OrderRingSaid : Prop := orderRingRow.holds Try.pinned (OpenSpec.ofChange orderRingSpec)

/-- ITS FALSE NEIGHBOUR: 'it returns false'. Refute it at one input. -/
def orderRingWrong : ChangeSpec := { name := "orderRing", fn := fun _ => fun
  | [d1, d2] => { results := [.lit (.bool false)], args := [d1, d2] }
  | _ => none }
def OrderRingWrongFalsely : Prop := orderRingRow.holds Try.pinned (OpenSpec.ofChange orderRingWrong)

/-- 'undertowlaw14.OrderFlags': WHATEVER THE INPUT: true; the input reads as it did. -/
def orderFlagsSpec : ChangeSpec := { name := "orderFlags", fn := fun _ => fun
  | [d1, d2, d3, d4] => { results := [.lit (.bool true)], args := [d1, d2, d3, d4] }
  | _ => none }
def orderFlagsRow : OpenClaim := { program := "ytndgodpbikgnaaa", sum := "c3cedc87f6ae14154ab7b1eb21ec838a693c34eee5945e7eb7d88065b5beb571", func := "undertow/undertowlaw14.OrderFlags", spec := "orderFlags", apart := false }
def OrderFlagsSaid : Prop := orderFlagsRow.holds Try.pinned (OpenSpec.ofChange orderFlagsSpec)

/-- ITS FALSE NEIGHBOUR: 'it returns false'. Refute it at one input. -/
def orderFlagsWrong : ChangeSpec := { name := "orderFlags", fn := fun _ => fun
  | [d1, d2, d3, d4] => { results := [.lit (.bool false)], args := [d1, d2, d3, d4] }
  | _ => none }
def OrderFlagsWrongFalsely : Prop := orderFlagsRow.holds Try.pinned (OpenSpec.ofChange orderFlagsWrong)

/- THE SECOND FORM. 'bulk': how many values and letters a reading holds, each counted each time it is reached (what is shared counts as often as it is met; a slice's spare places count too). A statement '..UptoSaid' is the law's where the arguments, and the package variables that the reading takes, are together of bulk at most 1048576: NARROWER than '..Said'. Prove '..Said' where nothing that the law and all that it calls make is longer than what came in: it says more and counts as full. Else prove '..UptoSaid'. A law counts once. -/
mutual
def uptoBulk {H : Type} : DataW H → Nat
  | .lit (.string bytes) => bytes.length + 1
  | .lit _ => 1
  | .nil => 1
  | .ptr d => uptoBulk d + 1
  | .slice elems spare => uptoBulkAll elems + uptoBulkAll spare + 1
  | .agg parts => uptoBulkAll parts + 1
  | .iface _ d => uptoBulk d + 1
  | .map entries => uptoBulkEntries entries + 1
  | .held _ => 1
def uptoBulkAll {H : Type} : List (DataW H) → Nat
  | [] => 0
  | d :: r => uptoBulk d + uptoBulkAll r
def uptoBulkEntries {H : Type} : List (Lit × DataW H) → Nat
  | [] => 0
  | x :: r => uptoBulkEntry x + uptoBulkEntries r
def uptoBulkEntry {H : Type} : Lit × DataW H → Nat
  | (.string bytes, d) => bytes.length + uptoBulk d + 1
  | (_, d) => uptoBulk d + 1
 end
def uptoSmall : (H : Type) → List (DataW H) → Bool := fun _ ds => decide (uptoBulkAll ds ≤ 1048576)
def OpenSpec.upto (s : _root_.Go.ChangeSpec) : _root_.Go.OpenSpec := { _root_.Go.OpenSpec.ofChange s with cond := some uptoSmall }

/-- 'undertowlaw14.OrderKnown', WHERE WHAT IT READS IS OF BULK AT MOST 1048576: true; the input reads as it did. -/
def orderKnownUptoRow : OpenClaim := { program := "ytndgodpbikgnaaa", sum := "c3cedc87f6ae14154ab7b1eb21ec838a693c34eee5945e7eb7d88065b5beb571", func := "undertow/undertowlaw14.OrderKnown", spec := "orderKnown", apart := false, narrowed := true }
def OrderKnownUptoSaid : Prop := orderKnownUptoRow.holds Try.pinned (OpenSpec.upto orderKnownSpec)

/-- 'undertowlaw14.OrderOlder', WHERE WHAT IT READS IS OF BULK AT MOST 1048576: true; the input reads as it did. -/
def orderOlderUptoRow : OpenClaim := { program := "ytndgodpbikgnaaa", sum := "c3cedc87f6ae14154ab7b1eb21ec838a693c34eee5945e7eb7d88065b5beb571", func := "undertow/undertowlaw14.OrderOlder", spec := "orderOlder", apart := false, narrowed := true }
def OrderOlderUptoSaid : Prop := orderOlderUptoRow.holds Try.pinned (OpenSpec.upto orderOlderSpec)

/-- 'undertowlaw14.OrderAsked', WHERE WHAT IT READS IS OF BULK AT MOST 1048576: true; the input reads as it did. -/
def orderAskedUptoRow : OpenClaim := { program := "ytndgodpbikgnaaa", sum := "c3cedc87f6ae14154ab7b1eb21ec838a693c34eee5945e7eb7d88065b5beb571", func := "undertow/undertowlaw14.OrderAsked", spec := "orderAsked", apart := false, narrowed := true }
def OrderAskedUptoSaid : Prop := orderAskedUptoRow.holds Try.pinned (OpenSpec.upto orderAskedSpec)

/-- 'undertowlaw14.OrderRing', WHERE WHAT IT READS IS OF BULK AT MOST 1048576: true; the input reads as it did. -/
def orderRingUptoRow : OpenClaim := { program := "ytndgodpbikgnaaa", sum := "c3cedc87f6ae14154ab7b1eb21ec838a693c34eee5945e7eb7d88065b5beb571", func := "undertow/undertowlaw14.OrderRing", spec := "orderRing", recurses := true, apart := false, narrowed := true }
def OrderRingUptoSaid : Prop := orderRingUptoRow.holds Try.pinned (OpenSpec.upto orderRingSpec)

/-- 'undertowlaw14.OrderFlags', WHERE WHAT IT READS IS OF BULK AT MOST 1048576: true; the input reads as it did. -/
def orderFlagsUptoRow : OpenClaim := { program := "ytndgodpbikgnaaa", sum := "c3cedc87f6ae14154ab7b1eb21ec838a693c34eee5945e7eb7d88065b5beb571", func := "undertow/undertowlaw14.OrderFlags", spec := "orderFlags", apart := false, narrowed := true }
def OrderFlagsUptoSaid : Prop := orderFlagsUptoRow.holds Try.pinned (OpenSpec.upto orderFlagsSpec)

end Rows
end Go.Proofs.Ytndgodpbikgnaaa
