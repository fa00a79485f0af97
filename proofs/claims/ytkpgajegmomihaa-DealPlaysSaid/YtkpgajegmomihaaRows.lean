/-
  No cell of these rows narrows 'for every input' (looked for: loops, veiled, ifaces, maps, wideKeys, modest, calm, conditions, laid).
  DERIVED. THE GIVEN ROWS OF THIS SEAT. 5 by the template 'for every input the law returns true; each argument reads behind the call as it read before'; 0 by the template 'total and deterministic' (their statements: YtkpgajegmomihaaTotals.lean).
  GIVEN WITH THE SEED: the statements are not yours to turn. If you find one false, say at which input.
  Laid BY PROGRAM, IN A SANDBOX (cutbox-rows.mjs): the forced cells as the released guide's own fill.sh prints them over the translation 60cf132e1bd0e32f… (all of the seat's roots in one cut). By AI agents, Wed Nov 11 2026. No macro, syntax, notation, axiom, sorry.
-/
import Derived.Test.YtkpgajegmomihaaChecked
import GoSem.Claim
import GoSem.ClaimJoined
import GoSem.ClaimMapViews
import Derived.JoinedTies
import Derived.KernelRfl
namespace Go.Proofs.Ytkpgajegmomihaa
/- THE CELL 'sum', in the pinned program and in every row, IS THE sha256 OF THE DUMP (.gsa) THAT YtkpgajegmomihaaProg.lean LOADS. Nothing in Lean hashes anything: it is a label: what it is worth is what the hold of that sum in a sandbox is worth. -/
noncomputable def Try.pinned : Pinned := { name := "ytkpgajegmomihaa", sum := "60cf132e1bd0e32f6c8e0ad87c4822cce6edaa08e457ae57fb27df1ff9dd645b", checked := Try.checked }
namespace Rows
def none {H : Type} : Left H := { results := [], args := [] }

/-- 'undertowlaw16.DealKnown': WHATEVER THE INPUT: true; the input reads as it did. -/
def dealKnownSpec : ChangeSpec := { name := "dealKnown", fn := fun _ => fun
  | [] => { results := [.lit (.bool true)], args := [] }
  | _ => none }
def dealKnownRow : OpenClaim := { program := "ytkpgajegmomihaa", sum := "60cf132e1bd0e32f6c8e0ad87c4822cce6edaa08e457ae57fb27df1ff9dd645b", func := "undertow/undertowlaw16.DealKnown", spec := "dealKnown", apart := false }
def DealKnownSaid : Prop := dealKnownRow.holds Try.pinned (OpenSpec.ofChange dealKnownSpec)

/-- ITS FALSE NEIGHBOUR: 'it returns false'. Refute it at one input. -/
def dealKnownWrong : ChangeSpec := { name := "dealKnown", fn := fun _ => fun
  | [] => { results := [.lit (.bool false)], args := [] }
  | _ => none }
def DealKnownWrongFalsely : Prop := dealKnownRow.holds Try.pinned (OpenSpec.ofChange dealKnownWrong)

/-- 'undertowlaw16.DealPlays': WHATEVER THE INPUT: true; the input reads as it did. -/
def dealPlaysSpec : ChangeSpec := { name := "dealPlays", fn := fun _ => fun
  | [d1, d2] => { results := [.lit (.bool true)], args := [d1, d2] }
  | _ => none }
def dealPlaysRow : OpenClaim := { program := "ytkpgajegmomihaa", sum := "60cf132e1bd0e32f6c8e0ad87c4822cce6edaa08e457ae57fb27df1ff9dd645b", func := "undertow/undertowlaw16.DealPlays", spec := "dealPlays", apart := false }
def DealPlaysSaid : Prop := dealPlaysRow.holds Try.pinned (OpenSpec.ofChange dealPlaysSpec)

/-- ITS FALSE NEIGHBOUR: 'it returns false'. Refute it at one input. -/
def dealPlaysWrong : ChangeSpec := { name := "dealPlays", fn := fun _ => fun
  | [d1, d2] => { results := [.lit (.bool false)], args := [d1, d2] }
  | _ => none }
def DealPlaysWrongFalsely : Prop := dealPlaysRow.holds Try.pinned (OpenSpec.ofChange dealPlaysWrong)

/-- 'undertowlaw16.DealKeeps': WHATEVER THE INPUT: true; the input reads as it did. -/
def dealKeepsSpec : ChangeSpec := { name := "dealKeeps", fn := fun _ => fun
  | [d1, d2] => { results := [.lit (.bool true)], args := [d1, d2] }
  | _ => none }
def dealKeepsRow : OpenClaim := { program := "ytkpgajegmomihaa", sum := "60cf132e1bd0e32f6c8e0ad87c4822cce6edaa08e457ae57fb27df1ff9dd645b", func := "undertow/undertowlaw16.DealKeeps", spec := "dealKeeps", apart := false }
def DealKeepsSaid : Prop := dealKeepsRow.holds Try.pinned (OpenSpec.ofChange dealKeepsSpec)

/-- ITS FALSE NEIGHBOUR: 'it returns false'. Refute it at one input. -/
def dealKeepsWrong : ChangeSpec := { name := "dealKeeps", fn := fun _ => fun
  | [d1, d2] => { results := [.lit (.bool false)], args := [d1, d2] }
  | _ => none }
def DealKeepsWrongFalsely : Prop := dealKeepsRow.holds Try.pinned (OpenSpec.ofChange dealKeepsWrong)

/-- 'undertowlaw16.DealFails': WHATEVER THE INPUT: true; the input reads as it did. -/
def dealFailsSpec : ChangeSpec := { name := "dealFails", fn := fun _ => fun
  | [d1, d2, d3, d4] => { results := [.lit (.bool true)], args := [d1, d2, d3, d4] }
  | _ => none }
def dealFailsRow : OpenClaim := { program := "ytkpgajegmomihaa", sum := "60cf132e1bd0e32f6c8e0ad87c4822cce6edaa08e457ae57fb27df1ff9dd645b", func := "undertow/undertowlaw16.DealFails", spec := "dealFails", apart := false }
def DealFailsSaid : Prop := dealFailsRow.holds Try.pinned (OpenSpec.ofChange dealFailsSpec)

/-- ITS FALSE NEIGHBOUR: 'it returns false'. Refute it at one input. -/
def dealFailsWrong : ChangeSpec := { name := "dealFails", fn := fun _ => fun
  | [d1, d2, d3, d4] => { results := [.lit (.bool false)], args := [d1, d2, d3, d4] }
  | _ => none }
def DealFailsWrongFalsely : Prop := dealFailsRow.holds Try.pinned (OpenSpec.ofChange dealFailsWrong)

/-- 'undertowlaw16.DealDeep': WHATEVER THE INPUT: true; the input reads as it did. -/
def dealDeepSpec : ChangeSpec := { name := "dealDeep", fn := fun _ => fun
  | [d1, d2] => { results := [.lit (.bool true)], args := [d1, d2] }
  | _ => none }
def dealDeepRow : OpenClaim := { program := "ytkpgajegmomihaa", sum := "60cf132e1bd0e32f6c8e0ad87c4822cce6edaa08e457ae57fb27df1ff9dd645b", func := "undertow/undertowlaw16.DealDeep", spec := "dealDeep", apart := false }
def DealDeepSaid : Prop := dealDeepRow.holds Try.pinned (OpenSpec.ofChange dealDeepSpec)

/-- ITS FALSE NEIGHBOUR: 'it returns false'. Refute it at one input. -/
def dealDeepWrong : ChangeSpec := { name := "dealDeep", fn := fun _ => fun
  | [d1, d2] => { results := [.lit (.bool false)], args := [d1, d2] }
  | _ => none }
def DealDeepWrongFalsely : Prop := dealDeepRow.holds Try.pinned (OpenSpec.ofChange dealDeepWrong)

/- THE SECOND FORM. 'bulk': how many values and letters a reading holds, each counted each time it is reached (what is shared counts as often as it is met; a slice's spare places count too). A statement '..UptoSaid' is the law's where the arguments, and the package variables that the reading takes, are together of bulk at most 1048576: NARROWER than '..Said'. Prove '..Said' where nothing that the law and all that it calls make is longer than what came in: it says more and counts as full. Else prove '..UptoSaid'. A law counts once. -/
mutual
def uptoBulk {H : Type} : DataW H → Nat
  | .lit (.string bytes) => bytes.length + 1
  | .lit _ => 1
  | .nil => 1
  | .ptr d => uptoBulk d + 1
  | .slice elems spare => uptoBulkAll elems + uptoBulkAll spare + 1
  | .agg parts => uptoBulkAll parts + 1
  | .iface _ d => uptoBulk d + 1
  | .map entries => uptoBulkEntries entries + 1
  | .held _ => 1
def uptoBulkAll {H : Type} : List (DataW H) → Nat
  | [] => 0
  | d :: r => uptoBulk d + uptoBulkAll r
def uptoBulkEntries {H : Type} : List (Lit × DataW H) → Nat
  | [] => 0
  | x :: r => uptoBulkEntry x + uptoBulkEntries r
def uptoBulkEntry {H : Type} : Lit × DataW H → Nat
  | (.string bytes, d) => bytes.length + uptoBulk d + 1
  | (_, d) => uptoBulk d + 1
 end
def uptoSmall : (H : Type) → List (DataW H) → Bool := fun _ ds => decide (uptoBulkAll ds ≤ 1048576)
def OpenSpec.upto (s : _root_.Go.ChangeSpec) : _root_.Go.OpenSpec := { _root_.Go.OpenSpec.ofChange s with cond := some uptoSmall }

/-- 'undertowlaw16.DealKnown', WHERE WHAT IT READS IS OF BULK AT MOST 1048576: true; the input reads as it did. -/
def dealKnownUptoRow : OpenClaim := { program := "ytkpgajegmomihaa", sum := "60cf132e1bd0e32f6c8e0ad87c4822cce6edaa08e457ae57fb27df1ff9dd645b", func := "undertow/undertowlaw16.DealKnown", spec := "dealKnown", apart := false, narrowed := true }
def DealKnownUptoSaid : Prop := dealKnownUptoRow.holds Try.pinned (OpenSpec.upto dealKnownSpec)

/-- 'undertowlaw16.DealPlays', WHERE WHAT IT READS IS OF BULK AT MOST 1048576: true; the input reads as it did. -/
def dealPlaysUptoRow : OpenClaim := { program := "ytkpgajegmomihaa", sum := "60cf132e1bd0e32f6c8e0ad87c4822cce6edaa08e457ae57fb27df1ff9dd645b", func := "undertow/undertowlaw16.DealPlays", spec := "dealPlays", apart := false, narrowed := true }
def DealPlaysUptoSaid : Prop := dealPlaysUptoRow.holds Try.pinned (OpenSpec.upto dealPlaysSpec)

/-- 'undertowlaw16.DealKeeps', WHERE WHAT IT READS IS OF BULK AT MOST 1048576: true; the input reads as it did. -/
def dealKeepsUptoRow : OpenClaim := { program := "ytkpgajegmomihaa", sum := "60cf132e1bd0e32f6c8e0ad87c4822cce6edaa08e457ae57fb27df1ff9dd645b", func := "undertow/undertowlaw16.DealKeeps", spec := "dealKeeps", apart := false, narrowed := true }
def DealKeepsUptoSaid : Prop := dealKeepsUptoRow.holds Try.pinned (OpenSpec.upto dealKeepsSpec)

/-- 'undertowlaw16.DealFails', WHERE WHAT IT READS IS OF BULK AT MOST 1048576: true; the input reads as it did. -/
def dealFailsUptoRow : OpenClaim := { program := "ytkpgajegmomihaa", sum := "60cf132e1bd0e32f6c8e0ad87c4822cce6edaa08e457ae57fb27df1ff9dd645b", func := "undertow/undertowlaw16.DealFails", spec := "dealFails", apart := false, narrowed := true }
def DealFailsUptoSaid : Prop := dealFailsUptoRow.holds Try.pinned (OpenSpec.upto dealFailsSpec)

/-- 'undertowlaw16.DealDeep', WHERE WHAT IT READS IS OF BULK AT MOST 1048576: true; the input reads as it did. -/
def dealDeepUptoRow : OpenClaim := { program := "ytkpgajegmomihaa", sum := "60cf132e1bd0e32f6c8e0ad87c4822cce6edaa08e457ae57fb27df1ff9dd645b", func := "undertow/undertowlaw16.DealDeep", spec := "dealDeep", apart := false, narrowed := true }
def DealDeepUptoSaid : Prop := dealDeepUptoRow.holds Try.pinned (OpenSpec.upto dealDeepSpec)

end Rows
end Go.Proofs.Ytkpgajegmomihaa
