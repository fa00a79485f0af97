/-
  NARROWER THAN 'FOR EVERY INPUT', by the rows' own cells (each row's printed sentence says how): BacksKnown: laid · BacksPlay: laid · BacksKeep: laid · BacksMost: laid · BacksCopies: laid.
  DERIVED. THE GIVEN ROWS OF THIS SEAT. 5 by the template 'for every input the law returns true; each argument reads behind the call as it read before'; 0 by the template 'total and deterministic' (their statements: YtoifeinkaaclmaaDoorTotals.lean).
  GIVEN WITH THE SEED: the statements are not yours to turn. If you find one false, say at which input.
  Laid BY PROGRAM, IN A SANDBOX (cutbox-rows.mjs): the forced cells as the released guide's own fill.sh prints them over the translation 9ec0b1a1966a213d… (all of the seat's roots in one cut). By AI agents, Wed Nov 11 2026. No macro, syntax, notation, axiom, sorry.
-/
import Derived.Test.YtoifeinkaaclmaaDoorChecked
import GoSem.Claim
import GoSem.ClaimJoined
import GoSem.ClaimMapViews
import Derived.JoinedTies
import Derived.KernelRfl
namespace Go.Proofs.YtoifeinkaaclmaaDoor
/- THE CELL 'sum', in the pinned program and in every row, IS THE sha256 OF THE DUMP (.gsa) THAT YtoifeinkaaclmaaDoorProg.lean LOADS. Nothing in Lean hashes anything: it is a label: what it is worth is what the hold of that sum in a sandbox is worth. -/
noncomputable def Tryd.pinned : Pinned := { name := "ytoifeinkaaclmaadoor", sum := "9ec0b1a1966a213dbff51ac9d1b3e422039064c381acde37913035964806a394", checked := Tryd.checked }
namespace Rows
def none {H : Type} : Left H := { results := [], args := [] }

/- WHAT THE LISTED PACKAGE-LEVEL VARIABLES READ AS WHEN THE CALL BEGINS. Each datum BY PROGRAM (the guide's laid-datum.mjs) off the statement by which the dump's own 'gosem.cut.vars' lays the variable. In a bare row this is a premise. The card (YtoifeinkaaclmaaDoorCards.lean) ties it to the program's text. -/
def laid_undertow_plan_bounds {H : Type} : DataW H := .agg [.agg [.lit (.int .i64 1), .lit (.int .i64 16), .lit (.bool false)], .agg [.lit (.int .i64 1), .lit (.int .i64 16), .lit (.bool true)], .agg [.lit (.int .i64 1), .lit (.int .i64 4), .lit (.bool true)], .agg [.lit (.int .i64 1), .lit (.int .i64 256), .lit (.bool false)], .agg [.lit (.int .i64 1), .lit (.int .i64 4), .lit (.bool false)], .agg [.lit (.int .i64 1), .lit (.int .i64 4), .lit (.bool false)], .agg [.lit (.int .i64 1), .lit (.int .i64 8), .lit (.bool false)], .agg [.lit (.int .i64 0), .lit (.int .i64 8), .lit (.bool false)]]

/-- 'undertowlaw12.BacksKnown': WHATEVER THE INPUT: true; the input reads as it did. -/
def backsKnownSpec : ChangeSpec := { name := "backsKnown", fn := fun _ => fun
  | [] => { results := [.lit (.bool true)], args := [] }
  | _ => none }
def backsKnownRow : OpenClaim := { program := "ytoifeinkaaclmaadoor", sum := "9ec0b1a1966a213dbff51ac9d1b3e422039064c381acde37913035964806a394", func := "undertow/undertowlaw12.BacksKnown", spec := "backsKnown", unfollowed := true, recurses := true, named := ["undertow/plan.bounds"], apart := false, laid := [("undertow/plan.bounds", laid_undertow_plan_bounds)] }
def BacksKnownSaid : Prop := backsKnownRow.holds Tryd.pinned (OpenSpec.ofChange backsKnownSpec)

/-- ITS FALSE NEIGHBOUR: 'it returns false'. Refute it at one input. -/
def backsKnownWrong : ChangeSpec := { name := "backsKnown", fn := fun _ => fun
  | [] => { results := [.lit (.bool false)], args := [] }
  | _ => none }
def BacksKnownWrongFalsely : Prop := backsKnownRow.holds Tryd.pinned (OpenSpec.ofChange backsKnownWrong)

/-- 'undertowlaw12.BacksPlay': WHATEVER THE INPUT: true; the input reads as it did. -/
def backsPlaySpec : ChangeSpec := { name := "backsPlay", fn := fun _ => fun
  | [d1, d2] => { results := [.lit (.bool true)], args := [d1, d2] }
  | _ => none }
def backsPlayRow : OpenClaim := { program := "ytoifeinkaaclmaadoor", sum := "9ec0b1a1966a213dbff51ac9d1b3e422039064c381acde37913035964806a394", func := "undertow/undertowlaw12.BacksPlay", spec := "backsPlay", unfollowed := true, recurses := true, named := ["undertow/plan.bounds"], apart := false, laid := [("undertow/plan.bounds", laid_undertow_plan_bounds)] }
def BacksPlaySaid : Prop := backsPlayRow.holds Tryd.pinned (OpenSpec.ofChange backsPlaySpec)

/-- ITS FALSE NEIGHBOUR: 'it returns false'. Refute it at one input. -/
def backsPlayWrong : ChangeSpec := { name := "backsPlay", fn := fun _ => fun
  | [d1, d2] => { results := [.lit (.bool false)], args := [d1, d2] }
  | _ => none }
def BacksPlayWrongFalsely : Prop := backsPlayRow.holds Tryd.pinned (OpenSpec.ofChange backsPlayWrong)

/-- 'undertowlaw12.BacksKeep': WHATEVER THE INPUT: true; the input reads as it did. -/
def backsKeepSpec : ChangeSpec := { name := "backsKeep", fn := fun _ => fun
  | [d1, d2, d3] => { results := [.lit (.bool true)], args := [d1, d2, d3] }
  | _ => none }
def backsKeepRow : OpenClaim := { program := "ytoifeinkaaclmaadoor", sum := "9ec0b1a1966a213dbff51ac9d1b3e422039064c381acde37913035964806a394", func := "undertow/undertowlaw12.BacksKeep", spec := "backsKeep", unfollowed := true, recurses := true, named := ["undertow/plan.bounds"], apart := false, laid := [("undertow/plan.bounds", laid_undertow_plan_bounds)] }
def BacksKeepSaid : Prop := backsKeepRow.holds Tryd.pinned (OpenSpec.ofChange backsKeepSpec)

/-- ITS FALSE NEIGHBOUR: 'it returns false'. Refute it at one input. -/
def backsKeepWrong : ChangeSpec := { name := "backsKeep", fn := fun _ => fun
  | [d1, d2, d3] => { results := [.lit (.bool false)], args := [d1, d2, d3] }
  | _ => none }
def BacksKeepWrongFalsely : Prop := backsKeepRow.holds Tryd.pinned (OpenSpec.ofChange backsKeepWrong)

/-- 'undertowlaw12.BacksMost': WHATEVER THE INPUT: true; the input reads as it did. -/
def backsMostSpec : ChangeSpec := { name := "backsMost", fn := fun _ => fun
  | [d1, d2] => { results := [.lit (.bool true)], args := [d1, d2] }
  | _ => none }
def backsMostRow : OpenClaim := { program := "ytoifeinkaaclmaadoor", sum := "9ec0b1a1966a213dbff51ac9d1b3e422039064c381acde37913035964806a394", func := "undertow/undertowlaw12.BacksMost", spec := "backsMost", unfollowed := true, recurses := true, named := ["undertow/plan.bounds"], apart := false, laid := [("undertow/plan.bounds", laid_undertow_plan_bounds)] }
def BacksMostSaid : Prop := backsMostRow.holds Tryd.pinned (OpenSpec.ofChange backsMostSpec)

/-- ITS FALSE NEIGHBOUR: 'it returns false'. Refute it at one input. -/
def backsMostWrong : ChangeSpec := { name := "backsMost", fn := fun _ => fun
  | [d1, d2] => { results := [.lit (.bool false)], args := [d1, d2] }
  | _ => none }
def BacksMostWrongFalsely : Prop := backsMostRow.holds Tryd.pinned (OpenSpec.ofChange backsMostWrong)

/-- 'undertowlaw12.BacksCopies': WHATEVER THE INPUT: true; the input reads as it did. -/
def backsCopiesSpec : ChangeSpec := { name := "backsCopies", fn := fun _ => fun
  | [d1, d2, d3] => { results := [.lit (.bool true)], args := [d1, d2, d3] }
  | _ => none }
def backsCopiesRow : OpenClaim := { program := "ytoifeinkaaclmaadoor", sum := "9ec0b1a1966a213dbff51ac9d1b3e422039064c381acde37913035964806a394", func := "undertow/undertowlaw12.BacksCopies", spec := "backsCopies", unfollowed := true, recurses := true, named := ["undertow/plan.bounds"], apart := false, laid := [("undertow/plan.bounds", laid_undertow_plan_bounds)] }
def BacksCopiesSaid : Prop := backsCopiesRow.holds Tryd.pinned (OpenSpec.ofChange backsCopiesSpec)

/-- ITS FALSE NEIGHBOUR: 'it returns false'. Refute it at one input. -/
def backsCopiesWrong : ChangeSpec := { name := "backsCopies", fn := fun _ => fun
  | [d1, d2, d3] => { results := [.lit (.bool false)], args := [d1, d2, d3] }
  | _ => none }
def BacksCopiesWrongFalsely : Prop := backsCopiesRow.holds Tryd.pinned (OpenSpec.ofChange backsCopiesWrong)

/- THE SECOND FORM. 'bulk': how many values and letters a reading holds, each counted each time it is reached (what is shared counts as often as it is met; a slice's spare places count too). A statement '..UptoSaid' is the law's where the arguments, and the package variables that the reading takes, are together of bulk at most 1048576: NARROWER than '..Said'. Prove '..Said' where nothing that the law and all that it calls make is longer than what came in: it says more and counts as full. Else prove '..UptoSaid'. A law counts once. -/
mutual
def uptoBulk {H : Type} : DataW H → Nat
  | .lit (.string bytes) => bytes.length + 1
  | .lit _ => 1
  | .nil => 1
  | .ptr d => uptoBulk d + 1
  | .slice elems spare => uptoBulkAll elems + uptoBulkAll spare + 1
  | .agg parts => uptoBulkAll parts + 1
  | .iface _ d => uptoBulk d + 1
  | .map entries => uptoBulkEntries entries + 1
  | .held _ => 1
def uptoBulkAll {H : Type} : List (DataW H) → Nat
  | [] => 0
  | d :: r => uptoBulk d + uptoBulkAll r
def uptoBulkEntries {H : Type} : List (Lit × DataW H) → Nat
  | [] => 0
  | x :: r => uptoBulkEntry x + uptoBulkEntries r
def uptoBulkEntry {H : Type} : Lit × DataW H → Nat
  | (.string bytes, d) => bytes.length + uptoBulk d + 1
  | (_, d) => uptoBulk d + 1
 end
def uptoSmall : (H : Type) → List (DataW H) → Bool := fun _ ds => decide (uptoBulkAll ds ≤ 1048576)
def OpenSpec.upto (s : _root_.Go.ChangeSpec) : _root_.Go.OpenSpec := { _root_.Go.OpenSpec.ofChange s with cond := some uptoSmall }

/-- 'undertowlaw12.BacksKnown', WHERE WHAT IT READS IS OF BULK AT MOST 1048576: true; the input reads as it did. -/
def backsKnownUptoRow : OpenClaim := { program := "ytoifeinkaaclmaadoor", sum := "9ec0b1a1966a213dbff51ac9d1b3e422039064c381acde37913035964806a394", func := "undertow/undertowlaw12.BacksKnown", spec := "backsKnown", unfollowed := true, recurses := true, named := ["undertow/plan.bounds"], apart := false, laid := [("undertow/plan.bounds", laid_undertow_plan_bounds)], narrowed := true }
def BacksKnownUptoSaid : Prop := backsKnownUptoRow.holds Tryd.pinned (OpenSpec.upto backsKnownSpec)

/-- 'undertowlaw12.BacksPlay', WHERE WHAT IT READS IS OF BULK AT MOST 1048576: true; the input reads as it did. -/
def backsPlayUptoRow : OpenClaim := { program := "ytoifeinkaaclmaadoor", sum := "9ec0b1a1966a213dbff51ac9d1b3e422039064c381acde37913035964806a394", func := "undertow/undertowlaw12.BacksPlay", spec := "backsPlay", unfollowed := true, recurses := true, named := ["undertow/plan.bounds"], apart := false, laid := [("undertow/plan.bounds", laid_undertow_plan_bounds)], narrowed := true }
def BacksPlayUptoSaid : Prop := backsPlayUptoRow.holds Tryd.pinned (OpenSpec.upto backsPlaySpec)

/-- 'undertowlaw12.BacksKeep', WHERE WHAT IT READS IS OF BULK AT MOST 1048576: true; the input reads as it did. -/
def backsKeepUptoRow : OpenClaim := { program := "ytoifeinkaaclmaadoor", sum := "9ec0b1a1966a213dbff51ac9d1b3e422039064c381acde37913035964806a394", func := "undertow/undertowlaw12.BacksKeep", spec := "backsKeep", unfollowed := true, recurses := true, named := ["undertow/plan.bounds"], apart := false, laid := [("undertow/plan.bounds", laid_undertow_plan_bounds)], narrowed := true }
def BacksKeepUptoSaid : Prop := backsKeepUptoRow.holds Tryd.pinned (OpenSpec.upto backsKeepSpec)

/-- 'undertowlaw12.BacksMost', WHERE WHAT IT READS IS OF BULK AT MOST 1048576: true; the input reads as it did. -/
def backsMostUptoRow : OpenClaim := { program := "ytoifeinkaaclmaadoor", sum := "9ec0b1a1966a213dbff51ac9d1b3e422039064c381acde37913035964806a394", func := "undertow/undertowlaw12.BacksMost", spec := "backsMost", unfollowed := true, recurses := true, named := ["undertow/plan.bounds"], apart := false, laid := [("undertow/plan.bounds", laid_undertow_plan_bounds)], narrowed := true }
def BacksMostUptoSaid : Prop := backsMostUptoRow.holds Tryd.pinned (OpenSpec.upto backsMostSpec)

/-- 'undertowlaw12.BacksCopies', WHERE WHAT IT READS IS OF BULK AT MOST 1048576: true; the input reads as it did. -/
def backsCopiesUptoRow : OpenClaim := { program := "ytoifeinkaaclmaadoor", sum := "9ec0b1a1966a213dbff51ac9d1b3e422039064c381acde37913035964806a394", func := "undertow/undertowlaw12.BacksCopies", spec := "backsCopies", unfollowed := true, recurses := true, named := ["undertow/plan.bounds"], apart := false, laid := [("undertow/plan.bounds", laid_undertow_plan_bounds)], narrowed := true }
def BacksCopiesUptoSaid : Prop := backsCopiesUptoRow.holds Tryd.pinned (OpenSpec.upto backsCopiesSpec)

end Rows
end Go.Proofs.YtoifeinkaaclmaaDoor
