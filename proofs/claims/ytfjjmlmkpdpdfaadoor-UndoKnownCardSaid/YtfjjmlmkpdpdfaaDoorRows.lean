/-
  NARROWER THAN 'FOR EVERY INPUT', by the rows' own cells (each row's printed sentence says how): UndoKnown: laid · UndoPlays: laid · UndoBack: laid · UndoOwn: laid · UndoTells: laid.
  DERIVED. THE GIVEN ROWS OF THIS SEAT. 5 by the template 'for every input the law returns true; each argument reads behind the call as it read before'; 0 by the template 'total and deterministic' (their statements: YtfjjmlmkpdpdfaaDoorTotals.lean).
  GIVEN WITH THE SEED: the statements are not yours to turn. If you find one false, say at which input.
  Laid BY PROGRAM, IN A SANDBOX (cutbox-rows.mjs): the forced cells as the released guide's own fill.sh prints them over the translation 040b8ab7de80e499… (all of the seat's roots in one cut). By AI agents, Wed Nov 11 2026. No macro, syntax, notation, axiom, sorry.
-/
import Derived.Test.YtfjjmlmkpdpdfaaDoorChecked
import GoSem.Claim
import GoSem.ClaimJoined
import GoSem.ClaimMapViews
import Derived.JoinedTies
import Derived.KernelRfl
namespace Go.Proofs.YtfjjmlmkpdpdfaaDoor
/- THE CELL 'sum', in the pinned program and in every row, IS THE sha256 OF THE DUMP (.gsa) THAT YtfjjmlmkpdpdfaaDoorProg.lean LOADS. Nothing in Lean hashes anything: it is a label: what it is worth is what the hold of that sum in a sandbox is worth. -/
noncomputable def Tryd.pinned : Pinned := { name := "ytfjjmlmkpdpdfaadoor", sum := "040b8ab7de80e49900cb947b33fd895511e0680b4f46190aa3a8d7a770bc1182", checked := Tryd.checked }
namespace Rows
def none {H : Type} : Left H := { results := [], args := [] }

/- WHAT THE LISTED PACKAGE-LEVEL VARIABLES READ AS WHEN THE CALL BEGINS. Each datum BY PROGRAM (the guide's laid-datum.mjs) off the statement by which the dump's own 'gosem.cut.vars' lays the variable. In a bare row this is a premise. The card (YtfjjmlmkpdpdfaaDoorCards.lean) ties it to the program's text. -/
def laid_undertow_plan_bounds {H : Type} : DataW H := .agg [.agg [.lit (.int .i64 1), .lit (.int .i64 16), .lit (.bool false)], .agg [.lit (.int .i64 1), .lit (.int .i64 16), .lit (.bool true)], .agg [.lit (.int .i64 1), .lit (.int .i64 4), .lit (.bool true)], .agg [.lit (.int .i64 1), .lit (.int .i64 256), .lit (.bool false)], .agg [.lit (.int .i64 1), .lit (.int .i64 4), .lit (.bool false)], .agg [.lit (.int .i64 1), .lit (.int .i64 4), .lit (.bool false)], .agg [.lit (.int .i64 1), .lit (.int .i64 8), .lit (.bool false)], .agg [.lit (.int .i64 0), .lit (.int .i64 8), .lit (.bool false)]]

/-- 'undertowlaw15.UndoKnown': WHATEVER THE INPUT: true; the input reads as it did. -/
def undoKnownSpec : ChangeSpec := { name := "undoKnown", fn := fun _ => fun
  | [] => { results := [.lit (.bool true)], args := [] }
  | _ => none }
def undoKnownRow : OpenClaim := { program := "ytfjjmlmkpdpdfaadoor", sum := "040b8ab7de80e49900cb947b33fd895511e0680b4f46190aa3a8d7a770bc1182", func := "undertow/undertowlaw15.UndoKnown", spec := "undoKnown", named := ["undertow/plan.bounds"], apart := false, laid := [("undertow/plan.bounds", laid_undertow_plan_bounds)] }
def UndoKnownSaid : Prop := undoKnownRow.holds Tryd.pinned (OpenSpec.ofChange undoKnownSpec)

/-- ITS FALSE NEIGHBOUR: 'it returns false'. Refute it at one input. -/
def undoKnownWrong : ChangeSpec := { name := "undoKnown", fn := fun _ => fun
  | [] => { results := [.lit (.bool false)], args := [] }
  | _ => none }
def UndoKnownWrongFalsely : Prop := undoKnownRow.holds Tryd.pinned (OpenSpec.ofChange undoKnownWrong)

/-- 'undertowlaw15.UndoPlays': WHATEVER THE INPUT: true; the input reads as it did. -/
def undoPlaysSpec : ChangeSpec := { name := "undoPlays", fn := fun _ => fun
  | [d1, d2, d3, d4] => { results := [.lit (.bool true)], args := [d1, d2, d3, d4] }
  | _ => none }
def undoPlaysRow : OpenClaim := { program := "ytfjjmlmkpdpdfaadoor", sum := "040b8ab7de80e49900cb947b33fd895511e0680b4f46190aa3a8d7a770bc1182", func := "undertow/undertowlaw15.UndoPlays", spec := "undoPlays", named := ["undertow/plan.bounds"], apart := false, laid := [("undertow/plan.bounds", laid_undertow_plan_bounds)] }
def UndoPlaysSaid : Prop := undoPlaysRow.holds Tryd.pinned (OpenSpec.ofChange undoPlaysSpec)

/-- ITS FALSE NEIGHBOUR: 'it returns false'. Refute it at one input. -/
def undoPlaysWrong : ChangeSpec := { name := "undoPlays", fn := fun _ => fun
  | [d1, d2, d3, d4] => { results := [.lit (.bool false)], args := [d1, d2, d3, d4] }
  | _ => none }
def UndoPlaysWrongFalsely : Prop := undoPlaysRow.holds Tryd.pinned (OpenSpec.ofChange undoPlaysWrong)

/-- 'undertowlaw15.UndoBack': WHATEVER THE INPUT: true; the input reads as it did. -/
def undoBackSpec : ChangeSpec := { name := "undoBack", fn := fun _ => fun
  | [d1, d2, d3, d4] => { results := [.lit (.bool true)], args := [d1, d2, d3, d4] }
  | _ => none }
def undoBackRow : OpenClaim := { program := "ytfjjmlmkpdpdfaadoor", sum := "040b8ab7de80e49900cb947b33fd895511e0680b4f46190aa3a8d7a770bc1182", func := "undertow/undertowlaw15.UndoBack", spec := "undoBack", named := ["undertow/plan.bounds"], apart := false, laid := [("undertow/plan.bounds", laid_undertow_plan_bounds)] }
def UndoBackSaid : Prop := undoBackRow.holds Tryd.pinned (OpenSpec.ofChange undoBackSpec)

/-- ITS FALSE NEIGHBOUR: 'it returns false'. Refute it at one input. -/
def undoBackWrong : ChangeSpec := { name := "undoBack", fn := fun _ => fun
  | [d1, d2, d3, d4] => { results := [.lit (.bool false)], args := [d1, d2, d3, d4] }
  | _ => none }
def UndoBackWrongFalsely : Prop := undoBackRow.holds Tryd.pinned (OpenSpec.ofChange undoBackWrong)

/-- 'undertowlaw15.UndoOwn': WHATEVER THE INPUT: true; the input reads as it did. -/
def undoOwnSpec : ChangeSpec := { name := "undoOwn", fn := fun _ => fun
  | [d1, d2, d3] => { results := [.lit (.bool true)], args := [d1, d2, d3] }
  | _ => none }
def undoOwnRow : OpenClaim := { program := "ytfjjmlmkpdpdfaadoor", sum := "040b8ab7de80e49900cb947b33fd895511e0680b4f46190aa3a8d7a770bc1182", func := "undertow/undertowlaw15.UndoOwn", spec := "undoOwn", named := ["undertow/plan.bounds"], apart := false, laid := [("undertow/plan.bounds", laid_undertow_plan_bounds)] }
def UndoOwnSaid : Prop := undoOwnRow.holds Tryd.pinned (OpenSpec.ofChange undoOwnSpec)

/-- ITS FALSE NEIGHBOUR: 'it returns false'. Refute it at one input. -/
def undoOwnWrong : ChangeSpec := { name := "undoOwn", fn := fun _ => fun
  | [d1, d2, d3] => { results := [.lit (.bool false)], args := [d1, d2, d3] }
  | _ => none }
def UndoOwnWrongFalsely : Prop := undoOwnRow.holds Tryd.pinned (OpenSpec.ofChange undoOwnWrong)

/-- 'undertowlaw15.UndoTells': WHATEVER THE INPUT: true; the input reads as it did. -/
def undoTellsSpec : ChangeSpec := { name := "undoTells", fn := fun _ => fun
  | [d1, d2, d3] => { results := [.lit (.bool true)], args := [d1, d2, d3] }
  | _ => none }
def undoTellsRow : OpenClaim := { program := "ytfjjmlmkpdpdfaadoor", sum := "040b8ab7de80e49900cb947b33fd895511e0680b4f46190aa3a8d7a770bc1182", func := "undertow/undertowlaw15.UndoTells", spec := "undoTells", named := ["undertow/plan.bounds"], apart := false, laid := [("undertow/plan.bounds", laid_undertow_plan_bounds)] }
def UndoTellsSaid : Prop := undoTellsRow.holds Tryd.pinned (OpenSpec.ofChange undoTellsSpec)

/-- ITS FALSE NEIGHBOUR: 'it returns false'. Refute it at one input. -/
def undoTellsWrong : ChangeSpec := { name := "undoTells", fn := fun _ => fun
  | [d1, d2, d3] => { results := [.lit (.bool false)], args := [d1, d2, d3] }
  | _ => none }
def UndoTellsWrongFalsely : Prop := undoTellsRow.holds Tryd.pinned (OpenSpec.ofChange undoTellsWrong)

/- THE SECOND FORM. 'bulk': how many values and letters a reading holds, each counted each time it is reached (what is shared counts as often as it is met; a slice's spare places count too). A statement '..UptoSaid' is the law's where the arguments, and the package variables that the reading takes, are together of bulk at most 1048576: NARROWER than '..Said'. Prove '..Said' where nothing that the law and all that it calls make is longer than what came in: it says more and counts as full. Else prove '..UptoSaid'. A law counts once. -/
mutual
def uptoBulk {H : Type} : DataW H → Nat
  | .lit (.string bytes) => bytes.length + 1
  | .lit _ => 1
  | .nil => 1
  | .ptr d => uptoBulk d + 1
  | .slice elems spare => uptoBulkAll elems + uptoBulkAll spare + 1
  | .agg parts => uptoBulkAll parts + 1
  | .iface _ d => uptoBulk d + 1
  | .map entries => uptoBulkEntries entries + 1
  | .held _ => 1
def uptoBulkAll {H : Type} : List (DataW H) → Nat
  | [] => 0
  | d :: r => uptoBulk d + uptoBulkAll r
def uptoBulkEntries {H : Type} : List (Lit × DataW H) → Nat
  | [] => 0
  | x :: r => uptoBulkEntry x + uptoBulkEntries r
def uptoBulkEntry {H : Type} : Lit × DataW H → Nat
  | (.string bytes, d) => bytes.length + uptoBulk d + 1
  | (_, d) => uptoBulk d + 1
 end
def uptoSmall : (H : Type) → List (DataW H) → Bool := fun _ ds => decide (uptoBulkAll ds ≤ 1048576)
def OpenSpec.upto (s : _root_.Go.ChangeSpec) : _root_.Go.OpenSpec := { _root_.Go.OpenSpec.ofChange s with cond := some uptoSmall }

/-- 'undertowlaw15.UndoKnown', WHERE WHAT IT READS IS OF BULK AT MOST 1048576: true; the input reads as it did. -/
def undoKnownUptoRow : OpenClaim := { program := "ytfjjmlmkpdpdfaadoor", sum := "040b8ab7de80e49900cb947b33fd895511e0680b4f46190aa3a8d7a770bc1182", func := "undertow/undertowlaw15.UndoKnown", spec := "undoKnown", named := ["undertow/plan.bounds"], apart := false, laid := [("undertow/plan.bounds", laid_undertow_plan_bounds)], narrowed := true }
def UndoKnownUptoSaid : Prop := undoKnownUptoRow.holds Tryd.pinned (OpenSpec.upto undoKnownSpec)

/-- 'undertowlaw15.UndoPlays', WHERE WHAT IT READS IS OF BULK AT MOST 1048576: true; the input reads as it did. -/
def undoPlaysUptoRow : OpenClaim := { program := "ytfjjmlmkpdpdfaadoor", sum := "040b8ab7de80e49900cb947b33fd895511e0680b4f46190aa3a8d7a770bc1182", func := "undertow/undertowlaw15.UndoPlays", spec := "undoPlays", named := ["undertow/plan.bounds"], apart := false, laid := [("undertow/plan.bounds", laid_undertow_plan_bounds)], narrowed := true }
def UndoPlaysUptoSaid : Prop := undoPlaysUptoRow.holds Tryd.pinned (OpenSpec.upto undoPlaysSpec)

/-- 'undertowlaw15.UndoBack', WHERE WHAT IT READS IS OF BULK AT MOST 1048576: true; the input reads as it did. -/
def undoBackUptoRow : OpenClaim := { program := "ytfjjmlmkpdpdfaadoor", sum := "040b8ab7de80e49900cb947b33fd895511e0680b4f46190aa3a8d7a770bc1182", func := "undertow/undertowlaw15.UndoBack", spec := "undoBack", named := ["undertow/plan.bounds"], apart := false, laid := [("undertow/plan.bounds", laid_undertow_plan_bounds)], narrowed := true }
def UndoBackUptoSaid : Prop := undoBackUptoRow.holds Tryd.pinned (OpenSpec.upto undoBackSpec)

/-- 'undertowlaw15.UndoOwn', WHERE WHAT IT READS IS OF BULK AT MOST 1048576: true; the input reads as it did. -/
def undoOwnUptoRow : OpenClaim := { program := "ytfjjmlmkpdpdfaadoor", sum := "040b8ab7de80e49900cb947b33fd895511e0680b4f46190aa3a8d7a770bc1182", func := "undertow/undertowlaw15.UndoOwn", spec := "undoOwn", named := ["undertow/plan.bounds"], apart := false, laid := [("undertow/plan.bounds", laid_undertow_plan_bounds)], narrowed := true }
def UndoOwnUptoSaid : Prop := undoOwnUptoRow.holds Tryd.pinned (OpenSpec.upto undoOwnSpec)

/-- 'undertowlaw15.UndoTells', WHERE WHAT IT READS IS OF BULK AT MOST 1048576: true; the input reads as it did. -/
def undoTellsUptoRow : OpenClaim := { program := "ytfjjmlmkpdpdfaadoor", sum := "040b8ab7de80e49900cb947b33fd895511e0680b4f46190aa3a8d7a770bc1182", func := "undertow/undertowlaw15.UndoTells", spec := "undoTells", named := ["undertow/plan.bounds"], apart := false, laid := [("undertow/plan.bounds", laid_undertow_plan_bounds)], narrowed := true }
def UndoTellsUptoSaid : Prop := undoTellsUptoRow.holds Tryd.pinned (OpenSpec.upto undoTellsSpec)

end Rows
end Go.Proofs.YtfjjmlmkpdpdfaaDoor
