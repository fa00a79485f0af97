/-
  NARROWER THAN 'FOR EVERY INPUT', by the rows' own cells (each row's printed sentence says how): MarksKnown: laid · MarksPlay: laid · MarksMore: laid · MarksApart: laid · MarksAll: laid.
  DERIVED. THE GIVEN ROWS OF THIS SEAT. 5 by the template 'for every input the law returns true; each argument reads behind the call as it read before'; 0 by the template 'total and deterministic' (their statements: YtegaalhbebibgaaDoorTotals.lean).
  GIVEN WITH THE SEED: the statements are not yours to turn. If you find one false, say at which input.
  Laid BY PROGRAM, IN A SANDBOX (cutbox-rows.mjs): the forced cells as the released guide's own fill.sh prints them over the translation c36a60de2438525f… (all of the seat's roots in one cut). By AI agents, Wed Nov 11 2026. No macro, syntax, notation, axiom, sorry.
-/
import Derived.Test.YtegaalhbebibgaaDoorChecked
import GoSem.Claim
import GoSem.ClaimJoined
import GoSem.ClaimMapViews
import Derived.JoinedTies
import Derived.KernelRfl
namespace Go.Proofs.YtegaalhbebibgaaDoor
/- THE CELL 'sum', in the pinned program and in every row, IS THE sha256 OF THE DUMP (.gsa) THAT YtegaalhbebibgaaDoorProg.lean LOADS. Nothing in Lean hashes anything: it is a label: what it is worth is what the hold of that sum in a sandbox is worth. -/
noncomputable def Tryd.pinned : Pinned := { name := "ytegaalhbebibgaadoor", sum := "c36a60de2438525f32a00337661565964818edda2b64b31ad93b58bb6894edbb", checked := Tryd.checked }
namespace Rows
def none {H : Type} : Left H := { results := [], args := [] }

/- WHAT THE LISTED PACKAGE-LEVEL VARIABLES READ AS WHEN THE CALL BEGINS. Each datum BY PROGRAM (the guide's laid-datum.mjs) off the statement by which the dump's own 'gosem.cut.vars' lays the variable. In a bare row this is a premise. The card (YtegaalhbebibgaaDoorCards.lean) ties it to the program's text. -/
def laid_undertow_plan_bounds {H : Type} : DataW H := .agg [.agg [.lit (.int .i64 1), .lit (.int .i64 16), .lit (.bool false)], .agg [.lit (.int .i64 1), .lit (.int .i64 16), .lit (.bool true)], .agg [.lit (.int .i64 1), .lit (.int .i64 4), .lit (.bool true)], .agg [.lit (.int .i64 1), .lit (.int .i64 256), .lit (.bool false)], .agg [.lit (.int .i64 1), .lit (.int .i64 4), .lit (.bool false)], .agg [.lit (.int .i64 1), .lit (.int .i64 4), .lit (.bool false)], .agg [.lit (.int .i64 1), .lit (.int .i64 8), .lit (.bool false)], .agg [.lit (.int .i64 0), .lit (.int .i64 8), .lit (.bool false)]]

/-- 'undertowlaw13.MarksKnown': WHATEVER THE INPUT: true; the input reads as it did. -/
def marksKnownSpec : ChangeSpec := { name := "marksKnown", fn := fun _ => fun
  | [] => { results := [.lit (.bool true)], args := [] }
  | _ => none }
def marksKnownRow : OpenClaim := { program := "ytegaalhbebibgaadoor", sum := "c36a60de2438525f32a00337661565964818edda2b64b31ad93b58bb6894edbb", func := "undertow/undertowlaw13.MarksKnown", spec := "marksKnown", inPlace := ["maps.clone"], unfollowed := true, recurses := true, named := ["undertow/plan.bounds"], apart := false, laid := [("undertow/plan.bounds", laid_undertow_plan_bounds)] }
def MarksKnownSaid : Prop := marksKnownRow.holds Tryd.pinned (OpenSpec.ofChange marksKnownSpec)

/-- ITS FALSE NEIGHBOUR: 'it returns false'. Refute it at one input. -/
def marksKnownWrong : ChangeSpec := { name := "marksKnown", fn := fun _ => fun
  | [] => { results := [.lit (.bool false)], args := [] }
  | _ => none }
def MarksKnownWrongFalsely : Prop := marksKnownRow.holds Tryd.pinned (OpenSpec.ofChange marksKnownWrong)

/-- 'undertowlaw13.MarksPlay': WHATEVER THE INPUT: true; the input reads as it did. -/
def marksPlaySpec : ChangeSpec := { name := "marksPlay", fn := fun _ => fun
  | [d1, d2] => { results := [.lit (.bool true)], args := [d1, d2] }
  | _ => none }
def marksPlayRow : OpenClaim := { program := "ytegaalhbebibgaadoor", sum := "c36a60de2438525f32a00337661565964818edda2b64b31ad93b58bb6894edbb", func := "undertow/undertowlaw13.MarksPlay", spec := "marksPlay", inPlace := ["maps.clone"], unfollowed := true, recurses := true, named := ["undertow/plan.bounds"], apart := false, laid := [("undertow/plan.bounds", laid_undertow_plan_bounds)] }
def MarksPlaySaid : Prop := marksPlayRow.holds Tryd.pinned (OpenSpec.ofChange marksPlaySpec)

/-- ITS FALSE NEIGHBOUR: 'it returns false'. Refute it at one input. -/
def marksPlayWrong : ChangeSpec := { name := "marksPlay", fn := fun _ => fun
  | [d1, d2] => { results := [.lit (.bool false)], args := [d1, d2] }
  | _ => none }
def MarksPlayWrongFalsely : Prop := marksPlayRow.holds Tryd.pinned (OpenSpec.ofChange marksPlayWrong)

/-- 'undertowlaw13.MarksMore': WHATEVER THE INPUT: true; the input reads as it did. -/
def marksMoreSpec : ChangeSpec := { name := "marksMore", fn := fun _ => fun
  | [d1, d2, d3, d4] => { results := [.lit (.bool true)], args := [d1, d2, d3, d4] }
  | _ => none }
def marksMoreRow : OpenClaim := { program := "ytegaalhbebibgaadoor", sum := "c36a60de2438525f32a00337661565964818edda2b64b31ad93b58bb6894edbb", func := "undertow/undertowlaw13.MarksMore", spec := "marksMore", unfollowed := true, recurses := true, named := ["undertow/plan.bounds"], apart := false, laid := [("undertow/plan.bounds", laid_undertow_plan_bounds)] }
def MarksMoreSaid : Prop := marksMoreRow.holds Tryd.pinned (OpenSpec.ofChange marksMoreSpec)

/-- ITS FALSE NEIGHBOUR: 'it returns false'. Refute it at one input. -/
def marksMoreWrong : ChangeSpec := { name := "marksMore", fn := fun _ => fun
  | [d1, d2, d3, d4] => { results := [.lit (.bool false)], args := [d1, d2, d3, d4] }
  | _ => none }
def MarksMoreWrongFalsely : Prop := marksMoreRow.holds Tryd.pinned (OpenSpec.ofChange marksMoreWrong)

/-- 'undertowlaw13.MarksApart': WHATEVER THE INPUT: true; the input reads as it did. -/
def marksApartSpec : ChangeSpec := { name := "marksApart", fn := fun _ => fun
  | [d1, d2, d3] => { results := [.lit (.bool true)], args := [d1, d2, d3] }
  | _ => none }
def marksApartRow : OpenClaim := { program := "ytegaalhbebibgaadoor", sum := "c36a60de2438525f32a00337661565964818edda2b64b31ad93b58bb6894edbb", func := "undertow/undertowlaw13.MarksApart", spec := "marksApart", unfollowed := true, recurses := true, named := ["undertow/plan.bounds"], apart := false, laid := [("undertow/plan.bounds", laid_undertow_plan_bounds)] }
def MarksApartSaid : Prop := marksApartRow.holds Tryd.pinned (OpenSpec.ofChange marksApartSpec)

/-- ITS FALSE NEIGHBOUR: 'it returns false'. Refute it at one input. -/
def marksApartWrong : ChangeSpec := { name := "marksApart", fn := fun _ => fun
  | [d1, d2, d3] => { results := [.lit (.bool false)], args := [d1, d2, d3] }
  | _ => none }
def MarksApartWrongFalsely : Prop := marksApartRow.holds Tryd.pinned (OpenSpec.ofChange marksApartWrong)

/-- 'undertowlaw13.MarksAll': WHATEVER THE INPUT: true; the input reads as it did. -/
def marksAllSpec : ChangeSpec := { name := "marksAll", fn := fun _ => fun
  | [d1, d2] => { results := [.lit (.bool true)], args := [d1, d2] }
  | _ => none }
def marksAllRow : OpenClaim := { program := "ytegaalhbebibgaadoor", sum := "c36a60de2438525f32a00337661565964818edda2b64b31ad93b58bb6894edbb", func := "undertow/undertowlaw13.MarksAll", spec := "marksAll", unfollowed := true, recurses := true, named := ["undertow/plan.bounds"], apart := false, laid := [("undertow/plan.bounds", laid_undertow_plan_bounds)] }
def MarksAllSaid : Prop := marksAllRow.holds Tryd.pinned (OpenSpec.ofChange marksAllSpec)

/-- ITS FALSE NEIGHBOUR: 'it returns false'. Refute it at one input. -/
def marksAllWrong : ChangeSpec := { name := "marksAll", fn := fun _ => fun
  | [d1, d2] => { results := [.lit (.bool false)], args := [d1, d2] }
  | _ => none }
def MarksAllWrongFalsely : Prop := marksAllRow.holds Tryd.pinned (OpenSpec.ofChange marksAllWrong)

/- THE SECOND FORM. 'bulk': how many values and letters a reading holds, each counted each time it is reached (what is shared counts as often as it is met; a slice's spare places count too). A statement '..UptoSaid' is the law's where the arguments, and the package variables that the reading takes, are together of bulk at most 1048576: NARROWER than '..Said'. Prove '..Said' where nothing that the law and all that it calls make is longer than what came in: it says more and counts as full. Else prove '..UptoSaid'. A law counts once. -/
mutual
def uptoBulk {H : Type} : DataW H → Nat
  | .lit (.string bytes) => bytes.length + 1
  | .lit _ => 1
  | .nil => 1
  | .ptr d => uptoBulk d + 1
  | .slice elems spare => uptoBulkAll elems + uptoBulkAll spare + 1
  | .agg parts => uptoBulkAll parts + 1
  | .iface _ d => uptoBulk d + 1
  | .map entries => uptoBulkEntries entries + 1
  | .held _ => 1
def uptoBulkAll {H : Type} : List (DataW H) → Nat
  | [] => 0
  | d :: r => uptoBulk d + uptoBulkAll r
def uptoBulkEntries {H : Type} : List (Lit × DataW H) → Nat
  | [] => 0
  | x :: r => uptoBulkEntry x + uptoBulkEntries r
def uptoBulkEntry {H : Type} : Lit × DataW H → Nat
  | (.string bytes, d) => bytes.length + uptoBulk d + 1
  | (_, d) => uptoBulk d + 1
 end
def uptoSmall : (H : Type) → List (DataW H) → Bool := fun _ ds => decide (uptoBulkAll ds ≤ 1048576)
def OpenSpec.upto (s : _root_.Go.ChangeSpec) : _root_.Go.OpenSpec := { _root_.Go.OpenSpec.ofChange s with cond := some uptoSmall }

/-- 'undertowlaw13.MarksKnown', WHERE WHAT IT READS IS OF BULK AT MOST 1048576: true; the input reads as it did. -/
def marksKnownUptoRow : OpenClaim := { program := "ytegaalhbebibgaadoor", sum := "c36a60de2438525f32a00337661565964818edda2b64b31ad93b58bb6894edbb", func := "undertow/undertowlaw13.MarksKnown", spec := "marksKnown", inPlace := ["maps.clone"], unfollowed := true, recurses := true, named := ["undertow/plan.bounds"], apart := false, laid := [("undertow/plan.bounds", laid_undertow_plan_bounds)], narrowed := true }
def MarksKnownUptoSaid : Prop := marksKnownUptoRow.holds Tryd.pinned (OpenSpec.upto marksKnownSpec)

/-- 'undertowlaw13.MarksPlay', WHERE WHAT IT READS IS OF BULK AT MOST 1048576: true; the input reads as it did. -/
def marksPlayUptoRow : OpenClaim := { program := "ytegaalhbebibgaadoor", sum := "c36a60de2438525f32a00337661565964818edda2b64b31ad93b58bb6894edbb", func := "undertow/undertowlaw13.MarksPlay", spec := "marksPlay", inPlace := ["maps.clone"], unfollowed := true, recurses := true, named := ["undertow/plan.bounds"], apart := false, laid := [("undertow/plan.bounds", laid_undertow_plan_bounds)], narrowed := true }
def MarksPlayUptoSaid : Prop := marksPlayUptoRow.holds Tryd.pinned (OpenSpec.upto marksPlaySpec)

/-- 'undertowlaw13.MarksMore', WHERE WHAT IT READS IS OF BULK AT MOST 1048576: true; the input reads as it did. -/
def marksMoreUptoRow : OpenClaim := { program := "ytegaalhbebibgaadoor", sum := "c36a60de2438525f32a00337661565964818edda2b64b31ad93b58bb6894edbb", func := "undertow/undertowlaw13.MarksMore", spec := "marksMore", unfollowed := true, recurses := true, named := ["undertow/plan.bounds"], apart := false, laid := [("undertow/plan.bounds", laid_undertow_plan_bounds)], narrowed := true }
def MarksMoreUptoSaid : Prop := marksMoreUptoRow.holds Tryd.pinned (OpenSpec.upto marksMoreSpec)

/-- 'undertowlaw13.MarksApart', WHERE WHAT IT READS IS OF BULK AT MOST 1048576: true; the input reads as it did. -/
def marksApartUptoRow : OpenClaim := { program := "ytegaalhbebibgaadoor", sum := "c36a60de2438525f32a00337661565964818edda2b64b31ad93b58bb6894edbb", func := "undertow/undertowlaw13.MarksApart", spec := "marksApart", unfollowed := true, recurses := true, named := ["undertow/plan.bounds"], apart := false, laid := [("undertow/plan.bounds", laid_undertow_plan_bounds)], narrowed := true }
def MarksApartUptoSaid : Prop := marksApartUptoRow.holds Tryd.pinned (OpenSpec.upto marksApartSpec)

/-- 'undertowlaw13.MarksAll', WHERE WHAT IT READS IS OF BULK AT MOST 1048576: true; the input reads as it did. -/
def marksAllUptoRow : OpenClaim := { program := "ytegaalhbebibgaadoor", sum := "c36a60de2438525f32a00337661565964818edda2b64b31ad93b58bb6894edbb", func := "undertow/undertowlaw13.MarksAll", spec := "marksAll", unfollowed := true, recurses := true, named := ["undertow/plan.bounds"], apart := false, laid := [("undertow/plan.bounds", laid_undertow_plan_bounds)], narrowed := true }
def MarksAllUptoSaid : Prop := marksAllUptoRow.holds Tryd.pinned (OpenSpec.upto marksAllSpec)

end Rows
end Go.Proofs.YtegaalhbebibgaaDoor
