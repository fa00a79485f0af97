/-
  NARROWER THAN 'FOR EVERY INPUT', by the rows' own cells (each row's printed sentence says how): PlanKnown: laid · PlanMay: laid · PlanWhere: laid · PlanAddrs: laid · PlanParts: laid · PlanBack: laid · PlanSets: laid.
  DERIVED. THE GIVEN ROWS OF THIS SEAT. 7 by the template 'for every input the law returns true; each argument reads behind the call as it read before'; 0 by the template 'total and deterministic' (their statements: YtkeeajiikfddgaaDoorTotals.lean).
  GIVEN WITH THE SEED: the statements are not yours to turn. If you find one false, say at which input.
  Laid BY PROGRAM, IN A SANDBOX (cutbox-rows.mjs): the forced cells as the released guide's own fill.sh prints them over the translation a8749c54659fdf5b… (all of the seat's roots in one cut). By AI agents, Wed Nov 11 2026. No macro, syntax, notation, axiom, sorry.
-/
import Derived.Test.YtkeeajiikfddgaaDoorChecked
import GoSem.Claim
import GoSem.ClaimJoined
import GoSem.ClaimMapViews
import Derived.JoinedTies
import Derived.KernelRfl
namespace Go.Proofs.YtkeeajiikfddgaaDoor
/- THE CELL 'sum', in the pinned program and in every row, IS THE sha256 OF THE DUMP (.gsa) THAT YtkeeajiikfddgaaDoorProg.lean LOADS. Nothing in Lean hashes anything: it is a label: what it is worth is what the hold of that sum in a sandbox is worth. -/
noncomputable def Tryd.pinned : Pinned := { name := "ytkeeajiikfddgaadoor", sum := "a8749c54659fdf5baafb7b4cba8d78f5e42a0f62bd5c5fc6354abc49c3375741", checked := Tryd.checked }
namespace Rows
def none {H : Type} : Left H := { results := [], args := [] }

/- WHAT THE LISTED PACKAGE-LEVEL VARIABLES READ AS WHEN THE CALL BEGINS. Each datum BY PROGRAM (the guide's laid-datum.mjs) off the statement by which the dump's own 'gosem.cut.vars' lays the variable. In a bare row this is a premise. The card (YtkeeajiikfddgaaDoorCards.lean) ties it to the program's text. -/
def laid_undertow_plan_bounds {H : Type} : DataW H := .agg [.agg [.lit (.int .i64 1), .lit (.int .i64 16), .lit (.bool false)], .agg [.lit (.int .i64 1), .lit (.int .i64 16), .lit (.bool true)], .agg [.lit (.int .i64 1), .lit (.int .i64 4), .lit (.bool true)], .agg [.lit (.int .i64 1), .lit (.int .i64 256), .lit (.bool false)], .agg [.lit (.int .i64 1), .lit (.int .i64 4), .lit (.bool false)], .agg [.lit (.int .i64 1), .lit (.int .i64 4), .lit (.bool false)], .agg [.lit (.int .i64 1), .lit (.int .i64 8), .lit (.bool false)], .agg [.lit (.int .i64 0), .lit (.int .i64 8), .lit (.bool false)]]

/-- 'undertowlaw05.PlanKnown': WHATEVER THE INPUT: true; the input reads as it did. -/
def planKnownSpec : ChangeSpec := { name := "planKnown", fn := fun _ => fun
  | [] => { results := [.lit (.bool true)], args := [] }
  | _ => none }
def planKnownRow : OpenClaim := { program := "ytkeeajiikfddgaadoor", sum := "a8749c54659fdf5baafb7b4cba8d78f5e42a0f62bd5c5fc6354abc49c3375741", func := "undertow/undertowlaw05.PlanKnown", spec := "planKnown", named := ["undertow/plan.bounds"], apart := false, laid := [("undertow/plan.bounds", laid_undertow_plan_bounds)] }
def PlanKnownSaid : Prop := planKnownRow.holds Tryd.pinned (OpenSpec.ofChange planKnownSpec)

/-- ITS FALSE NEIGHBOUR: 'it returns false'. Refute it at one input. -/
def planKnownWrong : ChangeSpec := { name := "planKnown", fn := fun _ => fun
  | [] => { results := [.lit (.bool false)], args := [] }
  | _ => none }
def PlanKnownWrongFalsely : Prop := planKnownRow.holds Tryd.pinned (OpenSpec.ofChange planKnownWrong)

/-- 'undertowlaw05.PlanMay': WHATEVER THE INPUT: true; the input reads as it did. -/
def planMaySpec : ChangeSpec := { name := "planMay", fn := fun _ => fun
  | [d1, d2] => { results := [.lit (.bool true)], args := [d1, d2] }
  | _ => none }
def planMayRow : OpenClaim := { program := "ytkeeajiikfddgaadoor", sum := "a8749c54659fdf5baafb7b4cba8d78f5e42a0f62bd5c5fc6354abc49c3375741", func := "undertow/undertowlaw05.PlanMay", spec := "planMay", named := ["undertow/plan.bounds"], apart := false, laid := [("undertow/plan.bounds", laid_undertow_plan_bounds)] }
def PlanMaySaid : Prop := planMayRow.holds Tryd.pinned (OpenSpec.ofChange planMaySpec)

/-- ITS FALSE NEIGHBOUR: 'it returns false'. Refute it at one input. -/
def planMayWrong : ChangeSpec := { name := "planMay", fn := fun _ => fun
  | [d1, d2] => { results := [.lit (.bool false)], args := [d1, d2] }
  | _ => none }
def PlanMayWrongFalsely : Prop := planMayRow.holds Tryd.pinned (OpenSpec.ofChange planMayWrong)

/-- 'undertowlaw05.PlanWhere': WHATEVER THE INPUT: true; the input reads as it did. -/
def planWhereSpec : ChangeSpec := { name := "planWhere", fn := fun _ => fun
  | [d1, d2, d3] => { results := [.lit (.bool true)], args := [d1, d2, d3] }
  | _ => none }
def planWhereRow : OpenClaim := { program := "ytkeeajiikfddgaadoor", sum := "a8749c54659fdf5baafb7b4cba8d78f5e42a0f62bd5c5fc6354abc49c3375741", func := "undertow/undertowlaw05.PlanWhere", spec := "planWhere", named := ["undertow/plan.bounds"], apart := false, laid := [("undertow/plan.bounds", laid_undertow_plan_bounds)] }
def PlanWhereSaid : Prop := planWhereRow.holds Tryd.pinned (OpenSpec.ofChange planWhereSpec)

/-- ITS FALSE NEIGHBOUR: 'it returns false'. Refute it at one input. -/
def planWhereWrong : ChangeSpec := { name := "planWhere", fn := fun _ => fun
  | [d1, d2, d3] => { results := [.lit (.bool false)], args := [d1, d2, d3] }
  | _ => none }
def PlanWhereWrongFalsely : Prop := planWhereRow.holds Tryd.pinned (OpenSpec.ofChange planWhereWrong)

/-- 'undertowlaw05.PlanAddrs': WHATEVER THE INPUT: true; the input reads as it did. -/
def planAddrsSpec : ChangeSpec := { name := "planAddrs", fn := fun _ => fun
  | [d1, d2] => { results := [.lit (.bool true)], args := [d1, d2] }
  | _ => none }
def planAddrsRow : OpenClaim := { program := "ytkeeajiikfddgaadoor", sum := "a8749c54659fdf5baafb7b4cba8d78f5e42a0f62bd5c5fc6354abc49c3375741", func := "undertow/undertowlaw05.PlanAddrs", spec := "planAddrs", named := ["undertow/plan.bounds"], apart := false, laid := [("undertow/plan.bounds", laid_undertow_plan_bounds)] }
def PlanAddrsSaid : Prop := planAddrsRow.holds Tryd.pinned (OpenSpec.ofChange planAddrsSpec)

/-- ITS FALSE NEIGHBOUR: 'it returns false'. Refute it at one input. -/
def planAddrsWrong : ChangeSpec := { name := "planAddrs", fn := fun _ => fun
  | [d1, d2] => { results := [.lit (.bool false)], args := [d1, d2] }
  | _ => none }
def PlanAddrsWrongFalsely : Prop := planAddrsRow.holds Tryd.pinned (OpenSpec.ofChange planAddrsWrong)

/-- 'undertowlaw05.PlanParts': WHATEVER THE INPUT: true; the input reads as it did. -/
def planPartsSpec : ChangeSpec := { name := "planParts", fn := fun _ => fun
  | [d] => { results := [.lit (.bool true)], args := [d] }
  | _ => none }
def planPartsRow : OpenClaim := { program := "ytkeeajiikfddgaadoor", sum := "a8749c54659fdf5baafb7b4cba8d78f5e42a0f62bd5c5fc6354abc49c3375741", func := "undertow/undertowlaw05.PlanParts", spec := "planParts", named := ["undertow/plan.bounds"], apart := false, laid := [("undertow/plan.bounds", laid_undertow_plan_bounds)] }
def PlanPartsSaid : Prop := planPartsRow.holds Tryd.pinned (OpenSpec.ofChange planPartsSpec)

/-- ITS FALSE NEIGHBOUR: 'it returns false'. Refute it at one input. -/
def planPartsWrong : ChangeSpec := { name := "planParts", fn := fun _ => fun
  | [d] => { results := [.lit (.bool false)], args := [d] }
  | _ => none }
def PlanPartsWrongFalsely : Prop := planPartsRow.holds Tryd.pinned (OpenSpec.ofChange planPartsWrong)

/-- 'undertowlaw05.PlanBack': WHATEVER THE INPUT: true; the input reads as it did. -/
def planBackSpec : ChangeSpec := { name := "planBack", fn := fun _ => fun
  | [d1, d2, d3] => { results := [.lit (.bool true)], args := [d1, d2, d3] }
  | _ => none }
def planBackRow : OpenClaim := { program := "ytkeeajiikfddgaadoor", sum := "a8749c54659fdf5baafb7b4cba8d78f5e42a0f62bd5c5fc6354abc49c3375741", func := "undertow/undertowlaw05.PlanBack", spec := "planBack", named := ["undertow/plan.bounds"], apart := false, laid := [("undertow/plan.bounds", laid_undertow_plan_bounds)] }
def PlanBackSaid : Prop := planBackRow.holds Tryd.pinned (OpenSpec.ofChange planBackSpec)

/-- ITS FALSE NEIGHBOUR: 'it returns false'. Refute it at one input. -/
def planBackWrong : ChangeSpec := { name := "planBack", fn := fun _ => fun
  | [d1, d2, d3] => { results := [.lit (.bool false)], args := [d1, d2, d3] }
  | _ => none }
def PlanBackWrongFalsely : Prop := planBackRow.holds Tryd.pinned (OpenSpec.ofChange planBackWrong)

/-- 'undertowlaw05.PlanSets': WHATEVER THE INPUT: true; the input reads as it did. -/
def planSetsSpec : ChangeSpec := { name := "planSets", fn := fun _ => fun
  | [d1, d2] => { results := [.lit (.bool true)], args := [d1, d2] }
  | _ => none }
def planSetsRow : OpenClaim := { program := "ytkeeajiikfddgaadoor", sum := "a8749c54659fdf5baafb7b4cba8d78f5e42a0f62bd5c5fc6354abc49c3375741", func := "undertow/undertowlaw05.PlanSets", spec := "planSets", named := ["undertow/plan.bounds"], apart := false, laid := [("undertow/plan.bounds", laid_undertow_plan_bounds)] }
def PlanSetsSaid : Prop := planSetsRow.holds Tryd.pinned (OpenSpec.ofChange planSetsSpec)

/-- ITS FALSE NEIGHBOUR: 'it returns false'. Refute it at one input. -/
def planSetsWrong : ChangeSpec := { name := "planSets", fn := fun _ => fun
  | [d1, d2] => { results := [.lit (.bool false)], args := [d1, d2] }
  | _ => none }
def PlanSetsWrongFalsely : Prop := planSetsRow.holds Tryd.pinned (OpenSpec.ofChange planSetsWrong)

/- THE SECOND FORM. 'bulk': how many values and letters a reading holds, each counted each time it is reached (what is shared counts as often as it is met; a slice's spare places count too). A statement '..UptoSaid' is the law's where the arguments, and the package variables that the reading takes, are together of bulk at most 1048576: NARROWER than '..Said'. Prove '..Said' where nothing that the law and all that it calls make is longer than what came in: it says more and counts as full. Else prove '..UptoSaid'. A law counts once. -/
mutual
def uptoBulk {H : Type} : DataW H → Nat
  | .lit (.string bytes) => bytes.length + 1
  | .lit _ => 1
  | .nil => 1
  | .ptr d => uptoBulk d + 1
  | .slice elems spare => uptoBulkAll elems + uptoBulkAll spare + 1
  | .agg parts => uptoBulkAll parts + 1
  | .iface _ d => uptoBulk d + 1
  | .map entries => uptoBulkEntries entries + 1
  | .held _ => 1
def uptoBulkAll {H : Type} : List (DataW H) → Nat
  | [] => 0
  | d :: r => uptoBulk d + uptoBulkAll r
def uptoBulkEntries {H : Type} : List (Lit × DataW H) → Nat
  | [] => 0
  | x :: r => uptoBulkEntry x + uptoBulkEntries r
def uptoBulkEntry {H : Type} : Lit × DataW H → Nat
  | (.string bytes, d) => bytes.length + uptoBulk d + 1
  | (_, d) => uptoBulk d + 1
 end
def uptoSmall : (H : Type) → List (DataW H) → Bool := fun _ ds => decide (uptoBulkAll ds ≤ 1048576)
def OpenSpec.upto (s : _root_.Go.ChangeSpec) : _root_.Go.OpenSpec := { _root_.Go.OpenSpec.ofChange s with cond := some uptoSmall }

/-- 'undertowlaw05.PlanKnown', WHERE WHAT IT READS IS OF BULK AT MOST 1048576: true; the input reads as it did. -/
def planKnownUptoRow : OpenClaim := { program := "ytkeeajiikfddgaadoor", sum := "a8749c54659fdf5baafb7b4cba8d78f5e42a0f62bd5c5fc6354abc49c3375741", func := "undertow/undertowlaw05.PlanKnown", spec := "planKnown", named := ["undertow/plan.bounds"], apart := false, laid := [("undertow/plan.bounds", laid_undertow_plan_bounds)], narrowed := true }
def PlanKnownUptoSaid : Prop := planKnownUptoRow.holds Tryd.pinned (OpenSpec.upto planKnownSpec)

/-- 'undertowlaw05.PlanMay', WHERE WHAT IT READS IS OF BULK AT MOST 1048576: true; the input reads as it did. -/
def planMayUptoRow : OpenClaim := { program := "ytkeeajiikfddgaadoor", sum := "a8749c54659fdf5baafb7b4cba8d78f5e42a0f62bd5c5fc6354abc49c3375741", func := "undertow/undertowlaw05.PlanMay", spec := "planMay", named := ["undertow/plan.bounds"], apart := false, laid := [("undertow/plan.bounds", laid_undertow_plan_bounds)], narrowed := true }
def PlanMayUptoSaid : Prop := planMayUptoRow.holds Tryd.pinned (OpenSpec.upto planMaySpec)

/-- 'undertowlaw05.PlanWhere', WHERE WHAT IT READS IS OF BULK AT MOST 1048576: true; the input reads as it did. -/
def planWhereUptoRow : OpenClaim := { program := "ytkeeajiikfddgaadoor", sum := "a8749c54659fdf5baafb7b4cba8d78f5e42a0f62bd5c5fc6354abc49c3375741", func := "undertow/undertowlaw05.PlanWhere", spec := "planWhere", named := ["undertow/plan.bounds"], apart := false, laid := [("undertow/plan.bounds", laid_undertow_plan_bounds)], narrowed := true }
def PlanWhereUptoSaid : Prop := planWhereUptoRow.holds Tryd.pinned (OpenSpec.upto planWhereSpec)

/-- 'undertowlaw05.PlanAddrs', WHERE WHAT IT READS IS OF BULK AT MOST 1048576: true; the input reads as it did. -/
def planAddrsUptoRow : OpenClaim := { program := "ytkeeajiikfddgaadoor", sum := "a8749c54659fdf5baafb7b4cba8d78f5e42a0f62bd5c5fc6354abc49c3375741", func := "undertow/undertowlaw05.PlanAddrs", spec := "planAddrs", named := ["undertow/plan.bounds"], apart := false, laid := [("undertow/plan.bounds", laid_undertow_plan_bounds)], narrowed := true }
def PlanAddrsUptoSaid : Prop := planAddrsUptoRow.holds Tryd.pinned (OpenSpec.upto planAddrsSpec)

/-- 'undertowlaw05.PlanParts', WHERE WHAT IT READS IS OF BULK AT MOST 1048576: true; the input reads as it did. -/
def planPartsUptoRow : OpenClaim := { program := "ytkeeajiikfddgaadoor", sum := "a8749c54659fdf5baafb7b4cba8d78f5e42a0f62bd5c5fc6354abc49c3375741", func := "undertow/undertowlaw05.PlanParts", spec := "planParts", named := ["undertow/plan.bounds"], apart := false, laid := [("undertow/plan.bounds", laid_undertow_plan_bounds)], narrowed := true }
def PlanPartsUptoSaid : Prop := planPartsUptoRow.holds Tryd.pinned (OpenSpec.upto planPartsSpec)

/-- 'undertowlaw05.PlanBack', WHERE WHAT IT READS IS OF BULK AT MOST 1048576: true; the input reads as it did. -/
def planBackUptoRow : OpenClaim := { program := "ytkeeajiikfddgaadoor", sum := "a8749c54659fdf5baafb7b4cba8d78f5e42a0f62bd5c5fc6354abc49c3375741", func := "undertow/undertowlaw05.PlanBack", spec := "planBack", named := ["undertow/plan.bounds"], apart := false, laid := [("undertow/plan.bounds", laid_undertow_plan_bounds)], narrowed := true }
def PlanBackUptoSaid : Prop := planBackUptoRow.holds Tryd.pinned (OpenSpec.upto planBackSpec)

/-- 'undertowlaw05.PlanSets', WHERE WHAT IT READS IS OF BULK AT MOST 1048576: true; the input reads as it did. -/
def planSetsUptoRow : OpenClaim := { program := "ytkeeajiikfddgaadoor", sum := "a8749c54659fdf5baafb7b4cba8d78f5e42a0f62bd5c5fc6354abc49c3375741", func := "undertow/undertowlaw05.PlanSets", spec := "planSets", named := ["undertow/plan.bounds"], apart := false, laid := [("undertow/plan.bounds", laid_undertow_plan_bounds)], narrowed := true }
def PlanSetsUptoSaid : Prop := planSetsUptoRow.holds Tryd.pinned (OpenSpec.upto planSetsSpec)

end Rows
end Go.Proofs.YtkeeajiikfddgaaDoor
