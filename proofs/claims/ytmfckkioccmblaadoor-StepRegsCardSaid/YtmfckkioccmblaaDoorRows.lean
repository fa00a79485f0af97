/-
  NARROWER THAN 'FOR EVERY INPUT', by the rows' own cells (each row's printed sentence says how): StepKnown: laid · StepDoes: laid · StepRegs: laid · StepOne: laid · StepGoes: laid.
  DERIVED. THE GIVEN ROWS OF THIS SEAT. 5 by the template 'for every input the law returns true; each argument reads behind the call as it read before'; 0 by the template 'total and deterministic' (their statements: YtmfckkioccmblaaDoorTotals.lean).
  GIVEN WITH THE SEED: the statements are not yours to turn. If you find one false, say at which input.
  Laid BY PROGRAM, IN A SANDBOX (cutbox-rows.mjs): the forced cells as the released guide's own fill.sh prints them over the translation 2079e0657377932d… (all of the seat's roots in one cut). By AI agents, Wed Nov 11 2026. No macro, syntax, notation, axiom, sorry.
-/
import Derived.Test.YtmfckkioccmblaaDoorChecked
import GoSem.Claim
import GoSem.ClaimJoined
import GoSem.ClaimMapViews
import Derived.JoinedTies
import Derived.KernelRfl
namespace Go.Proofs.YtmfckkioccmblaaDoor
/- THE CELL 'sum', in the pinned program and in every row, IS THE sha256 OF THE DUMP (.gsa) THAT YtmfckkioccmblaaDoorProg.lean LOADS. Nothing in Lean hashes anything: it is a label: what it is worth is what the hold of that sum in a sandbox is worth. -/
noncomputable def Tryd.pinned : Pinned := { name := "ytmfckkioccmblaadoor", sum := "2079e0657377932dc48e20a851ea1982cb1096721275102a233c31a4e8a9a381", checked := Tryd.checked }
namespace Rows
def none {H : Type} : Left H := { results := [], args := [] }

/- WHAT THE LISTED PACKAGE-LEVEL VARIABLES READ AS WHEN THE CALL BEGINS. Each datum BY PROGRAM (the guide's laid-datum.mjs) off the statement by which the dump's own 'gosem.cut.vars' lays the variable. In a bare row this is a premise. The card (YtmfckkioccmblaaDoorCards.lean) ties it to the program's text. -/
def laid_undertow_code_forms {H : Type} : DataW H := .agg [.lit (.int .u8 0), .lit (.int .u8 1), .lit (.int .u8 1), .lit (.int .u8 1), .lit (.int .u8 1), .lit (.int .u8 1), .lit (.int .u8 1), .lit (.int .u8 1), .lit (.int .u8 2), .lit (.int .u8 2), .lit (.int .u8 2), .lit (.int .u8 1), .lit (.int .u8 3), .lit (.int .u8 2), .lit (.int .u8 2), .lit (.int .u8 2), .lit (.int .u8 4), .lit (.int .u8 4), .lit (.int .u8 0), .lit (.int .u8 5), .lit (.int .u8 6), .lit (.int .u8 0)]
def laid_undertow_code_uses {H : Type} : DataW H := .agg [.agg [.agg [.lit (.int .i64 0), .lit (.int .i64 0)], .agg [.lit (.int .i64 0), .lit (.int .i64 0)], .agg [.lit (.int .i64 0), .lit (.int .i64 0)], .agg [.lit (.int .i64 0), .lit (.int .i64 0)]], .agg [.agg [.lit (.int .i64 0), .lit (.int .i64 15)], .agg [.lit (.int .i64 0), .lit (.int .i64 15)], .agg [.lit (.int .i64 0), .lit (.int .i64 15)], .agg [.lit (.int .i64 0), .lit (.int .i64 0)]], .agg [.agg [.lit (.int .i64 0), .lit (.int .i64 15)], .agg [.lit (.int .i64 0), .lit (.int .i64 15)], .agg [.lit (.int .i64 0), .lit (.int .i64 0)], .agg [.lit (.int .i64 (-8192)), .lit (.int .i64 8191)]], .agg [.agg [.lit (.int .i64 0), .lit (.int .i64 15)], .agg [.lit (.int .i64 0), .lit (.int .i64 0)], .agg [.lit (.int .i64 0), .lit (.int .i64 0)], .agg [.lit (.int .i64 (-2097152)), .lit (.int .i64 2097151)]], .agg [.agg [.lit (.int .i64 0), .lit (.int .i64 0)], .agg [.lit (.int .i64 0), .lit (.int .i64 0)], .agg [.lit (.int .i64 0), .lit (.int .i64 0)], .agg [.lit (.int .i64 (-2097152)), .lit (.int .i64 2097151)]], .agg [.agg [.lit (.int .i64 0), .lit (.int .i64 0)], .agg [.lit (.int .i64 0), .lit (.int .i64 0)], .agg [.lit (.int .i64 0), .lit (.int .i64 0)], .agg [.lit (.int .i64 0), .lit (.int .i64 255)]], .agg [.agg [.lit (.int .i64 0), .lit (.int .i64 15)], .agg [.lit (.int .i64 0), .lit (.int .i64 0)], .agg [.lit (.int .i64 0), .lit (.int .i64 0)], .agg [.lit (.int .i64 0), .lit (.int .i64 0)]]]

/-- 'undertowlaw19.StepKnown': WHATEVER THE INPUT: true; the input reads as it did. -/
def stepKnownSpec : ChangeSpec := { name := "stepKnown", fn := fun _ => fun
  | [] => { results := [.lit (.bool true)], args := [] }
  | _ => none }
def stepKnownRow : OpenClaim := { program := "ytmfckkioccmblaadoor", sum := "2079e0657377932dc48e20a851ea1982cb1096721275102a233c31a4e8a9a381", func := "undertow/undertowlaw19.StepKnown", spec := "stepKnown", unfollowed := true, recurses := true, named := ["undertow/code.forms", "undertow/code.uses"], apart := false, laid := [("undertow/code.forms", laid_undertow_code_forms), ("undertow/code.uses", laid_undertow_code_uses)] }
def StepKnownSaid : Prop := stepKnownRow.holds Tryd.pinned (OpenSpec.ofChange stepKnownSpec)

/-- ITS FALSE NEIGHBOUR: 'it returns false'. Refute it at one input. -/
def stepKnownWrong : ChangeSpec := { name := "stepKnown", fn := fun _ => fun
  | [] => { results := [.lit (.bool false)], args := [] }
  | _ => none }
def StepKnownWrongFalsely : Prop := stepKnownRow.holds Tryd.pinned (OpenSpec.ofChange stepKnownWrong)

/-- 'undertowlaw19.StepDoes': WHATEVER THE INPUT: true; the input reads as it did. -/
def stepDoesSpec : ChangeSpec := { name := "stepDoes", fn := fun _ => fun
  | [d1, d2, d3] => { results := [.lit (.bool true)], args := [d1, d2, d3] }
  | _ => none }
def stepDoesRow : OpenClaim := { program := "ytmfckkioccmblaadoor", sum := "2079e0657377932dc48e20a851ea1982cb1096721275102a233c31a4e8a9a381", func := "undertow/undertowlaw19.StepDoes", spec := "stepDoes", unfollowed := true, recurses := true, named := ["undertow/code.forms", "undertow/code.uses"], apart := false, laid := [("undertow/code.forms", laid_undertow_code_forms), ("undertow/code.uses", laid_undertow_code_uses)] }
def StepDoesSaid : Prop := stepDoesRow.holds Tryd.pinned (OpenSpec.ofChange stepDoesSpec)

/-- ITS FALSE NEIGHBOUR: 'it returns false'. Refute it at one input. -/
def stepDoesWrong : ChangeSpec := { name := "stepDoes", fn := fun _ => fun
  | [d1, d2, d3] => { results := [.lit (.bool false)], args := [d1, d2, d3] }
  | _ => none }
def StepDoesWrongFalsely : Prop := stepDoesRow.holds Tryd.pinned (OpenSpec.ofChange stepDoesWrong)

/-- 'undertowlaw19.StepRegs': WHATEVER THE INPUT: true; the input reads as it did. -/
def stepRegsSpec : ChangeSpec := { name := "stepRegs", fn := fun _ => fun
  | [d1, d2, d3, d4] => { results := [.lit (.bool true)], args := [d1, d2, d3, d4] }
  | _ => none }
def stepRegsRow : OpenClaim := { program := "ytmfckkioccmblaadoor", sum := "2079e0657377932dc48e20a851ea1982cb1096721275102a233c31a4e8a9a381", func := "undertow/undertowlaw19.StepRegs", spec := "stepRegs", unfollowed := true, recurses := true, named := ["undertow/code.forms", "undertow/code.uses"], apart := false, laid := [("undertow/code.forms", laid_undertow_code_forms), ("undertow/code.uses", laid_undertow_code_uses)] }
def StepRegsSaid : Prop := stepRegsRow.holds Tryd.pinned (OpenSpec.ofChange stepRegsSpec)

/-- ITS FALSE NEIGHBOUR: 'it returns false'. Refute it at one input. -/
def stepRegsWrong : ChangeSpec := { name := "stepRegs", fn := fun _ => fun
  | [d1, d2, d3, d4] => { results := [.lit (.bool false)], args := [d1, d2, d3, d4] }
  | _ => none }
def StepRegsWrongFalsely : Prop := stepRegsRow.holds Tryd.pinned (OpenSpec.ofChange stepRegsWrong)

/-- 'undertowlaw19.StepOne': WHATEVER THE INPUT: true; the input reads as it did. -/
def stepOneSpec : ChangeSpec := { name := "stepOne", fn := fun _ => fun
  | [d1, d2, d3] => { results := [.lit (.bool true)], args := [d1, d2, d3] }
  | _ => none }
def stepOneRow : OpenClaim := { program := "ytmfckkioccmblaadoor", sum := "2079e0657377932dc48e20a851ea1982cb1096721275102a233c31a4e8a9a381", func := "undertow/undertowlaw19.StepOne", spec := "stepOne", unfollowed := true, recurses := true, named := ["undertow/code.forms", "undertow/code.uses"], apart := false, laid := [("undertow/code.forms", laid_undertow_code_forms), ("undertow/code.uses", laid_undertow_code_uses)] }
def StepOneSaid : Prop := stepOneRow.holds Tryd.pinned (OpenSpec.ofChange stepOneSpec)

/-- ITS FALSE NEIGHBOUR: 'it returns false'. Refute it at one input. -/
def stepOneWrong : ChangeSpec := { name := "stepOne", fn := fun _ => fun
  | [d1, d2, d3] => { results := [.lit (.bool false)], args := [d1, d2, d3] }
  | _ => none }
def StepOneWrongFalsely : Prop := stepOneRow.holds Tryd.pinned (OpenSpec.ofChange stepOneWrong)

/-- 'undertowlaw19.StepGoes': WHATEVER THE INPUT: true; the input reads as it did. -/
def stepGoesSpec : ChangeSpec := { name := "stepGoes", fn := fun _ => fun
  | [d1, d2, d3] => { results := [.lit (.bool true)], args := [d1, d2, d3] }
  | _ => none }
def stepGoesRow : OpenClaim := { program := "ytmfckkioccmblaadoor", sum := "2079e0657377932dc48e20a851ea1982cb1096721275102a233c31a4e8a9a381", func := "undertow/undertowlaw19.StepGoes", spec := "stepGoes", unfollowed := true, recurses := true, named := ["undertow/code.forms", "undertow/code.uses"], apart := false, laid := [("undertow/code.forms", laid_undertow_code_forms), ("undertow/code.uses", laid_undertow_code_uses)] }
def StepGoesSaid : Prop := stepGoesRow.holds Tryd.pinned (OpenSpec.ofChange stepGoesSpec)

/-- ITS FALSE NEIGHBOUR: 'it returns false'. Refute it at one input. -/
def stepGoesWrong : ChangeSpec := { name := "stepGoes", fn := fun _ => fun
  | [d1, d2, d3] => { results := [.lit (.bool false)], args := [d1, d2, d3] }
  | _ => none }
def StepGoesWrongFalsely : Prop := stepGoesRow.holds Tryd.pinned (OpenSpec.ofChange stepGoesWrong)

/- THE SECOND FORM. 'bulk': how many values and letters a reading holds, each counted each time it is reached (what is shared counts as often as it is met; a slice's spare places count too). A statement '..UptoSaid' is the law's where the arguments, and the package variables that the reading takes, are together of bulk at most 1048576: NARROWER than '..Said'. Prove '..Said' where nothing that the law and all that it calls make is longer than what came in: it says more and counts as full. Else prove '..UptoSaid'. A law counts once. -/
mutual
def uptoBulk {H : Type} : DataW H → Nat
  | .lit (.string bytes) => bytes.length + 1
  | .lit _ => 1
  | .nil => 1
  | .ptr d => uptoBulk d + 1
  | .slice elems spare => uptoBulkAll elems + uptoBulkAll spare + 1
  | .agg parts => uptoBulkAll parts + 1
  | .iface _ d => uptoBulk d + 1
  | .map entries => uptoBulkEntries entries + 1
  | .held _ => 1
def uptoBulkAll {H : Type} : List (DataW H) → Nat
  | [] => 0
  | d :: r => uptoBulk d + uptoBulkAll r
def uptoBulkEntries {H : Type} : List (Lit × DataW H) → Nat
  | [] => 0
  | x :: r => uptoBulkEntry x + uptoBulkEntries r
def uptoBulkEntry {H : Type} : Lit × DataW H → Nat
  | (.string bytes, d) => bytes.length + uptoBulk d + 1
  | (_, d) => uptoBulk d + 1
 end
def uptoSmall : (H : Type) → List (DataW H) → Bool := fun _ ds => decide (uptoBulkAll ds ≤ 1048576)
def OpenSpec.upto (s : _root_.Go.ChangeSpec) : _root_.Go.OpenSpec := { _root_.Go.OpenSpec.ofChange s with cond := some uptoSmall }

/-- 'undertowlaw19.StepKnown', WHERE WHAT IT READS IS OF BULK AT MOST 1048576: true; the input reads as it did. -/
def stepKnownUptoRow : OpenClaim := { program := "ytmfckkioccmblaadoor", sum := "2079e0657377932dc48e20a851ea1982cb1096721275102a233c31a4e8a9a381", func := "undertow/undertowlaw19.StepKnown", spec := "stepKnown", unfollowed := true, recurses := true, named := ["undertow/code.forms", "undertow/code.uses"], apart := false, laid := [("undertow/code.forms", laid_undertow_code_forms), ("undertow/code.uses", laid_undertow_code_uses)], narrowed := true }
def StepKnownUptoSaid : Prop := stepKnownUptoRow.holds Tryd.pinned (OpenSpec.upto stepKnownSpec)

/-- 'undertowlaw19.StepDoes', WHERE WHAT IT READS IS OF BULK AT MOST 1048576: true; the input reads as it did. -/
def stepDoesUptoRow : OpenClaim := { program := "ytmfckkioccmblaadoor", sum := "2079e0657377932dc48e20a851ea1982cb1096721275102a233c31a4e8a9a381", func := "undertow/undertowlaw19.StepDoes", spec := "stepDoes", unfollowed := true, recurses := true, named := ["undertow/code.forms", "undertow/code.uses"], apart := false, laid := [("undertow/code.forms", laid_undertow_code_forms), ("undertow/code.uses", laid_undertow_code_uses)], narrowed := true }
def StepDoesUptoSaid : Prop := stepDoesUptoRow.holds Tryd.pinned (OpenSpec.upto stepDoesSpec)

/-- 'undertowlaw19.StepRegs', WHERE WHAT IT READS IS OF BULK AT MOST 1048576: true; the input reads as it did. -/
def stepRegsUptoRow : OpenClaim := { program := "ytmfckkioccmblaadoor", sum := "2079e0657377932dc48e20a851ea1982cb1096721275102a233c31a4e8a9a381", func := "undertow/undertowlaw19.StepRegs", spec := "stepRegs", unfollowed := true, recurses := true, named := ["undertow/code.forms", "undertow/code.uses"], apart := false, laid := [("undertow/code.forms", laid_undertow_code_forms), ("undertow/code.uses", laid_undertow_code_uses)], narrowed := true }
def StepRegsUptoSaid : Prop := stepRegsUptoRow.holds Tryd.pinned (OpenSpec.upto stepRegsSpec)

/-- 'undertowlaw19.StepOne', WHERE WHAT IT READS IS OF BULK AT MOST 1048576: true; the input reads as it did. -/
def stepOneUptoRow : OpenClaim := { program := "ytmfckkioccmblaadoor", sum := "2079e0657377932dc48e20a851ea1982cb1096721275102a233c31a4e8a9a381", func := "undertow/undertowlaw19.StepOne", spec := "stepOne", unfollowed := true, recurses := true, named := ["undertow/code.forms", "undertow/code.uses"], apart := false, laid := [("undertow/code.forms", laid_undertow_code_forms), ("undertow/code.uses", laid_undertow_code_uses)], narrowed := true }
def StepOneUptoSaid : Prop := stepOneUptoRow.holds Tryd.pinned (OpenSpec.upto stepOneSpec)

/-- 'undertowlaw19.StepGoes', WHERE WHAT IT READS IS OF BULK AT MOST 1048576: true; the input reads as it did. -/
def stepGoesUptoRow : OpenClaim := { program := "ytmfckkioccmblaadoor", sum := "2079e0657377932dc48e20a851ea1982cb1096721275102a233c31a4e8a9a381", func := "undertow/undertowlaw19.StepGoes", spec := "stepGoes", unfollowed := true, recurses := true, named := ["undertow/code.forms", "undertow/code.uses"], apart := false, laid := [("undertow/code.forms", laid_undertow_code_forms), ("undertow/code.uses", laid_undertow_code_uses)], narrowed := true }
def StepGoesUptoSaid : Prop := stepGoesUptoRow.holds Tryd.pinned (OpenSpec.upto stepGoesSpec)

end Rows
end Go.Proofs.YtmfckkioccmblaaDoor
