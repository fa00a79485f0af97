/-
  NARROWER THAN 'FOR EVERY INPUT', by the rows' own cells (each row's printed sentence says how): NearKnown: laid · NearPlays: laid · NearKeeps: laid · NearTells: laid · NearAsks: laid.
  DERIVED. THE GIVEN ROWS OF THIS SEAT. 5 by the template 'for every input the law returns true; each argument reads behind the call as it read before'; 0 by the template 'total and deterministic' (their statements: YtcoimipgilkmbaaGreatDoorTotals.lean).
  GIVEN WITH THE SEED: the statements are not yours to turn. If you find one false, say at which input.
  Laid BY PROGRAM, IN A SANDBOX (cutbox-rows.mjs): the forced cells as the released guide's own fill.sh prints them over the translation 3975c88e491b8dfb… (all of the seat's roots in one cut). By AI agents, Wed Nov 11 2026. No macro, syntax, notation, axiom, sorry.
-/
import Derived.Test.YtcoimipgilkmbaaGreatDoorChecked
import GoSem.Claim
import GoSem.ClaimJoined
import GoSem.ClaimMapViews
import Derived.JoinedTies
import Derived.KernelRfl
namespace Go.Proofs.YtcoimipgilkmbaaGreatDoor
/- THE CELL 'sum', in the pinned program and in every row, IS THE sha256 OF THE DUMP (.gsa) THAT YtcoimipgilkmbaaGreatDoorProg.lean LOADS. Nothing in Lean hashes anything: it is a label: what it is worth is what the hold of that sum in a sandbox is worth. -/
noncomputable def Tryz.pinned : Pinned := { name := "ytcoimipgilkmbaagreatdoor", sum := "3975c88e491b8dfb85295c3a0d946ce70955142f728132999c26c5dd290234ff", checked := Tryz.checked }
namespace Rows
def none {H : Type} : Left H := { results := [], args := [] }

/- WHAT THE LISTED PACKAGE-LEVEL VARIABLES READ AS WHEN THE CALL BEGINS. Each datum BY PROGRAM (the guide's laid-datum.mjs) off the statement by which the dump's own 'gosem.cut.vars' lays the variable. In a bare row this is a premise. The card (YtcoimipgilkmbaaGreatDoorCards.lean) ties it to the program's text. -/
def laid_undertow_note_kinds {H : Type} : DataW H := .agg [.lit (.int .u8 0), .lit (.int .u8 3), .lit (.int .u8 3), .lit (.int .u8 25), .lit (.int .u8 2), .lit (.int .u8 2), .lit (.int .u8 20), .lit (.int .u8 2), .lit (.int .u8 0), .lit (.int .u8 33), .lit (.int .u8 3), .lit (.int .u8 1)]
def laid_undertow_plan_bounds {H : Type} : DataW H := .agg [.agg [.lit (.int .i64 1), .lit (.int .i64 16), .lit (.bool false)], .agg [.lit (.int .i64 1), .lit (.int .i64 16), .lit (.bool true)], .agg [.lit (.int .i64 1), .lit (.int .i64 4), .lit (.bool true)], .agg [.lit (.int .i64 1), .lit (.int .i64 256), .lit (.bool false)], .agg [.lit (.int .i64 1), .lit (.int .i64 4), .lit (.bool false)], .agg [.lit (.int .i64 1), .lit (.int .i64 4), .lit (.bool false)], .agg [.lit (.int .i64 1), .lit (.int .i64 8), .lit (.bool false)], .agg [.lit (.int .i64 0), .lit (.int .i64 8), .lit (.bool false)]]

/-- 'undertowlaw17.NearKnown': WHATEVER THE INPUT: true; the input reads as it did. -/
def nearKnownSpec : ChangeSpec := { name := "nearKnown", fn := fun _ => fun
  | [] => { results := [.lit (.bool true)], args := [] }
  | _ => none }
def nearKnownRow : OpenClaim := { program := "ytcoimipgilkmbaagreatdoor", sum := "3975c88e491b8dfb85295c3a0d946ce70955142f728132999c26c5dd290234ff", func := "undertow/undertowlaw17.NearKnown", spec := "nearKnown", inPlace := ["maps.clone"], unfollowed := true, recurses := true, named := ["undertow/plan.bounds", "undertow/note.kinds"], apart := false, laid := [("undertow/note.kinds", laid_undertow_note_kinds), ("undertow/plan.bounds", laid_undertow_plan_bounds)] }
def NearKnownSaid : Prop := nearKnownRow.holds Tryz.pinned (OpenSpec.ofChange nearKnownSpec)

/-- ITS FALSE NEIGHBOUR: 'it returns false'. Refute it at one input. -/
def nearKnownWrong : ChangeSpec := { name := "nearKnown", fn := fun _ => fun
  | [] => { results := [.lit (.bool false)], args := [] }
  | _ => none }
def NearKnownWrongFalsely : Prop := nearKnownRow.holds Tryz.pinned (OpenSpec.ofChange nearKnownWrong)

/-- 'undertowlaw17.NearPlays': WHATEVER THE INPUT: true; the input reads as it did. -/
def nearPlaysSpec : ChangeSpec := { name := "nearPlays", fn := fun _ => fun
  | [d1, d2, d3] => { results := [.lit (.bool true)], args := [d1, d2, d3] }
  | _ => none }
def nearPlaysRow : OpenClaim := { program := "ytcoimipgilkmbaagreatdoor", sum := "3975c88e491b8dfb85295c3a0d946ce70955142f728132999c26c5dd290234ff", func := "undertow/undertowlaw17.NearPlays", spec := "nearPlays", inPlace := ["maps.clone"], unfollowed := true, recurses := true, named := ["undertow/plan.bounds", "undertow/note.kinds"], apart := false, laid := [("undertow/note.kinds", laid_undertow_note_kinds), ("undertow/plan.bounds", laid_undertow_plan_bounds)] }
def NearPlaysSaid : Prop := nearPlaysRow.holds Tryz.pinned (OpenSpec.ofChange nearPlaysSpec)

/-- ITS FALSE NEIGHBOUR: 'it returns false'. Refute it at one input. -/
def nearPlaysWrong : ChangeSpec := { name := "nearPlays", fn := fun _ => fun
  | [d1, d2, d3] => { results := [.lit (.bool false)], args := [d1, d2, d3] }
  | _ => none }
def NearPlaysWrongFalsely : Prop := nearPlaysRow.holds Tryz.pinned (OpenSpec.ofChange nearPlaysWrong)

/-- 'undertowlaw17.NearKeeps': WHATEVER THE INPUT: true; the input reads as it did. -/
def nearKeepsSpec : ChangeSpec := { name := "nearKeeps", fn := fun _ => fun
  | [d1, d2, d3] => { results := [.lit (.bool true)], args := [d1, d2, d3] }
  | _ => none }
def nearKeepsRow : OpenClaim := { program := "ytcoimipgilkmbaagreatdoor", sum := "3975c88e491b8dfb85295c3a0d946ce70955142f728132999c26c5dd290234ff", func := "undertow/undertowlaw17.NearKeeps", spec := "nearKeeps", unfollowed := true, recurses := true, named := ["undertow/plan.bounds", "undertow/note.kinds"], apart := false, laid := [("undertow/note.kinds", laid_undertow_note_kinds), ("undertow/plan.bounds", laid_undertow_plan_bounds)] }
def NearKeepsSaid : Prop := nearKeepsRow.holds Tryz.pinned (OpenSpec.ofChange nearKeepsSpec)

/-- ITS FALSE NEIGHBOUR: 'it returns false'. Refute it at one input. -/
def nearKeepsWrong : ChangeSpec := { name := "nearKeeps", fn := fun _ => fun
  | [d1, d2, d3] => { results := [.lit (.bool false)], args := [d1, d2, d3] }
  | _ => none }
def NearKeepsWrongFalsely : Prop := nearKeepsRow.holds Tryz.pinned (OpenSpec.ofChange nearKeepsWrong)

/-- 'undertowlaw17.NearTells': WHATEVER THE INPUT: true; the input reads as it did. -/
def nearTellsSpec : ChangeSpec := { name := "nearTells", fn := fun _ => fun
  | [d1, d2, d3] => { results := [.lit (.bool true)], args := [d1, d2, d3] }
  | _ => none }
def nearTellsRow : OpenClaim := { program := "ytcoimipgilkmbaagreatdoor", sum := "3975c88e491b8dfb85295c3a0d946ce70955142f728132999c26c5dd290234ff", func := "undertow/undertowlaw17.NearTells", spec := "nearTells", unfollowed := true, recurses := true, named := ["undertow/plan.bounds", "undertow/note.kinds"], apart := false, laid := [("undertow/note.kinds", laid_undertow_note_kinds), ("undertow/plan.bounds", laid_undertow_plan_bounds)] }
def NearTellsSaid : Prop := nearTellsRow.holds Tryz.pinned (OpenSpec.ofChange nearTellsSpec)

/-- ITS FALSE NEIGHBOUR: 'it returns false'. Refute it at one input. -/
def nearTellsWrong : ChangeSpec := { name := "nearTells", fn := fun _ => fun
  | [d1, d2, d3] => { results := [.lit (.bool false)], args := [d1, d2, d3] }
  | _ => none }
def NearTellsWrongFalsely : Prop := nearTellsRow.holds Tryz.pinned (OpenSpec.ofChange nearTellsWrong)

/-- 'undertowlaw17.NearAsks': WHATEVER THE INPUT: true; the input reads as it did. -/
def nearAsksSpec : ChangeSpec := { name := "nearAsks", fn := fun _ => fun
  | [d1, d2, d3] => { results := [.lit (.bool true)], args := [d1, d2, d3] }
  | _ => none }
def nearAsksRow : OpenClaim := { program := "ytcoimipgilkmbaagreatdoor", sum := "3975c88e491b8dfb85295c3a0d946ce70955142f728132999c26c5dd290234ff", func := "undertow/undertowlaw17.NearAsks", spec := "nearAsks", unfollowed := true, recurses := true, named := ["undertow/plan.bounds", "undertow/note.kinds"], apart := false, laid := [("undertow/note.kinds", laid_undertow_note_kinds), ("undertow/plan.bounds", laid_undertow_plan_bounds)] }
def NearAsksSaid : Prop := nearAsksRow.holds Tryz.pinned (OpenSpec.ofChange nearAsksSpec)

/-- ITS FALSE NEIGHBOUR: 'it returns false'. Refute it at one input. -/
def nearAsksWrong : ChangeSpec := { name := "nearAsks", fn := fun _ => fun
  | [d1, d2, d3] => { results := [.lit (.bool false)], args := [d1, d2, d3] }
  | _ => none }
def NearAsksWrongFalsely : Prop := nearAsksRow.holds Tryz.pinned (OpenSpec.ofChange nearAsksWrong)

/- THE SECOND FORM. 'bulk': how many values and letters a reading holds, each counted each time it is reached (what is shared counts as often as it is met; a slice's spare places count too). A statement '..UptoSaid' is the law's where the arguments, and the package variables that the reading takes, are together of bulk at most 1048576: NARROWER than '..Said'. Prove '..Said' where nothing that the law and all that it calls make is longer than what came in: it says more and counts as full. Else prove '..UptoSaid'. A law counts once. -/
mutual
def uptoBulk {H : Type} : DataW H → Nat
  | .lit (.string bytes) => bytes.length + 1
  | .lit _ => 1
  | .nil => 1
  | .ptr d => uptoBulk d + 1
  | .slice elems spare => uptoBulkAll elems + uptoBulkAll spare + 1
  | .agg parts => uptoBulkAll parts + 1
  | .iface _ d => uptoBulk d + 1
  | .map entries => uptoBulkEntries entries + 1
  | .held _ => 1
def uptoBulkAll {H : Type} : List (DataW H) → Nat
  | [] => 0
  | d :: r => uptoBulk d + uptoBulkAll r
def uptoBulkEntries {H : Type} : List (Lit × DataW H) → Nat
  | [] => 0
  | x :: r => uptoBulkEntry x + uptoBulkEntries r
def uptoBulkEntry {H : Type} : Lit × DataW H → Nat
  | (.string bytes, d) => bytes.length + uptoBulk d + 1
  | (_, d) => uptoBulk d + 1
 end
def uptoSmall : (H : Type) → List (DataW H) → Bool := fun _ ds => decide (uptoBulkAll ds ≤ 1048576)
def OpenSpec.upto (s : _root_.Go.ChangeSpec) : _root_.Go.OpenSpec := { _root_.Go.OpenSpec.ofChange s with cond := some uptoSmall }

/-- 'undertowlaw17.NearKnown', WHERE WHAT IT READS IS OF BULK AT MOST 1048576: true; the input reads as it did. -/
def nearKnownUptoRow : OpenClaim := { program := "ytcoimipgilkmbaagreatdoor", sum := "3975c88e491b8dfb85295c3a0d946ce70955142f728132999c26c5dd290234ff", func := "undertow/undertowlaw17.NearKnown", spec := "nearKnown", inPlace := ["maps.clone"], unfollowed := true, recurses := true, named := ["undertow/plan.bounds", "undertow/note.kinds"], apart := false, laid := [("undertow/note.kinds", laid_undertow_note_kinds), ("undertow/plan.bounds", laid_undertow_plan_bounds)], narrowed := true }
def NearKnownUptoSaid : Prop := nearKnownUptoRow.holds Tryz.pinned (OpenSpec.upto nearKnownSpec)

/-- 'undertowlaw17.NearPlays', WHERE WHAT IT READS IS OF BULK AT MOST 1048576: true; the input reads as it did. -/
def nearPlaysUptoRow : OpenClaim := { program := "ytcoimipgilkmbaagreatdoor", sum := "3975c88e491b8dfb85295c3a0d946ce70955142f728132999c26c5dd290234ff", func := "undertow/undertowlaw17.NearPlays", spec := "nearPlays", inPlace := ["maps.clone"], unfollowed := true, recurses := true, named := ["undertow/plan.bounds", "undertow/note.kinds"], apart := false, laid := [("undertow/note.kinds", laid_undertow_note_kinds), ("undertow/plan.bounds", laid_undertow_plan_bounds)], narrowed := true }
def NearPlaysUptoSaid : Prop := nearPlaysUptoRow.holds Tryz.pinned (OpenSpec.upto nearPlaysSpec)

/-- 'undertowlaw17.NearKeeps', WHERE WHAT IT READS IS OF BULK AT MOST 1048576: true; the input reads as it did. -/
def nearKeepsUptoRow : OpenClaim := { program := "ytcoimipgilkmbaagreatdoor", sum := "3975c88e491b8dfb85295c3a0d946ce70955142f728132999c26c5dd290234ff", func := "undertow/undertowlaw17.NearKeeps", spec := "nearKeeps", unfollowed := true, recurses := true, named := ["undertow/plan.bounds", "undertow/note.kinds"], apart := false, laid := [("undertow/note.kinds", laid_undertow_note_kinds), ("undertow/plan.bounds", laid_undertow_plan_bounds)], narrowed := true }
def NearKeepsUptoSaid : Prop := nearKeepsUptoRow.holds Tryz.pinned (OpenSpec.upto nearKeepsSpec)

/-- 'undertowlaw17.NearTells', WHERE WHAT IT READS IS OF BULK AT MOST 1048576: true; the input reads as it did. -/
def nearTellsUptoRow : OpenClaim := { program := "ytcoimipgilkmbaagreatdoor", sum := "3975c88e491b8dfb85295c3a0d946ce70955142f728132999c26c5dd290234ff", func := "undertow/undertowlaw17.NearTells", spec := "nearTells", unfollowed := true, recurses := true, named := ["undertow/plan.bounds", "undertow/note.kinds"], apart := false, laid := [("undertow/note.kinds", laid_undertow_note_kinds), ("undertow/plan.bounds", laid_undertow_plan_bounds)], narrowed := true }
def NearTellsUptoSaid : Prop := nearTellsUptoRow.holds Tryz.pinned (OpenSpec.upto nearTellsSpec)

/-- 'undertowlaw17.NearAsks', WHERE WHAT IT READS IS OF BULK AT MOST 1048576: true; the input reads as it did. -/
def nearAsksUptoRow : OpenClaim := { program := "ytcoimipgilkmbaagreatdoor", sum := "3975c88e491b8dfb85295c3a0d946ce70955142f728132999c26c5dd290234ff", func := "undertow/undertowlaw17.NearAsks", spec := "nearAsks", unfollowed := true, recurses := true, named := ["undertow/plan.bounds", "undertow/note.kinds"], apart := false, laid := [("undertow/note.kinds", laid_undertow_note_kinds), ("undertow/plan.bounds", laid_undertow_plan_bounds)], narrowed := true }
def NearAsksUptoSaid : Prop := nearAsksUptoRow.holds Tryz.pinned (OpenSpec.upto nearAsksSpec)

end Rows
end Go.Proofs.YtcoimipgilkmbaaGreatDoor
