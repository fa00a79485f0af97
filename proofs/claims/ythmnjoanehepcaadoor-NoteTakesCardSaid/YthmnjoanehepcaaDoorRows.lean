/-
  NARROWER THAN 'FOR EVERY INPUT', by the rows' own cells (each row's printed sentence says how): NoteKnown: laid · NotePuts: laid · NoteTakes: laid · NoteBack: laid · NoteOnce: laid · NoteKinds: laid.
  DERIVED. THE GIVEN ROWS OF THIS SEAT. 6 by the template 'for every input the law returns true; each argument reads behind the call as it read before'; 0 by the template 'total and deterministic' (their statements: YthmnjoanehepcaaDoorTotals.lean).
  GIVEN WITH THE SEED: the statements are not yours to turn. If you find one false, say at which input.
  Laid BY PROGRAM, IN A SANDBOX (cutbox-rows.mjs): the forced cells as the released guide's own fill.sh prints them over the translation 933184028a51b89f… (all of the seat's roots in one cut). By AI agents, Wed Nov 11 2026. No macro, syntax, notation, axiom, sorry.
-/
import Derived.Test.YthmnjoanehepcaaDoorChecked
import GoSem.Claim
import GoSem.ClaimJoined
import GoSem.ClaimMapViews
import Derived.JoinedTies
import Derived.KernelRfl
namespace Go.Proofs.YthmnjoanehepcaaDoor
/- THE CELL 'sum', in the pinned program and in every row, IS THE sha256 OF THE DUMP (.gsa) THAT YthmnjoanehepcaaDoorProg.lean LOADS. Nothing in Lean hashes anything: it is a label: what it is worth is what the hold of that sum in a sandbox is worth. -/
noncomputable def Tryd.pinned : Pinned := { name := "ythmnjoanehepcaadoor", sum := "933184028a51b89f9ef5608a8b1d7c6c8ce7fd91212113e2a3193dc839cf2bc5", checked := Tryd.checked }
namespace Rows
def none {H : Type} : Left H := { results := [], args := [] }

/- WHAT THE LISTED PACKAGE-LEVEL VARIABLES READ AS WHEN THE CALL BEGINS. Each datum BY PROGRAM (the guide's laid-datum.mjs) off the statement by which the dump's own 'gosem.cut.vars' lays the variable. In a bare row this is a premise. The card (YthmnjoanehepcaaDoorCards.lean) ties it to the program's text. -/
def laid_undertow_note_kinds {H : Type} : DataW H := .agg [.lit (.int .u8 0), .lit (.int .u8 3), .lit (.int .u8 3), .lit (.int .u8 25), .lit (.int .u8 2), .lit (.int .u8 2), .lit (.int .u8 20), .lit (.int .u8 2), .lit (.int .u8 0), .lit (.int .u8 33), .lit (.int .u8 3), .lit (.int .u8 1)]

/-- 'undertowlaw08.NoteKnown': WHATEVER THE INPUT: true; the input reads as it did. -/
def noteKnownSpec : ChangeSpec := { name := "noteKnown", fn := fun _ => fun
  | [] => { results := [.lit (.bool true)], args := [] }
  | _ => none }
def noteKnownRow : OpenClaim := { program := "ythmnjoanehepcaadoor", sum := "933184028a51b89f9ef5608a8b1d7c6c8ce7fd91212113e2a3193dc839cf2bc5", func := "undertow/undertowlaw08.NoteKnown", spec := "noteKnown", named := ["undertow/note.kinds"], apart := false, laid := [("undertow/note.kinds", laid_undertow_note_kinds)] }
def NoteKnownSaid : Prop := noteKnownRow.holds Tryd.pinned (OpenSpec.ofChange noteKnownSpec)

/-- ITS FALSE NEIGHBOUR: 'it returns false'. Refute it at one input. -/
def noteKnownWrong : ChangeSpec := { name := "noteKnown", fn := fun _ => fun
  | [] => { results := [.lit (.bool false)], args := [] }
  | _ => none }
def NoteKnownWrongFalsely : Prop := noteKnownRow.holds Tryd.pinned (OpenSpec.ofChange noteKnownWrong)

/-- 'undertowlaw08.NotePuts': WHATEVER THE INPUT: true; the input reads as it did. -/
def notePutsSpec : ChangeSpec := { name := "notePuts", fn := fun _ => fun
  | [d] => { results := [.lit (.bool true)], args := [d] }
  | _ => none }
def notePutsRow : OpenClaim := { program := "ythmnjoanehepcaadoor", sum := "933184028a51b89f9ef5608a8b1d7c6c8ce7fd91212113e2a3193dc839cf2bc5", func := "undertow/undertowlaw08.NotePuts", spec := "notePuts", named := ["undertow/note.kinds"], apart := false, laid := [("undertow/note.kinds", laid_undertow_note_kinds)] }
def NotePutsSaid : Prop := notePutsRow.holds Tryd.pinned (OpenSpec.ofChange notePutsSpec)

/-- ITS FALSE NEIGHBOUR: 'it returns false'. Refute it at one input. -/
def notePutsWrong : ChangeSpec := { name := "notePuts", fn := fun _ => fun
  | [d] => { results := [.lit (.bool false)], args := [d] }
  | _ => none }
def NotePutsWrongFalsely : Prop := notePutsRow.holds Tryd.pinned (OpenSpec.ofChange notePutsWrong)

/-- 'undertowlaw08.NoteTakes': WHATEVER THE INPUT: true; the input reads as it did. -/
def noteTakesSpec : ChangeSpec := { name := "noteTakes", fn := fun _ => fun
  | [d] => { results := [.lit (.bool true)], args := [d] }
  | _ => none }
def noteTakesRow : OpenClaim := { program := "ythmnjoanehepcaadoor", sum := "933184028a51b89f9ef5608a8b1d7c6c8ce7fd91212113e2a3193dc839cf2bc5", func := "undertow/undertowlaw08.NoteTakes", spec := "noteTakes", named := ["undertow/note.kinds"], apart := false, laid := [("undertow/note.kinds", laid_undertow_note_kinds)] }
def NoteTakesSaid : Prop := noteTakesRow.holds Tryd.pinned (OpenSpec.ofChange noteTakesSpec)

/-- ITS FALSE NEIGHBOUR: 'it returns false'. Refute it at one input. -/
def noteTakesWrong : ChangeSpec := { name := "noteTakes", fn := fun _ => fun
  | [d] => { results := [.lit (.bool false)], args := [d] }
  | _ => none }
def NoteTakesWrongFalsely : Prop := noteTakesRow.holds Tryd.pinned (OpenSpec.ofChange noteTakesWrong)

/-- 'undertowlaw08.NoteBack': WHATEVER THE INPUT: true; the input reads as it did. -/
def noteBackSpec : ChangeSpec := { name := "noteBack", fn := fun _ => fun
  | [d1, d2] => { results := [.lit (.bool true)], args := [d1, d2] }
  | _ => none }
def noteBackRow : OpenClaim := { program := "ythmnjoanehepcaadoor", sum := "933184028a51b89f9ef5608a8b1d7c6c8ce7fd91212113e2a3193dc839cf2bc5", func := "undertow/undertowlaw08.NoteBack", spec := "noteBack", named := ["undertow/note.kinds"], apart := false, laid := [("undertow/note.kinds", laid_undertow_note_kinds)] }
def NoteBackSaid : Prop := noteBackRow.holds Tryd.pinned (OpenSpec.ofChange noteBackSpec)

/-- ITS FALSE NEIGHBOUR: 'it returns false'. Refute it at one input. -/
def noteBackWrong : ChangeSpec := { name := "noteBack", fn := fun _ => fun
  | [d1, d2] => { results := [.lit (.bool false)], args := [d1, d2] }
  | _ => none }
def NoteBackWrongFalsely : Prop := noteBackRow.holds Tryd.pinned (OpenSpec.ofChange noteBackWrong)

/-- 'undertowlaw08.NoteOnce': WHATEVER THE INPUT: true; the input reads as it did. -/
def noteOnceSpec : ChangeSpec := { name := "noteOnce", fn := fun _ => fun
  | [d] => { results := [.lit (.bool true)], args := [d] }
  | _ => none }
def noteOnceRow : OpenClaim := { program := "ythmnjoanehepcaadoor", sum := "933184028a51b89f9ef5608a8b1d7c6c8ce7fd91212113e2a3193dc839cf2bc5", func := "undertow/undertowlaw08.NoteOnce", spec := "noteOnce", named := ["undertow/note.kinds"], apart := false, laid := [("undertow/note.kinds", laid_undertow_note_kinds)] }
def NoteOnceSaid : Prop := noteOnceRow.holds Tryd.pinned (OpenSpec.ofChange noteOnceSpec)

/-- ITS FALSE NEIGHBOUR: 'it returns false'. Refute it at one input. -/
def noteOnceWrong : ChangeSpec := { name := "noteOnce", fn := fun _ => fun
  | [d] => { results := [.lit (.bool false)], args := [d] }
  | _ => none }
def NoteOnceWrongFalsely : Prop := noteOnceRow.holds Tryd.pinned (OpenSpec.ofChange noteOnceWrong)

/-- 'undertowlaw08.NoteKinds': WHATEVER THE INPUT: true; the input reads as it did. -/
def noteKindsSpec : ChangeSpec := { name := "noteKinds", fn := fun _ => fun
  | [d1, d2, d3, d4] => { results := [.lit (.bool true)], args := [d1, d2, d3, d4] }
  | _ => none }
def noteKindsRow : OpenClaim := { program := "ythmnjoanehepcaadoor", sum := "933184028a51b89f9ef5608a8b1d7c6c8ce7fd91212113e2a3193dc839cf2bc5", func := "undertow/undertowlaw08.NoteKinds", spec := "noteKinds", named := ["undertow/note.kinds"], apart := false, laid := [("undertow/note.kinds", laid_undertow_note_kinds)] }
def NoteKindsSaid : Prop := noteKindsRow.holds Tryd.pinned (OpenSpec.ofChange noteKindsSpec)

/-- ITS FALSE NEIGHBOUR: 'it returns false'. Refute it at one input. -/
def noteKindsWrong : ChangeSpec := { name := "noteKinds", fn := fun _ => fun
  | [d1, d2, d3, d4] => { results := [.lit (.bool false)], args := [d1, d2, d3, d4] }
  | _ => none }
def NoteKindsWrongFalsely : Prop := noteKindsRow.holds Tryd.pinned (OpenSpec.ofChange noteKindsWrong)

/- THE SECOND FORM. 'bulk': how many values and letters a reading holds, each counted each time it is reached (what is shared counts as often as it is met; a slice's spare places count too). A statement '..UptoSaid' is the law's where the arguments, and the package variables that the reading takes, are together of bulk at most 1048576: NARROWER than '..Said'. Prove '..Said' where nothing that the law and all that it calls make is longer than what came in: it says more and counts as full. Else prove '..UptoSaid'. A law counts once. -/
mutual
def uptoBulk {H : Type} : DataW H → Nat
  | .lit (.string bytes) => bytes.length + 1
  | .lit _ => 1
  | .nil => 1
  | .ptr d => uptoBulk d + 1
  | .slice elems spare => uptoBulkAll elems + uptoBulkAll spare + 1
  | .agg parts => uptoBulkAll parts + 1
  | .iface _ d => uptoBulk d + 1
  | .map entries => uptoBulkEntries entries + 1
  | .held _ => 1
def uptoBulkAll {H : Type} : List (DataW H) → Nat
  | [] => 0
  | d :: r => uptoBulk d + uptoBulkAll r
def uptoBulkEntries {H : Type} : List (Lit × DataW H) → Nat
  | [] => 0
  | x :: r => uptoBulkEntry x + uptoBulkEntries r
def uptoBulkEntry {H : Type} : Lit × DataW H → Nat
  | (.string bytes, d) => bytes.length + uptoBulk d + 1
  | (_, d) => uptoBulk d + 1
 end
def uptoSmall : (H : Type) → List (DataW H) → Bool := fun _ ds => decide (uptoBulkAll ds ≤ 1048576)
def OpenSpec.upto (s : _root_.Go.ChangeSpec) : _root_.Go.OpenSpec := { _root_.Go.OpenSpec.ofChange s with cond := some uptoSmall }

/-- 'undertowlaw08.NoteKnown', WHERE WHAT IT READS IS OF BULK AT MOST 1048576: true; the input reads as it did. -/
def noteKnownUptoRow : OpenClaim := { program := "ythmnjoanehepcaadoor", sum := "933184028a51b89f9ef5608a8b1d7c6c8ce7fd91212113e2a3193dc839cf2bc5", func := "undertow/undertowlaw08.NoteKnown", spec := "noteKnown", named := ["undertow/note.kinds"], apart := false, laid := [("undertow/note.kinds", laid_undertow_note_kinds)], narrowed := true }
def NoteKnownUptoSaid : Prop := noteKnownUptoRow.holds Tryd.pinned (OpenSpec.upto noteKnownSpec)

/-- 'undertowlaw08.NotePuts', WHERE WHAT IT READS IS OF BULK AT MOST 1048576: true; the input reads as it did. -/
def notePutsUptoRow : OpenClaim := { program := "ythmnjoanehepcaadoor", sum := "933184028a51b89f9ef5608a8b1d7c6c8ce7fd91212113e2a3193dc839cf2bc5", func := "undertow/undertowlaw08.NotePuts", spec := "notePuts", named := ["undertow/note.kinds"], apart := false, laid := [("undertow/note.kinds", laid_undertow_note_kinds)], narrowed := true }
def NotePutsUptoSaid : Prop := notePutsUptoRow.holds Tryd.pinned (OpenSpec.upto notePutsSpec)

/-- 'undertowlaw08.NoteTakes', WHERE WHAT IT READS IS OF BULK AT MOST 1048576: true; the input reads as it did. -/
def noteTakesUptoRow : OpenClaim := { program := "ythmnjoanehepcaadoor", sum := "933184028a51b89f9ef5608a8b1d7c6c8ce7fd91212113e2a3193dc839cf2bc5", func := "undertow/undertowlaw08.NoteTakes", spec := "noteTakes", named := ["undertow/note.kinds"], apart := false, laid := [("undertow/note.kinds", laid_undertow_note_kinds)], narrowed := true }
def NoteTakesUptoSaid : Prop := noteTakesUptoRow.holds Tryd.pinned (OpenSpec.upto noteTakesSpec)

/-- 'undertowlaw08.NoteBack', WHERE WHAT IT READS IS OF BULK AT MOST 1048576: true; the input reads as it did. -/
def noteBackUptoRow : OpenClaim := { program := "ythmnjoanehepcaadoor", sum := "933184028a51b89f9ef5608a8b1d7c6c8ce7fd91212113e2a3193dc839cf2bc5", func := "undertow/undertowlaw08.NoteBack", spec := "noteBack", named := ["undertow/note.kinds"], apart := false, laid := [("undertow/note.kinds", laid_undertow_note_kinds)], narrowed := true }
def NoteBackUptoSaid : Prop := noteBackUptoRow.holds Tryd.pinned (OpenSpec.upto noteBackSpec)

/-- 'undertowlaw08.NoteOnce', WHERE WHAT IT READS IS OF BULK AT MOST 1048576: true; the input reads as it did. -/
def noteOnceUptoRow : OpenClaim := { program := "ythmnjoanehepcaadoor", sum := "933184028a51b89f9ef5608a8b1d7c6c8ce7fd91212113e2a3193dc839cf2bc5", func := "undertow/undertowlaw08.NoteOnce", spec := "noteOnce", named := ["undertow/note.kinds"], apart := false, laid := [("undertow/note.kinds", laid_undertow_note_kinds)], narrowed := true }
def NoteOnceUptoSaid : Prop := noteOnceUptoRow.holds Tryd.pinned (OpenSpec.upto noteOnceSpec)

/-- 'undertowlaw08.NoteKinds', WHERE WHAT IT READS IS OF BULK AT MOST 1048576: true; the input reads as it did. -/
def noteKindsUptoRow : OpenClaim := { program := "ythmnjoanehepcaadoor", sum := "933184028a51b89f9ef5608a8b1d7c6c8ce7fd91212113e2a3193dc839cf2bc5", func := "undertow/undertowlaw08.NoteKinds", spec := "noteKinds", named := ["undertow/note.kinds"], apart := false, laid := [("undertow/note.kinds", laid_undertow_note_kinds)], narrowed := true }
def NoteKindsUptoSaid : Prop := noteKindsUptoRow.holds Tryd.pinned (OpenSpec.upto noteKindsSpec)

end Rows
end Go.Proofs.YthmnjoanehepcaaDoor
