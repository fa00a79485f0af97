/-
  No cell of these rows narrows 'for every input' (looked for: loops, veiled, ifaces, maps, wideKeys, modest, calm, conditions, laid).
  DERIVED. THE GIVEN ROWS OF THIS SEAT. 5 by the template 'for every input the law returns true; each argument reads behind the call as it read before'; 0 by the template 'total and deterministic' (their statements: YtfmommghkgckmaaTotals.lean).
  GIVEN WITH THE SEED: the statements are not yours to turn. If you find one false, say at which input.
  Laid BY PROGRAM, IN A SANDBOX (cutbox-rows.mjs): the forced cells as the released guide's own fill.sh prints them over the translation 49bcc9fbd17e1bd9… (all of the seat's roots in one cut). By AI agents, Wed Nov 11 2026. No macro, syntax, notation, axiom, sorry.
-/
import Derived.Test.YtfmommghkgckmaaChecked
import GoSem.Claim
import GoSem.ClaimJoined
import GoSem.ClaimMapViews
import Derived.JoinedTies
import Derived.KernelRfl
namespace Go.Proofs.Ytfmommghkgckmaa
/- THE CELL 'sum', in the pinned program and in every row, IS THE sha256 OF THE DUMP (.gsa) THAT YtfmommghkgckmaaProg.lean LOADS. Nothing in Lean hashes anything: it is a label: what it is worth is what the hold of that sum in a sandbox is worth. -/
noncomputable def Try.pinned : Pinned := { name := "ytfmommghkgckmaa", sum := "49bcc9fbd17e1bd98db7b28c5c3ca8483aa5fc30d5ae1cab231b4f4a0069403d", checked := Try.checked }
namespace Rows
def none {H : Type} : Left H := { results := [], args := [] }

/-- 'undertowlaw06.VictimKnown': WHATEVER THE INPUT: true; the input reads as it did. -/
def victimKnownSpec : ChangeSpec := { name := "victimKnown", fn := fun _ => fun
  | [] => { results := [.lit (.bool true)], args := [] }
  | _ => none }
def victimKnownRow : OpenClaim := { program := "ytfmommghkgckmaa", sum := "49bcc9fbd17e1bd98db7b28c5c3ca8483aa5fc30d5ae1cab231b4f4a0069403d", func := "undertow/undertowlaw06.VictimKnown", spec := "victimKnown", apart := false }
def VictimKnownSaid : Prop := victimKnownRow.holds Try.pinned (OpenSpec.ofChange victimKnownSpec)

/-- ITS FALSE NEIGHBOUR: 'it returns false'. Refute it at one input. -/
def victimKnownWrong : ChangeSpec := { name := "victimKnown", fn := fun _ => fun
  | [] => { results := [.lit (.bool false)], args := [] }
  | _ => none }
def VictimKnownWrongFalsely : Prop := victimKnownRow.holds Try.pinned (OpenSpec.ofChange victimKnownWrong)

/-- 'undertowlaw06.VictimUses': WHATEVER THE INPUT: true; the input reads as it did. -/
def victimUsesSpec : ChangeSpec := { name := "victimUses", fn := fun _ => fun
  | [d1, d2, d3] => { results := [.lit (.bool true)], args := [d1, d2, d3] }
  | _ => none }
def victimUsesRow : OpenClaim := { program := "ytfmommghkgckmaa", sum := "49bcc9fbd17e1bd98db7b28c5c3ca8483aa5fc30d5ae1cab231b4f4a0069403d", func := "undertow/undertowlaw06.VictimUses", spec := "victimUses", apart := false }
def VictimUsesSaid : Prop := victimUsesRow.holds Try.pinned (OpenSpec.ofChange victimUsesSpec)

/-- ITS FALSE NEIGHBOUR: 'it returns false'. Refute it at one input. -/
def victimUsesWrong : ChangeSpec := { name := "victimUses", fn := fun _ => fun
  | [d1, d2, d3] => { results := [.lit (.bool false)], args := [d1, d2, d3] }
  | _ => none }
def VictimUsesWrongFalsely : Prop := victimUsesRow.holds Try.pinned (OpenSpec.ofChange victimUsesWrong)

/-- 'undertowlaw06.VictimTells': WHATEVER THE INPUT: true; the input reads as it did. -/
def victimTellsSpec : ChangeSpec := { name := "victimTells", fn := fun _ => fun
  | [d1, d2] => { results := [.lit (.bool true)], args := [d1, d2] }
  | _ => none }
def victimTellsRow : OpenClaim := { program := "ytfmommghkgckmaa", sum := "49bcc9fbd17e1bd98db7b28c5c3ca8483aa5fc30d5ae1cab231b4f4a0069403d", func := "undertow/undertowlaw06.VictimTells", spec := "victimTells", apart := false }
def VictimTellsSaid : Prop := victimTellsRow.holds Try.pinned (OpenSpec.ofChange victimTellsSpec)

/-- ITS FALSE NEIGHBOUR: 'it returns false'. Refute it at one input. -/
def victimTellsWrong : ChangeSpec := { name := "victimTells", fn := fun _ => fun
  | [d1, d2] => { results := [.lit (.bool false)], args := [d1, d2] }
  | _ => none }
def VictimTellsWrongFalsely : Prop := victimTellsRow.holds Try.pinned (OpenSpec.ofChange victimTellsWrong)

/-- 'undertowlaw06.VictimLast': WHATEVER THE INPUT: true; the input reads as it did. -/
def victimLastSpec : ChangeSpec := { name := "victimLast", fn := fun _ => fun
  | [d1, d2, d3] => { results := [.lit (.bool true)], args := [d1, d2, d3] }
  | _ => none }
def victimLastRow : OpenClaim := { program := "ytfmommghkgckmaa", sum := "49bcc9fbd17e1bd98db7b28c5c3ca8483aa5fc30d5ae1cab231b4f4a0069403d", func := "undertow/undertowlaw06.VictimLast", spec := "victimLast", apart := false }
def VictimLastSaid : Prop := victimLastRow.holds Try.pinned (OpenSpec.ofChange victimLastSpec)

/-- ITS FALSE NEIGHBOUR: 'it returns false'. Refute it at one input. -/
def victimLastWrong : ChangeSpec := { name := "victimLast", fn := fun _ => fun
  | [d1, d2, d3] => { results := [.lit (.bool false)], args := [d1, d2, d3] }
  | _ => none }
def VictimLastWrongFalsely : Prop := victimLastRow.holds Try.pinned (OpenSpec.ofChange victimLastWrong)

/-- 'undertowlaw06.VictimTurns': WHATEVER THE INPUT: true; the input reads as it did. -/
def victimTurnsSpec : ChangeSpec := { name := "victimTurns", fn := fun _ => fun
  | [d1, d2] => { results := [.lit (.bool true)], args := [d1, d2] }
  | _ => none }
def victimTurnsRow : OpenClaim := { program := "ytfmommghkgckmaa", sum := "49bcc9fbd17e1bd98db7b28c5c3ca8483aa5fc30d5ae1cab231b4f4a0069403d", func := "undertow/undertowlaw06.VictimTurns", spec := "victimTurns", apart := false }
def VictimTurnsSaid : Prop := victimTurnsRow.holds Try.pinned (OpenSpec.ofChange victimTurnsSpec)

/-- ITS FALSE NEIGHBOUR: 'it returns false'. Refute it at one input. -/
def victimTurnsWrong : ChangeSpec := { name := "victimTurns", fn := fun _ => fun
  | [d1, d2] => { results := [.lit (.bool false)], args := [d1, d2] }
  | _ => none }
def VictimTurnsWrongFalsely : Prop := victimTurnsRow.holds Try.pinned (OpenSpec.ofChange victimTurnsWrong)

/- THE SECOND FORM. 'bulk': how many values and letters a reading holds, each counted each time it is reached (what is shared counts as often as it is met; a slice's spare places count too). A statement '..UptoSaid' is the law's where the arguments, and the package variables that the reading takes, are together of bulk at most 1048576: NARROWER than '..Said'. Prove '..Said' where nothing that the law and all that it calls make is longer than what came in: it says more and counts as full. Else prove '..UptoSaid'. A law counts once. -/
mutual
def uptoBulk {H : Type} : DataW H → Nat
  | .lit (.string bytes) => bytes.length + 1
  | .lit _ => 1
  | .nil => 1
  | .ptr d => uptoBulk d + 1
  | .slice elems spare => uptoBulkAll elems + uptoBulkAll spare + 1
  | .agg parts => uptoBulkAll parts + 1
  | .iface _ d => uptoBulk d + 1
  | .map entries => uptoBulkEntries entries + 1
  | .held _ => 1
def uptoBulkAll {H : Type} : List (DataW H) → Nat
  | [] => 0
  | d :: r => uptoBulk d + uptoBulkAll r
def uptoBulkEntries {H : Type} : List (Lit × DataW H) → Nat
  | [] => 0
  | x :: r => uptoBulkEntry x + uptoBulkEntries r
def uptoBulkEntry {H : Type} : Lit × DataW H → Nat
  | (.string bytes, d) => bytes.length + uptoBulk d + 1
  | (_, d) => uptoBulk d + 1
 end
def uptoSmall : (H : Type) → List (DataW H) → Bool := fun _ ds => decide (uptoBulkAll ds ≤ 1048576)
def OpenSpec.upto (s : _root_.Go.ChangeSpec) : _root_.Go.OpenSpec := { _root_.Go.OpenSpec.ofChange s with cond := some uptoSmall }

/-- 'undertowlaw06.VictimKnown', WHERE WHAT IT READS IS OF BULK AT MOST 1048576: true; the input reads as it did. -/
def victimKnownUptoRow : OpenClaim := { program := "ytfmommghkgckmaa", sum := "49bcc9fbd17e1bd98db7b28c5c3ca8483aa5fc30d5ae1cab231b4f4a0069403d", func := "undertow/undertowlaw06.VictimKnown", spec := "victimKnown", apart := false, narrowed := true }
def VictimKnownUptoSaid : Prop := victimKnownUptoRow.holds Try.pinned (OpenSpec.upto victimKnownSpec)

/-- 'undertowlaw06.VictimUses', WHERE WHAT IT READS IS OF BULK AT MOST 1048576: true; the input reads as it did. -/
def victimUsesUptoRow : OpenClaim := { program := "ytfmommghkgckmaa", sum := "49bcc9fbd17e1bd98db7b28c5c3ca8483aa5fc30d5ae1cab231b4f4a0069403d", func := "undertow/undertowlaw06.VictimUses", spec := "victimUses", apart := false, narrowed := true }
def VictimUsesUptoSaid : Prop := victimUsesUptoRow.holds Try.pinned (OpenSpec.upto victimUsesSpec)

/-- 'undertowlaw06.VictimTells', WHERE WHAT IT READS IS OF BULK AT MOST 1048576: true; the input reads as it did. -/
def victimTellsUptoRow : OpenClaim := { program := "ytfmommghkgckmaa", sum := "49bcc9fbd17e1bd98db7b28c5c3ca8483aa5fc30d5ae1cab231b4f4a0069403d", func := "undertow/undertowlaw06.VictimTells", spec := "victimTells", apart := false, narrowed := true }
def VictimTellsUptoSaid : Prop := victimTellsUptoRow.holds Try.pinned (OpenSpec.upto victimTellsSpec)

/-- 'undertowlaw06.VictimLast', WHERE WHAT IT READS IS OF BULK AT MOST 1048576: true; the input reads as it did. -/
def victimLastUptoRow : OpenClaim := { program := "ytfmommghkgckmaa", sum := "49bcc9fbd17e1bd98db7b28c5c3ca8483aa5fc30d5ae1cab231b4f4a0069403d", func := "undertow/undertowlaw06.VictimLast", spec := "victimLast", apart := false, narrowed := true }
def VictimLastUptoSaid : Prop := victimLastUptoRow.holds Try.pinned (OpenSpec.upto victimLastSpec)

/-- 'undertowlaw06.VictimTurns', WHERE WHAT IT READS IS OF BULK AT MOST 1048576: true; the input reads as it did. -/
def victimTurnsUptoRow : OpenClaim := { program := "ytfmommghkgckmaa", sum := "49bcc9fbd17e1bd98db7b28c5c3ca8483aa5fc30d5ae1cab231b4f4a0069403d", func := "undertow/undertowlaw06.VictimTurns", spec := "victimTurns", apart := false, narrowed := true }
def VictimTurnsUptoSaid : Prop := victimTurnsUptoRow.holds Try.pinned (OpenSpec.upto victimTurnsSpec)

end Rows
end Go.Proofs.Ytfmommghkgckmaa
