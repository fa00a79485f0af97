/-
  No cell of these rows narrows 'for every input' (looked for: loops, veiled, ifaces, maps, wideKeys, modest, calm, conditions, laid).
  DERIVED. THE GIVEN ROWS OF THIS SEAT. 7 by the template 'for every input the law returns true; each argument reads behind the call as it read before'; 0 by the template 'total and deterministic' (their statements: YtcbkfgcjjhifdaaTotals.lean).
  GIVEN WITH THE SEED: the statements are not yours to turn. If you find one false, say at which input.
  Laid BY PROGRAM, IN A SANDBOX (cutbox-rows.mjs): the forced cells as the released guide's own fill.sh prints them over the translation 59ee4a4efdca5218… (all of the seat's roots in one cut). By AI agents, Wed Nov 11 2026. No macro, syntax, notation, axiom, sorry.
-/
import Derived.Test.YtcbkfgcjjhifdaaChecked
import GoSem.Claim
import GoSem.ClaimJoined
import GoSem.ClaimMapViews
import Derived.JoinedTies
import Derived.KernelRfl
namespace Go.Proofs.Ytcbkfgcjjhifdaa
/- THE CELL 'sum', in the pinned program and in every row, IS THE sha256 OF THE DUMP (.gsa) THAT YtcbkfgcjjhifdaaProg.lean LOADS. Nothing in Lean hashes anything: it is a label: what it is worth is what the hold of that sum in a sandbox is worth. -/
noncomputable def Try.pinned : Pinned := { name := "ytcbkfgcjjhifdaa", sum := "59ee4a4efdca5218f937d9ea4192489fac63248b9836fb5015b968cb916df298", checked := Try.checked }
namespace Rows
def none {H : Type} : Left H := { results := [], args := [] }

/-- 'undertowlaw04.MemKnown': WHATEVER THE INPUT: true; the input reads as it did. -/
def memKnownSpec : ChangeSpec := { name := "memKnown", fn := fun _ => fun
  | [] => { results := [.lit (.bool true)], args := [] }
  | _ => none }
def memKnownRow : OpenClaim := { program := "ytcbkfgcjjhifdaa", sum := "59ee4a4efdca5218f937d9ea4192489fac63248b9836fb5015b968cb916df298", func := "undertow/undertowlaw04.MemKnown", spec := "memKnown", apart := false }
def MemKnownSaid : Prop := memKnownRow.holds Try.pinned (OpenSpec.ofChange memKnownSpec)

/-- ITS FALSE NEIGHBOUR: 'it returns false'. Refute it at one input. -/
def memKnownWrong : ChangeSpec := { name := "memKnown", fn := fun _ => fun
  | [] => { results := [.lit (.bool false)], args := [] }
  | _ => none }
def MemKnownWrongFalsely : Prop := memKnownRow.holds Try.pinned (OpenSpec.ofChange memKnownWrong)

/-- 'undertowlaw04.MemPlays': WHATEVER THE INPUT: true; the input reads as it did. -/
def memPlaysSpec : ChangeSpec := { name := "memPlays", fn := fun _ => fun
  | [d1, d2] => { results := [.lit (.bool true)], args := [d1, d2] }
  | _ => none }
def memPlaysRow : OpenClaim := { program := "ytcbkfgcjjhifdaa", sum := "59ee4a4efdca5218f937d9ea4192489fac63248b9836fb5015b968cb916df298", func := "undertow/undertowlaw04.MemPlays", spec := "memPlays", apart := false }
def MemPlaysSaid : Prop := memPlaysRow.holds Try.pinned (OpenSpec.ofChange memPlaysSpec)

/-- ITS FALSE NEIGHBOUR: 'it returns false'. Refute it at one input. -/
def memPlaysWrong : ChangeSpec := { name := "memPlays", fn := fun _ => fun
  | [d1, d2] => { results := [.lit (.bool false)], args := [d1, d2] }
  | _ => none }
def MemPlaysWrongFalsely : Prop := memPlaysRow.holds Try.pinned (OpenSpec.ofChange memPlaysWrong)

/-- 'undertowlaw04.MemMerges': WHATEVER THE INPUT: true; the input reads as it did. -/
def memMergesSpec : ChangeSpec := { name := "memMerges", fn := fun _ => fun
  | [d1, d2, d3] => { results := [.lit (.bool true)], args := [d1, d2, d3] }
  | _ => none }
def memMergesRow : OpenClaim := { program := "ytcbkfgcjjhifdaa", sum := "59ee4a4efdca5218f937d9ea4192489fac63248b9836fb5015b968cb916df298", func := "undertow/undertowlaw04.MemMerges", spec := "memMerges", apart := false }
def MemMergesSaid : Prop := memMergesRow.holds Try.pinned (OpenSpec.ofChange memMergesSpec)

/-- ITS FALSE NEIGHBOUR: 'it returns false'. Refute it at one input. -/
def memMergesWrong : ChangeSpec := { name := "memMerges", fn := fun _ => fun
  | [d1, d2, d3] => { results := [.lit (.bool false)], args := [d1, d2, d3] }
  | _ => none }
def MemMergesWrongFalsely : Prop := memMergesRow.holds Try.pinned (OpenSpec.ofChange memMergesWrong)

/-- 'undertowlaw04.MemOther': WHATEVER THE INPUT: true; the input reads as it did. -/
def memOtherSpec : ChangeSpec := { name := "memOther", fn := fun _ => fun
  | [d1, d2, d3, d4, d5, d6] => { results := [.lit (.bool true)], args := [d1, d2, d3, d4, d5, d6] }
  | _ => none }
def memOtherRow : OpenClaim := { program := "ytcbkfgcjjhifdaa", sum := "59ee4a4efdca5218f937d9ea4192489fac63248b9836fb5015b968cb916df298", func := "undertow/undertowlaw04.MemOther", spec := "memOther", apart := false }
def MemOtherSaid : Prop := memOtherRow.holds Try.pinned (OpenSpec.ofChange memOtherSpec)

/-- ITS FALSE NEIGHBOUR: 'it returns false'. Refute it at one input. -/
def memOtherWrong : ChangeSpec := { name := "memOther", fn := fun _ => fun
  | [d1, d2, d3, d4, d5, d6] => { results := [.lit (.bool false)], args := [d1, d2, d3, d4, d5, d6] }
  | _ => none }
def MemOtherWrongFalsely : Prop := memOtherRow.holds Try.pinned (OpenSpec.ofChange memOtherWrong)

/-- 'undertowlaw04.MemBlocks': WHATEVER THE INPUT: true; the input reads as it did. -/
def memBlocksSpec : ChangeSpec := { name := "memBlocks", fn := fun _ => fun
  | [d1, d2, d3] => { results := [.lit (.bool true)], args := [d1, d2, d3] }
  | _ => none }
def memBlocksRow : OpenClaim := { program := "ytcbkfgcjjhifdaa", sum := "59ee4a4efdca5218f937d9ea4192489fac63248b9836fb5015b968cb916df298", func := "undertow/undertowlaw04.MemBlocks", spec := "memBlocks", apart := false }
def MemBlocksSaid : Prop := memBlocksRow.holds Try.pinned (OpenSpec.ofChange memBlocksSpec)

/-- ITS FALSE NEIGHBOUR: 'it returns false'. Refute it at one input. -/
def memBlocksWrong : ChangeSpec := { name := "memBlocks", fn := fun _ => fun
  | [d1, d2, d3] => { results := [.lit (.bool false)], args := [d1, d2, d3] }
  | _ => none }
def MemBlocksWrongFalsely : Prop := memBlocksRow.holds Try.pinned (OpenSpec.ofChange memBlocksWrong)

/-- 'undertowlaw04.MemCopies': WHATEVER THE INPUT: true; the input reads as it did. -/
def memCopiesSpec : ChangeSpec := { name := "memCopies", fn := fun _ => fun
  | [d1, d2] => { results := [.lit (.bool true)], args := [d1, d2] }
  | _ => none }
def memCopiesRow : OpenClaim := { program := "ytcbkfgcjjhifdaa", sum := "59ee4a4efdca5218f937d9ea4192489fac63248b9836fb5015b968cb916df298", func := "undertow/undertowlaw04.MemCopies", spec := "memCopies", apart := false }
def MemCopiesSaid : Prop := memCopiesRow.holds Try.pinned (OpenSpec.ofChange memCopiesSpec)

/-- ITS FALSE NEIGHBOUR: 'it returns false'. Refute it at one input. -/
def memCopiesWrong : ChangeSpec := { name := "memCopies", fn := fun _ => fun
  | [d1, d2] => { results := [.lit (.bool false)], args := [d1, d2] }
  | _ => none }
def MemCopiesWrongFalsely : Prop := memCopiesRow.holds Try.pinned (OpenSpec.ofChange memCopiesWrong)

/-- 'undertowlaw04.MemMergesBoth': WHATEVER THE INPUT: true; the input reads as it did. -/
def memMergesBothSpec : ChangeSpec := { name := "memMergesBoth", fn := fun _ => fun
  | [d1, d2, d3] => { results := [.lit (.bool true)], args := [d1, d2, d3] }
  | _ => none }
def memMergesBothRow : OpenClaim := { program := "ytcbkfgcjjhifdaa", sum := "59ee4a4efdca5218f937d9ea4192489fac63248b9836fb5015b968cb916df298", func := "undertow/undertowlaw04.MemMergesBoth", spec := "memMergesBoth", apart := false }
def MemMergesBothSaid : Prop := memMergesBothRow.holds Try.pinned (OpenSpec.ofChange memMergesBothSpec)

/-- ITS FALSE NEIGHBOUR: 'it returns false'. Refute it at one input. -/
def memMergesBothWrong : ChangeSpec := { name := "memMergesBoth", fn := fun _ => fun
  | [d1, d2, d3] => { results := [.lit (.bool false)], args := [d1, d2, d3] }
  | _ => none }
def MemMergesBothWrongFalsely : Prop := memMergesBothRow.holds Try.pinned (OpenSpec.ofChange memMergesBothWrong)

/- THE SECOND FORM. 'bulk': how many values and letters a reading holds, each counted each time it is reached (what is shared counts as often as it is met; a slice's spare places count too). A statement '..UptoSaid' is the law's where the arguments, and the package variables that the reading takes, are together of bulk at most 1048576: NARROWER than '..Said'. Prove '..Said' where nothing that the law and all that it calls make is longer than what came in: it says more and counts as full. Else prove '..UptoSaid'. A law counts once. -/
mutual
def uptoBulk {H : Type} : DataW H → Nat
  | .lit (.string bytes) => bytes.length + 1
  | .lit _ => 1
  | .nil => 1
  | .ptr d => uptoBulk d + 1
  | .slice elems spare => uptoBulkAll elems + uptoBulkAll spare + 1
  | .agg parts => uptoBulkAll parts + 1
  | .iface _ d => uptoBulk d + 1
  | .map entries => uptoBulkEntries entries + 1
  | .held _ => 1
def uptoBulkAll {H : Type} : List (DataW H) → Nat
  | [] => 0
  | d :: r => uptoBulk d + uptoBulkAll r
def uptoBulkEntries {H : Type} : List (Lit × DataW H) → Nat
  | [] => 0
  | x :: r => uptoBulkEntry x + uptoBulkEntries r
def uptoBulkEntry {H : Type} : Lit × DataW H → Nat
  | (.string bytes, d) => bytes.length + uptoBulk d + 1
  | (_, d) => uptoBulk d + 1
 end
def uptoSmall : (H : Type) → List (DataW H) → Bool := fun _ ds => decide (uptoBulkAll ds ≤ 1048576)
def OpenSpec.upto (s : _root_.Go.ChangeSpec) : _root_.Go.OpenSpec := { _root_.Go.OpenSpec.ofChange s with cond := some uptoSmall }

/-- 'undertowlaw04.MemKnown', WHERE WHAT IT READS IS OF BULK AT MOST 1048576: true; the input reads as it did. -/
def memKnownUptoRow : OpenClaim := { program := "ytcbkfgcjjhifdaa", sum := "59ee4a4efdca5218f937d9ea4192489fac63248b9836fb5015b968cb916df298", func := "undertow/undertowlaw04.MemKnown", spec := "memKnown", apart := false, narrowed := true }
def MemKnownUptoSaid : Prop := memKnownUptoRow.holds Try.pinned (OpenSpec.upto memKnownSpec)

/-- 'undertowlaw04.MemPlays', WHERE WHAT IT READS IS OF BULK AT MOST 1048576: true; the input reads as it did. -/
def memPlaysUptoRow : OpenClaim := { program := "ytcbkfgcjjhifdaa", sum := "59ee4a4efdca5218f937d9ea4192489fac63248b9836fb5015b968cb916df298", func := "undertow/undertowlaw04.MemPlays", spec := "memPlays", apart := false, narrowed := true }
def MemPlaysUptoSaid : Prop := memPlaysUptoRow.holds Try.pinned (OpenSpec.upto memPlaysSpec)

/-- 'undertowlaw04.MemMerges', WHERE WHAT IT READS IS OF BULK AT MOST 1048576: true; the input reads as it did. -/
def memMergesUptoRow : OpenClaim := { program := "ytcbkfgcjjhifdaa", sum := "59ee4a4efdca5218f937d9ea4192489fac63248b9836fb5015b968cb916df298", func := "undertow/undertowlaw04.MemMerges", spec := "memMerges", apart := false, narrowed := true }
def MemMergesUptoSaid : Prop := memMergesUptoRow.holds Try.pinned (OpenSpec.upto memMergesSpec)

/-- 'undertowlaw04.MemOther', WHERE WHAT IT READS IS OF BULK AT MOST 1048576: true; the input reads as it did. -/
def memOtherUptoRow : OpenClaim := { program := "ytcbkfgcjjhifdaa", sum := "59ee4a4efdca5218f937d9ea4192489fac63248b9836fb5015b968cb916df298", func := "undertow/undertowlaw04.MemOther", spec := "memOther", apart := false, narrowed := true }
def MemOtherUptoSaid : Prop := memOtherUptoRow.holds Try.pinned (OpenSpec.upto memOtherSpec)

/-- 'undertowlaw04.MemBlocks', WHERE WHAT IT READS IS OF BULK AT MOST 1048576: true; the input reads as it did. -/
def memBlocksUptoRow : OpenClaim := { program := "ytcbkfgcjjhifdaa", sum := "59ee4a4efdca5218f937d9ea4192489fac63248b9836fb5015b968cb916df298", func := "undertow/undertowlaw04.MemBlocks", spec := "memBlocks", apart := false, narrowed := true }
def MemBlocksUptoSaid : Prop := memBlocksUptoRow.holds Try.pinned (OpenSpec.upto memBlocksSpec)

/-- 'undertowlaw04.MemCopies', WHERE WHAT IT READS IS OF BULK AT MOST 1048576: true; the input reads as it did. -/
def memCopiesUptoRow : OpenClaim := { program := "ytcbkfgcjjhifdaa", sum := "59ee4a4efdca5218f937d9ea4192489fac63248b9836fb5015b968cb916df298", func := "undertow/undertowlaw04.MemCopies", spec := "memCopies", apart := false, narrowed := true }
def MemCopiesUptoSaid : Prop := memCopiesUptoRow.holds Try.pinned (OpenSpec.upto memCopiesSpec)

/-- 'undertowlaw04.MemMergesBoth', WHERE WHAT IT READS IS OF BULK AT MOST 1048576: true; the input reads as it did. -/
def memMergesBothUptoRow : OpenClaim := { program := "ytcbkfgcjjhifdaa", sum := "59ee4a4efdca5218f937d9ea4192489fac63248b9836fb5015b968cb916df298", func := "undertow/undertowlaw04.MemMergesBoth", spec := "memMergesBoth", apart := false, narrowed := true }
def MemMergesBothUptoSaid : Prop := memMergesBothUptoRow.holds Try.pinned (OpenSpec.upto memMergesBothSpec)

end Rows
end Go.Proofs.Ytcbkfgcjjhifdaa
