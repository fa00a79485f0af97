/-
  NARROWER THAN 'FOR EVERY INPUT', by the rows' own cells (each row's printed sentence says how): NetKnown: laid · NetPlays: laid · NetOnce: laid · NetRoom: laid · NetCopies: laid · NetOrder: laid.
  DERIVED. THE GIVEN ROWS OF THIS SEAT. 6 by the template 'for every input the law returns true; each argument reads behind the call as it read before'; 0 by the template 'total and deterministic' (their statements: YtoemkhmbeiindaaDoorTotals.lean).
  GIVEN WITH THE SEED: the statements are not yours to turn. If you find one false, say at which input.
  Laid BY PROGRAM, IN A SANDBOX (cutbox-rows.mjs): the forced cells as the released guide's own fill.sh prints them over the translation b762ca1e80b05e7a… (all of the seat's roots in one cut). By AI agents, Wed Nov 11 2026. No macro, syntax, notation, axiom, sorry.
-/
import Derived.Test.YtoemkhmbeiindaaDoorChecked
import GoSem.Claim
import GoSem.ClaimJoined
import GoSem.ClaimMapViews
import Derived.JoinedTies
import Derived.KernelRfl
namespace Go.Proofs.YtoemkhmbeiindaaDoor
/- THE CELL 'sum', in the pinned program and in every row, IS THE sha256 OF THE DUMP (.gsa) THAT YtoemkhmbeiindaaDoorProg.lean LOADS. Nothing in Lean hashes anything: it is a label: what it is worth is what the hold of that sum in a sandbox is worth. -/
noncomputable def Tryd.pinned : Pinned := { name := "ytoemkhmbeiindaadoor", sum := "b762ca1e80b05e7acc6765702a418ab48d84c158c1f9275e78a1a636f39dbf2a", checked := Tryd.checked }
namespace Rows
def none {H : Type} : Left H := { results := [], args := [] }

/- WHAT THE LISTED PACKAGE-LEVEL VARIABLES READ AS WHEN THE CALL BEGINS. Each datum BY PROGRAM (the guide's laid-datum.mjs) off the statement by which the dump's own 'gosem.cut.vars' lays the variable. In a bare row this is a premise. The card (YtoemkhmbeiindaaDoorCards.lean) ties it to the program's text. -/
def laid_undertow_note_kinds {H : Type} : DataW H := .agg [.lit (.int .u8 0), .lit (.int .u8 3), .lit (.int .u8 3), .lit (.int .u8 25), .lit (.int .u8 2), .lit (.int .u8 2), .lit (.int .u8 20), .lit (.int .u8 2), .lit (.int .u8 0), .lit (.int .u8 33), .lit (.int .u8 3), .lit (.int .u8 1)]
def laid_undertow_plan_bounds {H : Type} : DataW H := .agg [.agg [.lit (.int .i64 1), .lit (.int .i64 16), .lit (.bool false)], .agg [.lit (.int .i64 1), .lit (.int .i64 16), .lit (.bool true)], .agg [.lit (.int .i64 1), .lit (.int .i64 4), .lit (.bool true)], .agg [.lit (.int .i64 1), .lit (.int .i64 256), .lit (.bool false)], .agg [.lit (.int .i64 1), .lit (.int .i64 4), .lit (.bool false)], .agg [.lit (.int .i64 1), .lit (.int .i64 4), .lit (.bool false)], .agg [.lit (.int .i64 1), .lit (.int .i64 8), .lit (.bool false)], .agg [.lit (.int .i64 0), .lit (.int .i64 8), .lit (.bool false)]]

/-- 'undertowlaw09.NetKnown': WHATEVER THE INPUT: true; the input reads as it did. -/
def netKnownSpec : ChangeSpec := { name := "netKnown", fn := fun _ => fun
  | [] => { results := [.lit (.bool true)], args := [] }
  | _ => none }
def netKnownRow : OpenClaim := { program := "ytoemkhmbeiindaadoor", sum := "b762ca1e80b05e7acc6765702a418ab48d84c158c1f9275e78a1a636f39dbf2a", func := "undertow/undertowlaw09.NetKnown", spec := "netKnown", inPlace := ["math.archTrunc", "math.Float64bits", "math.Float64frombits"], unfollowed := true, recurses := true, named := ["undertow/plan.bounds", "undertow/note.kinds"], plainKeys := false, apart := false, laid := [("undertow/note.kinds", laid_undertow_note_kinds), ("undertow/plan.bounds", laid_undertow_plan_bounds)] }
def NetKnownSaid : Prop := netKnownRow.holds Tryd.pinned (OpenSpec.ofChange netKnownSpec)

/-- ITS FALSE NEIGHBOUR: 'it returns false'. Refute it at one input. -/
def netKnownWrong : ChangeSpec := { name := "netKnown", fn := fun _ => fun
  | [] => { results := [.lit (.bool false)], args := [] }
  | _ => none }
def NetKnownWrongFalsely : Prop := netKnownRow.holds Tryd.pinned (OpenSpec.ofChange netKnownWrong)

/-- 'undertowlaw09.NetPlays': WHATEVER THE INPUT: true; the input reads as it did. -/
def netPlaysSpec : ChangeSpec := { name := "netPlays", fn := fun _ => fun
  | [d1, d2, d3] => { results := [.lit (.bool true)], args := [d1, d2, d3] }
  | _ => none }
def netPlaysRow : OpenClaim := { program := "ytoemkhmbeiindaadoor", sum := "b762ca1e80b05e7acc6765702a418ab48d84c158c1f9275e78a1a636f39dbf2a", func := "undertow/undertowlaw09.NetPlays", spec := "netPlays", inPlace := ["math.archTrunc", "math.Float64bits", "math.Float64frombits"], unfollowed := true, recurses := true, named := ["undertow/plan.bounds", "undertow/note.kinds"], plainKeys := false, apart := false, laid := [("undertow/note.kinds", laid_undertow_note_kinds), ("undertow/plan.bounds", laid_undertow_plan_bounds)] }
def NetPlaysSaid : Prop := netPlaysRow.holds Tryd.pinned (OpenSpec.ofChange netPlaysSpec)

/-- ITS FALSE NEIGHBOUR: 'it returns false'. Refute it at one input. -/
def netPlaysWrong : ChangeSpec := { name := "netPlays", fn := fun _ => fun
  | [d1, d2, d3] => { results := [.lit (.bool false)], args := [d1, d2, d3] }
  | _ => none }
def NetPlaysWrongFalsely : Prop := netPlaysRow.holds Tryd.pinned (OpenSpec.ofChange netPlaysWrong)

/-- 'undertowlaw09.NetOnce': WHATEVER THE INPUT: true; the input reads as it did. -/
def netOnceSpec : ChangeSpec := { name := "netOnce", fn := fun _ => fun
  | [d1, d2, d3] => { results := [.lit (.bool true)], args := [d1, d2, d3] }
  | _ => none }
def netOnceRow : OpenClaim := { program := "ytoemkhmbeiindaadoor", sum := "b762ca1e80b05e7acc6765702a418ab48d84c158c1f9275e78a1a636f39dbf2a", func := "undertow/undertowlaw09.NetOnce", spec := "netOnce", inPlace := ["math.archTrunc", "math.Float64bits", "math.Float64frombits"], unfollowed := true, recurses := true, named := ["undertow/plan.bounds", "undertow/note.kinds"], plainKeys := false, apart := false, laid := [("undertow/note.kinds", laid_undertow_note_kinds), ("undertow/plan.bounds", laid_undertow_plan_bounds)] }
def NetOnceSaid : Prop := netOnceRow.holds Tryd.pinned (OpenSpec.ofChange netOnceSpec)

/-- ITS FALSE NEIGHBOUR: 'it returns false'. Refute it at one input. -/
def netOnceWrong : ChangeSpec := { name := "netOnce", fn := fun _ => fun
  | [d1, d2, d3] => { results := [.lit (.bool false)], args := [d1, d2, d3] }
  | _ => none }
def NetOnceWrongFalsely : Prop := netOnceRow.holds Tryd.pinned (OpenSpec.ofChange netOnceWrong)

/-- 'undertowlaw09.NetRoom': WHATEVER THE INPUT: true; the input reads as it did. -/
def netRoomSpec : ChangeSpec := { name := "netRoom", fn := fun _ => fun
  | [d1, d2, d3] => { results := [.lit (.bool true)], args := [d1, d2, d3] }
  | _ => none }
def netRoomRow : OpenClaim := { program := "ytoemkhmbeiindaadoor", sum := "b762ca1e80b05e7acc6765702a418ab48d84c158c1f9275e78a1a636f39dbf2a", func := "undertow/undertowlaw09.NetRoom", spec := "netRoom", inPlace := ["math.archTrunc", "math.Float64bits", "math.Float64frombits"], unfollowed := true, recurses := true, named := ["undertow/plan.bounds", "undertow/note.kinds"], plainKeys := false, apart := false, laid := [("undertow/note.kinds", laid_undertow_note_kinds), ("undertow/plan.bounds", laid_undertow_plan_bounds)] }
def NetRoomSaid : Prop := netRoomRow.holds Tryd.pinned (OpenSpec.ofChange netRoomSpec)

/-- ITS FALSE NEIGHBOUR: 'it returns false'. Refute it at one input. -/
def netRoomWrong : ChangeSpec := { name := "netRoom", fn := fun _ => fun
  | [d1, d2, d3] => { results := [.lit (.bool false)], args := [d1, d2, d3] }
  | _ => none }
def NetRoomWrongFalsely : Prop := netRoomRow.holds Tryd.pinned (OpenSpec.ofChange netRoomWrong)

/-- 'undertowlaw09.NetCopies': WHATEVER THE INPUT: true; the input reads as it did. -/
def netCopiesSpec : ChangeSpec := { name := "netCopies", fn := fun _ => fun
  | [d1, d2, d3] => { results := [.lit (.bool true)], args := [d1, d2, d3] }
  | _ => none }
def netCopiesRow : OpenClaim := { program := "ytoemkhmbeiindaadoor", sum := "b762ca1e80b05e7acc6765702a418ab48d84c158c1f9275e78a1a636f39dbf2a", func := "undertow/undertowlaw09.NetCopies", spec := "netCopies", inPlace := ["math.archTrunc", "math.Float64bits", "math.Float64frombits"], unfollowed := true, recurses := true, named := ["undertow/plan.bounds", "undertow/note.kinds"], plainKeys := false, apart := false, laid := [("undertow/note.kinds", laid_undertow_note_kinds), ("undertow/plan.bounds", laid_undertow_plan_bounds)] }
def NetCopiesSaid : Prop := netCopiesRow.holds Tryd.pinned (OpenSpec.ofChange netCopiesSpec)

/-- ITS FALSE NEIGHBOUR: 'it returns false'. Refute it at one input. -/
def netCopiesWrong : ChangeSpec := { name := "netCopies", fn := fun _ => fun
  | [d1, d2, d3] => { results := [.lit (.bool false)], args := [d1, d2, d3] }
  | _ => none }
def NetCopiesWrongFalsely : Prop := netCopiesRow.holds Tryd.pinned (OpenSpec.ofChange netCopiesWrong)

/-- 'undertowlaw09.NetOrder': WHATEVER THE INPUT: true; the input reads as it did. -/
def netOrderSpec : ChangeSpec := { name := "netOrder", fn := fun _ => fun
  | [d1, d2] => { results := [.lit (.bool true)], args := [d1, d2] }
  | _ => none }
def netOrderRow : OpenClaim := { program := "ytoemkhmbeiindaadoor", sum := "b762ca1e80b05e7acc6765702a418ab48d84c158c1f9275e78a1a636f39dbf2a", func := "undertow/undertowlaw09.NetOrder", spec := "netOrder", inPlace := ["math.archTrunc", "math.Float64bits", "math.Float64frombits"], unfollowed := true, recurses := true, named := ["undertow/plan.bounds", "undertow/note.kinds"], plainKeys := false, apart := false, laid := [("undertow/note.kinds", laid_undertow_note_kinds), ("undertow/plan.bounds", laid_undertow_plan_bounds)] }
def NetOrderSaid : Prop := netOrderRow.holds Tryd.pinned (OpenSpec.ofChange netOrderSpec)

/-- ITS FALSE NEIGHBOUR: 'it returns false'. Refute it at one input. -/
def netOrderWrong : ChangeSpec := { name := "netOrder", fn := fun _ => fun
  | [d1, d2] => { results := [.lit (.bool false)], args := [d1, d2] }
  | _ => none }
def NetOrderWrongFalsely : Prop := netOrderRow.holds Tryd.pinned (OpenSpec.ofChange netOrderWrong)

/- THE SECOND FORM. 'bulk': how many values and letters a reading holds, each counted each time it is reached (what is shared counts as often as it is met; a slice's spare places count too). A statement '..UptoSaid' is the law's where the arguments, and the package variables that the reading takes, are together of bulk at most 1048576: NARROWER than '..Said'. Prove '..Said' where nothing that the law and all that it calls make is longer than what came in: it says more and counts as full. Else prove '..UptoSaid'. A law counts once. -/
mutual
def uptoBulk {H : Type} : DataW H → Nat
  | .lit (.string bytes) => bytes.length + 1
  | .lit _ => 1
  | .nil => 1
  | .ptr d => uptoBulk d + 1
  | .slice elems spare => uptoBulkAll elems + uptoBulkAll spare + 1
  | .agg parts => uptoBulkAll parts + 1
  | .iface _ d => uptoBulk d + 1
  | .map entries => uptoBulkEntries entries + 1
  | .held _ => 1
def uptoBulkAll {H : Type} : List (DataW H) → Nat
  | [] => 0
  | d :: r => uptoBulk d + uptoBulkAll r
def uptoBulkEntries {H : Type} : List (Lit × DataW H) → Nat
  | [] => 0
  | x :: r => uptoBulkEntry x + uptoBulkEntries r
def uptoBulkEntry {H : Type} : Lit × DataW H → Nat
  | (.string bytes, d) => bytes.length + uptoBulk d + 1
  | (_, d) => uptoBulk d + 1
 end
def uptoSmall : (H : Type) → List (DataW H) → Bool := fun _ ds => decide (uptoBulkAll ds ≤ 1048576)
def OpenSpec.upto (s : _root_.Go.ChangeSpec) : _root_.Go.OpenSpec := { _root_.Go.OpenSpec.ofChange s with cond := some uptoSmall }

/-- 'undertowlaw09.NetKnown', WHERE WHAT IT READS IS OF BULK AT MOST 1048576: true; the input reads as it did. -/
def netKnownUptoRow : OpenClaim := { program := "ytoemkhmbeiindaadoor", sum := "b762ca1e80b05e7acc6765702a418ab48d84c158c1f9275e78a1a636f39dbf2a", func := "undertow/undertowlaw09.NetKnown", spec := "netKnown", inPlace := ["math.archTrunc", "math.Float64bits", "math.Float64frombits"], unfollowed := true, recurses := true, named := ["undertow/plan.bounds", "undertow/note.kinds"], plainKeys := false, apart := false, laid := [("undertow/note.kinds", laid_undertow_note_kinds), ("undertow/plan.bounds", laid_undertow_plan_bounds)], narrowed := true }
def NetKnownUptoSaid : Prop := netKnownUptoRow.holds Tryd.pinned (OpenSpec.upto netKnownSpec)

/-- 'undertowlaw09.NetPlays', WHERE WHAT IT READS IS OF BULK AT MOST 1048576: true; the input reads as it did. -/
def netPlaysUptoRow : OpenClaim := { program := "ytoemkhmbeiindaadoor", sum := "b762ca1e80b05e7acc6765702a418ab48d84c158c1f9275e78a1a636f39dbf2a", func := "undertow/undertowlaw09.NetPlays", spec := "netPlays", inPlace := ["math.archTrunc", "math.Float64bits", "math.Float64frombits"], unfollowed := true, recurses := true, named := ["undertow/plan.bounds", "undertow/note.kinds"], plainKeys := false, apart := false, laid := [("undertow/note.kinds", laid_undertow_note_kinds), ("undertow/plan.bounds", laid_undertow_plan_bounds)], narrowed := true }
def NetPlaysUptoSaid : Prop := netPlaysUptoRow.holds Tryd.pinned (OpenSpec.upto netPlaysSpec)

/-- 'undertowlaw09.NetOnce', WHERE WHAT IT READS IS OF BULK AT MOST 1048576: true; the input reads as it did. -/
def netOnceUptoRow : OpenClaim := { program := "ytoemkhmbeiindaadoor", sum := "b762ca1e80b05e7acc6765702a418ab48d84c158c1f9275e78a1a636f39dbf2a", func := "undertow/undertowlaw09.NetOnce", spec := "netOnce", inPlace := ["math.archTrunc", "math.Float64bits", "math.Float64frombits"], unfollowed := true, recurses := true, named := ["undertow/plan.bounds", "undertow/note.kinds"], plainKeys := false, apart := false, laid := [("undertow/note.kinds", laid_undertow_note_kinds), ("undertow/plan.bounds", laid_undertow_plan_bounds)], narrowed := true }
def NetOnceUptoSaid : Prop := netOnceUptoRow.holds Tryd.pinned (OpenSpec.upto netOnceSpec)

/-- 'undertowlaw09.NetRoom', WHERE WHAT IT READS IS OF BULK AT MOST 1048576: true; the input reads as it did. -/
def netRoomUptoRow : OpenClaim := { program := "ytoemkhmbeiindaadoor", sum := "b762ca1e80b05e7acc6765702a418ab48d84c158c1f9275e78a1a636f39dbf2a", func := "undertow/undertowlaw09.NetRoom", spec := "netRoom", inPlace := ["math.archTrunc", "math.Float64bits", "math.Float64frombits"], unfollowed := true, recurses := true, named := ["undertow/plan.bounds", "undertow/note.kinds"], plainKeys := false, apart := false, laid := [("undertow/note.kinds", laid_undertow_note_kinds), ("undertow/plan.bounds", laid_undertow_plan_bounds)], narrowed := true }
def NetRoomUptoSaid : Prop := netRoomUptoRow.holds Tryd.pinned (OpenSpec.upto netRoomSpec)

/-- 'undertowlaw09.NetCopies', WHERE WHAT IT READS IS OF BULK AT MOST 1048576: true; the input reads as it did. -/
def netCopiesUptoRow : OpenClaim := { program := "ytoemkhmbeiindaadoor", sum := "b762ca1e80b05e7acc6765702a418ab48d84c158c1f9275e78a1a636f39dbf2a", func := "undertow/undertowlaw09.NetCopies", spec := "netCopies", inPlace := ["math.archTrunc", "math.Float64bits", "math.Float64frombits"], unfollowed := true, recurses := true, named := ["undertow/plan.bounds", "undertow/note.kinds"], plainKeys := false, apart := false, laid := [("undertow/note.kinds", laid_undertow_note_kinds), ("undertow/plan.bounds", laid_undertow_plan_bounds)], narrowed := true }
def NetCopiesUptoSaid : Prop := netCopiesUptoRow.holds Tryd.pinned (OpenSpec.upto netCopiesSpec)

/-- 'undertowlaw09.NetOrder', WHERE WHAT IT READS IS OF BULK AT MOST 1048576: true; the input reads as it did. -/
def netOrderUptoRow : OpenClaim := { program := "ytoemkhmbeiindaadoor", sum := "b762ca1e80b05e7acc6765702a418ab48d84c158c1f9275e78a1a636f39dbf2a", func := "undertow/undertowlaw09.NetOrder", spec := "netOrder", inPlace := ["math.archTrunc", "math.Float64bits", "math.Float64frombits"], unfollowed := true, recurses := true, named := ["undertow/plan.bounds", "undertow/note.kinds"], plainKeys := false, apart := false, laid := [("undertow/note.kinds", laid_undertow_note_kinds), ("undertow/plan.bounds", laid_undertow_plan_bounds)], narrowed := true }
def NetOrderUptoSaid : Prop := netOrderUptoRow.holds Tryd.pinned (OpenSpec.upto netOrderSpec)

end Rows
end Go.Proofs.YtoemkhmbeiindaaDoor
