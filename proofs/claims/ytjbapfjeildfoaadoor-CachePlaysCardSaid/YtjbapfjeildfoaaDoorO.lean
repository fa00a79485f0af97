/-
  A script of calls in memory. No condition.
-/
import Derived.Test.YtjbapfjeildfoaaDoorN
import Derived.Test.YtjbapfjeildfoaaDoorC14
namespace Go.Proofs.YtjbapfjeildfoaaDoor.kk
open Go
set_option linter.unusedVariables false

/-- A call: its kind, its block, its word, its state, its X. -/
structure OpX where
  kind : Int
  b : Int
  wd : Int
  s : Int
  x : Int
instance : Inhabited OpX := ⟨⟨0, 0, 0, 0, 0⟩⟩
/-- The calls of a script lie behind the address, five cells each. -/
def OpsAt (w : World) (ad : Option Addr) (os : List OpX) : Prop := ∀ (k : Nat) q, os[k]? = some q → ∃ b off, ad = some ⟨b, off, none⟩ ∧ w.cell? ⟨b, off + k * 5, none⟩ = some (.int .i64 q.kind) ∧ w.cell? ⟨b, off + k * 5 + 1, none⟩ = some (.int .i64 q.b) ∧ w.cell? ⟨b, off + k * 5 + 2, none⟩ = some (.int .i64 q.wd) ∧ w.cell? ⟨b, off + k * 5 + 3, none⟩ = some (.int .u8 q.s) ∧ w.cell? ⟨b, off + k * 5 + 4, none⟩ = some (.int .u32 q.x)
theorem OpsAt.grown {w w' : World} {ad : Option Addr} {os : List OpX} (h : OpsAt w ad os) (hg : w.grownBy w' none) : OpsAt w' ad os := fun k q hq => by
  obtain ⟨b, off, e, h0, h1, h2, h3, h4⟩ := h k q hq
  exact ⟨b, off, e, hg.cell h0 (by simp), hg.cell h1 (by simp), hg.cell h2 (by simp), hg.cell h3 (by simp), hg.cell h4 (by simp)⟩
/-- The variable that a call is read into. -/
def opCells (q : OpX) : Array Value := #[.int .i64 q.kind, .int .i64 q.b, .int .i64 q.wd, .int .u8 q.s, .int .u32 q.x]
theorem op_box (w : World) (q : OpX) : (w.alloc (.cells (opCells q) 50)).heap[w.heap.size]? = some (.cells (opCells q) 50 (0, 0)) := heap_alloc_new _ _

/-- The cache of a law, as it goes: its invariant too. -/
structure Run (w w1 : World) (K : Loc) (c : Cfg) (ss : List St) : Prop where
  go : Go1 w w1 K c ss
  inv : Inv c ss
section
variable {w w1 w2 : World} {K : Loc} {c : Cfg} {ss ss' : List St}
theorem Run.at (h : Run w w1 K c ss) (b : Int) : ss[setOf c b]? = some (setAt c ss b) := Cac.here K c ss w1 h.go.cac b
theorem Run.more (h : Run w w1 K c ss) (hg : w1.grownBy w2 none) : Run w w2 K c ss := ⟨h.go.more hg, h.inv⟩
theorem Run.next (h : Run w w1 K c ss) (hc : Cac w2 K c ss') (hk : Kept K.own w1 w2) (hi : Inv c ss') : Run w w2 K c ss' := ⟨h.go.next hc hk, hi⟩
theorem Run.vc_lt (h : Run w w1 K c ss) (b : Int) : vc (setAt c ss b).2 (setAt c ss b).1.length < (setAt c ss b).1.length := by
  have hg := h.go.cac.good (List.mem_of_getElem? (h.at b))
  exact kk.vc_lt _ _ (by unfold good at hg; omega)
end
end Go.Proofs.YtjbapfjeildfoaaDoor.kk
