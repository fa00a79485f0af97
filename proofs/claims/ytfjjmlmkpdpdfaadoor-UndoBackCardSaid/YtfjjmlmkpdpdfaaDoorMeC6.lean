/-
  What all and Merge answer, both of the program and of the document: contracts. No condition but the bounds that each theorem names.
-/
import Derived.Test.YtfjjmlmkpdpdfaaDoorMeC5
namespace Go.Proofs.YtfjjmlmkpdpdfaaDoor.pp
open Go Go.ChangeShapes Go.WideShapes Go.ChangeAt Go.RowKit
set_option linter.unusedVariables false

def allX (x : Int) : List Int := List.replicate 16 x
theorem allX_len (x : Int) : (allX x).length = 16 := by simp [allX]
/-- The first k words are x, the others 0. -/
def pre (x : Int) (k : Nat) : List Int := List.replicate k x ++ List.replicate (16 - k) 0
theorem pre_len (x : Int) (k : Nat) (h : k ≤ 16) : (pre x k).length = 16 := by simp [pre]; omega
theorem pre_set (x : Int) (k : Nat) (h : k < 16) : (pre x k).set k x = pre x (k + 1) := by
  apply List.ext_getElem?
  intro j
  rw [List.getElem?_set, pre, pre]
  simp only [List.getElem?_append, List.length_append, List.length_replicate, List.getElem?_replicate]
  by_cases h1 : k = j
  · subst h1; simp [show k < k + (16 - k) by omega]
  · rw [if_neg h1]
    by_cases h2 : j < k
    · simp [h2, show j < k + 1 by omega]
    · by_cases h3 : j < 16
      · simp [h2, show ¬ j < k + 1 by omega, show j - k < 16 - k by omega]; omega
      · simp [h2, show ¬ j < k + 1 by omega, show ¬ j - k < 16 - k by omega]; omega

theorem pre_all (x : Int) : pre x 16 = allX x := by simp [pre, allX]

/-- What a function hands back that has one result, a block. -/
theorem ret_cell {fn : Func} {p : Tmp} (h : fn.results = #[.cell p 56]) (c : List Int) (hc : c.length = 16) {w : World} (g : Nat) (hg : w.heap[g]? = some (.cells (row c) 56 (0, 0))) (tmps : Array Value) (hp : tmps.getD p undef = .pointer (some ⟨g, 0, none⟩)) (Q : Ending → World → Prop)
    (hQ : Q (.returned (.agg (row c))) w) : bodyPost Tryd.prog fn Q .ret { tmps := tmps, defers := [] } w :=
  bodyPost_ret (results_cell_row h tmps w g 56 (row c) (0, 0) _ hp hg Tryd.underlying56 rfl (info30' c hc)) rfl hQ
theorem grown_setRow {w w1 : World} (h : w.grownBy w1 none) (g : Nat) (hg : w.heap.size ≤ g) (c : Array Value) : w.grownBy (w1.setRow g c) none :=
  ⟨h.os, h.tape, h.output, by have := h.size; simp; omega, fun k hk hn => (setRow_other _ _ _ _ (by omega)).trans (h.block k hk hn)⟩
theorem grown_setCell {w w1 : World} (h : w.grownBy w1 none) (g j : Nat) (hg : w.heap.size ≤ g) (u : Value) : w.grownBy (w1.setCell ⟨g, j, none⟩ u) none :=
  ⟨h.os, h.tape, h.output, by have := h.size; simp [World.setCell]; omega, fun k hk hn => (heap_setCell_other _ _ _ _ (by simp; omega)).trans (h.block k hk hn)⟩

end Go.Proofs.YtfjjmlmkpdpdfaaDoor.pp
