/-
  works returns true; so do the laws MemKnown, MemMerges and MemMergesBoth: the walks. No condition but the bounds that each theorem names.
-/
import Derived.Test.YtfjjmlmkpdpdfaaDoorMeC7
import Derived.Deep.RegionHeld
namespace Go.Proofs.YtfjjmlmkpdpdfaaDoor.pp
open Go Go.ChangeShapes Go.WideShapes Go.ChangeAt Go.RowKit
set_option linter.unusedVariables false

theorem grown_fresh {w w1 w2 : World} {own : Option Nat} (h : w.grownBy w1 none) (k : w1.grownBy w2 own) (ho : ∀ g, own = some g → w.heap.size ≤ g) : w.grownBy w2 none :=
  ⟨k.os.trans h.os, k.tape.trans h.tape, k.output.trans h.output, Nat.le_trans h.size k.size, fun i hi _ => (k.block i (Nat.lt_of_lt_of_le hi h.size) (fun e => by have := ho i e.symm; omega)).trans (h.block i hi (by simp))⟩

/-- A block's cells, as a list. -/
def rl (x : List Int) : List Value := x.map U
theorem rl_i (x : List Int) (h : x.length = 16) : (Tryd.prog.info? 56).map (·.size) = some (rl x).length := by rw [rl, List.length_map, h]; exact info30
theorem range_of {w : World} {g : Nat} {x : List Int} (h : w.heap[g]? = some (.cells (row x) 56 (0, 0))) : w.rangeAt g 0 (rl x) := fun j v hv => by
  rw [Nat.zero_add, cell_of_row _ _ j _ _ _ h, row_get]
  simpa [rl] using hv
theorem range_grown {w w' : World} {g o : Nat} {xs : List Value} (h : w.rangeAt g o xs) (hg : w.grownBy w' none) : w'.rangeAt g o xs := fun j v hv => hg.cell (h j v hv) (by simp)
/-- Two blocks lie where they lay, and nothing that was there is otherwise. -/
def Two (w w' : World) (g1 g2 : Nat) (x y : List Int) : Prop := w'.rangeAt g1 0 (rl x) ∧ w'.rangeAt g2 0 (rl y) ∧ w.grownBy w' none
theorem Two.next {w w1 w2 : World} {g1 g2 : Nat} {x y : List Int} (h : w1.rangeAt g1 0 (rl x) ∧ w1.rangeAt g2 0 (rl y) ∧ w.grownBy w1 none) (k : w1.grownBy w2 none) : w2.rangeAt g1 0 (rl x) ∧ w2.rangeAt g2 0 (rl y) ∧ w.grownBy w2 none :=
  ⟨range_grown h.1 k, range_grown h.2.1 k, grown_trans h.2.2 k⟩

/-- A load of a block in a region that draws its order, its type and its size kept under names. -/
theorem named : ∃ (t : TypeId) (n : Nat), Hid (Op.load 56 = Op.load t) ∧ (∀ w, (isAgg t).run Tryd.prog w = .ok true w) ∧ (∀ w, (sizeOf t).run Tryd.prog w = .ok n w) ∧
    ∀ (g : Nat) (x : List Int), x.length = 16 → ∀ w : World, w.rangeAt g 0 (rl x) → (loadCellsFrom ⟨g, 0, none⟩ 0 n #[]).run Tryd.prog w = .ok (row x) w :=
  ⟨56, 16, Lib.hid rfl, Tryd.isAgg56, Tryd.sizeOf56, fun g x hx w h => by
    have := run_loadCells_list (P := Tryd.prog) w ⟨g, 0, none⟩ (rl x) (fun j v hv => by rw [add_lit]; exact h j v hv)
    simpa [loadCells, rl, hx, row] using this⟩

end Go.Proofs.YtfjjmlmkpdpdfaaDoor.pp
