/-
  An instruction as five cells, bounds as two; what the small functions of package code answer about bounds: contracts. No condition but the bounds that each theorem names.
-/
import Derived.Test.YtmfckkioccmblaaDoorRows
import Derived.WalkKit
import Derived.ProofKit
import Derived.OpenShut
import Derived.WalkLawsBesides
import Derived.Handy
import Derived.Laws.BitsAllLaws
import Derived.Laws.StructEq
import Derived.Lib.Hide
import Derived.LoopTactic
import Derived.Outline
import Derived.Deep.WholeRow
import Derived.Deep.RegionHeld3
import Derived.Below
namespace Go.Proofs.YtmfckkioccmblaaDoor.cd
open Go Go.ChangeShapes Go.WideShapes Go.ChangeAt Go.RowKit
set_option linter.unusedVariables false

theorem grown_alloc {w w' : World} {own : Option Nat} (h : w.grownBy w' own) (o : Obj) : w.grownBy (w'.alloc o) own :=
  ⟨h.os, h.tape, h.output, by have := h.size; simp; omega, fun k hk hn => (Below.heap_alloc _ _ _ (Nat.lt_of_lt_of_le hk h.size)).trans (h.block k hk hn)⟩
theorem grown_refl (w : World) (own : Option Nat) : w.grownBy w own := ⟨rfl, rfl, rfl, Nat.le_refl _, fun _ _ _ => rfl⟩
theorem grown_trans {a b c : World} {own : Option Nat} (h : a.grownBy b own) (k : b.grownBy c own) : a.grownBy c own :=
  ⟨k.os.trans h.os, k.tape.trans h.tape, k.output.trans h.output, Nat.le_trans h.size k.size, fun i hi hn => (k.block i (Nat.lt_of_lt_of_le hi h.size) hn).trans (h.block i hi hn)⟩
theorem grown_drew {w w' : World} {own : Option Nat} (h : w.grownBy w' own) : w.grownBy w'.drew own := ⟨h.os, h.tape, h.output, h.size, h.block⟩
theorem grown_drewN {w w' : World} {own : Option Nat} (h : w.grownBy w' own) (n : Nat) : w.grownBy (w'.drewN n) own := ⟨h.os, h.tape, h.output, h.size, h.block⟩
theorem below_of {w w' : World} (h : w.grownBy w' none) : Below w.heap.size w w' := ⟨h.os, h.tape, h.output, h.size, fun k hk => h.block k hk (by simp)⟩
theorem row_grown {w w' : World} {g : Nat} {o : Obj} (h : w.heap[g]? = some o) (hg : w.grownBy w' none) : w'.heap[g]? = some o :=
  (hg.block g (Array.getElem?_eq_some_iff.1 h).1 (by simp)).trans h
theorem grown_setRow {w w1 : World} (h : w.grownBy w1 none) (g : Nat) (hg : w.heap.size ≤ g) (c : Array Value) : w.grownBy (w1.setRow g c) none :=
  ⟨h.os, h.tape, h.output, by have := h.size; simp; omega, fun k hk hn => (setRow_other _ _ _ _ (by omega)).trans (h.block k hk hn)⟩

theorem ret_i64 {a b : Int} (h : a = b) : Ending.returned (.int .i64 a) = Ending.returned (.int .i64 b) := by rw [h]
theorem ret_u32 {a b : Int} (h : a = b) : Ending.returned (.int .u32 a) = Ending.returned (.int .u32 b) := by rw [h]
theorem ret_bool {a b : Bool} (h : a = b) : Ending.returned (.bool a) = Ending.returned (.bool b) := by rw [h]
/-- The number within bounds that is next to x. -/
def nr (l h x : Int) : Int := if h < (if x < l then l else x) then h else if x < l then l else x
theorem nr_same {l h x : Int} (hlh : l ≤ h) : nr l h x = x ↔ l ≤ x ∧ x ≤ h := by unfold nr; split <;> split <;> omega
theorem nearest_any (l h x : Int) (w : World) : Calls Tryd.prog 26 #[.agg #[.int .i64 l, .int .i64 h], .int .i64 x] w fun e w' => e = .returned (.int .i64 (nr l h x)) ∧ w.grownBy w' none := by
  have HG : Hid (w.grownBy (w.alloc (.cells #[.int .i64 l, .int .i64 h] 49)) none) := Lib.hid (grown_alloc (grown_refl _ _) _)
  by_cases h1 : x < l
  all_goals
    go_enter Tryd.func26, Tryd.ntmps26
    go_wp2
    all_goals
      go_ret
      exact ⟨ret_i64 (by unfold nr; first | (rw [if_pos h1]; split <;> omega) | (rw [if_neg (show ¬ x < l by omega)]; split <;> omega)), HG.out⟩
/-- The cells of a block of two. -/
theorem cells2 {w : World} {g : Nat} {a b : Value} {t : TypeId} {fr : Nat × Nat} (h : w.heap[g]? = some (.cells #[a, b] t fr)) : w.cell? ⟨g, 0, none⟩ = some a ∧ w.cell? ⟨g, 1, none⟩ = some b :=
  ⟨cell_of_row _ _ 0 _ _ _ h, cell_of_row _ _ 1 _ _ _ h⟩
/-- What the lowest bits of x tell, p many numbers, the greatest one h. -/
def rd (h : Int) (p x : Nat) : Int := if h < ((x % p : Nat) : Int) then ((x % p : Nat) : Int) - p else ((x % p : Nat) : Int)
end Go.Proofs.YtmfckkioccmblaaDoor.cd
