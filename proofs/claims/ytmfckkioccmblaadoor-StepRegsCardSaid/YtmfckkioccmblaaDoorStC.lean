/-
  The row of what instructions do with two words: a contract.
-/
import Derived.Test.YtmfckkioccmblaaDoorStB
namespace Go.Proofs.YtmfckkioccmblaaDoor.sg
open Go Go.ChangeShapes Go.WideShapes Go.ChangeAt Go.RowKit Go.Proofs.YtmfckkioccmblaaDoor.cd
set_option linter.unusedVariables false
set_option maxRecDepth 1000000

def fn (k : Nat) : Value := .func (.func k) #[] #[]
/-- What each instruction does with two words, by its Op. -/
def wks : Array Value := #[.nilFunc, fn 27, fn 30, fn 31, fn 32, fn 33, fn 28, fn 34, fn 27, .nilFunc, .nilFunc, .nilFunc, fn 35, fn 36, fn 37, fn 28, .nilFunc, .nilFunc, .nilFunc, .nilFunc, .nilFunc, .nilFunc]
theorem infoW : (Tryd.prog.info? 44).map (·.size) = some wks.size := by kernel_rfl
section
variable {w : World} {ops : Array Oper} {rest : List Oper} {a : Act} {Q : Exit → Act → World → Prop} {dst : Option Tmp} {ty : TypeId} {pos : String} {after : Array Edge}
theorem store_wk (x y : Tmp) (g : Nat) (c' : Array Value) (hx : a.eval (.tmp x) = .pointer (some ⟨g, 0, none⟩)) (hy : a.eval (.tmp y) = .agg wks)
    (hg : w.heap[g]? = some (.cells c' 44 (0, 0))) (hc' : c'.size = 22)
    (h : wpList Tryd.prog ops Q rest (a.put dst undef) (w.setRow g wks)) : wpList Tryd.prog ops Q (⟨dst, .store 44 (.tmp x) (.tmp y), ty, pos, after, none⟩ :: rest) a w :=
  wpList_store_row rfl 44 (.tmp x) (.tmp y) rfl g wks hx hy 44 _ hg infoW (by rw [hc']; rfl) (by simp [wks, fn, Value.oneCell']) h
end
theorem works_row (w : World) : Calls Tryd.prog 23 #[] w fun e w' => e = .returned (.agg wks) ∧ w.grownBy w' none := by
  go_enter Tryd.func23, Tryd.ntmps23
  go_wp2_with (first
    | ((with_reducible refine store_wk 0 7 w.heap.size _ ?_ ?_ (heap_alloc_new _ _) ?_ ?_); ((rfl)); ((rfl)); ((rfl))))
  refine bodyPost_ret (v := .agg wks) (results_cell_row rfl _ _ w.heap.size 44 wks (0, 0) _ (by rfl) (setRow_heap _ _ _ _ _ _ (heap_alloc_new _ _)) Tryd.underlying44 rfl infoW) rfl ?_
  exact ⟨rfl, grown_setRow (grown_alloc (grown_refl _ _) _) _ (Nat.le_refl _) _⟩
/-- One of them. -/
theorem idxW (k : Nat) (v : Value) (h1 : k < 22) (h : wks[k]? = some v) (w : World) : (Instr.index 44 (.agg wks) (.int .u8 (k : Int))).run Tryd.prog w = .ok v w := by
  simp [Instr.index, asIntOf, part, isAgg, run_underlying Tryd.underlying44, run_underlying Tryd.underlying43, Tryd.sizeOf43, h1, h]
end Go.Proofs.YtmfckkioccmblaaDoor.sg
