/-
  What all and Merge answer, both of the program and of the document: contracts. No condition but the bounds that each theorem names.
-/
import Derived.Test.YtcbkfgcjjhifdaaC5
namespace Go.Proofs.Ytcbkfgcjjhifdaa.pp
open Go Go.ChangeShapes Go.WideShapes Go.ChangeAt Go.RowKit
set_option linter.unusedVariables false

def allX (x : Int) : List Int := List.replicate 16 x
theorem allX_len (x : Int) : (allX x).length = 16 := by simp [allX]
/-- The first k words are x, the others 0. -/
def pre (x : Int) (k : Nat) : List Int := List.replicate k x ++ List.replicate (16 - k) 0
theorem pre_len (x : Int) (k : Nat) (h : k ≤ 16) : (pre x k).length = 16 := by simp [pre]; omega
theorem pre_set (x : Int) (k : Nat) (h : k < 16) : (pre x k).set k x = pre x (k + 1) := by
  apply List.ext_getElem?
  intro j
  rw [List.getElem?_set, pre, pre]
  simp only [List.getElem?_append, List.length_append, List.length_replicate, List.getElem?_replicate]
  by_cases h1 : k = j
  · subst h1; simp [show k < k + (16 - k) by omega]
  · rw [if_neg h1]
    by_cases h2 : j < k
    · simp [h2, show j < k + 1 by omega]
    · by_cases h3 : j < 16
      · simp [h2, show ¬ j < k + 1 by omega, show j - k < 16 - k by omega]; omega
      · simp [h2, show ¬ j < k + 1 by omega, show ¬ j - k < 16 - k by omega]; omega

theorem pre_all (x : Int) : pre x 16 = allX x := by simp [pre, allX]

/-- What a function hands back that has one result, a block. -/
theorem ret_cell {fn : Func} {p : Tmp} (h : fn.results = #[.cell p 30]) (c : List Int) (hc : c.length = 16) {w : World} (g : Nat) (hg : w.heap[g]? = some (.cells (row c) 30 (0, 0))) (tmps : Array Value) (hp : tmps.getD p undef = .pointer (some ⟨g, 0, none⟩)) (Q : Ending → World → Prop)
    (hQ : Q (.returned (.agg (row c))) w) : bodyPost Try.prog fn Q .ret { tmps := tmps, defers := [] } w :=
  bodyPost_ret (results_cell_row h tmps w g 30 (row c) (0, 0) _ hp hg Try.underlying30 rfl (info30' c hc)) rfl hQ
theorem grown_setRow {w w1 : World} (h : w.grownBy w1 none) (g : Nat) (hg : w.heap.size ≤ g) (c : Array Value) : w.grownBy (w1.setRow g c) none :=
  ⟨h.os, h.tape, h.output, by have := h.size; simp; omega, fun k hk hn => (setRow_other _ _ _ _ (by omega)).trans (h.block k hk hn)⟩
theorem grown_setCell {w w1 : World} (h : w.grownBy w1 none) (g j : Nat) (hg : w.heap.size ≤ g) (u : Value) : w.grownBy (w1.setCell ⟨g, j, none⟩ u) none :=
  ⟨h.os, h.tape, h.output, by have := h.size; simp [World.setCell]; omega, fun k hk hn => (heap_setCell_other _ _ _ _ (by simp; omega)).trans (h.block k hk hn)⟩

theorem all_any (x : Int) (w : World) : Calls Try.prog 13 #[.int .u32 x] w fun e w' => e = .returned (.agg (row (allX x))) ∧ w.grownBy w' none := by
  go_enter Try.func13, Try.ntmps13
  go_wp2_with fail
  go_loopw [5, 4] (fun i _ wr => ∃ k : Nat, k ≤ 16 ∧ i = .int .i64 (k : Int) ∧ wr = (w.alloc (.cells (row zero) 30)).alloc (.cells (row (pre x k)) 30)) (fun i _ _ => 16 - (intOf i).toNat)
  case atStart => exact ⟨0, by omega, rfl, rfl⟩
  case round =>
    obtain ⟨k, hk, rfl, rfl⟩ := hrel
    by_cases hlt : k < 16
    · have hr : (row (pre x k))[k]? = some (.int .u32 ((pre x k)[k]'(by rw [pre_len _ _ hk]; exact hlt))) := by rw [row_get, List.getElem?_eq_getElem (by rw [pre_len _ _ hk]; exact hlt)]; rfl
      have HS : Hid ((row (pre x k)).setIfInBounds k (.int .u32 x) = row (pre x (k + 1))) := Lib.hid (by rw [show (Value.int .u32 x) = U x from rfl, row_set, pre_set x k hlt])
      go_wp2_with fail
      go_roundw
      case rel => exact ⟨k + 1, by omega, by go_num, by rw [HS.out]⟩
      case measure => simp [intOf]; omega
    · have hkn : k = 16 := by omega
      subst hkn
      rw [pre_all]
      go_wp2_with (first
        | ((with_reducible refine load_any (allX x) 3 (w.heap.size + 1) ?_ ?_ (allX_len x) ?_); (rfl); (exact heap_alloc2_new w _ _))
        | ((with_reducible refine store_any (allX x) zero 2 12 w.heap.size ?_ ?_ (allX_len x) ?_ zero_size ?_); (rfl); (rfl); (exact heap_alloc2_old w _ _)))
      refine ret_cell rfl (allX x) (allX_len x) w.heap.size ?_ _ (by rfl) _ ?_
      · exact setRow_heap _ _ _ _ _ _ (heap_alloc2_old w _ _)
      · exact ⟨rfl, grown_setRow (grown_alloc (grown_alloc (grown_refl _ _) _) _) _ (Nat.le_refl _) _⟩
end Go.Proofs.Ytcbkfgcjjhifdaa.pp
