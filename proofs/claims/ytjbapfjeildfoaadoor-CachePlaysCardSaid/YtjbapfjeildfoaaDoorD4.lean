/-
  What the document's own Goes answers: contracts. Condition: that a line stands in its block's set alone.
-/
import Derived.Test.YtjbapfjeildfoaaDoorD3
namespace Go.Proofs.YtjbapfjeildfoaaDoor.kk
open Go Go.ChangeShapes Go.WideShapes Go.ChangeAt Go.RowKit Go.Shelf
set_option linter.unusedVariables false

theorem rgoes_bad (kb : Nat) (b : Int) (w : World) (hb : ¬ (0 ≤ b ∧ b < 256)) : Calls Tryd.prog 41 #[.pointer (some ⟨kb, 0, none⟩), .int .i64 b] w fun e w' => e = .returned (.tuple #[.agg (la zl), .bool false]) ∧ w.grownBy w' none := by
  have HB : Hid (w.grownBy (w.alloc (.cells (la zl) 36)) none ∧ (w.alloc (.cells (la zl) 36)).heap[w.heap.size]? = some (.cells (la zl) 36 (0, 0))) := Lib.hid ⟨grown_alloc (grown_refl _ _) _, heap_alloc_new _ _⟩
  have HZ : Hid (la zl = _) := Lib.hid zl_la
  rw [HZ.out] at HB
  by_cases h0 : b < 0
  · have d0 : decide (b < 0) = true := by simp; omega
    clear hb h0
    go_enter Tryd.func41, Tryd.ntmps41
    go_wp2_with (first
      | ((with_reducible refine store_any zl zl 4 27 w.heap.size ?_ ?_ ?_ ?_); ((rfl)); ((rfl)); ((exact HB.out.2))))
    exact ret_ln rfl _ zl _ w.heap.size _ _ (by rfl) (by rfl) (range_of (setRow_heap _ _ _ _ _ _ HB.out.2)) (by exact ⟨rfl, grown_setRow HB.out.1 _ (Nat.le_refl _) _⟩)
  · have d0 : decide (b < 0) = false := by simp; omega
    have d1 : decide (255 < b) = true := by simp; omega
    clear hb h0
    go_enter Tryd.func41, Tryd.ntmps41
    go_wp2_with (first
      | ((with_reducible refine store_any zl zl 4 27 w.heap.size ?_ ?_ ?_ ?_); ((rfl)); ((rfl)); ((exact HB.out.2))))
    exact ret_ln rfl _ zl _ w.heap.size _ _ (by rfl) (by rfl) (range_of (setRow_heap _ _ _ _ _ _ HB.out.2)) (by exact ⟨rfl, grown_setRow HB.out.1 _ (Nat.le_refl _) _⟩)
section
variable (R : RLoc) (c : Cfg) (ss : List St) (w : World) (hR : Rac w R c ss) (hI : Inv c ss) (b : Int) (hb : 0 ≤ b ∧ b < 256)
include hR hI hb
theorem rgoes_old (k : Nat) (hn : (setAt c ss b).1.findIdx? (isOf b) = some k) : Calls Tryd.prog 41 #[.pointer (some ⟨R.b, 0, none⟩), .int .i64 b] w fun e w' => e = .returned (.tuple #[.agg (la zl), .bool false]) ∧ w.grownBy w' none := by
  have hg0 : w.grownBy (w.alloc (.cells (la zl) 36)) none := grown_alloc (grown_refl _ _) _
  have HB : Hid (w.grownBy (w.alloc (.cells (la zl) 36)) none ∧ (w.alloc (.cells (la zl) 36)).heap[w.heap.size]? = some (.cells (la zl) 36 (0, 0))) := Lib.hid ⟨hg0, heap_alloc_new _ _⟩
  have HN := Lib.hid (rplace_yes R c ss _ (hR.grown hg0) hI b k hn)
  have HZ : Hid (la zl = _) := Lib.hid zl_la
  rw [HZ.out] at HB HN
  have d0 : decide (b < 0) = false := by simp; omega
  have d1 : decide (255 < b) = false := by simp; omega
  obtain ⟨i, hi⟩ : ∃ i, i = setOf c b * (setAt c ss b).1.length + k := ⟨_, rfl⟩
  rw [← hi] at HN
  have d2 : decide ((0 : Int) ≤ (i : Int)) = true := by simp
  clear hR hI hb hn hi hg0
  go_enter Tryd.func41, Tryd.ntmps41
  go_wp2_with (first
    | (go_at_call 56; ((with_reducible refine HN.out.mono ?_); rintro e w1 ⟨rfl, rfl⟩))
    | ((with_reducible refine store_any zl zl 4 27 w.heap.size ?_ ?_ ?_ ?_); ((rfl)); ((rfl)); ((exact HB.out.2))))
  exact ret_ln rfl _ zl _ w.heap.size _ _ (by rfl) (by rfl) (range_of (setRow_heap _ _ _ _ _ _ HB.out.2)) (by exact ⟨rfl, grown_setRow HB.out.1 _ (Nat.le_refl _) _⟩)
theorem rgoes_free (k : Nat) (hn : (setAt c ss b).1.findIdx? (isOf b) = none) (hf : (setAt c ss b).1.findIdx? isFree = some k) : Calls Tryd.prog 41 #[.pointer (some ⟨R.b, 0, none⟩), .int .i64 b] w fun e w' => e = .returned (.tuple #[.agg (la zl), .bool false]) ∧ w.grownBy w' none := by
  have hg0 : w.grownBy (w.alloc (.cells (la zl) 36)) none := grown_alloc (grown_refl _ _) _
  have HN := Lib.hid (rplace_no R c ss _ (hR.grown hg0) hI b hn)
  have HF := Lib.hid (rfree_yes R c ss _ (hR.grown hg0) b k hf)
  have HO : Hid (∀ w1, (w.alloc (.cells (la zl) 36)).grownBy w1 none → _) := Lib.hid fun w1 hg => own_after hg
  have HZ : Hid (la zl = _) := Lib.hid zl_la
  rw [HZ.out] at HO HN HF
  have d0 : decide (b < 0) = false := by simp; omega
  have d1 : decide (255 < b) = false := by simp; omega
  obtain ⟨i, hi⟩ : ∃ i, i = setOf c b * (setAt c ss b).1.length + k := ⟨_, rfl⟩
  rw [← hi] at HF
  have d2 : decide ((0 : Int) ≤ (i : Int)) = true := by simp
  clear hR hI hb hn hf hi hg0
  go_enter Tryd.func41, Tryd.ntmps41
  go_wp2_with (first
    | (go_at_call 56; ((with_reducible refine HN.out.mono ?_); rintro e w1 ⟨rfl, rfl⟩))
    | (go_at_call 57; ((with_reducible refine HF.out.mono ?_); rintro e w2 ⟨rfl, hg2⟩; have HG1 := Lib.hid (HO.out _ hg2); clear hg2))
    | ((with_reducible refine store_any zl zl 4 27 w.heap.size ?_ ?_ ?_ ?_); ((rfl)); ((rfl)); ((exact HG1.out.1))))
  exact ret_ln rfl _ zl _ w.heap.size _ _ (by rfl) (by rfl) (range_of (setRow_heap _ _ _ _ _ _ HG1.out.1)) (by exact ⟨rfl, grown_setRow HG1.out.2 _ (Nat.le_refl _) _⟩)
end
end Go.Proofs.YtjbapfjeildfoaaDoor.kk
