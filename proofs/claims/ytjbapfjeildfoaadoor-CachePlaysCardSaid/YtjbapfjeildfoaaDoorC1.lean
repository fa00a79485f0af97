/-
  What isBlock, isState, line, pair, the closures, slices.IndexFunc, first, free answer: contracts. No condition but the bounds that each theorem names.
-/
import Derived.Test.YtjbapfjeildfoaaDoorM
namespace Go.Proofs.YtjbapfjeildfoaaDoor.kk
open Go Go.ChangeShapes Go.WideShapes Go.ChangeAt Go.RowKit
set_option linter.unusedVariables false

theorem isBlock_any (i : Int) (w : World) : Calls Tryd.prog 29 #[.int .i64 i] w fun e w' => e = .returned (.bool (decide (0 ≤ i ∧ i < 256))) ∧ w = w' := by
  by_cases h0 : 0 ≤ i
  · by_cases h1 : i < 256
    · rw [show decide (0 ≤ i ∧ i < 256) = true by simp; omega]
      go_enter Tryd.func29, Tryd.ntmps29
      go_wp2
      go_ret
      exact ⟨rfl, rfl⟩
    · rw [show decide (0 ≤ i ∧ i < 256) = false by simp; omega]
      go_enter Tryd.func29, Tryd.ntmps29
      go_wp2
      go_ret
      exact ⟨rfl, rfl⟩
  · rw [show decide (0 ≤ i ∧ i < 256) = false by simp; omega]
    go_enter Tryd.func29, Tryd.ntmps29
    go_wp2
    go_ret
    exact ⟨rfl, rfl⟩
theorem isState_any (i : Int) (w : World) : Calls Tryd.prog 30 #[.int .u8 i] w fun e w' => e = .returned (.bool (decide (1 ≤ i ∧ i ≤ 3))) ∧ w = w' := by
  by_cases h0 : 1 ≤ i
  · by_cases h1 : i ≤ 3
    · rw [show decide (1 ≤ i ∧ i ≤ 3) = true by simp; omega]
      go_enter Tryd.func30, Tryd.ntmps30
      go_wp2
      go_ret
      exact ⟨rfl, rfl⟩
    · rw [show decide (1 ≤ i ∧ i ≤ 3) = false by simp; omega]
      go_enter Tryd.func30, Tryd.ntmps30
      go_wp2
      go_ret
      exact ⟨rfl, rfl⟩
  · rw [show decide (1 ≤ i ∧ i ≤ 3) = false by simp; omega]
    go_enter Tryd.func30, Tryd.ntmps30
    go_wp2
    go_ret
    exact ⟨rfl, rfl⟩

/-- A line that has no words yet. -/
def mk (b s : Int) : Ln := ⟨b, s, zd, rfl⟩
theorem mk_la (b s : Int) : la (mk b s) = #[.int .i64 b, .int .u8 s, .int .u32 0, .int .u32 0, .int .u32 0, .int .u32 0, .int .u32 0, .int .u32 0, .int .u32 0, .int .u32 0, .int .u32 0, .int .u32 0, .int .u32 0, .int .u32 0, .int .u32 0, .int .u32 0, .int .u32 0, .int .u32 0] := rfl
theorem line_any (b s : Int) (w : World) : Calls Tryd.prog 12 #[.int .i64 b, .int .u8 s] w fun e w' => e = .returned (.agg (la (mk b s))) ∧ w.grownBy w' none := by
  have HL := Lib.hid (mk_la b s)
  go_enter Tryd.func12, Tryd.ntmps12
  go_wp2_with (first
    | ((with_reducible refine store_new' (mk b s) 4 7 ?_ ?_ ?_); (rfl); ((show Value.agg _ = _); (rw [HL.out]))))
  refine bodyPost_ret (v := .agg (la (mk b s))) (results_cell_row rfl _ _ w.heap.size 36 (la (mk b s)) (0, 0) _ rfl (heap_alloc_new _ _) Tryd.underlying36 rfl info36) rfl ?_
  exact ⟨rfl, grown_alloc (grown_refl _ _) _⟩
def pairC : Cfg := ⟨1, 1, 2, 10, 1, 1, 1, 0⟩
theorem info27 : (Tryd.prog.info? 27).map (·.size) = some 8 := by kernel_rfl
theorem pair_any (w : World) : Calls Tryd.prog 9 #[] w fun e w' => e = .returned (.agg pairC.cells) ∧ w.grownBy w' none := by
  go_enter Tryd.func9, Tryd.ntmps9
  go_wp2
  refine bodyPost_ret (v := .agg pairC.cells) (results_cell_row rfl _ _ w.heap.size 27 pairC.cells (0, 0) _ rfl (heap_alloc_new _ _) Tryd.underlying27 rfl info27) rfl ?_
  exact ⟨rfl, grown_alloc (grown_refl _ _) _⟩

/-- Is there a line of that block in the way? Is the way free? -/
def isOf (b : Int) (l : Ln) : Bool := (l.s != 0) && (l.b == b)
def isFree (l : Ln) : Bool := l.s == 0

theorem box_ln (w : World) (l : Ln) : (w.alloc (.cells (la l) 36)).cell? ⟨w.heap.size, 0, none⟩ = some (.int .i64 l.b) ∧ (w.alloc (.cells (la l) 36)).cell? ⟨w.heap.size, 1, none⟩ = some (.int .u8 l.s) :=
  ⟨(cell_of_row _ _ _ _ _ _ (heap_alloc_new _ _)).trans rfl, (cell_of_row _ _ _ _ _ _ (heap_alloc_new _ _)).trans rfl⟩

theorem free1_any (l : Ln) (w : World) : Calls Tryd.prog 51 #[.agg (la l)] w fun e w' => e = .returned (.bool (isFree l)) ∧ w.grownBy w' none := by
  obtain ⟨h0, h1⟩ := box_ln w l
  unfold isFree
  go_enter Tryd.func51, Tryd.ntmps51
  go_wp2
  go_ret
  exact ⟨rfl, grown_alloc (grown_refl _ _) _⟩
theorem where1_any (l : Ln) (B : Nat) (b : Int) (w : World) (hB : w.cell? ⟨B, 0, none⟩ = some (.int .i64 b)) : Calls Tryd.prog 50 #[.agg (la l), .pointer (some ⟨B, 0, none⟩)] w fun e w' => e = .returned (.bool (isOf b l)) ∧ w.grownBy w' none := by
  obtain ⟨h0, h1⟩ := box_ln w l
  have hB' : (w.alloc (.cells (la l) 36)).cell? ⟨B, 0, none⟩ = some (.int .i64 b) := (grown_alloc (grown_refl w none) _).cell hB (by simp)
  unfold isOf
  by_cases hs : l.s = 0
  · have e1 : (l.s != 0) = false := by simp [hs]
    have HG : Hid (w.grownBy (w.alloc (.cells (la l) 36)) none) := Lib.hid (grown_alloc (grown_refl _ _) _)
    rw [e1]
    clear hs
    go_enter Tryd.func50, Tryd.ntmps50
    go_wp2
    go_ret
    exact ⟨rfl, HG.out⟩
  · have e1 : (l.s != 0) = true := by simp [hs]
    have HG : Hid (w.grownBy (w.alloc (.cells (la l) 36)) none) := Lib.hid (grown_alloc (grown_refl _ _) _)
    rw [e1]
    clear hs
    go_enter Tryd.func50, Tryd.ntmps50
    go_wp2
    go_ret
    exact ⟨rfl, HG.out⟩

/-- The first place at which p holds; -1: none. -/
def ix (p : Ln → Bool) (ls : List Ln) : Int := match ls.findIdx? p with | some i => (i : Int) | none => -1
theorem ix_hit (p : Ln → Bool) (ls : List Ln) (k : Nat) (l : Ln) (hl : ls[k]? = some l) (hp : p l = true) (h : ∀ (j : Nat) x, j < k → ls[j]? = some x → p x = false) : ix p ls = (k : Int) := by
  have : ls.findIdx? p = some k := by
    obtain ⟨hk, rfl⟩ := List.getElem?_eq_some_iff.1 hl
    rw [List.findIdx?_eq_some_iff_getElem]
    exact ⟨hk, hp, fun j hj => by simpa using h j _ hj (List.getElem?_eq_getElem (by omega))⟩
  rw [ix, this]
theorem ix_miss (p : Ln → Bool) (ls : List Ln) (h : ∀ (j : Nat) x, ls[j]? = some x → p x = false) : ix p ls = -1 := by
  have : ls.findIdx? p = none := by
    rw [List.findIdx?_eq_none_iff]
    intro x hx
    obtain ⟨j, hj⟩ := List.getElem?_of_mem hx
    exact h j x hj
  rw [ix, this]

end Go.Proofs.YtjbapfjeildfoaaDoor.kk
