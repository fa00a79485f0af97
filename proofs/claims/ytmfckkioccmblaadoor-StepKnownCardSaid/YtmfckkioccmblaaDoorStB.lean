/-
  One register is put; what instructions do with two words, each a closure, and the row of all: contracts. No condition but the bounds that each theorem names.
-/
import Derived.Test.YtmfckkioccmblaaDoorStA
namespace Go.Proofs.YtmfckkioccmblaaDoor.sg
open Go Go.ChangeShapes Go.WideShapes Go.ChangeAt Go.RowKit Go.Proofs.YtmfckkioccmblaaDoor.cd
set_option linter.unusedVariables false
set_option maxRecDepth 1000000

/-- A cell of registers was written. -/
theorem set_cellR {w : World} {g k : Nat} {x : List Int} {t : TypeId} (h : w.heap[g]? = some (.cells (row x) t (0, 0))) (v : Int) : (w.setCell ⟨g, k, none⟩ (.int .u32 v)).heap[g]? = some (.cells (row (x.set k v)) t (0, 0)) := by
  rw [← row_set]; exact heap_setCell_same _ _ _ _ _ _ h
theorem two_allocs (w : World) (x y : Obj) : ∃ w2, (w.alloc x).alloc y = w2 ∧ w.grownBy w2 none ∧ w2.heap[w.heap.size]? = some x ∧ w2.heap[w.heap.size + 1]? = some y ∧ w2.heap.size = w.heap.size + 2 := by
  have g2 := grown_alloc (grown_refl (w.alloc x) none) y
  have e1 : (w.alloc x).heap.size = w.heap.size + 1 := by simp
  have b2 := heap_alloc_new (w.alloc x) y
  rw [e1] at b2
  exact ⟨_, rfl, grown_alloc (grown_alloc (grown_refl _ _) _) _, row_grown (heap_alloc_new _ _) g2, b2, by simp⟩
theorem put_any (x : List Int) (hx : x.length = 16) (n v : Int) (w : World) : Calls Tryd.prog 13 #[.agg (row x), .int .i64 n, .int .u32 v] w fun e w' => e = .returned (.agg (row (pt x n v))) ∧ w.grownBy w' none := by
  obtain ⟨w2, hw2, hg2, hA2, hB2, hz2⟩ := two_allocs w (.cells (row x) 23) (.cells (row zero) 23)
  have HX := Lib.hid hx
  have HW := Lib.hid hw2
  have HG := Lib.hid hg2
  have HA := Lib.hid hA2
  have HB := Lib.hid hB2
  have HE : Hid ((w.alloc (.cells (row x) 23)).alloc (.cells #[.int .u32 0, .int .u32 0, .int .u32 0, .int .u32 0, .int .u32 0, .int .u32 0, .int .u32 0, .int .u32 0, .int .u32 0, .int .u32 0, .int .u32 0, .int .u32 0, .int .u32 0, .int .u32 0, .int .u32 0, .int .u32 0] 23) = w2) := Lib.hid hw2
  by_cases h : 0 < n ∧ n < 16
  · obtain ⟨h0, h1⟩ := h
    rw [show pt x n v = x.set n.toNat v from if_pos ⟨h0, h1⟩]
    obtain ⟨k, rfl⟩ : ∃ k : Nat, n = (k : Int) := ⟨n.toNat, by omega⟩
    have hf : w2.frozen? ⟨w.heap.size, k, none⟩ = false := frozen_of_row _ _ _ _ _ hA2
    have hc := cellR hA2 (k := k) (by omega)
    have HC := Lib.hid (set_cellR (k := k) hA2 v)
    have HB' : Hid ((w2.setCell ⟨w.heap.size, k, none⟩ (.int .u32 v)).heap[w.heap.size + 1]? = _) := Lib.hid ((heap_setCell_other _ _ _ _ (show w.heap.size + 1 ≠ w.heap.size by omega)).trans hB2)
    simp only [Int.toNat_natCast]
    have HL : Hid ((x.set k v).length = 16) := Lib.hid (by simp [hx])
    clear hx hw2 hg2 hA2 hB2 hz2
    go_enter Tryd.func13, Tryd.ntmps13
    go_upto_region 1 with fail
    rw [HE.out]
    go_wp2_with (first
      | ((with_reducible refine load_any (x.set k v) 3 w.heap.size ?_ ?_ HL.out ?_); ((rfl)); ((exact HC.out)))
      | ((with_reducible refine store_any (x.set k v) zero 6 16 (w.heap.size + 1) ?_ ?_ HL.out ?_ zero_size ?_); ((rfl)); ((rfl)); ((exact HB'.out))))
    refine retR rfl HL.out (by rfl) (setRow_heap _ _ _ _ _ _ HB'.out) ?_
    exact ⟨rfl, grown_setRow (grown_set HG.out _ _ (by omega) _) _ (by omega) _⟩
  · rw [show pt x n v = x from if_neg h]
    clear hx hw2 hg2 hA2 hB2 hz2
    by_cases h0 : 0 < n
    · have h1 : ¬ n < 16 := fun h1 => h ⟨h0, h1⟩
      clear h
      go_enter Tryd.func13, Tryd.ntmps13
      go_upto_region 1 with fail
      rw [HE.out]
      go_wp2_with (first
        | ((with_reducible refine load_any x 3 w.heap.size ?_ ?_ HX.out ?_); ((rfl)); ((exact HA.out)))
        | ((with_reducible refine store_any x zero 6 16 (w.heap.size + 1) ?_ ?_ HX.out ?_ zero_size ?_); ((rfl)); ((rfl)); ((exact HB.out))))
      refine retR rfl HX.out (by rfl) (setRow_heap _ _ _ _ _ _ HB.out) ?_
      exact ⟨rfl, grown_setRow HG.out _ (by omega) _⟩
    · clear h
      go_enter Tryd.func13, Tryd.ntmps13
      go_upto_region 1 with fail
      rw [HE.out]
      go_wp2_with (first
        | ((with_reducible refine load_any x 3 w.heap.size ?_ ?_ HX.out ?_); ((rfl)); ((exact HA.out)))
        | ((with_reducible refine store_any x zero 6 16 (w.heap.size + 1) ?_ ?_ HX.out ?_ zero_size ?_); ((rfl)); ((rfl)); ((exact HB.out))))
      refine retR rfl HX.out (by rfl) (setRow_heap _ _ _ _ _ _ HB.out) ?_
      exact ⟨rfl, grown_setRow HG.out _ (by omega) _⟩
theorem rput_any (x : List Int) (hx : x.length = 16) (n v : Int) (w : World) : Calls Tryd.prog 14 #[.agg (row x), .int .i64 n, .int .u32 v] w fun e w' => e = .returned (.agg (row (pt x n v))) ∧ w.grownBy w' none := by
  obtain ⟨w2, hw2, hg2, hA2, hB2, hz2⟩ := two_allocs w (.cells (row x) 23) (.cells (row zero) 23)
  have HX := Lib.hid hx
  have HW := Lib.hid hw2
  have HG := Lib.hid hg2
  have HA := Lib.hid hA2
  have HB := Lib.hid hB2
  have HE : Hid ((w.alloc (.cells (row x) 23)).alloc (.cells #[.int .u32 0, .int .u32 0, .int .u32 0, .int .u32 0, .int .u32 0, .int .u32 0, .int .u32 0, .int .u32 0, .int .u32 0, .int .u32 0, .int .u32 0, .int .u32 0, .int .u32 0, .int .u32 0, .int .u32 0, .int .u32 0] 23) = w2) := Lib.hid hw2
  by_cases h : 0 < n ∧ n < 16
  · obtain ⟨h0, h1⟩ := h
    rw [show pt x n v = x.set n.toNat v from if_pos ⟨h0, h1⟩]
    obtain ⟨k, rfl⟩ : ∃ k : Nat, n = (k : Int) := ⟨n.toNat, by omega⟩
    have hf : w2.frozen? ⟨w.heap.size, k, none⟩ = false := frozen_of_row _ _ _ _ _ hA2
    have hc := cellR hA2 (k := k) (by omega)
    have HC := Lib.hid (set_cellR (k := k) hA2 v)
    have HB' : Hid ((w2.setCell ⟨w.heap.size, k, none⟩ (.int .u32 v)).heap[w.heap.size + 1]? = _) := Lib.hid ((heap_setCell_other _ _ _ _ (show w.heap.size + 1 ≠ w.heap.size by omega)).trans hB2)
    simp only [Int.toNat_natCast]
    have HL : Hid ((x.set k v).length = 16) := Lib.hid (by simp [hx])
    clear hx hw2 hg2 hA2 hB2 hz2
    go_enter Tryd.func14, Tryd.ntmps14
    go_upto_region 1 with fail
    rw [HE.out]
    go_wp2_with (first
      | ((with_reducible refine load_any (x.set k v) 3 w.heap.size ?_ ?_ HL.out ?_); ((rfl)); ((exact HC.out)))
      | ((with_reducible refine store_any (x.set k v) zero 6 16 (w.heap.size + 1) ?_ ?_ HL.out ?_ zero_size ?_); ((rfl)); ((rfl)); ((exact HB'.out))))
    refine retR rfl HL.out (by rfl) (setRow_heap _ _ _ _ _ _ HB'.out) ?_
    exact ⟨rfl, grown_setRow (grown_set HG.out _ _ (by omega) _) _ (by omega) _⟩
  · rw [show pt x n v = x from if_neg h]
    clear hx hw2 hg2 hA2 hB2 hz2
    by_cases h0 : 0 < n
    · have h1 : ¬ n < 16 := fun h1 => h ⟨h0, h1⟩
      clear h
      go_enter Tryd.func14, Tryd.ntmps14
      go_upto_region 1 with fail
      rw [HE.out]
      go_wp2_with (first
        | ((with_reducible refine load_any x 3 w.heap.size ?_ ?_ HX.out ?_); ((rfl)); ((exact HA.out)))
        | ((with_reducible refine store_any x zero 6 16 (w.heap.size + 1) ?_ ?_ HX.out ?_ zero_size ?_); ((rfl)); ((rfl)); ((exact HB.out))))
      refine retR rfl HX.out (by rfl) (setRow_heap _ _ _ _ _ _ HB.out) ?_
      exact ⟨rfl, grown_setRow HG.out _ (by omega) _⟩
    · clear h
      go_enter Tryd.func14, Tryd.ntmps14
      go_upto_region 1 with fail
      rw [HE.out]
      go_wp2_with (first
        | ((with_reducible refine load_any x 3 w.heap.size ?_ ?_ HX.out ?_); ((rfl)); ((exact HA.out)))
        | ((with_reducible refine store_any x zero 6 16 (w.heap.size + 1) ?_ ?_ HX.out ?_ zero_size ?_); ((rfl)); ((rfl)); ((exact HB.out))))
      refine retR rfl HX.out (by rfl) (setRow_heap _ _ _ _ _ _ HB.out) ?_
      exact ⟨rfl, grown_setRow HG.out _ (by omega) _⟩
theorem sum_any (x y : Int) (w : World) : Calls Tryd.prog 27 #[.int .u32 x, .int .u32 y] w fun e w' => e = .returned (.int .u32 (IntKind.u32.wrap (x + y))) ∧ w = w' := by
  go_enter Tryd.func27, Tryd.ntmps27
  go_wp2
  go_ret
  exact ⟨rfl, rfl⟩
theorem sub_any (x y : Int) (w : World) : Calls Tryd.prog 30 #[.int .u32 x, .int .u32 y] w fun e w' => e = .returned (.int .u32 (IntKind.u32.wrap (x - y))) ∧ w = w' := by
  go_enter Tryd.func30, Tryd.ntmps30
  go_wp2
  go_ret
  exact ⟨rfl, rfl⟩
theorem and_any (x y : Int) (w : World) : Calls Tryd.prog 31 #[.int .u32 x, .int .u32 y] w fun e w' => e = .returned (.int .u32 (bits .and .u32 x y)) ∧ w = w' := by
  go_enter Tryd.func31, Tryd.ntmps31
  go_wp2
  go_ret
  exact ⟨rfl, rfl⟩
theorem or_any (x y : Int) (w : World) : Calls Tryd.prog 32 #[.int .u32 x, .int .u32 y] w fun e w' => e = .returned (.int .u32 (bits .or .u32 x y)) ∧ w = w' := by
  go_enter Tryd.func32, Tryd.ntmps32
  go_wp2
  go_ret
  exact ⟨rfl, rfl⟩
theorem xor_any (x y : Int) (w : World) : Calls Tryd.prog 33 #[.int .u32 x, .int .u32 y] w fun e w' => e = .returned (.int .u32 (bits .xor .u32 x y)) ∧ w = w' := by
  go_enter Tryd.func33, Tryd.ntmps33
  go_wp2
  go_ret
  exact ⟨rfl, rfl⟩
theorem mul_any (x y : Int) (w : World) : Calls Tryd.prog 34 #[.int .u32 x, .int .u32 y] w fun e w' => e = .returned (.int .u32 (IntKind.u32.wrap (x * y))) ∧ w = w' := by
  go_enter Tryd.func34, Tryd.ntmps34
  go_wp2
  go_ret
  exact ⟨rfl, rfl⟩
theorem set_any (x y : Int) (w : World) : Calls Tryd.prog 35 #[.int .u32 x, .int .u32 y] w fun e w' => e = .returned (.int .u32 (y)) ∧ w = w' := by
  go_enter Tryd.func35, Tryd.ntmps35
  go_wp2
  go_ret
  exact ⟨rfl, rfl⟩
theorem truth_any (b : Bool) (w : World) : Calls Tryd.prog 29 #[.bool b] w fun e w' => e = .returned (.int .u32 (if b then 1 else 0)) ∧ w = w' := by
  cases b
  all_goals
    go_enter Tryd.func29, Tryd.ntmps29
    go_wp2
    go_ret
    exact ⟨rfl, rfl⟩
/-- Is it so? -/
def tru (b : Bool) : Int := if b then 1 else 0
theorem less_any (x y : Int) (w : World) : Calls Tryd.prog 28 #[.int .u32 x, .int .u32 y] w fun e w' => e = .returned (.int .u32 (tru (decide (x < y)))) ∧ w = w' := by
  have HT : Hid (Calls Tryd.prog 29 #[.bool (decide (x < y))] w fun e w' => e = .returned (.int .u32 (tru (decide (x < y)))) ∧ w = w') := Lib.hid (truth_any _ w)
  go_enter Tryd.func28, Tryd.ntmps28
  go_wp2_with (first
    | (go_at_call 29; ((with_reducible refine HT.out.mono ?_); rintro e w1 ⟨rfl, rfl⟩)))
  go_ret
  exact ⟨rfl, rfl⟩
theorem same_any (x y : Int) (w : World) : Calls Tryd.prog 36 #[.int .u32 x, .int .u32 y] w fun e w' => e = .returned (.int .u32 (tru (x == y))) ∧ w = w' := by
  have HT : Hid (Calls Tryd.prog 29 #[.bool (x == y)] w fun e w' => e = .returned (.int .u32 (tru (x == y))) ∧ w = w') := Lib.hid (truth_any _ w)
  go_enter Tryd.func36, Tryd.ntmps36
  go_wp2_with (first
    | (go_at_call 29; ((with_reducible refine HT.out.mono ?_); rintro e w1 ⟨rfl, rfl⟩)))
  go_ret
  exact ⟨rfl, rfl⟩
theorem unlike_any (x y : Int) (w : World) : Calls Tryd.prog 37 #[.int .u32 x, .int .u32 y] w fun e w' => e = .returned (.int .u32 (tru (x != y))) ∧ w = w' := by
  have HT : Hid (Calls Tryd.prog 29 #[.bool (x != y)] w fun e w' => e = .returned (.int .u32 (tru (x != y))) ∧ w = w') := Lib.hid (truth_any _ w)
  go_enter Tryd.func37, Tryd.ntmps37
  go_wp2_with (first
    | (go_at_call 29; ((with_reducible refine HT.out.mono ?_); rintro e w1 ⟨rfl, rfl⟩)))
  go_ret
  exact ⟨rfl, rfl⟩
theorem rword_any (x : Int) (w : World) : Calls Tryd.prog 21 #[.int .i64 x] w fun e w' => e = .returned (.int .u32 (IntKind.u32.wrap x)) ∧ w = w' := by
  go_enter Tryd.func21, Tryd.ntmps21
  go_wp2
  go_ret
  exact ⟨rfl, rfl⟩
end Go.Proofs.YtmfckkioccmblaaDoor.sg
