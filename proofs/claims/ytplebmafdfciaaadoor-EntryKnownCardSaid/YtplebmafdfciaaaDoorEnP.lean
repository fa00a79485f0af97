/-
  The law EntryKnown returns true: the walk. Condition: the library's table lies in its variable.
-/
import Derived.Test.YtplebmafdfciaaaDoorEnO
namespace Go.Proofs.YtplebmafdfciaaaDoor.en
open Go Go.ChangeShapes Go.WideShapes Go.ChangeAt Go.RowKit
open Go.Proofs.YtplebmafdfciaaaDoor.mm (wi wo ha pop Tab)
set_option linter.unusedVariables false

theorem ex1 : asked ⟨2, 0⟩ 1 1 = (4, 4, 0) := by decide +kernel
theorem ex2 : asked ⟨-1, 11⟩ 2 1 = (9, 5, 0) := by decide +kernel
theorem ex3 : asked ⟨-1, 3⟩ 1 2 = (0, 4, 0) := by decide +kernel
theorem ex4 : gets ⟨2, 0⟩ 1 1 = (⟨-1, 6⟩, 1, 0) := by decide +kernel
theorem ex5 : gets ⟨-1, 3⟩ 2 1 = (⟨1, 0⟩, 3, 0) := by decide +kernel
theorem ex6 : back ⟨2, 0⟩ 2 false = (⟨-1, 0⟩, true, 0) := by decide +kernel
theorem ex7 : back ⟨2, 0⟩ 2 true = (⟨2, 0⟩, true, 0) := by decide +kernel
theorem ex8 : back ⟨2, 0⟩ 1 false = (⟨2, 0⟩, false, 0) := by decide +kernel
theorem next12 {w w' : World} {b0 b1 b2 b3 b4 b5 : Nat} {x0 y0 x1 y1 x2 y2 x3 y3 x4 y4 x5 y5 : Value} (h : (w.cell? ⟨b0, 0, none⟩ = some x0 ∧ w.cell? ⟨b0, 1, none⟩ = some y0) ∧ (w.cell? ⟨b1, 0, none⟩ = some x1 ∧ w.cell? ⟨b1, 1, none⟩ = some y1) ∧ (w.cell? ⟨b2, 0, none⟩ = some x2 ∧ w.cell? ⟨b2, 1, none⟩ = some y2) ∧ (w.cell? ⟨b3, 0, none⟩ = some x3 ∧ w.cell? ⟨b3, 1, none⟩ = some y3) ∧ (w.cell? ⟨b4, 0, none⟩ = some x4 ∧ w.cell? ⟨b4, 1, none⟩ = some y4) ∧ (w.cell? ⟨b5, 0, none⟩ = some x5 ∧ w.cell? ⟨b5, 1, none⟩ = some y5)) (hg : w.grownBy w' none) : (w'.cell? ⟨b0, 0, none⟩ = some x0 ∧ w'.cell? ⟨b0, 1, none⟩ = some y0) ∧ (w'.cell? ⟨b1, 0, none⟩ = some x1 ∧ w'.cell? ⟨b1, 1, none⟩ = some y1) ∧ (w'.cell? ⟨b2, 0, none⟩ = some x2 ∧ w'.cell? ⟨b2, 1, none⟩ = some y2) ∧ (w'.cell? ⟨b3, 0, none⟩ = some x3 ∧ w'.cell? ⟨b3, 1, none⟩ = some y3) ∧ (w'.cell? ⟨b4, 0, none⟩ = some x4 ∧ w'.cell? ⟨b4, 1, none⟩ = some y4) ∧ (w'.cell? ⟨b5, 0, none⟩ = some x5 ∧ w'.cell? ⟨b5, 1, none⟩ = some y5) := by
  obtain ⟨h0, h1, h2, h3, h4, h5⟩ := h
  exact ⟨next2 h0 hg, next2 h1 hg, next2 h2 hg, next2 h3 hg, next2 h4 hg, next2 h5 hg⟩

set_option maxRecDepth 1000000 in
set_option maxHeartbeats 8000000 in
theorem known_true (w : World) (hT : Tab w) : Calls Tryd.prog 3 #[] w fun e w' => e = .returned (.bool true) ∧ w.grownBy w' none := by
  have A1 : Hid (∀ w, Tab w → Calls Tryd.prog 7 #[.agg #[.int .i64 2, .int .u32 0], .int .u8 1, .int .i64 1] w fun e w' => e = .returned (.tuple #[.int .u32 4, .int .u8 4, .int .i64 0]) ∧ w.grownBy w' none) := Lib.hid fun w h => by
    have := asked_any 2 0 1 1 w (by decide) h
    rw [ex1] at this
    exact this
  have A2 : Hid (∀ w, Tab w → Calls Tryd.prog 7 #[.agg #[.int .i64 (-1), .int .u32 11], .int .u8 2, .int .i64 1] w fun e w' => e = .returned (.tuple #[.int .u32 9, .int .u8 5, .int .i64 0]) ∧ w.grownBy w' none) := Lib.hid fun w h => by
    have := asked_any (-1) 11 2 1 w (by decide) h
    rw [ex2] at this
    exact this
  have A3 : Hid (∀ w, Tab w → Calls Tryd.prog 7 #[.agg #[.int .i64 (-1), .int .u32 3], .int .u8 1, .int .i64 2] w fun e w' => e = .returned (.tuple #[.int .u32 0, .int .u8 4, .int .i64 0]) ∧ w.grownBy w' none) := Lib.hid fun w h => by
    have := asked_any (-1) 3 1 2 w (by decide) h
    rw [ex3] at this
    exact this
  have G1 : Hid (∀ w, Calls Tryd.prog 9 #[.agg #[.int .i64 2, .int .u32 0], .int .u8 1, .int .i64 1] w fun e w' => e = .returned (.tuple #[.agg #[.int .i64 (-1), .int .u32 6], .int .u8 1, .int .i64 0]) ∧ w.grownBy w' none) := Lib.hid fun w => by
    have := gets_any 2 0 1 1 w (by decide)
    rw [ex4] at this
    exact this
  have G2 : Hid (∀ w, Calls Tryd.prog 9 #[.agg #[.int .i64 (-1), .int .u32 3], .int .u8 2, .int .i64 1] w fun e w' => e = .returned (.tuple #[.agg #[.int .i64 1, .int .u32 0], .int .u8 3, .int .i64 0]) ∧ w.grownBy w' none) := Lib.hid fun w => by
    have := gets_any (-1) 3 2 1 w (by decide)
    rw [ex5] at this
    exact this
  have B1 : Hid (∀ w, Calls Tryd.prog 10 #[.agg #[.int .i64 2, .int .u32 0], .int .i64 2, .bool false] w fun e w' => e = .returned (.tuple #[.agg #[.int .i64 (-1), .int .u32 0], .bool true, .int .i64 0]) ∧ w.grownBy w' none) := Lib.hid fun w => by
    have := back_any 2 0 2 false w (by decide)
    rw [ex6] at this
    exact this
  have B2 : Hid (∀ w, Calls Tryd.prog 10 #[.agg #[.int .i64 2, .int .u32 0], .int .i64 2, .bool true] w fun e w' => e = .returned (.tuple #[.agg #[.int .i64 2, .int .u32 0], .bool true, .int .i64 0]) ∧ w.grownBy w' none) := Lib.hid fun w => by
    have := back_any 2 0 2 true w (by decide)
    rw [ex7] at this
    exact this
  have B3 : Hid (∀ w, Calls Tryd.prog 10 #[.agg #[.int .i64 2, .int .u32 0], .int .i64 1, .bool false] w fun e w' => e = .returned (.tuple #[.agg #[.int .i64 2, .int .u32 0], .bool false, .int .i64 0]) ∧ w.grownBy w' none) := Lib.hid fun w => by
    have := back_any 2 0 1 false w (by decide)
    rw [ex8] at this
    exact this
  have HF : Hid (∀ w, _) := Lib.hid fun w => free_any w
  have HW : Hid (∀ w, _) := Lib.hid fun w => works_any w
  have HE1 : Hid ((w.alloc (.cells #[.int .i64 2, .int .u32 0] 25)).heap[w.heap.size]? = some (.cells #[.int .i64 2, .int .u32 0] 25 (0, 0))) := Lib.hid (heap_alloc_new _ _)
  have HG1 : Hid (w.grownBy (w.alloc (.cells #[.int .i64 2, .int .u32 0] 25)) none) := Lib.hid (grown_alloc (grown_refl _ _) _)
  have HT1 := Lib.hid (tab_grown hT HG1.out)
  have he := eq_same
  clear hT
  go_enter Tryd.func3, Tryd.ntmps3
  go_wp2_with (first
    | ((with_reducible refine store_enN 2 0 _ _ _ _ ?_ ?_ ?_ ?_); (rfl); (rfl); (rfl))
    | ((with_reducible refine load_en _ _ _ _ _ w.heap.size ?_ HE1.out ?_); (rfl))
    | (go_at_call 7; ((with_reducible refine (A1.out _ HT1.out).mono ?_); rintro e w2 ⟨rfl, hg2⟩; have HE2 := Lib.hid (row_grown HE1.out hg2); have HG2 := Lib.hid (grown_trans HG1.out hg2); have HT2 := Lib.hid (tab_grown HT1.out hg2); clear hg2))
    | (go_at_call 7; ((with_reducible refine (A2.out _ HT2.out).mono ?_); rintro e w3 ⟨rfl, hg3⟩; have HE3 := Lib.hid (row_grown HE2.out hg3); have HG3 := Lib.hid (grown_trans HG2.out hg3); have HT3 := Lib.hid (tab_grown HT2.out hg3); clear hg3))
    | (go_at_call 7; ((with_reducible refine (A3.out _ HT3.out).mono ?_); rintro e w4 ⟨rfl, hg4⟩; have HE4 := Lib.hid (row_grown HE3.out hg4); have HG4 := Lib.hid (grown_trans HG3.out hg4); have HT4 := Lib.hid (tab_grown HT3.out hg4); clear hg4))
    | (go_at_call 8; ((with_reducible refine (HW.out _).mono ?_); rintro e w5 ⟨rfl, hg5⟩; have HE5 := Lib.hid (row_grown HE4.out hg5); have HG5 := Lib.hid (grown_trans HG4.out hg5); clear hg5))
    | ((with_reducible refine load_en _ _ _ _ _ w.heap.size ?_ HE5.out ?_); (rfl))
    | (go_at_call 9; ((with_reducible refine (G1.out _).mono ?_); rintro e w6 ⟨rfl, hg6⟩; have HE6 : Hid ((w6.alloc (.cells #[.int .i64 (-1), .int .u32 6] 25)).heap[w.heap.size]? = _) := Lib.hid (row_grown HE5.out (grown_alloc hg6 _)); have HX6_6 : Hid ((w6.alloc (.cells #[.int .i64 (-1), .int .u32 6] 25)).heap[w6.heap.size]? = some (.cells #[.int .i64 (-1), .int .u32 6] 25 (0, 0))) := Lib.hid (heap_alloc_new _ _); have HG6 : Hid (w.grownBy (w6.alloc (.cells #[.int .i64 (-1), .int .u32 6] 25)) none) := Lib.hid (grown_alloc (grown_trans HG5.out hg6) _); clear hg6))
    | ((with_reducible refine store_enN (-1) 6 _ _ _ _ ?_ ?_ ?_ ?_); (rfl); (rfl); (rfl))
    | ((with_reducible refine load_en _ _ _ _ _ w.heap.size ?_ HE6.out ?_); (rfl))
    | (go_at_call 9; ((with_reducible refine (G2.out _).mono ?_); rintro e w7 ⟨rfl, hg7⟩; have HE7 : Hid ((w7.alloc (.cells #[.int .i64 1, .int .u32 0] 25)).heap[w.heap.size]? = _) := Lib.hid (row_grown HE6.out (grown_alloc hg7 _)); have HX6_7 : Hid ((w7.alloc (.cells #[.int .i64 1, .int .u32 0] 25)).heap[w6.heap.size]? = _) := Lib.hid (row_grown HX6_6.out (grown_alloc hg7 _)); have HX7_7 : Hid ((w7.alloc (.cells #[.int .i64 1, .int .u32 0] 25)).heap[w7.heap.size]? = some (.cells #[.int .i64 1, .int .u32 0] 25 (0, 0))) := Lib.hid (heap_alloc_new _ _); have HG7 : Hid (w.grownBy (w7.alloc (.cells #[.int .i64 1, .int .u32 0] 25)) none) := Lib.hid (grown_alloc (grown_trans HG6.out hg7) _); clear hg7))
    | ((with_reducible refine store_enN 1 0 _ _ _ _ ?_ ?_ ?_ ?_); (rfl); (rfl); (rfl))
    | ((with_reducible refine load_en _ _ _ _ _ w.heap.size ?_ HE7.out ?_); (rfl))
    | (go_at_call 10; ((with_reducible refine (B1.out _).mono ?_); rintro e w8 ⟨rfl, hg8⟩; have HE8 : Hid ((w8.alloc (.cells #[.int .i64 (-1), .int .u32 0] 25)).heap[w.heap.size]? = _) := Lib.hid (row_grown HE7.out (grown_alloc hg8 _)); have HX6_8 : Hid ((w8.alloc (.cells #[.int .i64 (-1), .int .u32 0] 25)).heap[w6.heap.size]? = _) := Lib.hid (row_grown HX6_7.out (grown_alloc hg8 _)); have HX7_8 : Hid ((w8.alloc (.cells #[.int .i64 (-1), .int .u32 0] 25)).heap[w7.heap.size]? = _) := Lib.hid (row_grown HX7_7.out (grown_alloc hg8 _)); have HX8_8 : Hid ((w8.alloc (.cells #[.int .i64 (-1), .int .u32 0] 25)).heap[w8.heap.size]? = some (.cells #[.int .i64 (-1), .int .u32 0] 25 (0, 0))) := Lib.hid (heap_alloc_new _ _); have HG8 : Hid (w.grownBy (w8.alloc (.cells #[.int .i64 (-1), .int .u32 0] 25)) none) := Lib.hid (grown_alloc (grown_trans HG7.out hg8) _); clear hg8))
    | ((with_reducible refine store_enN (-1) 0 _ _ _ _ ?_ ?_ ?_ ?_); (rfl); (rfl); (rfl))
    | ((with_reducible refine load_en _ _ _ _ _ w.heap.size ?_ HE8.out ?_); (rfl))
    | (go_at_call 10; ((with_reducible refine (B2.out _).mono ?_); rintro e w9 ⟨rfl, hg9⟩; have HE9 : Hid ((w9.alloc (.cells #[.int .i64 2, .int .u32 0] 25)).heap[w.heap.size]? = _) := Lib.hid (row_grown HE8.out (grown_alloc hg9 _)); have HX6_9 : Hid ((w9.alloc (.cells #[.int .i64 2, .int .u32 0] 25)).heap[w6.heap.size]? = _) := Lib.hid (row_grown HX6_8.out (grown_alloc hg9 _)); have HX7_9 : Hid ((w9.alloc (.cells #[.int .i64 2, .int .u32 0] 25)).heap[w7.heap.size]? = _) := Lib.hid (row_grown HX7_8.out (grown_alloc hg9 _)); have HX8_9 : Hid ((w9.alloc (.cells #[.int .i64 2, .int .u32 0] 25)).heap[w8.heap.size]? = _) := Lib.hid (row_grown HX8_8.out (grown_alloc hg9 _)); have HX9_9 : Hid ((w9.alloc (.cells #[.int .i64 2, .int .u32 0] 25)).heap[w9.heap.size]? = some (.cells #[.int .i64 2, .int .u32 0] 25 (0, 0))) := Lib.hid (heap_alloc_new _ _); have HG9 : Hid (w.grownBy (w9.alloc (.cells #[.int .i64 2, .int .u32 0] 25)) none) := Lib.hid (grown_alloc (grown_trans HG8.out hg9) _); clear hg9))
    | ((with_reducible refine store_enN 2 0 _ _ _ _ ?_ ?_ ?_ ?_); (rfl); (rfl); (rfl))
    | ((with_reducible refine load_en _ _ _ _ _ w.heap.size ?_ HE9.out ?_); (rfl))
    | (go_at_call 10; ((with_reducible refine (B3.out _).mono ?_); rintro e w10 ⟨rfl, hg10⟩; have HE10 : Hid ((w10.alloc (.cells #[.int .i64 2, .int .u32 0] 25)).heap[w.heap.size]? = _) := Lib.hid (row_grown HE9.out (grown_alloc hg10 _)); have HX6_10 : Hid ((w10.alloc (.cells #[.int .i64 2, .int .u32 0] 25)).heap[w6.heap.size]? = _) := Lib.hid (row_grown HX6_9.out (grown_alloc hg10 _)); have HX7_10 : Hid ((w10.alloc (.cells #[.int .i64 2, .int .u32 0] 25)).heap[w7.heap.size]? = _) := Lib.hid (row_grown HX7_9.out (grown_alloc hg10 _)); have HX8_10 : Hid ((w10.alloc (.cells #[.int .i64 2, .int .u32 0] 25)).heap[w8.heap.size]? = _) := Lib.hid (row_grown HX8_9.out (grown_alloc hg10 _)); have HX9_10 : Hid ((w10.alloc (.cells #[.int .i64 2, .int .u32 0] 25)).heap[w9.heap.size]? = _) := Lib.hid (row_grown HX9_9.out (grown_alloc hg10 _)); have HX10_10 : Hid ((w10.alloc (.cells #[.int .i64 2, .int .u32 0] 25)).heap[w10.heap.size]? = some (.cells #[.int .i64 2, .int .u32 0] 25 (0, 0))) := Lib.hid (heap_alloc_new _ _); have HG10 : Hid (w.grownBy (w10.alloc (.cells #[.int .i64 2, .int .u32 0] 25)) none) := Lib.hid (grown_alloc (grown_trans HG9.out hg10) _); clear hg10))
    | ((with_reducible refine store_enN 2 0 _ _ _ _ ?_ ?_ ?_ ?_); (rfl); (rfl); (rfl))
    | ((with_reducible refine load_en _ _ _ _ _ w.heap.size ?_ HE10.out ?_); (rfl)))
  go_region_held3 (fun w' => (w'.cell? ⟨w.heap.size, 0, none⟩ = some (.int .i64 2) ∧ w'.cell? ⟨w.heap.size, 1, none⟩ = some (.int .u32 0)) ∧ (w'.cell? ⟨w6.heap.size, 0, none⟩ = some (.int .i64 (-1)) ∧ w'.cell? ⟨w6.heap.size, 1, none⟩ = some (.int .u32 6)) ∧ (w'.cell? ⟨w7.heap.size, 0, none⟩ = some (.int .i64 1) ∧ w'.cell? ⟨w7.heap.size, 1, none⟩ = some (.int .u32 0)) ∧ (w'.cell? ⟨w8.heap.size, 0, none⟩ = some (.int .i64 (-1)) ∧ w'.cell? ⟨w8.heap.size, 1, none⟩ = some (.int .u32 0)) ∧ (w'.cell? ⟨w9.heap.size, 0, none⟩ = some (.int .i64 2) ∧ w'.cell? ⟨w9.heap.size, 1, none⟩ = some (.int .u32 0)) ∧ (w'.cell? ⟨w10.heap.size, 0, none⟩ = some (.int .i64 2) ∧ w'.cell? ⟨w10.heap.size, 1, none⟩ = some (.int .u32 0)))
    (first | exact ⟨cells2 (row_grown HE10.out (grown_drew (grown_refl _ _))), cells2 (row_grown HX6_10.out (grown_drew (grown_refl _ _))), cells2 (row_grown HX7_10.out (grown_drew (grown_refl _ _))), cells2 (row_grown HX8_10.out (grown_drew (grown_refl _ _))), cells2 (row_grown HX9_10.out (grown_drew (grown_refl _ _))), cells2 (row_grown HX10_10.out (grown_drew (grown_refl _ _)))⟩ | exact next12 (by assumption) (by assumption) | assumption)
    (first | (go_at_call 11; ((with_reducible refine (HF.out _).mono ?_); rintro e w11 ⟨rfl, hg11⟩)))
  go_wp2_with fail
  go_ret
  exact ⟨rfl, grown_trans (grown_drew HG10.out) hg11⟩
end Go.Proofs.YtplebmafdfciaaaDoor.en
