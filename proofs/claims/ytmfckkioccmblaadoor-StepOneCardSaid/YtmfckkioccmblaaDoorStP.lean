/-
  The law StepGoes answers true. The tables are as the program's text lays them (Tab).
-/
import Derived.Test.YtmfckkioccmblaaDoorStO
namespace Go.Proofs.YtmfckkioccmblaaDoor.sg
open Go Go.ChangeShapes Go.WideShapes Go.ChangeAt Go.RowKit Go.Proofs.YtmfckkioccmblaaDoor.cd
set_option linter.unusedVariables false
set_option maxRecDepth 1000000

set_option maxHeartbeats 2000000 in
theorem goes_bad2 (x R : List Int) (hx : x.length = 16) (hr : R.length = 16) (p T : Int) (op : Nat) (a b c n : Int) (w : World) (hT : Tab w) (hD : ∀ w', w.grownBy w' none → Calls Tryd.prog 8 #[.agg (row x), .int .i64 p, .agg #[.int .u8 (op : Int), .int .i64 a, .int .i64 b, .int .i64 c, .int .i64 n]] w' fun e w2 => e = .returned (.tuple #[.agg (row R), .int .i64 T, .int .i64 2]) ∧ w'.grownBy w2 none) : Calls Tryd.prog 7 #[.agg (row x), .int .i64 p, .agg #[.int .u8 (op : Int), .int .i64 a, .int .i64 b, .int .i64 c, .int .i64 n]] w fun e w' => e = .returned (.bool true) ∧ w.grownBy w' none := by
  have HW : Hid (∀ w', w.grownBy w' none → _) := Lib.hid fun w' h => works_any w' (hT.grown h)
  have HL := Lib.hid hr
  have HX := Lib.hid hx
  have HD := Lib.hid hD
  obtain ⟨w2, hw2, hg2, hA2, hC2⟩ := boxes2 w x (op : Int) a b c n
  have HW2 := Lib.hid hw2
  have HG2 := Lib.hid hg2
  have HA2 := Lib.hid hA2
  have HC2 : Hid (∀ w', w2.grownBy w' none → _) := Lib.hid fun w' h => cells5 (row_grown hC2 h)
  obtain ⟨c0, c1, c2, c3, c4⟩ := HC2.out _ (grown_refl _ _)
  clear hT hw2 hg2 hA2 hC2 hx hr hD
  go_enter Tryd.func7, Tryd.ntmps7
  go_upto_region 1 with fail
  rw [HW2.out]
  go_upto_region 2 with (first
    | ((with_reducible refine load_any x 3 w.heap.size ?_ ?_ HX.out ?_); ((rfl)); ((exact HA2.out)))
    | (go_at_call 8; ((with_reducible refine (HD.out _ HG2.out).mono ?_); rintro e w3 ⟨rfl, hg3⟩; have HZ3 := Lib.hid (grown_alloc hg3 (.cells (row R) 23)); have HB3 := Lib.hid (heap_alloc_new w3 (.cells (row R) 23)); clear hg3))
    | ((with_reducible refine store_new' R 7 15 ?_ ?_ HL.out ?_); ((rfl)); ((rfl))))
  obtain ⟨b1, hb1⟩ : ∃ b1, b1 = w3.heap.size := ⟨_, rfl⟩
  rw [← hb1] at HB3
  generalize w3.alloc (.cells (row R) 23) = w4 at HZ3 HB3 ⊢
  try rw [← hb1]
  clear hb1 c0 c1 c2 c3 c4
  obtain ⟨c0, c1, c2, c3, c4⟩ := HC2.out _ HZ3.out
  go_wp2_with (go_at_call 10; ((with_reducible refine (HW.out _ (grown_trans HG2.out HZ3.out)).mono ?_); rintro e w9 ⟨rfl, hg9⟩; have HG9 := Lib.hid (grown_trans (grown_trans HG2.out HZ3.out) hg9); clear hg9))
  go_ret
  exact ⟨rfl, HG9.out⟩
set_option maxHeartbeats 2000000 in
theorem goes_bad4 (x R : List Int) (hx : x.length = 16) (hr : R.length = 16) (p T : Int) (op : Nat) (a b c n : Int) (w : World) (hT : Tab w) (hD : ∀ w', w.grownBy w' none → Calls Tryd.prog 8 #[.agg (row x), .int .i64 p, .agg #[.int .u8 (op : Int), .int .i64 a, .int .i64 b, .int .i64 c, .int .i64 n]] w' fun e w2 => e = .returned (.tuple #[.agg (row R), .int .i64 T, .int .i64 4]) ∧ w'.grownBy w2 none) : Calls Tryd.prog 7 #[.agg (row x), .int .i64 p, .agg #[.int .u8 (op : Int), .int .i64 a, .int .i64 b, .int .i64 c, .int .i64 n]] w fun e w' => e = .returned (.bool true) ∧ w.grownBy w' none := by
  have HW : Hid (∀ w', w.grownBy w' none → _) := Lib.hid fun w' h => works_any w' (hT.grown h)
  have HL := Lib.hid hr
  have HX := Lib.hid hx
  have HD := Lib.hid hD
  obtain ⟨w2, hw2, hg2, hA2, hC2⟩ := boxes2 w x (op : Int) a b c n
  have HW2 := Lib.hid hw2
  have HG2 := Lib.hid hg2
  have HA2 := Lib.hid hA2
  have HC2 : Hid (∀ w', w2.grownBy w' none → _) := Lib.hid fun w' h => cells5 (row_grown hC2 h)
  obtain ⟨c0, c1, c2, c3, c4⟩ := HC2.out _ (grown_refl _ _)
  clear hT hw2 hg2 hA2 hC2 hx hr hD
  go_enter Tryd.func7, Tryd.ntmps7
  go_upto_region 1 with fail
  rw [HW2.out]
  go_upto_region 2 with (first
    | ((with_reducible refine load_any x 3 w.heap.size ?_ ?_ HX.out ?_); ((rfl)); ((exact HA2.out)))
    | (go_at_call 8; ((with_reducible refine (HD.out _ HG2.out).mono ?_); rintro e w3 ⟨rfl, hg3⟩; have HZ3 := Lib.hid (grown_alloc hg3 (.cells (row R) 23)); have HB3 := Lib.hid (heap_alloc_new w3 (.cells (row R) 23)); clear hg3))
    | ((with_reducible refine store_new' R 7 15 ?_ ?_ HL.out ?_); ((rfl)); ((rfl))))
  obtain ⟨b1, hb1⟩ : ∃ b1, b1 = w3.heap.size := ⟨_, rfl⟩
  rw [← hb1] at HB3
  generalize w3.alloc (.cells (row R) 23) = w4 at HZ3 HB3 ⊢
  try rw [← hb1]
  clear hb1 c0 c1 c2 c3 c4
  obtain ⟨c0, c1, c2, c3, c4⟩ := HC2.out _ HZ3.out
  go_wp2_with (go_at_call 10; ((with_reducible refine (HW.out _ (grown_trans HG2.out HZ3.out)).mono ?_); rintro e w9 ⟨rfl, hg9⟩; have HG9 := Lib.hid (grown_trans (grown_trans HG2.out HZ3.out) hg9); clear hg9))
  go_ret
  exact ⟨rfl, HG9.out⟩
set_option maxHeartbeats 2000000 in
theorem goes_jump (x R : List Int) (hx : x.length = 16) (hr : R.length = 16) (p T : Int) (op : Nat) (a b c n : Int) (w : World) (hT : Tab w) (hD : ∀ w', w.grownBy w' none → Calls Tryd.prog 8 #[.agg (row x), .int .i64 p, .agg #[.int .u8 (op : Int), .int .i64 a, .int .i64 b, .int .i64 c, .int .i64 n]] w' fun e w2 => e = .returned (.tuple #[.agg (row R), .int .i64 T, .int .i64 0]) ∧ w'.grownBy w2 none) (ho : op = 16) (h0 : 0 ≤ p) (h1 : p ≤ 1024) (n0 : -2097152 ≤ n) (n1 : n ≤ 2097151) (ht : T = p + 1 + n) : Calls Tryd.prog 7 #[.agg (row x), .int .i64 p, .agg #[.int .u8 (op : Int), .int .i64 a, .int .i64 b, .int .i64 c, .int .i64 n]] w fun e w' => e = .returned (.bool true) ∧ w.grownBy w' none := by
  have HW : Hid (∀ w', w.grownBy w' none → _) := Lib.hid fun w' h => works_any w' (hT.grown h)
  have HL := Lib.hid hr
  have HX := Lib.hid hx
  have HD := Lib.hid hD
  obtain ⟨w2, hw2, hg2, hA2, hC2⟩ := boxes2 w x (op : Int) a b c n
  have HW2 := Lib.hid hw2
  have HG2 := Lib.hid hg2
  have HA2 := Lib.hid hA2
  have HC2 : Hid (∀ w', w2.grownBy w' none → _) := Lib.hid fun w' h => cells5 (row_grown hC2 h)
  have e16 : ((op : Int) == 16) = true := beq_iff_eq.2 (by omega)
  subst ht
  clear ho
  obtain ⟨c0, c1, c2, c3, c4⟩ := HC2.out _ (grown_refl _ _)
  clear hT hw2 hg2 hA2 hC2 hx hr hD
  go_enter Tryd.func7, Tryd.ntmps7
  go_upto_region 1 with fail
  rw [HW2.out]
  go_upto_region 2 with (first
    | ((with_reducible refine load_any x 3 w.heap.size ?_ ?_ HX.out ?_); ((rfl)); ((exact HA2.out)))
    | (go_at_call 8; ((with_reducible refine (HD.out _ HG2.out).mono ?_); rintro e w3 ⟨rfl, hg3⟩; have HZ3 := Lib.hid (grown_alloc hg3 (.cells (row R) 23)); have HB3 := Lib.hid (heap_alloc_new w3 (.cells (row R) 23)); clear hg3))
    | ((with_reducible refine store_new' R 7 15 ?_ ?_ HL.out ?_); ((rfl)); ((rfl))))
  obtain ⟨b1, hb1⟩ : ∃ b1, b1 = w3.heap.size := ⟨_, rfl⟩
  rw [← hb1] at HB3
  generalize w3.alloc (.cells (row R) 23) = w4 at HZ3 HB3 ⊢
  try rw [← hb1]
  clear hb1 c0 c1 c2 c3 c4
  obtain ⟨c0, c1, c2, c3, c4⟩ := HC2.out _ HZ3.out
  go_wp2_with (go_at_call 10; ((with_reducible refine (HW.out _ (grown_trans HG2.out HZ3.out)).mono ?_); rintro e w9 ⟨rfl, hg9⟩; have HG9 := Lib.hid (grown_trans (grown_trans HG2.out HZ3.out) hg9); clear hg9))
  go_ret
  exact ⟨rfl, HG9.out⟩
set_option maxHeartbeats 2000000 in
theorem goes_next (x R : List Int) (hx : x.length = 16) (hr : R.length = 16) (p T : Int) (op : Nat) (a b c n : Int) (w : World) (hT : Tab w) (hD : ∀ w', w.grownBy w' none → Calls Tryd.prog 8 #[.agg (row x), .int .i64 p, .agg #[.int .u8 (op : Int), .int .i64 a, .int .i64 b, .int .i64 c, .int .i64 n]] w' fun e w2 => e = .returned (.tuple #[.agg (row R), .int .i64 T, .int .i64 0]) ∧ w'.grownBy w2 none) (k1 : ¬ (13 ≤ op ∧ op ≤ 15)) (k2 : ¬ op = 16) (h0 : 0 ≤ p) (h1 : p ≤ 1024) (ht : T = p + 1) : Calls Tryd.prog 7 #[.agg (row x), .int .i64 p, .agg #[.int .u8 (op : Int), .int .i64 a, .int .i64 b, .int .i64 c, .int .i64 n]] w fun e w' => e = .returned (.bool true) ∧ w.grownBy w' none := by
  have HW : Hid (∀ w', w.grownBy w' none → _) := Lib.hid fun w' h => works_any w' (hT.grown h)
  have HL := Lib.hid hr
  have HX := Lib.hid hx
  have HD := Lib.hid hD
  obtain ⟨w2, hw2, hg2, hA2, hC2⟩ := boxes2 w x (op : Int) a b c n
  have HW2 := Lib.hid hw2
  have HG2 := Lib.hid hg2
  have HA2 := Lib.hid hA2
  have HC2 : Hid (∀ w', w2.grownBy w' none → _) := Lib.hid fun w' h => cells5 (row_grown hC2 h)
  have e13 : ((op : Int) == 13) = false := beq_eq_false_iff_ne.2 (by omega)
  have e14 : ((op : Int) == 14) = false := beq_eq_false_iff_ne.2 (by omega)
  have e15 : ((op : Int) == 15) = false := beq_eq_false_iff_ne.2 (by omega)
  have e16 : ((op : Int) == 16) = false := beq_eq_false_iff_ne.2 (by omega)
  subst ht
  clear k1 k2
  obtain ⟨c0, c1, c2, c3, c4⟩ := HC2.out _ (grown_refl _ _)
  clear hT hw2 hg2 hA2 hC2 hx hr hD
  go_enter Tryd.func7, Tryd.ntmps7
  go_upto_region 1 with fail
  rw [HW2.out]
  go_upto_region 2 with (first
    | ((with_reducible refine load_any x 3 w.heap.size ?_ ?_ HX.out ?_); ((rfl)); ((exact HA2.out)))
    | (go_at_call 8; ((with_reducible refine (HD.out _ HG2.out).mono ?_); rintro e w3 ⟨rfl, hg3⟩; have HZ3 := Lib.hid (grown_alloc hg3 (.cells (row R) 23)); have HB3 := Lib.hid (heap_alloc_new w3 (.cells (row R) 23)); clear hg3))
    | ((with_reducible refine store_new' R 7 15 ?_ ?_ HL.out ?_); ((rfl)); ((rfl))))
  obtain ⟨b1, hb1⟩ : ∃ b1, b1 = w3.heap.size := ⟨_, rfl⟩
  rw [← hb1] at HB3
  generalize w3.alloc (.cells (row R) 23) = w4 at HZ3 HB3 ⊢
  try rw [← hb1]
  clear hb1 c0 c1 c2 c3 c4
  obtain ⟨c0, c1, c2, c3, c4⟩ := HC2.out _ HZ3.out
  go_wp2_with (go_at_call 10; ((with_reducible refine (HW.out _ (grown_trans HG2.out HZ3.out)).mono ?_); rintro e w9 ⟨rfl, hg9⟩; have HG9 := Lib.hid (grown_trans (grown_trans HG2.out HZ3.out) hg9); clear hg9))
  go_ret
  exact ⟨rfl, HG9.out⟩
set_option maxHeartbeats 2000000 in
theorem goes_13b0 (x R : List Int) (hx : x.length = 16) (hr : R.length = 16) (p T : Int) (op : Nat) (a b c n : Int) (w : World) (hT : Tab w) (hD : ∀ w', w.grownBy w' none → Calls Tryd.prog 8 #[.agg (row x), .int .i64 p, .agg #[.int .u8 (op : Int), .int .i64 a, .int .i64 b, .int .i64 c, .int .i64 n]] w' fun e w2 => e = .returned (.tuple #[.agg (row R), .int .i64 T, .int .i64 0]) ∧ w'.grownBy w2 none) (ho : op = 13) (hR : R = x.set 0 0) (h0 : 0 ≤ p) (h1 : p ≤ 1024) (n0 : -2097152 ≤ n) (n1 : n ≤ 2097151) (ht : T = p + 1) : Calls Tryd.prog 7 #[.agg (row x), .int .i64 p, .agg #[.int .u8 (op : Int), .int .i64 a, .int .i64 b, .int .i64 c, .int .i64 n]] w fun e w' => e = .returned (.bool true) ∧ w.grownBy w' none := by
  have HW : Hid (∀ w', w.grownBy w' none → _) := Lib.hid fun w' h => works_any w' (hT.grown h)
  have HL := Lib.hid hr
  have HX := Lib.hid hx
  have HD := Lib.hid hD
  obtain ⟨w2, hw2, hg2, hA2, hC2⟩ := boxes2 w x (op : Int) a b c n
  have HW2 := Lib.hid hw2
  have HG2 := Lib.hid hg2
  have HA2 := Lib.hid hA2
  have HC2 : Hid (∀ w', w2.grownBy w' none → _) := Lib.hid fun w' h => cells5 (row_grown hC2 h)
  have e13 : ((op : Int) == 13) = true := beq_iff_eq.2 (by omega)
  have e14 : ((op : Int) == 14) = false := beq_eq_false_iff_ne.2 (by omega)
  have e15 : ((op : Int) == 15) = false := beq_eq_false_iff_ne.2 (by omega)
  have e16 : ((op : Int) == 16) = false := beq_eq_false_iff_ne.2 (by omega)
  subst ht
  have HE : ∀ w, (binOp .eql 23 (.agg (row R)) (.agg (row (x.set 0 0)))).run Tryd.prog w = .ok (.bool true) w := fun w => by rw [hR, eqRe w _ _ (by simp [hx]) (by simp [hx])]; simp
  have HL0 : Hid ((x.set 0 0).length = 16) := Lib.hid (by simp [hx])
  have HZ2 : Hid (w.heap.size < w2.heap.size) := Lib.hid (Array.getElem?_eq_some_iff.1 hA2).1
  clear ho hR
  obtain ⟨c0, c1, c2, c3, c4⟩ := HC2.out _ (grown_refl _ _)
  clear hT hw2 hg2 hA2 hC2 hx hr hD
  go_enter Tryd.func7, Tryd.ntmps7
  go_upto_region 1 with fail
  rw [HW2.out]
  go_upto_region 2 with (first
    | ((with_reducible refine load_any x 3 w.heap.size ?_ ?_ HX.out ?_); ((rfl)); ((exact HA2.out)))
    | (go_at_call 8; ((with_reducible refine (HD.out _ HG2.out).mono ?_); rintro e w3 ⟨rfl, hg3⟩; have HZ3 := Lib.hid (grown_alloc hg3 (.cells (row R) 23)); have HS3 := Lib.hid hg3.size; have HB3 := Lib.hid (heap_alloc_new w3 (.cells (row R) 23)); clear hg3))
    | ((with_reducible refine store_new' R 7 15 ?_ ?_ HL.out ?_); ((rfl)); ((rfl))))
  obtain ⟨b1, hb1⟩ : ∃ b1, b1 = w3.heap.size := ⟨_, rfl⟩
  rw [← hb1] at HB3 HS3
  generalize w3.alloc (.cells (row R) 23) = w4 at HZ3 HB3 ⊢
  try rw [← hb1]
  clear hb1 c0 c1 c2 c3 c4
  obtain ⟨c0, c1, c2, c3, c4⟩ := HC2.out _ HZ3.out
  go_upto_region 10 with fail
  have hc0 := cellR (row_grown HA2.out HZ3.out) (k := 0) (by rw [HX.out]; omega)
  have hf0 := frz (row_grown HA2.out HZ3.out) 0
  have HA5 : Hid ((w4.setCell ⟨w.heap.size, 0, none⟩ (.int .u32 0)).heap[w.heap.size]? = some (.cells (row (x.set 0 0)) 23 (0, 0))) := Lib.hid (set_cellR (row_grown HA2.out HZ3.out) 0)
  have HB5 : Hid ((w4.setCell ⟨w.heap.size, 0, none⟩ (.int .u32 0)).heap[b1]? = some (.cells (row R) 23 (0, 0))) := Lib.hid ((heap_setCell_other _ _ _ _ (show b1 ≠ w.heap.size by have := HZ2.out; have := HS3.out; omega)).trans HB3.out)
  have HG5 := Lib.hid (grown_set (grown_trans HG2.out HZ3.out) w.heap.size 0 (Nat.le_refl _) (.int .u32 0))
  have hC5 : ∀ j, j ≠ 0 → (w4.setCell ⟨w.heap.size, 0, none⟩ (.int .u32 0)).cell? ⟨w.heap.size + 1, 4, none⟩ = some (.int .i64 n) := fun _ _ => by
    rw [World.cell?_of_block (w := w4) (heap_setCell_other _ _ _ _ (show w.heap.size + 1 ≠ w.heap.size by omega))]; exact c4
  have HC5 := Lib.hid (hC5 1 (by decide))
  go_upto_region 11 with fail
  generalize w4.setCell ⟨w.heap.size, 0, none⟩ (.int .u32 0) = w5 at HA5 HB5 HG5 HC5 ⊢
  clear hC5 hc0 hf0 c0 c1 c2 c3 c4
  have c4 := HC5.out
  obtain ⟨t, nn, HT, hagg, hsize, hsz, hld, hst⟩ := namedR
  have hlA := hld w.heap.size (x.set 0 0) HL0.out w5 (range_of HA5.out)
  have hlB := hld b1 R HL.out w5 (range_of HB5.out)
  clear hld hst hsz
  rw [HT.out.1]
  go_wp2_with (first
    | (go_at_call 10; ((with_reducible refine (HW.out _ HG5.out).mono ?_); rintro e w9 ⟨rfl, hg9⟩; have HG9 := Lib.hid (grown_trans HG5.out hg9); clear hg9)))
  go_ret
  exact ⟨rfl, HG9.out⟩
set_option maxHeartbeats 2000000 in
theorem goes_13b1 (x R : List Int) (hx : x.length = 16) (hr : R.length = 16) (p T : Int) (op : Nat) (a b c n : Int) (w : World) (hT : Tab w) (hD : ∀ w', w.grownBy w' none → Calls Tryd.prog 8 #[.agg (row x), .int .i64 p, .agg #[.int .u8 (op : Int), .int .i64 a, .int .i64 b, .int .i64 c, .int .i64 n]] w' fun e w2 => e = .returned (.tuple #[.agg (row R), .int .i64 T, .int .i64 0]) ∧ w'.grownBy w2 none) (ho : op = 13) (hR : R = x.set 0 0) (h0 : 0 ≤ p) (h1 : p ≤ 1024) (n0 : -2097152 ≤ n) (n1 : n ≤ 2097151) (ht : T = p + 1 + n) (hn : ¬ n = 0) : Calls Tryd.prog 7 #[.agg (row x), .int .i64 p, .agg #[.int .u8 (op : Int), .int .i64 a, .int .i64 b, .int .i64 c, .int .i64 n]] w fun e w' => e = .returned (.bool true) ∧ w.grownBy w' none := by
  have HW : Hid (∀ w', w.grownBy w' none → _) := Lib.hid fun w' h => works_any w' (hT.grown h)
  have HL := Lib.hid hr
  have HX := Lib.hid hx
  have HD := Lib.hid hD
  obtain ⟨w2, hw2, hg2, hA2, hC2⟩ := boxes2 w x (op : Int) a b c n
  have HW2 := Lib.hid hw2
  have HG2 := Lib.hid hg2
  have HA2 := Lib.hid hA2
  have HC2 : Hid (∀ w', w2.grownBy w' none → _) := Lib.hid fun w' h => cells5 (row_grown hC2 h)
  have e13 : ((op : Int) == 13) = true := beq_iff_eq.2 (by omega)
  have e14 : ((op : Int) == 14) = false := beq_eq_false_iff_ne.2 (by omega)
  have e15 : ((op : Int) == 15) = false := beq_eq_false_iff_ne.2 (by omega)
  have e16 : ((op : Int) == 16) = false := beq_eq_false_iff_ne.2 (by omega)
  subst ht
  have hne : (p + 1 + n == p + 1) = false := beq_eq_false_iff_ne.2 (by omega)
  clear hn
  have HE : ∀ w, (binOp .eql 23 (.agg (row R)) (.agg (row (x.set 0 0)))).run Tryd.prog w = .ok (.bool true) w := fun w => by rw [hR, eqRe w _ _ (by simp [hx]) (by simp [hx])]; simp
  have HL0 : Hid ((x.set 0 0).length = 16) := Lib.hid (by simp [hx])
  have HZ2 : Hid (w.heap.size < w2.heap.size) := Lib.hid (Array.getElem?_eq_some_iff.1 hA2).1
  clear ho hR
  obtain ⟨c0, c1, c2, c3, c4⟩ := HC2.out _ (grown_refl _ _)
  clear hT hw2 hg2 hA2 hC2 hx hr hD
  go_enter Tryd.func7, Tryd.ntmps7
  go_upto_region 1 with fail
  rw [HW2.out]
  go_upto_region 2 with (first
    | ((with_reducible refine load_any x 3 w.heap.size ?_ ?_ HX.out ?_); ((rfl)); ((exact HA2.out)))
    | (go_at_call 8; ((with_reducible refine (HD.out _ HG2.out).mono ?_); rintro e w3 ⟨rfl, hg3⟩; have HZ3 := Lib.hid (grown_alloc hg3 (.cells (row R) 23)); have HS3 := Lib.hid hg3.size; have HB3 := Lib.hid (heap_alloc_new w3 (.cells (row R) 23)); clear hg3))
    | ((with_reducible refine store_new' R 7 15 ?_ ?_ HL.out ?_); ((rfl)); ((rfl))))
  obtain ⟨b1, hb1⟩ : ∃ b1, b1 = w3.heap.size := ⟨_, rfl⟩
  rw [← hb1] at HB3 HS3
  generalize w3.alloc (.cells (row R) 23) = w4 at HZ3 HB3 ⊢
  try rw [← hb1]
  clear hb1 c0 c1 c2 c3 c4
  obtain ⟨c0, c1, c2, c3, c4⟩ := HC2.out _ HZ3.out
  go_upto_region 10 with fail
  have hc0 := cellR (row_grown HA2.out HZ3.out) (k := 0) (by rw [HX.out]; omega)
  have hf0 := frz (row_grown HA2.out HZ3.out) 0
  have HA5 : Hid ((w4.setCell ⟨w.heap.size, 0, none⟩ (.int .u32 0)).heap[w.heap.size]? = some (.cells (row (x.set 0 0)) 23 (0, 0))) := Lib.hid (set_cellR (row_grown HA2.out HZ3.out) 0)
  have HB5 : Hid ((w4.setCell ⟨w.heap.size, 0, none⟩ (.int .u32 0)).heap[b1]? = some (.cells (row R) 23 (0, 0))) := Lib.hid ((heap_setCell_other _ _ _ _ (show b1 ≠ w.heap.size by have := HZ2.out; have := HS3.out; omega)).trans HB3.out)
  have HG5 := Lib.hid (grown_set (grown_trans HG2.out HZ3.out) w.heap.size 0 (Nat.le_refl _) (.int .u32 0))
  have hC5 : ∀ j, j ≠ 0 → (w4.setCell ⟨w.heap.size, 0, none⟩ (.int .u32 0)).cell? ⟨w.heap.size + 1, 4, none⟩ = some (.int .i64 n) := fun _ _ => by
    rw [World.cell?_of_block (w := w4) (heap_setCell_other _ _ _ _ (show w.heap.size + 1 ≠ w.heap.size by omega))]; exact c4
  have HC5 := Lib.hid (hC5 1 (by decide))
  go_upto_region 11 with fail
  generalize w4.setCell ⟨w.heap.size, 0, none⟩ (.int .u32 0) = w5 at HA5 HB5 HG5 HC5 ⊢
  clear hC5 hc0 hf0 c0 c1 c2 c3 c4
  have c4 := HC5.out
  obtain ⟨t, nn, HT, hagg, hsize, hsz, hld, hst⟩ := namedR
  have hlA := hld w.heap.size (x.set 0 0) HL0.out w5 (range_of HA5.out)
  have hlB := hld b1 R HL.out w5 (range_of HB5.out)
  clear hld hst hsz
  rw [HT.out.1]
  go_wp2_with (first
    | (go_at_call 10; ((with_reducible refine (HW.out _ HG5.out).mono ?_); rintro e w9 ⟨rfl, hg9⟩; have HG9 := Lib.hid (grown_trans HG5.out hg9); clear hg9)))
  go_ret
  exact ⟨rfl, HG9.out⟩
set_option maxHeartbeats 2000000 in
theorem goes_14b0 (x R : List Int) (hx : x.length = 16) (hr : R.length = 16) (p T : Int) (op : Nat) (a b c n : Int) (w : World) (hT : Tab w) (hD : ∀ w', w.grownBy w' none → Calls Tryd.prog 8 #[.agg (row x), .int .i64 p, .agg #[.int .u8 (op : Int), .int .i64 a, .int .i64 b, .int .i64 c, .int .i64 n]] w' fun e w2 => e = .returned (.tuple #[.agg (row R), .int .i64 T, .int .i64 0]) ∧ w'.grownBy w2 none) (ho : op = 14) (hR : R = x.set 0 0) (h0 : 0 ≤ p) (h1 : p ≤ 1024) (n0 : -2097152 ≤ n) (n1 : n ≤ 2097151) (ht : T = p + 1) : Calls Tryd.prog 7 #[.agg (row x), .int .i64 p, .agg #[.int .u8 (op : Int), .int .i64 a, .int .i64 b, .int .i64 c, .int .i64 n]] w fun e w' => e = .returned (.bool true) ∧ w.grownBy w' none := by
  have HW : Hid (∀ w', w.grownBy w' none → _) := Lib.hid fun w' h => works_any w' (hT.grown h)
  have HL := Lib.hid hr
  have HX := Lib.hid hx
  have HD := Lib.hid hD
  obtain ⟨w2, hw2, hg2, hA2, hC2⟩ := boxes2 w x (op : Int) a b c n
  have HW2 := Lib.hid hw2
  have HG2 := Lib.hid hg2
  have HA2 := Lib.hid hA2
  have HC2 : Hid (∀ w', w2.grownBy w' none → _) := Lib.hid fun w' h => cells5 (row_grown hC2 h)
  have e13 : ((op : Int) == 13) = false := beq_eq_false_iff_ne.2 (by omega)
  have e14 : ((op : Int) == 14) = true := beq_iff_eq.2 (by omega)
  have e15 : ((op : Int) == 15) = false := beq_eq_false_iff_ne.2 (by omega)
  have e16 : ((op : Int) == 16) = false := beq_eq_false_iff_ne.2 (by omega)
  subst ht
  have HE : ∀ w, (binOp .eql 23 (.agg (row R)) (.agg (row (x.set 0 0)))).run Tryd.prog w = .ok (.bool true) w := fun w => by rw [hR, eqRe w _ _ (by simp [hx]) (by simp [hx])]; simp
  have HL0 : Hid ((x.set 0 0).length = 16) := Lib.hid (by simp [hx])
  have HZ2 : Hid (w.heap.size < w2.heap.size) := Lib.hid (Array.getElem?_eq_some_iff.1 hA2).1
  clear ho hR
  obtain ⟨c0, c1, c2, c3, c4⟩ := HC2.out _ (grown_refl _ _)
  clear hT hw2 hg2 hA2 hC2 hx hr hD
  go_enter Tryd.func7, Tryd.ntmps7
  go_upto_region 1 with fail
  rw [HW2.out]
  go_upto_region 2 with (first
    | ((with_reducible refine load_any x 3 w.heap.size ?_ ?_ HX.out ?_); ((rfl)); ((exact HA2.out)))
    | (go_at_call 8; ((with_reducible refine (HD.out _ HG2.out).mono ?_); rintro e w3 ⟨rfl, hg3⟩; have HZ3 := Lib.hid (grown_alloc hg3 (.cells (row R) 23)); have HS3 := Lib.hid hg3.size; have HB3 := Lib.hid (heap_alloc_new w3 (.cells (row R) 23)); clear hg3))
    | ((with_reducible refine store_new' R 7 15 ?_ ?_ HL.out ?_); ((rfl)); ((rfl))))
  obtain ⟨b1, hb1⟩ : ∃ b1, b1 = w3.heap.size := ⟨_, rfl⟩
  rw [← hb1] at HB3 HS3
  generalize w3.alloc (.cells (row R) 23) = w4 at HZ3 HB3 ⊢
  try rw [← hb1]
  clear hb1 c0 c1 c2 c3 c4
  obtain ⟨c0, c1, c2, c3, c4⟩ := HC2.out _ HZ3.out
  go_upto_region 10 with fail
  have hc0 := cellR (row_grown HA2.out HZ3.out) (k := 0) (by rw [HX.out]; omega)
  have hf0 := frz (row_grown HA2.out HZ3.out) 0
  have HA5 : Hid ((w4.setCell ⟨w.heap.size, 0, none⟩ (.int .u32 0)).heap[w.heap.size]? = some (.cells (row (x.set 0 0)) 23 (0, 0))) := Lib.hid (set_cellR (row_grown HA2.out HZ3.out) 0)
  have HB5 : Hid ((w4.setCell ⟨w.heap.size, 0, none⟩ (.int .u32 0)).heap[b1]? = some (.cells (row R) 23 (0, 0))) := Lib.hid ((heap_setCell_other _ _ _ _ (show b1 ≠ w.heap.size by have := HZ2.out; have := HS3.out; omega)).trans HB3.out)
  have HG5 := Lib.hid (grown_set (grown_trans HG2.out HZ3.out) w.heap.size 0 (Nat.le_refl _) (.int .u32 0))
  have hC5 : ∀ j, j ≠ 0 → (w4.setCell ⟨w.heap.size, 0, none⟩ (.int .u32 0)).cell? ⟨w.heap.size + 1, 4, none⟩ = some (.int .i64 n) := fun _ _ => by
    rw [World.cell?_of_block (w := w4) (heap_setCell_other _ _ _ _ (show w.heap.size + 1 ≠ w.heap.size by omega))]; exact c4
  have HC5 := Lib.hid (hC5 1 (by decide))
  go_upto_region 11 with fail
  generalize w4.setCell ⟨w.heap.size, 0, none⟩ (.int .u32 0) = w5 at HA5 HB5 HG5 HC5 ⊢
  clear hC5 hc0 hf0 c0 c1 c2 c3 c4
  have c4 := HC5.out
  obtain ⟨t, nn, HT, hagg, hsize, hsz, hld, hst⟩ := namedR
  have hlA := hld w.heap.size (x.set 0 0) HL0.out w5 (range_of HA5.out)
  have hlB := hld b1 R HL.out w5 (range_of HB5.out)
  clear hld hst hsz
  rw [HT.out.1]
  go_wp2_with (first
    | (go_at_call 10; ((with_reducible refine (HW.out _ HG5.out).mono ?_); rintro e w9 ⟨rfl, hg9⟩; have HG9 := Lib.hid (grown_trans HG5.out hg9); clear hg9)))
  go_ret
  exact ⟨rfl, HG9.out⟩
set_option maxHeartbeats 2000000 in
theorem goes_14b1 (x R : List Int) (hx : x.length = 16) (hr : R.length = 16) (p T : Int) (op : Nat) (a b c n : Int) (w : World) (hT : Tab w) (hD : ∀ w', w.grownBy w' none → Calls Tryd.prog 8 #[.agg (row x), .int .i64 p, .agg #[.int .u8 (op : Int), .int .i64 a, .int .i64 b, .int .i64 c, .int .i64 n]] w' fun e w2 => e = .returned (.tuple #[.agg (row R), .int .i64 T, .int .i64 0]) ∧ w'.grownBy w2 none) (ho : op = 14) (hR : R = x.set 0 0) (h0 : 0 ≤ p) (h1 : p ≤ 1024) (n0 : -2097152 ≤ n) (n1 : n ≤ 2097151) (ht : T = p + 1 + n) (hn : ¬ n = 0) : Calls Tryd.prog 7 #[.agg (row x), .int .i64 p, .agg #[.int .u8 (op : Int), .int .i64 a, .int .i64 b, .int .i64 c, .int .i64 n]] w fun e w' => e = .returned (.bool true) ∧ w.grownBy w' none := by
  have HW : Hid (∀ w', w.grownBy w' none → _) := Lib.hid fun w' h => works_any w' (hT.grown h)
  have HL := Lib.hid hr
  have HX := Lib.hid hx
  have HD := Lib.hid hD
  obtain ⟨w2, hw2, hg2, hA2, hC2⟩ := boxes2 w x (op : Int) a b c n
  have HW2 := Lib.hid hw2
  have HG2 := Lib.hid hg2
  have HA2 := Lib.hid hA2
  have HC2 : Hid (∀ w', w2.grownBy w' none → _) := Lib.hid fun w' h => cells5 (row_grown hC2 h)
  have e13 : ((op : Int) == 13) = false := beq_eq_false_iff_ne.2 (by omega)
  have e14 : ((op : Int) == 14) = true := beq_iff_eq.2 (by omega)
  have e15 : ((op : Int) == 15) = false := beq_eq_false_iff_ne.2 (by omega)
  have e16 : ((op : Int) == 16) = false := beq_eq_false_iff_ne.2 (by omega)
  subst ht
  have hne : (p + 1 + n == p + 1) = false := beq_eq_false_iff_ne.2 (by omega)
  clear hn
  have HE : ∀ w, (binOp .eql 23 (.agg (row R)) (.agg (row (x.set 0 0)))).run Tryd.prog w = .ok (.bool true) w := fun w => by rw [hR, eqRe w _ _ (by simp [hx]) (by simp [hx])]; simp
  have HL0 : Hid ((x.set 0 0).length = 16) := Lib.hid (by simp [hx])
  have HZ2 : Hid (w.heap.size < w2.heap.size) := Lib.hid (Array.getElem?_eq_some_iff.1 hA2).1
  clear ho hR
  obtain ⟨c0, c1, c2, c3, c4⟩ := HC2.out _ (grown_refl _ _)
  clear hT hw2 hg2 hA2 hC2 hx hr hD
  go_enter Tryd.func7, Tryd.ntmps7
  go_upto_region 1 with fail
  rw [HW2.out]
  go_upto_region 2 with (first
    | ((with_reducible refine load_any x 3 w.heap.size ?_ ?_ HX.out ?_); ((rfl)); ((exact HA2.out)))
    | (go_at_call 8; ((with_reducible refine (HD.out _ HG2.out).mono ?_); rintro e w3 ⟨rfl, hg3⟩; have HZ3 := Lib.hid (grown_alloc hg3 (.cells (row R) 23)); have HS3 := Lib.hid hg3.size; have HB3 := Lib.hid (heap_alloc_new w3 (.cells (row R) 23)); clear hg3))
    | ((with_reducible refine store_new' R 7 15 ?_ ?_ HL.out ?_); ((rfl)); ((rfl))))
  obtain ⟨b1, hb1⟩ : ∃ b1, b1 = w3.heap.size := ⟨_, rfl⟩
  rw [← hb1] at HB3 HS3
  generalize w3.alloc (.cells (row R) 23) = w4 at HZ3 HB3 ⊢
  try rw [← hb1]
  clear hb1 c0 c1 c2 c3 c4
  obtain ⟨c0, c1, c2, c3, c4⟩ := HC2.out _ HZ3.out
  go_upto_region 10 with fail
  have hc0 := cellR (row_grown HA2.out HZ3.out) (k := 0) (by rw [HX.out]; omega)
  have hf0 := frz (row_grown HA2.out HZ3.out) 0
  have HA5 : Hid ((w4.setCell ⟨w.heap.size, 0, none⟩ (.int .u32 0)).heap[w.heap.size]? = some (.cells (row (x.set 0 0)) 23 (0, 0))) := Lib.hid (set_cellR (row_grown HA2.out HZ3.out) 0)
  have HB5 : Hid ((w4.setCell ⟨w.heap.size, 0, none⟩ (.int .u32 0)).heap[b1]? = some (.cells (row R) 23 (0, 0))) := Lib.hid ((heap_setCell_other _ _ _ _ (show b1 ≠ w.heap.size by have := HZ2.out; have := HS3.out; omega)).trans HB3.out)
  have HG5 := Lib.hid (grown_set (grown_trans HG2.out HZ3.out) w.heap.size 0 (Nat.le_refl _) (.int .u32 0))
  have hC5 : ∀ j, j ≠ 0 → (w4.setCell ⟨w.heap.size, 0, none⟩ (.int .u32 0)).cell? ⟨w.heap.size + 1, 4, none⟩ = some (.int .i64 n) := fun _ _ => by
    rw [World.cell?_of_block (w := w4) (heap_setCell_other _ _ _ _ (show w.heap.size + 1 ≠ w.heap.size by omega))]; exact c4
  have HC5 := Lib.hid (hC5 1 (by decide))
  go_upto_region 11 with fail
  generalize w4.setCell ⟨w.heap.size, 0, none⟩ (.int .u32 0) = w5 at HA5 HB5 HG5 HC5 ⊢
  clear hC5 hc0 hf0 c0 c1 c2 c3 c4
  have c4 := HC5.out
  obtain ⟨t, nn, HT, hagg, hsize, hsz, hld, hst⟩ := namedR
  have hlA := hld w.heap.size (x.set 0 0) HL0.out w5 (range_of HA5.out)
  have hlB := hld b1 R HL.out w5 (range_of HB5.out)
  clear hld hst hsz
  rw [HT.out.1]
  go_wp2_with (first
    | (go_at_call 10; ((with_reducible refine (HW.out _ HG5.out).mono ?_); rintro e w9 ⟨rfl, hg9⟩; have HG9 := Lib.hid (grown_trans HG5.out hg9); clear hg9)))
  go_ret
  exact ⟨rfl, HG9.out⟩
set_option maxHeartbeats 2000000 in
theorem goes_15b0 (x R : List Int) (hx : x.length = 16) (hr : R.length = 16) (p T : Int) (op : Nat) (a b c n : Int) (w : World) (hT : Tab w) (hD : ∀ w', w.grownBy w' none → Calls Tryd.prog 8 #[.agg (row x), .int .i64 p, .agg #[.int .u8 (op : Int), .int .i64 a, .int .i64 b, .int .i64 c, .int .i64 n]] w' fun e w2 => e = .returned (.tuple #[.agg (row R), .int .i64 T, .int .i64 0]) ∧ w'.grownBy w2 none) (ho : op = 15) (hR : R = x.set 0 0) (h0 : 0 ≤ p) (h1 : p ≤ 1024) (n0 : -2097152 ≤ n) (n1 : n ≤ 2097151) (ht : T = p + 1) : Calls Tryd.prog 7 #[.agg (row x), .int .i64 p, .agg #[.int .u8 (op : Int), .int .i64 a, .int .i64 b, .int .i64 c, .int .i64 n]] w fun e w' => e = .returned (.bool true) ∧ w.grownBy w' none := by
  have HW : Hid (∀ w', w.grownBy w' none → _) := Lib.hid fun w' h => works_any w' (hT.grown h)
  have HL := Lib.hid hr
  have HX := Lib.hid hx
  have HD := Lib.hid hD
  obtain ⟨w2, hw2, hg2, hA2, hC2⟩ := boxes2 w x (op : Int) a b c n
  have HW2 := Lib.hid hw2
  have HG2 := Lib.hid hg2
  have HA2 := Lib.hid hA2
  have HC2 : Hid (∀ w', w2.grownBy w' none → _) := Lib.hid fun w' h => cells5 (row_grown hC2 h)
  have e13 : ((op : Int) == 13) = false := beq_eq_false_iff_ne.2 (by omega)
  have e14 : ((op : Int) == 14) = false := beq_eq_false_iff_ne.2 (by omega)
  have e15 : ((op : Int) == 15) = true := beq_iff_eq.2 (by omega)
  have e16 : ((op : Int) == 16) = false := beq_eq_false_iff_ne.2 (by omega)
  subst ht
  have HE : ∀ w, (binOp .eql 23 (.agg (row R)) (.agg (row (x.set 0 0)))).run Tryd.prog w = .ok (.bool true) w := fun w => by rw [hR, eqRe w _ _ (by simp [hx]) (by simp [hx])]; simp
  have HL0 : Hid ((x.set 0 0).length = 16) := Lib.hid (by simp [hx])
  have HZ2 : Hid (w.heap.size < w2.heap.size) := Lib.hid (Array.getElem?_eq_some_iff.1 hA2).1
  clear ho hR
  obtain ⟨c0, c1, c2, c3, c4⟩ := HC2.out _ (grown_refl _ _)
  clear hT hw2 hg2 hA2 hC2 hx hr hD
  go_enter Tryd.func7, Tryd.ntmps7
  go_upto_region 1 with fail
  rw [HW2.out]
  go_upto_region 2 with (first
    | ((with_reducible refine load_any x 3 w.heap.size ?_ ?_ HX.out ?_); ((rfl)); ((exact HA2.out)))
    | (go_at_call 8; ((with_reducible refine (HD.out _ HG2.out).mono ?_); rintro e w3 ⟨rfl, hg3⟩; have HZ3 := Lib.hid (grown_alloc hg3 (.cells (row R) 23)); have HS3 := Lib.hid hg3.size; have HB3 := Lib.hid (heap_alloc_new w3 (.cells (row R) 23)); clear hg3))
    | ((with_reducible refine store_new' R 7 15 ?_ ?_ HL.out ?_); ((rfl)); ((rfl))))
  obtain ⟨b1, hb1⟩ : ∃ b1, b1 = w3.heap.size := ⟨_, rfl⟩
  rw [← hb1] at HB3 HS3
  generalize w3.alloc (.cells (row R) 23) = w4 at HZ3 HB3 ⊢
  try rw [← hb1]
  clear hb1 c0 c1 c2 c3 c4
  obtain ⟨c0, c1, c2, c3, c4⟩ := HC2.out _ HZ3.out
  go_upto_region 10 with fail
  have hc0 := cellR (row_grown HA2.out HZ3.out) (k := 0) (by rw [HX.out]; omega)
  have hf0 := frz (row_grown HA2.out HZ3.out) 0
  have HA5 : Hid ((w4.setCell ⟨w.heap.size, 0, none⟩ (.int .u32 0)).heap[w.heap.size]? = some (.cells (row (x.set 0 0)) 23 (0, 0))) := Lib.hid (set_cellR (row_grown HA2.out HZ3.out) 0)
  have HB5 : Hid ((w4.setCell ⟨w.heap.size, 0, none⟩ (.int .u32 0)).heap[b1]? = some (.cells (row R) 23 (0, 0))) := Lib.hid ((heap_setCell_other _ _ _ _ (show b1 ≠ w.heap.size by have := HZ2.out; have := HS3.out; omega)).trans HB3.out)
  have HG5 := Lib.hid (grown_set (grown_trans HG2.out HZ3.out) w.heap.size 0 (Nat.le_refl _) (.int .u32 0))
  have hC5 : ∀ j, j ≠ 0 → (w4.setCell ⟨w.heap.size, 0, none⟩ (.int .u32 0)).cell? ⟨w.heap.size + 1, 4, none⟩ = some (.int .i64 n) := fun _ _ => by
    rw [World.cell?_of_block (w := w4) (heap_setCell_other _ _ _ _ (show w.heap.size + 1 ≠ w.heap.size by omega))]; exact c4
  have HC5 := Lib.hid (hC5 1 (by decide))
  go_upto_region 11 with fail
  generalize w4.setCell ⟨w.heap.size, 0, none⟩ (.int .u32 0) = w5 at HA5 HB5 HG5 HC5 ⊢
  clear hC5 hc0 hf0 c0 c1 c2 c3 c4
  have c4 := HC5.out
  obtain ⟨t, nn, HT, hagg, hsize, hsz, hld, hst⟩ := namedR
  have hlA := hld w.heap.size (x.set 0 0) HL0.out w5 (range_of HA5.out)
  have hlB := hld b1 R HL.out w5 (range_of HB5.out)
  clear hld hst hsz
  rw [HT.out.1]
  go_wp2_with (first
    | (go_at_call 10; ((with_reducible refine (HW.out _ HG5.out).mono ?_); rintro e w9 ⟨rfl, hg9⟩; have HG9 := Lib.hid (grown_trans HG5.out hg9); clear hg9)))
  go_ret
  exact ⟨rfl, HG9.out⟩
set_option maxHeartbeats 2000000 in
theorem goes_15b1 (x R : List Int) (hx : x.length = 16) (hr : R.length = 16) (p T : Int) (op : Nat) (a b c n : Int) (w : World) (hT : Tab w) (hD : ∀ w', w.grownBy w' none → Calls Tryd.prog 8 #[.agg (row x), .int .i64 p, .agg #[.int .u8 (op : Int), .int .i64 a, .int .i64 b, .int .i64 c, .int .i64 n]] w' fun e w2 => e = .returned (.tuple #[.agg (row R), .int .i64 T, .int .i64 0]) ∧ w'.grownBy w2 none) (ho : op = 15) (hR : R = x.set 0 0) (h0 : 0 ≤ p) (h1 : p ≤ 1024) (n0 : -2097152 ≤ n) (n1 : n ≤ 2097151) (ht : T = p + 1 + n) (hn : ¬ n = 0) : Calls Tryd.prog 7 #[.agg (row x), .int .i64 p, .agg #[.int .u8 (op : Int), .int .i64 a, .int .i64 b, .int .i64 c, .int .i64 n]] w fun e w' => e = .returned (.bool true) ∧ w.grownBy w' none := by
  have HW : Hid (∀ w', w.grownBy w' none → _) := Lib.hid fun w' h => works_any w' (hT.grown h)
  have HL := Lib.hid hr
  have HX := Lib.hid hx
  have HD := Lib.hid hD
  obtain ⟨w2, hw2, hg2, hA2, hC2⟩ := boxes2 w x (op : Int) a b c n
  have HW2 := Lib.hid hw2
  have HG2 := Lib.hid hg2
  have HA2 := Lib.hid hA2
  have HC2 : Hid (∀ w', w2.grownBy w' none → _) := Lib.hid fun w' h => cells5 (row_grown hC2 h)
  have e13 : ((op : Int) == 13) = false := beq_eq_false_iff_ne.2 (by omega)
  have e14 : ((op : Int) == 14) = false := beq_eq_false_iff_ne.2 (by omega)
  have e15 : ((op : Int) == 15) = true := beq_iff_eq.2 (by omega)
  have e16 : ((op : Int) == 16) = false := beq_eq_false_iff_ne.2 (by omega)
  subst ht
  have hne : (p + 1 + n == p + 1) = false := beq_eq_false_iff_ne.2 (by omega)
  clear hn
  have HE : ∀ w, (binOp .eql 23 (.agg (row R)) (.agg (row (x.set 0 0)))).run Tryd.prog w = .ok (.bool true) w := fun w => by rw [hR, eqRe w _ _ (by simp [hx]) (by simp [hx])]; simp
  have HL0 : Hid ((x.set 0 0).length = 16) := Lib.hid (by simp [hx])
  have HZ2 : Hid (w.heap.size < w2.heap.size) := Lib.hid (Array.getElem?_eq_some_iff.1 hA2).1
  clear ho hR
  obtain ⟨c0, c1, c2, c3, c4⟩ := HC2.out _ (grown_refl _ _)
  clear hT hw2 hg2 hA2 hC2 hx hr hD
  go_enter Tryd.func7, Tryd.ntmps7
  go_upto_region 1 with fail
  rw [HW2.out]
  go_upto_region 2 with (first
    | ((with_reducible refine load_any x 3 w.heap.size ?_ ?_ HX.out ?_); ((rfl)); ((exact HA2.out)))
    | (go_at_call 8; ((with_reducible refine (HD.out _ HG2.out).mono ?_); rintro e w3 ⟨rfl, hg3⟩; have HZ3 := Lib.hid (grown_alloc hg3 (.cells (row R) 23)); have HS3 := Lib.hid hg3.size; have HB3 := Lib.hid (heap_alloc_new w3 (.cells (row R) 23)); clear hg3))
    | ((with_reducible refine store_new' R 7 15 ?_ ?_ HL.out ?_); ((rfl)); ((rfl))))
  obtain ⟨b1, hb1⟩ : ∃ b1, b1 = w3.heap.size := ⟨_, rfl⟩
  rw [← hb1] at HB3 HS3
  generalize w3.alloc (.cells (row R) 23) = w4 at HZ3 HB3 ⊢
  try rw [← hb1]
  clear hb1 c0 c1 c2 c3 c4
  obtain ⟨c0, c1, c2, c3, c4⟩ := HC2.out _ HZ3.out
  go_upto_region 10 with fail
  have hc0 := cellR (row_grown HA2.out HZ3.out) (k := 0) (by rw [HX.out]; omega)
  have hf0 := frz (row_grown HA2.out HZ3.out) 0
  have HA5 : Hid ((w4.setCell ⟨w.heap.size, 0, none⟩ (.int .u32 0)).heap[w.heap.size]? = some (.cells (row (x.set 0 0)) 23 (0, 0))) := Lib.hid (set_cellR (row_grown HA2.out HZ3.out) 0)
  have HB5 : Hid ((w4.setCell ⟨w.heap.size, 0, none⟩ (.int .u32 0)).heap[b1]? = some (.cells (row R) 23 (0, 0))) := Lib.hid ((heap_setCell_other _ _ _ _ (show b1 ≠ w.heap.size by have := HZ2.out; have := HS3.out; omega)).trans HB3.out)
  have HG5 := Lib.hid (grown_set (grown_trans HG2.out HZ3.out) w.heap.size 0 (Nat.le_refl _) (.int .u32 0))
  have hC5 : ∀ j, j ≠ 0 → (w4.setCell ⟨w.heap.size, 0, none⟩ (.int .u32 0)).cell? ⟨w.heap.size + 1, 4, none⟩ = some (.int .i64 n) := fun _ _ => by
    rw [World.cell?_of_block (w := w4) (heap_setCell_other _ _ _ _ (show w.heap.size + 1 ≠ w.heap.size by omega))]; exact c4
  have HC5 := Lib.hid (hC5 1 (by decide))
  go_upto_region 11 with fail
  generalize w4.setCell ⟨w.heap.size, 0, none⟩ (.int .u32 0) = w5 at HA5 HB5 HG5 HC5 ⊢
  clear hC5 hc0 hf0 c0 c1 c2 c3 c4
  have c4 := HC5.out
  obtain ⟨t, nn, HT, hagg, hsize, hsz, hld, hst⟩ := namedR
  have hlA := hld w.heap.size (x.set 0 0) HL0.out w5 (range_of HA5.out)
  have hlB := hld b1 R HL.out w5 (range_of HB5.out)
  clear hld hst hsz
  rw [HT.out.1]
  go_wp2_with (first
    | (go_at_call 10; ((with_reducible refine (HW.out _ HG5.out).mono ?_); rintro e w9 ⟨rfl, hg9⟩; have HG9 := Lib.hid (grown_trans HG5.out hg9); clear hg9)))
  go_ret
  exact ⟨rfl, HG9.out⟩
end Go.Proofs.YtmfckkioccmblaaDoor.sg
