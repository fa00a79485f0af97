/-
  What the document's own Do answers, instruction by instruction: contracts. No condition but the bounds that each theorem names.
-/
import Derived.Test.YtmfckkioccmblaaDoorStI
namespace Go.Proofs.YtmfckkioccmblaaDoor.sg
open Go Go.ChangeShapes Go.WideShapes Go.ChangeAt Go.RowKit Go.Proofs.YtmfckkioccmblaaDoor.cd
set_option linter.unusedVariables false
set_option maxRecDepth 1000000

set_option maxHeartbeats 2000000 in
theorem rdo_16 (x : List Int) (hx : x.length = 16) (p : Int) (a b c n : Int) (w : World) (hm : may ⟨16, a, b, c, n⟩ = true) (hp0 : 0 ≤ p) (hp : p ≤ 1024) (n0 : -2097152 ≤ n) (n1 : n ≤ 2097151) : Calls Tryd.prog 11 #[.agg (row x), .int .i64 p, .agg #[.int .u8 16, .int .i64 a, .int .i64 b, .int .i64 c, .int .i64 n]] w fun e w' => e = .returned (.tuple #[.agg (row (pt (x.set 0 0) a (gt (x.set 0 0) a))), .int .i64 (p + 1 + n), .int .i64 0]) ∧ w.grownBy w' none := by
  have h8 : 16 < 256 := by omega
  obtain ⟨w3, hw3, hg3, hA3, hC3, hB3⟩ := box3 w x 16 a b c n
  have HW3 := Lib.hid hw3
  have hz3 := (Array.getElem?_eq_some_iff.1 hB3).1
  obtain ⟨w5, hw5⟩ : ∃ z, w3.alloc (.cells (row zero) 23) = z := ⟨_, rfl⟩
  have hgz : w3.grownBy w5 none := hw5 ▸ grown_alloc (grown_refl _ _) _
  have hD5 : w5.heap[w3.heap.size]? = some (.cells (row zero) 23 (0, 0)) := hw5 ▸ heap_alloc_new _ _
  have HW5 := Lib.hid hw5
  have HG3 := Lib.hid (grown_trans hg3 hgz)
  have HA3 := Lib.hid (row_grown hA3 hgz)
  have HC3 := Lib.hid (row_grown hC3 hgz)
  have HB3 := Lib.hid (row_grown hB3 hgz)
  have HD3 := Lib.hid hD5
  have HK := Lib.hid (keepX (row_grown hA3 hgz) (row_grown hC3 hgz))
  have HZ : Hid (w.heap.size + 1 + 1 < w3.heap.size) := Lib.hid hz3
  obtain ⟨_, c0, c1, c2, c3, c4⟩ := keepX (row_grown hA3 hgz) (row_grown hC3 hgz) _ (grown_refl _ _)
  have HM : Hid (∀ w', Calls Tryd.prog 20 #[.agg #[.int .u8 16, .int .i64 a, .int .i64 b, .int .i64 c, .int .i64 n]] w' fun e w2 => e = .returned (.bool (may ⟨16, a, b, c, n⟩)) ∧ w'.grownBy w2 none) := Lib.hid fun w' => cd.rmay_any ⟨16, a, b, c, n⟩ w' h8
  rw [hm] at HM
  have HX := Lib.hid hx
  have hx0 : (x.set 0 0).length = 16 := by simp [hx]
  have HX0 := Lib.hid hx0
  have HGT : Hid (∀ n w, _) := Lib.hid fun n w => rget_any (x.set 0 0) hx0 n w
  have HPT : Hid (∀ n v w, _) := Lib.hid fun n v w => rput_any (x.set 0 0) hx0 n v w
  have HWD : Hid (∀ w, _) := Lib.hid fun w => rword_any n w
  clear hw3 hg3 hA3 hC3 hB3 hz3 hw5 hgz hD5 hm h8 hx hx0
  have HL : Hid ((pt (x.set 0 0) a (gt (x.set 0 0) a)).length = 16) := Lib.hid (pt_len HX0.out _ _)
  go_enter Tryd.func11, Tryd.ntmps11
  go_upto_region 1 with fail
  rw [HW3.out]
  go_upto_region 2 with ((with_reducible refine store_new' zero 9 15 ?_ ?_ zero_size ?_); ((rfl)); ((rfl)))
  rw [HW5.out]
  go_upto_region 4 with (go_at_call 20; ((with_reducible refine (HM.out _).mono ?_); rintro e w4 ⟨rfl, hg4⟩; have HG4 := Lib.hid hg4; obtain ⟨_, c0, c1, c2, c3, c4⟩ := HK.out _ hg4; clear hg4))
  have hc0 := cellR (row_grown HA3.out HG4.out) (k := 0) (by rw [HX.out]; omega)
  have hf0 := frz (row_grown HA3.out HG4.out) 0
  go_upto_region 5 with fail
  have hA6 : (w4.setCell ⟨w.heap.size, 0, none⟩ (.int .u32 0)).heap[w.heap.size]? = some (.cells (row (x.set 0 0)) 23 (0, 0)) := set_cellR (row_grown HA3.out HG4.out) 0
  have hC6 : (w4.setCell ⟨w.heap.size, 0, none⟩ (.int .u32 0)).heap[w.heap.size + 1]? = _ := (heap_setCell_other _ _ _ _ (show w.heap.size + 1 ≠ w.heap.size by omega)).trans (row_grown HC3.out HG4.out)
  have hB6 : (w4.setCell ⟨w.heap.size, 0, none⟩ (.int .u32 0)).heap[w.heap.size + 1 + 1]? = _ := (heap_setCell_other _ _ _ _ (show w.heap.size + 1 + 1 ≠ w.heap.size by omega)).trans (row_grown HB3.out HG4.out)
  have hD6 : (w4.setCell ⟨w.heap.size, 0, none⟩ (.int .u32 0)).heap[w3.heap.size]? = _ := (heap_setCell_other _ _ _ _ (show w3.heap.size ≠ w.heap.size by have := HZ.out; omega)).trans (row_grown HD3.out HG4.out)
  have hg6 := grown_set (grown_trans HG3.out HG4.out) w.heap.size 0 (Nat.le_refl _) (.int .u32 0)
  clear hc0 hf0 c0 c1 c2 c3 c4
  generalize w4.setCell ⟨w.heap.size, 0, none⟩ (.int .u32 0) = w6 at hA6 hC6 hB6 hD6 hg6 ⊢
  have HA6 := Lib.hid hA6
  have HB6 := Lib.hid hB6
  have HD6 := Lib.hid hD6
  have HG6 := Lib.hid hg6
  have HK6 := Lib.hid (fun w' hg => (keepX hA6 hC6 w' hg).2)
  obtain ⟨c0, c1, c2, c3, c4⟩ := HK6.out _ (grown_refl _ _)
  clear hA6 hC6 hB6 hD6 hg6
  go_upto_region 10 with (first
    | ((with_reducible refine load_any (x.set 0 0) 3 w.heap.size ?_ ?_ HX0.out ?_); ((rfl)); (first | (exact HA6.out) | (exact row_grown HA6.out HG7.out) | (exact row_grown HA6.out HG8.out)))
    | (go_at_call 16; ((with_reducible refine (HGT.out _ _).mono ?_); rintro e w7 ⟨rfl, hg7⟩; have HG7 := Lib.hid hg7; obtain ⟨c0, c1, c2, c3, c4⟩ := HK6.out _ hg7; clear hg7))
    | (go_at_call 16; ((with_reducible refine (HGT.out _ _).mono ?_); rintro e w8 ⟨rfl, hg8⟩; have HG8 := Lib.hid (grown_trans HG7.out hg8); obtain ⟨c0, c1, c2, c3, c4⟩ := HK6.out _ HG8.out; clear hg8))
    | (go_at_call 16; ((with_reducible refine (HGT.out _ _).mono ?_); rintro e w9 ⟨rfl, hg9⟩; have HG9 := Lib.hid (grown_trans HG8.out hg9); obtain ⟨c0, c1, c2, c3, c4⟩ := HK6.out _ HG9.out; clear hg9)))
  go_wp2_with (first
    | ((with_reducible refine load_any (x.set 0 0) 3 w.heap.size ?_ ?_ HX0.out ?_); ((rfl)); ((exact row_grown HA6.out HG9.out)))
    | (go_at_call 21; ((with_reducible refine (HWD.out _).mono ?_); rintro e w11 ⟨rfl, rfl⟩))
    | (go_at_call 14; ((with_reducible refine (HPT.out _ _ _).mono ?_); rintro e w10 ⟨rfl, hg10⟩; have HG10 := Lib.hid (grown_trans HG9.out hg10); clear hg10))
    | ((with_reducible refine store_any (pt (x.set 0 0) a (gt (x.set 0 0) a)) zero 6 133 (w.heap.size + 1 + 1) ?_ ?_ HL.out ?_ zero_size ?_); ((rfl)); ((rfl)); ((exact row_grown HB6.out HG10.out))))
  refine retR3 rfl HL.out (by rfl) rfl rfl (setRow_heap _ _ _ _ _ _ (row_grown HB6.out HG10.out)) ?_
  exact ⟨rfl, grown_setRow (grown_trans HG6.out HG10.out) _ (by omega) _⟩
set_option maxHeartbeats 2000000 in
theorem rdo_21 (x : List Int) (hx : x.length = 16) (p : Int) (a b c n : Int) (w : World) (hm : may ⟨21, a, b, c, n⟩ = true) (hp0 : 0 ≤ p) (hp : p ≤ 1024) (n0 : -2097152 ≤ n) (n1 : n ≤ 2097151) : Calls Tryd.prog 11 #[.agg (row x), .int .i64 p, .agg #[.int .u8 21, .int .i64 a, .int .i64 b, .int .i64 c, .int .i64 n]] w fun e w' => e = .returned (.tuple #[.agg (row (pt (x.set 0 0) a (gt (x.set 0 0) a))), .int .i64 (p + 1), .int .i64 0]) ∧ w.grownBy w' none := by
  have h8 : 21 < 256 := by omega
  obtain ⟨w3, hw3, hg3, hA3, hC3, hB3⟩ := box3 w x 21 a b c n
  have HW3 := Lib.hid hw3
  have hz3 := (Array.getElem?_eq_some_iff.1 hB3).1
  obtain ⟨w5, hw5⟩ : ∃ z, w3.alloc (.cells (row zero) 23) = z := ⟨_, rfl⟩
  have hgz : w3.grownBy w5 none := hw5 ▸ grown_alloc (grown_refl _ _) _
  have hD5 : w5.heap[w3.heap.size]? = some (.cells (row zero) 23 (0, 0)) := hw5 ▸ heap_alloc_new _ _
  have HW5 := Lib.hid hw5
  have HG3 := Lib.hid (grown_trans hg3 hgz)
  have HA3 := Lib.hid (row_grown hA3 hgz)
  have HC3 := Lib.hid (row_grown hC3 hgz)
  have HB3 := Lib.hid (row_grown hB3 hgz)
  have HD3 := Lib.hid hD5
  have HK := Lib.hid (keepX (row_grown hA3 hgz) (row_grown hC3 hgz))
  have HZ : Hid (w.heap.size + 1 + 1 < w3.heap.size) := Lib.hid hz3
  obtain ⟨_, c0, c1, c2, c3, c4⟩ := keepX (row_grown hA3 hgz) (row_grown hC3 hgz) _ (grown_refl _ _)
  have HM : Hid (∀ w', Calls Tryd.prog 20 #[.agg #[.int .u8 21, .int .i64 a, .int .i64 b, .int .i64 c, .int .i64 n]] w' fun e w2 => e = .returned (.bool (may ⟨21, a, b, c, n⟩)) ∧ w'.grownBy w2 none) := Lib.hid fun w' => cd.rmay_any ⟨21, a, b, c, n⟩ w' h8
  rw [hm] at HM
  have HX := Lib.hid hx
  have hx0 : (x.set 0 0).length = 16 := by simp [hx]
  have HX0 := Lib.hid hx0
  have HGT : Hid (∀ n w, _) := Lib.hid fun n w => rget_any (x.set 0 0) hx0 n w
  have HPT : Hid (∀ n v w, _) := Lib.hid fun n v w => rput_any (x.set 0 0) hx0 n v w
  have HWD : Hid (∀ w, _) := Lib.hid fun w => rword_any n w
  clear hw3 hg3 hA3 hC3 hB3 hz3 hw5 hgz hD5 hm h8 hx hx0
  have HL : Hid ((pt (x.set 0 0) a (gt (x.set 0 0) a)).length = 16) := Lib.hid (pt_len HX0.out _ _)
  go_enter Tryd.func11, Tryd.ntmps11
  go_upto_region 1 with fail
  rw [HW3.out]
  go_upto_region 2 with ((with_reducible refine store_new' zero 9 15 ?_ ?_ zero_size ?_); ((rfl)); ((rfl)))
  rw [HW5.out]
  go_upto_region 4 with (go_at_call 20; ((with_reducible refine (HM.out _).mono ?_); rintro e w4 ⟨rfl, hg4⟩; have HG4 := Lib.hid hg4; obtain ⟨_, c0, c1, c2, c3, c4⟩ := HK.out _ hg4; clear hg4))
  have hc0 := cellR (row_grown HA3.out HG4.out) (k := 0) (by rw [HX.out]; omega)
  have hf0 := frz (row_grown HA3.out HG4.out) 0
  go_upto_region 5 with fail
  have hA6 : (w4.setCell ⟨w.heap.size, 0, none⟩ (.int .u32 0)).heap[w.heap.size]? = some (.cells (row (x.set 0 0)) 23 (0, 0)) := set_cellR (row_grown HA3.out HG4.out) 0
  have hC6 : (w4.setCell ⟨w.heap.size, 0, none⟩ (.int .u32 0)).heap[w.heap.size + 1]? = _ := (heap_setCell_other _ _ _ _ (show w.heap.size + 1 ≠ w.heap.size by omega)).trans (row_grown HC3.out HG4.out)
  have hB6 : (w4.setCell ⟨w.heap.size, 0, none⟩ (.int .u32 0)).heap[w.heap.size + 1 + 1]? = _ := (heap_setCell_other _ _ _ _ (show w.heap.size + 1 + 1 ≠ w.heap.size by omega)).trans (row_grown HB3.out HG4.out)
  have hD6 : (w4.setCell ⟨w.heap.size, 0, none⟩ (.int .u32 0)).heap[w3.heap.size]? = _ := (heap_setCell_other _ _ _ _ (show w3.heap.size ≠ w.heap.size by have := HZ.out; omega)).trans (row_grown HD3.out HG4.out)
  have hg6 := grown_set (grown_trans HG3.out HG4.out) w.heap.size 0 (Nat.le_refl _) (.int .u32 0)
  clear hc0 hf0 c0 c1 c2 c3 c4
  generalize w4.setCell ⟨w.heap.size, 0, none⟩ (.int .u32 0) = w6 at hA6 hC6 hB6 hD6 hg6 ⊢
  have HA6 := Lib.hid hA6
  have HB6 := Lib.hid hB6
  have HD6 := Lib.hid hD6
  have HG6 := Lib.hid hg6
  have HK6 := Lib.hid (fun w' hg => (keepX hA6 hC6 w' hg).2)
  obtain ⟨c0, c1, c2, c3, c4⟩ := HK6.out _ (grown_refl _ _)
  clear hA6 hC6 hB6 hD6 hg6
  go_upto_region 10 with (first
    | ((with_reducible refine load_any (x.set 0 0) 3 w.heap.size ?_ ?_ HX0.out ?_); ((rfl)); (first | (exact HA6.out) | (exact row_grown HA6.out HG7.out) | (exact row_grown HA6.out HG8.out)))
    | (go_at_call 16; ((with_reducible refine (HGT.out _ _).mono ?_); rintro e w7 ⟨rfl, hg7⟩; have HG7 := Lib.hid hg7; obtain ⟨c0, c1, c2, c3, c4⟩ := HK6.out _ hg7; clear hg7))
    | (go_at_call 16; ((with_reducible refine (HGT.out _ _).mono ?_); rintro e w8 ⟨rfl, hg8⟩; have HG8 := Lib.hid (grown_trans HG7.out hg8); obtain ⟨c0, c1, c2, c3, c4⟩ := HK6.out _ HG8.out; clear hg8))
    | (go_at_call 16; ((with_reducible refine (HGT.out _ _).mono ?_); rintro e w9 ⟨rfl, hg9⟩; have HG9 := Lib.hid (grown_trans HG8.out hg9); obtain ⟨c0, c1, c2, c3, c4⟩ := HK6.out _ HG9.out; clear hg9)))
  go_wp2_with (first
    | ((with_reducible refine load_any (x.set 0 0) 3 w.heap.size ?_ ?_ HX0.out ?_); ((rfl)); ((exact row_grown HA6.out HG9.out)))
    | (go_at_call 21; ((with_reducible refine (HWD.out _).mono ?_); rintro e w11 ⟨rfl, rfl⟩))
    | (go_at_call 14; ((with_reducible refine (HPT.out _ _ _).mono ?_); rintro e w10 ⟨rfl, hg10⟩; have HG10 := Lib.hid (grown_trans HG9.out hg10); clear hg10))
    | ((with_reducible refine store_any (pt (x.set 0 0) a (gt (x.set 0 0) a)) zero 6 133 (w.heap.size + 1 + 1) ?_ ?_ HL.out ?_ zero_size ?_); ((rfl)); ((rfl)); ((exact row_grown HB6.out HG10.out))))
  refine retR3 rfl HL.out (by rfl) rfl rfl (setRow_heap _ _ _ _ _ _ (row_grown HB6.out HG10.out)) ?_
  exact ⟨rfl, grown_setRow (grown_trans HG6.out HG10.out) _ (by omega) _⟩
set_option maxHeartbeats 2000000 in
theorem rdo_0 (x : List Int) (hx : x.length = 16) (p : Int) (a b c n : Int) (w : World) (hm : may ⟨0, a, b, c, n⟩ = true) (hp0 : 0 ≤ p) (hp : p ≤ 1024) (n0 : -2097152 ≤ n) (n1 : n ≤ 2097151) : Calls Tryd.prog 11 #[.agg (row x), .int .i64 p, .agg #[.int .u8 0, .int .i64 a, .int .i64 b, .int .i64 c, .int .i64 n]] w fun e w' => e = .returned (.tuple #[.agg (row zero), .int .i64 0, .int .i64 4]) ∧ w.grownBy w' none := by
  have h8 : 0 < 256 := by omega
  obtain ⟨w3, hw3, hg3, hA3, hC3, hB3⟩ := box3 w x 0 a b c n
  have HW3 := Lib.hid hw3
  have hz3 := (Array.getElem?_eq_some_iff.1 hB3).1
  obtain ⟨w5, hw5⟩ : ∃ z, w3.alloc (.cells (row zero) 23) = z := ⟨_, rfl⟩
  have hgz : w3.grownBy w5 none := hw5 ▸ grown_alloc (grown_refl _ _) _
  have hD5 : w5.heap[w3.heap.size]? = some (.cells (row zero) 23 (0, 0)) := hw5 ▸ heap_alloc_new _ _
  have HW5 := Lib.hid hw5
  have HG3 := Lib.hid (grown_trans hg3 hgz)
  have HA3 := Lib.hid (row_grown hA3 hgz)
  have HC3 := Lib.hid (row_grown hC3 hgz)
  have HB3 := Lib.hid (row_grown hB3 hgz)
  have HD3 := Lib.hid hD5
  have HK := Lib.hid (keepX (row_grown hA3 hgz) (row_grown hC3 hgz))
  have HZ : Hid (w.heap.size + 1 + 1 < w3.heap.size) := Lib.hid hz3
  obtain ⟨_, c0, c1, c2, c3, c4⟩ := keepX (row_grown hA3 hgz) (row_grown hC3 hgz) _ (grown_refl _ _)
  have HM : Hid (∀ w', Calls Tryd.prog 20 #[.agg #[.int .u8 0, .int .i64 a, .int .i64 b, .int .i64 c, .int .i64 n]] w' fun e w2 => e = .returned (.bool (may ⟨0, a, b, c, n⟩)) ∧ w'.grownBy w2 none) := Lib.hid fun w' => cd.rmay_any ⟨0, a, b, c, n⟩ w' h8
  rw [hm] at HM
  have HX := Lib.hid hx
  have hx0 : (x.set 0 0).length = 16 := by simp [hx]
  have HX0 := Lib.hid hx0
  have HGT : Hid (∀ n w, _) := Lib.hid fun n w => rget_any (x.set 0 0) hx0 n w
  have HPT : Hid (∀ n v w, _) := Lib.hid fun n v w => rput_any (x.set 0 0) hx0 n v w
  have HWD : Hid (∀ w, _) := Lib.hid fun w => rword_any n w
  clear hw3 hg3 hA3 hC3 hB3 hz3 hw5 hgz hD5 hm h8 hx hx0
  go_enter Tryd.func11, Tryd.ntmps11
  go_upto_region 1 with fail
  rw [HW3.out]
  go_upto_region 2 with ((with_reducible refine store_new' zero 9 15 ?_ ?_ zero_size ?_); ((rfl)); ((rfl)))
  rw [HW5.out]
  go_upto_region 4 with (go_at_call 20; ((with_reducible refine (HM.out _).mono ?_); rintro e w4 ⟨rfl, hg4⟩; have HG4 := Lib.hid hg4; obtain ⟨_, c0, c1, c2, c3, c4⟩ := HK.out _ hg4; clear hg4))
  have hc0 := cellR (row_grown HA3.out HG4.out) (k := 0) (by rw [HX.out]; omega)
  have hf0 := frz (row_grown HA3.out HG4.out) 0
  go_upto_region 5 with fail
  have hA6 : (w4.setCell ⟨w.heap.size, 0, none⟩ (.int .u32 0)).heap[w.heap.size]? = some (.cells (row (x.set 0 0)) 23 (0, 0)) := set_cellR (row_grown HA3.out HG4.out) 0
  have hC6 : (w4.setCell ⟨w.heap.size, 0, none⟩ (.int .u32 0)).heap[w.heap.size + 1]? = _ := (heap_setCell_other _ _ _ _ (show w.heap.size + 1 ≠ w.heap.size by omega)).trans (row_grown HC3.out HG4.out)
  have hB6 : (w4.setCell ⟨w.heap.size, 0, none⟩ (.int .u32 0)).heap[w.heap.size + 1 + 1]? = _ := (heap_setCell_other _ _ _ _ (show w.heap.size + 1 + 1 ≠ w.heap.size by omega)).trans (row_grown HB3.out HG4.out)
  have hD6 : (w4.setCell ⟨w.heap.size, 0, none⟩ (.int .u32 0)).heap[w3.heap.size]? = _ := (heap_setCell_other _ _ _ _ (show w3.heap.size ≠ w.heap.size by have := HZ.out; omega)).trans (row_grown HD3.out HG4.out)
  have hg6 := grown_set (grown_trans HG3.out HG4.out) w.heap.size 0 (Nat.le_refl _) (.int .u32 0)
  clear hc0 hf0 c0 c1 c2 c3 c4
  generalize w4.setCell ⟨w.heap.size, 0, none⟩ (.int .u32 0) = w6 at hA6 hC6 hB6 hD6 hg6 ⊢
  have HA6 := Lib.hid hA6
  have HB6 := Lib.hid hB6
  have HD6 := Lib.hid hD6
  have HG6 := Lib.hid hg6
  have HK6 := Lib.hid (fun w' hg => (keepX hA6 hC6 w' hg).2)
  obtain ⟨c0, c1, c2, c3, c4⟩ := HK6.out _ (grown_refl _ _)
  clear hA6 hC6 hB6 hD6 hg6
  go_upto_region 10 with (first
    | ((with_reducible refine load_any (x.set 0 0) 3 w.heap.size ?_ ?_ HX0.out ?_); ((rfl)); (first | (exact HA6.out) | (exact row_grown HA6.out HG7.out) | (exact row_grown HA6.out HG8.out)))
    | (go_at_call 16; ((with_reducible refine (HGT.out _ _).mono ?_); rintro e w7 ⟨rfl, hg7⟩; have HG7 := Lib.hid hg7; obtain ⟨c0, c1, c2, c3, c4⟩ := HK6.out _ hg7; clear hg7))
    | (go_at_call 16; ((with_reducible refine (HGT.out _ _).mono ?_); rintro e w8 ⟨rfl, hg8⟩; have HG8 := Lib.hid (grown_trans HG7.out hg8); obtain ⟨c0, c1, c2, c3, c4⟩ := HK6.out _ HG8.out; clear hg8))
    | (go_at_call 16; ((with_reducible refine (HGT.out _ _).mono ?_); rintro e w9 ⟨rfl, hg9⟩; have HG9 := Lib.hid (grown_trans HG8.out hg9); obtain ⟨c0, c1, c2, c3, c4⟩ := HK6.out _ HG9.out; clear hg9)))
  go_wp2_with (first
    | ((with_reducible refine load_any zero 9 w3.heap.size ?_ ?_ zero_size ?_); ((rfl)); ((exact row_grown HD6.out HG9.out)))
    | ((with_reducible refine store_any zero zero 6 46 (w.heap.size + 1 + 1) ?_ ?_ zero_size ?_ zero_size ?_); ((rfl)); ((rfl)); ((exact row_grown HB6.out HG9.out))))
  refine retR3 rfl zero_size (by rfl) rfl rfl (setRow_heap _ _ _ _ _ _ (row_grown HB6.out HG9.out)) ?_
  exact ⟨rfl, grown_setRow (grown_trans HG6.out HG9.out) _ (by omega) _⟩
set_option maxHeartbeats 2000000 in
theorem rdo_9 (x : List Int) (hx : x.length = 16) (p : Int) (a b c n : Int) (w : World) (hm : may ⟨9, a, b, c, n⟩ = true) (hp0 : 0 ≤ p) (hp : p ≤ 1024) (n0 : -2097152 ≤ n) (n1 : n ≤ 2097151) : Calls Tryd.prog 11 #[.agg (row x), .int .i64 p, .agg #[.int .u8 9, .int .i64 a, .int .i64 b, .int .i64 c, .int .i64 n]] w fun e w' => e = .returned (.tuple #[.agg (row zero), .int .i64 0, .int .i64 4]) ∧ w.grownBy w' none := by
  have h8 : 9 < 256 := by omega
  obtain ⟨w3, hw3, hg3, hA3, hC3, hB3⟩ := box3 w x 9 a b c n
  have HW3 := Lib.hid hw3
  have hz3 := (Array.getElem?_eq_some_iff.1 hB3).1
  obtain ⟨w5, hw5⟩ : ∃ z, w3.alloc (.cells (row zero) 23) = z := ⟨_, rfl⟩
  have hgz : w3.grownBy w5 none := hw5 ▸ grown_alloc (grown_refl _ _) _
  have hD5 : w5.heap[w3.heap.size]? = some (.cells (row zero) 23 (0, 0)) := hw5 ▸ heap_alloc_new _ _
  have HW5 := Lib.hid hw5
  have HG3 := Lib.hid (grown_trans hg3 hgz)
  have HA3 := Lib.hid (row_grown hA3 hgz)
  have HC3 := Lib.hid (row_grown hC3 hgz)
  have HB3 := Lib.hid (row_grown hB3 hgz)
  have HD3 := Lib.hid hD5
  have HK := Lib.hid (keepX (row_grown hA3 hgz) (row_grown hC3 hgz))
  have HZ : Hid (w.heap.size + 1 + 1 < w3.heap.size) := Lib.hid hz3
  obtain ⟨_, c0, c1, c2, c3, c4⟩ := keepX (row_grown hA3 hgz) (row_grown hC3 hgz) _ (grown_refl _ _)
  have HM : Hid (∀ w', Calls Tryd.prog 20 #[.agg #[.int .u8 9, .int .i64 a, .int .i64 b, .int .i64 c, .int .i64 n]] w' fun e w2 => e = .returned (.bool (may ⟨9, a, b, c, n⟩)) ∧ w'.grownBy w2 none) := Lib.hid fun w' => cd.rmay_any ⟨9, a, b, c, n⟩ w' h8
  rw [hm] at HM
  have HX := Lib.hid hx
  have hx0 : (x.set 0 0).length = 16 := by simp [hx]
  have HX0 := Lib.hid hx0
  have HGT : Hid (∀ n w, _) := Lib.hid fun n w => rget_any (x.set 0 0) hx0 n w
  have HPT : Hid (∀ n v w, _) := Lib.hid fun n v w => rput_any (x.set 0 0) hx0 n v w
  have HWD : Hid (∀ w, _) := Lib.hid fun w => rword_any n w
  clear hw3 hg3 hA3 hC3 hB3 hz3 hw5 hgz hD5 hm h8 hx hx0
  go_enter Tryd.func11, Tryd.ntmps11
  go_upto_region 1 with fail
  rw [HW3.out]
  go_upto_region 2 with ((with_reducible refine store_new' zero 9 15 ?_ ?_ zero_size ?_); ((rfl)); ((rfl)))
  rw [HW5.out]
  go_upto_region 4 with (go_at_call 20; ((with_reducible refine (HM.out _).mono ?_); rintro e w4 ⟨rfl, hg4⟩; have HG4 := Lib.hid hg4; obtain ⟨_, c0, c1, c2, c3, c4⟩ := HK.out _ hg4; clear hg4))
  have hc0 := cellR (row_grown HA3.out HG4.out) (k := 0) (by rw [HX.out]; omega)
  have hf0 := frz (row_grown HA3.out HG4.out) 0
  go_upto_region 5 with fail
  have hA6 : (w4.setCell ⟨w.heap.size, 0, none⟩ (.int .u32 0)).heap[w.heap.size]? = some (.cells (row (x.set 0 0)) 23 (0, 0)) := set_cellR (row_grown HA3.out HG4.out) 0
  have hC6 : (w4.setCell ⟨w.heap.size, 0, none⟩ (.int .u32 0)).heap[w.heap.size + 1]? = _ := (heap_setCell_other _ _ _ _ (show w.heap.size + 1 ≠ w.heap.size by omega)).trans (row_grown HC3.out HG4.out)
  have hB6 : (w4.setCell ⟨w.heap.size, 0, none⟩ (.int .u32 0)).heap[w.heap.size + 1 + 1]? = _ := (heap_setCell_other _ _ _ _ (show w.heap.size + 1 + 1 ≠ w.heap.size by omega)).trans (row_grown HB3.out HG4.out)
  have hD6 : (w4.setCell ⟨w.heap.size, 0, none⟩ (.int .u32 0)).heap[w3.heap.size]? = _ := (heap_setCell_other _ _ _ _ (show w3.heap.size ≠ w.heap.size by have := HZ.out; omega)).trans (row_grown HD3.out HG4.out)
  have hg6 := grown_set (grown_trans HG3.out HG4.out) w.heap.size 0 (Nat.le_refl _) (.int .u32 0)
  clear hc0 hf0 c0 c1 c2 c3 c4
  generalize w4.setCell ⟨w.heap.size, 0, none⟩ (.int .u32 0) = w6 at hA6 hC6 hB6 hD6 hg6 ⊢
  have HA6 := Lib.hid hA6
  have HB6 := Lib.hid hB6
  have HD6 := Lib.hid hD6
  have HG6 := Lib.hid hg6
  have HK6 := Lib.hid (fun w' hg => (keepX hA6 hC6 w' hg).2)
  obtain ⟨c0, c1, c2, c3, c4⟩ := HK6.out _ (grown_refl _ _)
  clear hA6 hC6 hB6 hD6 hg6
  go_upto_region 10 with (first
    | ((with_reducible refine load_any (x.set 0 0) 3 w.heap.size ?_ ?_ HX0.out ?_); ((rfl)); (first | (exact HA6.out) | (exact row_grown HA6.out HG7.out) | (exact row_grown HA6.out HG8.out)))
    | (go_at_call 16; ((with_reducible refine (HGT.out _ _).mono ?_); rintro e w7 ⟨rfl, hg7⟩; have HG7 := Lib.hid hg7; obtain ⟨c0, c1, c2, c3, c4⟩ := HK6.out _ hg7; clear hg7))
    | (go_at_call 16; ((with_reducible refine (HGT.out _ _).mono ?_); rintro e w8 ⟨rfl, hg8⟩; have HG8 := Lib.hid (grown_trans HG7.out hg8); obtain ⟨c0, c1, c2, c3, c4⟩ := HK6.out _ HG8.out; clear hg8))
    | (go_at_call 16; ((with_reducible refine (HGT.out _ _).mono ?_); rintro e w9 ⟨rfl, hg9⟩; have HG9 := Lib.hid (grown_trans HG8.out hg9); obtain ⟨c0, c1, c2, c3, c4⟩ := HK6.out _ HG9.out; clear hg9)))
  go_wp2_with (first
    | ((with_reducible refine load_any zero 9 w3.heap.size ?_ ?_ zero_size ?_); ((rfl)); ((exact row_grown HD6.out HG9.out)))
    | ((with_reducible refine store_any zero zero 6 46 (w.heap.size + 1 + 1) ?_ ?_ zero_size ?_ zero_size ?_); ((rfl)); ((rfl)); ((exact row_grown HB6.out HG9.out))))
  refine retR3 rfl zero_size (by rfl) rfl rfl (setRow_heap _ _ _ _ _ _ (row_grown HB6.out HG9.out)) ?_
  exact ⟨rfl, grown_setRow (grown_trans HG6.out HG9.out) _ (by omega) _⟩
set_option maxHeartbeats 2000000 in
theorem rdo_10 (x : List Int) (hx : x.length = 16) (p : Int) (a b c n : Int) (w : World) (hm : may ⟨10, a, b, c, n⟩ = true) (hp0 : 0 ≤ p) (hp : p ≤ 1024) (n0 : -2097152 ≤ n) (n1 : n ≤ 2097151) : Calls Tryd.prog 11 #[.agg (row x), .int .i64 p, .agg #[.int .u8 10, .int .i64 a, .int .i64 b, .int .i64 c, .int .i64 n]] w fun e w' => e = .returned (.tuple #[.agg (row zero), .int .i64 0, .int .i64 4]) ∧ w.grownBy w' none := by
  have h8 : 10 < 256 := by omega
  obtain ⟨w3, hw3, hg3, hA3, hC3, hB3⟩ := box3 w x 10 a b c n
  have HW3 := Lib.hid hw3
  have hz3 := (Array.getElem?_eq_some_iff.1 hB3).1
  obtain ⟨w5, hw5⟩ : ∃ z, w3.alloc (.cells (row zero) 23) = z := ⟨_, rfl⟩
  have hgz : w3.grownBy w5 none := hw5 ▸ grown_alloc (grown_refl _ _) _
  have hD5 : w5.heap[w3.heap.size]? = some (.cells (row zero) 23 (0, 0)) := hw5 ▸ heap_alloc_new _ _
  have HW5 := Lib.hid hw5
  have HG3 := Lib.hid (grown_trans hg3 hgz)
  have HA3 := Lib.hid (row_grown hA3 hgz)
  have HC3 := Lib.hid (row_grown hC3 hgz)
  have HB3 := Lib.hid (row_grown hB3 hgz)
  have HD3 := Lib.hid hD5
  have HK := Lib.hid (keepX (row_grown hA3 hgz) (row_grown hC3 hgz))
  have HZ : Hid (w.heap.size + 1 + 1 < w3.heap.size) := Lib.hid hz3
  obtain ⟨_, c0, c1, c2, c3, c4⟩ := keepX (row_grown hA3 hgz) (row_grown hC3 hgz) _ (grown_refl _ _)
  have HM : Hid (∀ w', Calls Tryd.prog 20 #[.agg #[.int .u8 10, .int .i64 a, .int .i64 b, .int .i64 c, .int .i64 n]] w' fun e w2 => e = .returned (.bool (may ⟨10, a, b, c, n⟩)) ∧ w'.grownBy w2 none) := Lib.hid fun w' => cd.rmay_any ⟨10, a, b, c, n⟩ w' h8
  rw [hm] at HM
  have HX := Lib.hid hx
  have hx0 : (x.set 0 0).length = 16 := by simp [hx]
  have HX0 := Lib.hid hx0
  have HGT : Hid (∀ n w, _) := Lib.hid fun n w => rget_any (x.set 0 0) hx0 n w
  have HPT : Hid (∀ n v w, _) := Lib.hid fun n v w => rput_any (x.set 0 0) hx0 n v w
  have HWD : Hid (∀ w, _) := Lib.hid fun w => rword_any n w
  clear hw3 hg3 hA3 hC3 hB3 hz3 hw5 hgz hD5 hm h8 hx hx0
  go_enter Tryd.func11, Tryd.ntmps11
  go_upto_region 1 with fail
  rw [HW3.out]
  go_upto_region 2 with ((with_reducible refine store_new' zero 9 15 ?_ ?_ zero_size ?_); ((rfl)); ((rfl)))
  rw [HW5.out]
  go_upto_region 4 with (go_at_call 20; ((with_reducible refine (HM.out _).mono ?_); rintro e w4 ⟨rfl, hg4⟩; have HG4 := Lib.hid hg4; obtain ⟨_, c0, c1, c2, c3, c4⟩ := HK.out _ hg4; clear hg4))
  have hc0 := cellR (row_grown HA3.out HG4.out) (k := 0) (by rw [HX.out]; omega)
  have hf0 := frz (row_grown HA3.out HG4.out) 0
  go_upto_region 5 with fail
  have hA6 : (w4.setCell ⟨w.heap.size, 0, none⟩ (.int .u32 0)).heap[w.heap.size]? = some (.cells (row (x.set 0 0)) 23 (0, 0)) := set_cellR (row_grown HA3.out HG4.out) 0
  have hC6 : (w4.setCell ⟨w.heap.size, 0, none⟩ (.int .u32 0)).heap[w.heap.size + 1]? = _ := (heap_setCell_other _ _ _ _ (show w.heap.size + 1 ≠ w.heap.size by omega)).trans (row_grown HC3.out HG4.out)
  have hB6 : (w4.setCell ⟨w.heap.size, 0, none⟩ (.int .u32 0)).heap[w.heap.size + 1 + 1]? = _ := (heap_setCell_other _ _ _ _ (show w.heap.size + 1 + 1 ≠ w.heap.size by omega)).trans (row_grown HB3.out HG4.out)
  have hD6 : (w4.setCell ⟨w.heap.size, 0, none⟩ (.int .u32 0)).heap[w3.heap.size]? = _ := (heap_setCell_other _ _ _ _ (show w3.heap.size ≠ w.heap.size by have := HZ.out; omega)).trans (row_grown HD3.out HG4.out)
  have hg6 := grown_set (grown_trans HG3.out HG4.out) w.heap.size 0 (Nat.le_refl _) (.int .u32 0)
  clear hc0 hf0 c0 c1 c2 c3 c4
  generalize w4.setCell ⟨w.heap.size, 0, none⟩ (.int .u32 0) = w6 at hA6 hC6 hB6 hD6 hg6 ⊢
  have HA6 := Lib.hid hA6
  have HB6 := Lib.hid hB6
  have HD6 := Lib.hid hD6
  have HG6 := Lib.hid hg6
  have HK6 := Lib.hid (fun w' hg => (keepX hA6 hC6 w' hg).2)
  obtain ⟨c0, c1, c2, c3, c4⟩ := HK6.out _ (grown_refl _ _)
  clear hA6 hC6 hB6 hD6 hg6
  go_upto_region 10 with (first
    | ((with_reducible refine load_any (x.set 0 0) 3 w.heap.size ?_ ?_ HX0.out ?_); ((rfl)); (first | (exact HA6.out) | (exact row_grown HA6.out HG7.out) | (exact row_grown HA6.out HG8.out)))
    | (go_at_call 16; ((with_reducible refine (HGT.out _ _).mono ?_); rintro e w7 ⟨rfl, hg7⟩; have HG7 := Lib.hid hg7; obtain ⟨c0, c1, c2, c3, c4⟩ := HK6.out _ hg7; clear hg7))
    | (go_at_call 16; ((with_reducible refine (HGT.out _ _).mono ?_); rintro e w8 ⟨rfl, hg8⟩; have HG8 := Lib.hid (grown_trans HG7.out hg8); obtain ⟨c0, c1, c2, c3, c4⟩ := HK6.out _ HG8.out; clear hg8))
    | (go_at_call 16; ((with_reducible refine (HGT.out _ _).mono ?_); rintro e w9 ⟨rfl, hg9⟩; have HG9 := Lib.hid (grown_trans HG8.out hg9); obtain ⟨c0, c1, c2, c3, c4⟩ := HK6.out _ HG9.out; clear hg9)))
  go_wp2_with (first
    | ((with_reducible refine load_any zero 9 w3.heap.size ?_ ?_ zero_size ?_); ((rfl)); ((exact row_grown HD6.out HG9.out)))
    | ((with_reducible refine store_any zero zero 6 46 (w.heap.size + 1 + 1) ?_ ?_ zero_size ?_ zero_size ?_); ((rfl)); ((rfl)); ((exact row_grown HB6.out HG9.out))))
  refine retR3 rfl zero_size (by rfl) rfl rfl (setRow_heap _ _ _ _ _ _ (row_grown HB6.out HG9.out)) ?_
  exact ⟨rfl, grown_setRow (grown_trans HG6.out HG9.out) _ (by omega) _⟩
set_option maxHeartbeats 2000000 in
theorem rdo_11 (x : List Int) (hx : x.length = 16) (p : Int) (a b c n : Int) (w : World) (hm : may ⟨11, a, b, c, n⟩ = true) (hp0 : 0 ≤ p) (hp : p ≤ 1024) (n0 : -2097152 ≤ n) (n1 : n ≤ 2097151) : Calls Tryd.prog 11 #[.agg (row x), .int .i64 p, .agg #[.int .u8 11, .int .i64 a, .int .i64 b, .int .i64 c, .int .i64 n]] w fun e w' => e = .returned (.tuple #[.agg (row zero), .int .i64 0, .int .i64 4]) ∧ w.grownBy w' none := by
  have h8 : 11 < 256 := by omega
  obtain ⟨w3, hw3, hg3, hA3, hC3, hB3⟩ := box3 w x 11 a b c n
  have HW3 := Lib.hid hw3
  have hz3 := (Array.getElem?_eq_some_iff.1 hB3).1
  obtain ⟨w5, hw5⟩ : ∃ z, w3.alloc (.cells (row zero) 23) = z := ⟨_, rfl⟩
  have hgz : w3.grownBy w5 none := hw5 ▸ grown_alloc (grown_refl _ _) _
  have hD5 : w5.heap[w3.heap.size]? = some (.cells (row zero) 23 (0, 0)) := hw5 ▸ heap_alloc_new _ _
  have HW5 := Lib.hid hw5
  have HG3 := Lib.hid (grown_trans hg3 hgz)
  have HA3 := Lib.hid (row_grown hA3 hgz)
  have HC3 := Lib.hid (row_grown hC3 hgz)
  have HB3 := Lib.hid (row_grown hB3 hgz)
  have HD3 := Lib.hid hD5
  have HK := Lib.hid (keepX (row_grown hA3 hgz) (row_grown hC3 hgz))
  have HZ : Hid (w.heap.size + 1 + 1 < w3.heap.size) := Lib.hid hz3
  obtain ⟨_, c0, c1, c2, c3, c4⟩ := keepX (row_grown hA3 hgz) (row_grown hC3 hgz) _ (grown_refl _ _)
  have HM : Hid (∀ w', Calls Tryd.prog 20 #[.agg #[.int .u8 11, .int .i64 a, .int .i64 b, .int .i64 c, .int .i64 n]] w' fun e w2 => e = .returned (.bool (may ⟨11, a, b, c, n⟩)) ∧ w'.grownBy w2 none) := Lib.hid fun w' => cd.rmay_any ⟨11, a, b, c, n⟩ w' h8
  rw [hm] at HM
  have HX := Lib.hid hx
  have hx0 : (x.set 0 0).length = 16 := by simp [hx]
  have HX0 := Lib.hid hx0
  have HGT : Hid (∀ n w, _) := Lib.hid fun n w => rget_any (x.set 0 0) hx0 n w
  have HPT : Hid (∀ n v w, _) := Lib.hid fun n v w => rput_any (x.set 0 0) hx0 n v w
  have HWD : Hid (∀ w, _) := Lib.hid fun w => rword_any n w
  clear hw3 hg3 hA3 hC3 hB3 hz3 hw5 hgz hD5 hm h8 hx hx0
  go_enter Tryd.func11, Tryd.ntmps11
  go_upto_region 1 with fail
  rw [HW3.out]
  go_upto_region 2 with ((with_reducible refine store_new' zero 9 15 ?_ ?_ zero_size ?_); ((rfl)); ((rfl)))
  rw [HW5.out]
  go_upto_region 4 with (go_at_call 20; ((with_reducible refine (HM.out _).mono ?_); rintro e w4 ⟨rfl, hg4⟩; have HG4 := Lib.hid hg4; obtain ⟨_, c0, c1, c2, c3, c4⟩ := HK.out _ hg4; clear hg4))
  have hc0 := cellR (row_grown HA3.out HG4.out) (k := 0) (by rw [HX.out]; omega)
  have hf0 := frz (row_grown HA3.out HG4.out) 0
  go_upto_region 5 with fail
  have hA6 : (w4.setCell ⟨w.heap.size, 0, none⟩ (.int .u32 0)).heap[w.heap.size]? = some (.cells (row (x.set 0 0)) 23 (0, 0)) := set_cellR (row_grown HA3.out HG4.out) 0
  have hC6 : (w4.setCell ⟨w.heap.size, 0, none⟩ (.int .u32 0)).heap[w.heap.size + 1]? = _ := (heap_setCell_other _ _ _ _ (show w.heap.size + 1 ≠ w.heap.size by omega)).trans (row_grown HC3.out HG4.out)
  have hB6 : (w4.setCell ⟨w.heap.size, 0, none⟩ (.int .u32 0)).heap[w.heap.size + 1 + 1]? = _ := (heap_setCell_other _ _ _ _ (show w.heap.size + 1 + 1 ≠ w.heap.size by omega)).trans (row_grown HB3.out HG4.out)
  have hD6 : (w4.setCell ⟨w.heap.size, 0, none⟩ (.int .u32 0)).heap[w3.heap.size]? = _ := (heap_setCell_other _ _ _ _ (show w3.heap.size ≠ w.heap.size by have := HZ.out; omega)).trans (row_grown HD3.out HG4.out)
  have hg6 := grown_set (grown_trans HG3.out HG4.out) w.heap.size 0 (Nat.le_refl _) (.int .u32 0)
  clear hc0 hf0 c0 c1 c2 c3 c4
  generalize w4.setCell ⟨w.heap.size, 0, none⟩ (.int .u32 0) = w6 at hA6 hC6 hB6 hD6 hg6 ⊢
  have HA6 := Lib.hid hA6
  have HB6 := Lib.hid hB6
  have HD6 := Lib.hid hD6
  have HG6 := Lib.hid hg6
  have HK6 := Lib.hid (fun w' hg => (keepX hA6 hC6 w' hg).2)
  obtain ⟨c0, c1, c2, c3, c4⟩ := HK6.out _ (grown_refl _ _)
  clear hA6 hC6 hB6 hD6 hg6
  go_upto_region 10 with (first
    | ((with_reducible refine load_any (x.set 0 0) 3 w.heap.size ?_ ?_ HX0.out ?_); ((rfl)); (first | (exact HA6.out) | (exact row_grown HA6.out HG7.out) | (exact row_grown HA6.out HG8.out)))
    | (go_at_call 16; ((with_reducible refine (HGT.out _ _).mono ?_); rintro e w7 ⟨rfl, hg7⟩; have HG7 := Lib.hid hg7; obtain ⟨c0, c1, c2, c3, c4⟩ := HK6.out _ hg7; clear hg7))
    | (go_at_call 16; ((with_reducible refine (HGT.out _ _).mono ?_); rintro e w8 ⟨rfl, hg8⟩; have HG8 := Lib.hid (grown_trans HG7.out hg8); obtain ⟨c0, c1, c2, c3, c4⟩ := HK6.out _ HG8.out; clear hg8))
    | (go_at_call 16; ((with_reducible refine (HGT.out _ _).mono ?_); rintro e w9 ⟨rfl, hg9⟩; have HG9 := Lib.hid (grown_trans HG8.out hg9); obtain ⟨c0, c1, c2, c3, c4⟩ := HK6.out _ HG9.out; clear hg9)))
  go_wp2_with (first
    | ((with_reducible refine load_any zero 9 w3.heap.size ?_ ?_ zero_size ?_); ((rfl)); ((exact row_grown HD6.out HG9.out)))
    | ((with_reducible refine store_any zero zero 6 46 (w.heap.size + 1 + 1) ?_ ?_ zero_size ?_ zero_size ?_); ((rfl)); ((rfl)); ((exact row_grown HB6.out HG9.out))))
  refine retR3 rfl zero_size (by rfl) rfl rfl (setRow_heap _ _ _ _ _ _ (row_grown HB6.out HG9.out)) ?_
  exact ⟨rfl, grown_setRow (grown_trans HG6.out HG9.out) _ (by omega) _⟩
set_option maxHeartbeats 2000000 in
theorem rdo_17 (x : List Int) (hx : x.length = 16) (p : Int) (a b c n : Int) (w : World) (hm : may ⟨17, a, b, c, n⟩ = true) (hp0 : 0 ≤ p) (hp : p ≤ 1024) (n0 : -2097152 ≤ n) (n1 : n ≤ 2097151) : Calls Tryd.prog 11 #[.agg (row x), .int .i64 p, .agg #[.int .u8 17, .int .i64 a, .int .i64 b, .int .i64 c, .int .i64 n]] w fun e w' => e = .returned (.tuple #[.agg (row zero), .int .i64 0, .int .i64 4]) ∧ w.grownBy w' none := by
  have h8 : 17 < 256 := by omega
  obtain ⟨w3, hw3, hg3, hA3, hC3, hB3⟩ := box3 w x 17 a b c n
  have HW3 := Lib.hid hw3
  have hz3 := (Array.getElem?_eq_some_iff.1 hB3).1
  obtain ⟨w5, hw5⟩ : ∃ z, w3.alloc (.cells (row zero) 23) = z := ⟨_, rfl⟩
  have hgz : w3.grownBy w5 none := hw5 ▸ grown_alloc (grown_refl _ _) _
  have hD5 : w5.heap[w3.heap.size]? = some (.cells (row zero) 23 (0, 0)) := hw5 ▸ heap_alloc_new _ _
  have HW5 := Lib.hid hw5
  have HG3 := Lib.hid (grown_trans hg3 hgz)
  have HA3 := Lib.hid (row_grown hA3 hgz)
  have HC3 := Lib.hid (row_grown hC3 hgz)
  have HB3 := Lib.hid (row_grown hB3 hgz)
  have HD3 := Lib.hid hD5
  have HK := Lib.hid (keepX (row_grown hA3 hgz) (row_grown hC3 hgz))
  have HZ : Hid (w.heap.size + 1 + 1 < w3.heap.size) := Lib.hid hz3
  obtain ⟨_, c0, c1, c2, c3, c4⟩ := keepX (row_grown hA3 hgz) (row_grown hC3 hgz) _ (grown_refl _ _)
  have HM : Hid (∀ w', Calls Tryd.prog 20 #[.agg #[.int .u8 17, .int .i64 a, .int .i64 b, .int .i64 c, .int .i64 n]] w' fun e w2 => e = .returned (.bool (may ⟨17, a, b, c, n⟩)) ∧ w'.grownBy w2 none) := Lib.hid fun w' => cd.rmay_any ⟨17, a, b, c, n⟩ w' h8
  rw [hm] at HM
  have HX := Lib.hid hx
  have hx0 : (x.set 0 0).length = 16 := by simp [hx]
  have HX0 := Lib.hid hx0
  have HGT : Hid (∀ n w, _) := Lib.hid fun n w => rget_any (x.set 0 0) hx0 n w
  have HPT : Hid (∀ n v w, _) := Lib.hid fun n v w => rput_any (x.set 0 0) hx0 n v w
  have HWD : Hid (∀ w, _) := Lib.hid fun w => rword_any n w
  clear hw3 hg3 hA3 hC3 hB3 hz3 hw5 hgz hD5 hm h8 hx hx0
  go_enter Tryd.func11, Tryd.ntmps11
  go_upto_region 1 with fail
  rw [HW3.out]
  go_upto_region 2 with ((with_reducible refine store_new' zero 9 15 ?_ ?_ zero_size ?_); ((rfl)); ((rfl)))
  rw [HW5.out]
  go_upto_region 4 with (go_at_call 20; ((with_reducible refine (HM.out _).mono ?_); rintro e w4 ⟨rfl, hg4⟩; have HG4 := Lib.hid hg4; obtain ⟨_, c0, c1, c2, c3, c4⟩ := HK.out _ hg4; clear hg4))
  have hc0 := cellR (row_grown HA3.out HG4.out) (k := 0) (by rw [HX.out]; omega)
  have hf0 := frz (row_grown HA3.out HG4.out) 0
  go_upto_region 5 with fail
  have hA6 : (w4.setCell ⟨w.heap.size, 0, none⟩ (.int .u32 0)).heap[w.heap.size]? = some (.cells (row (x.set 0 0)) 23 (0, 0)) := set_cellR (row_grown HA3.out HG4.out) 0
  have hC6 : (w4.setCell ⟨w.heap.size, 0, none⟩ (.int .u32 0)).heap[w.heap.size + 1]? = _ := (heap_setCell_other _ _ _ _ (show w.heap.size + 1 ≠ w.heap.size by omega)).trans (row_grown HC3.out HG4.out)
  have hB6 : (w4.setCell ⟨w.heap.size, 0, none⟩ (.int .u32 0)).heap[w.heap.size + 1 + 1]? = _ := (heap_setCell_other _ _ _ _ (show w.heap.size + 1 + 1 ≠ w.heap.size by omega)).trans (row_grown HB3.out HG4.out)
  have hD6 : (w4.setCell ⟨w.heap.size, 0, none⟩ (.int .u32 0)).heap[w3.heap.size]? = _ := (heap_setCell_other _ _ _ _ (show w3.heap.size ≠ w.heap.size by have := HZ.out; omega)).trans (row_grown HD3.out HG4.out)
  have hg6 := grown_set (grown_trans HG3.out HG4.out) w.heap.size 0 (Nat.le_refl _) (.int .u32 0)
  clear hc0 hf0 c0 c1 c2 c3 c4
  generalize w4.setCell ⟨w.heap.size, 0, none⟩ (.int .u32 0) = w6 at hA6 hC6 hB6 hD6 hg6 ⊢
  have HA6 := Lib.hid hA6
  have HB6 := Lib.hid hB6
  have HD6 := Lib.hid hD6
  have HG6 := Lib.hid hg6
  have HK6 := Lib.hid (fun w' hg => (keepX hA6 hC6 w' hg).2)
  obtain ⟨c0, c1, c2, c3, c4⟩ := HK6.out _ (grown_refl _ _)
  clear hA6 hC6 hB6 hD6 hg6
  go_upto_region 10 with (first
    | ((with_reducible refine load_any (x.set 0 0) 3 w.heap.size ?_ ?_ HX0.out ?_); ((rfl)); (first | (exact HA6.out) | (exact row_grown HA6.out HG7.out) | (exact row_grown HA6.out HG8.out)))
    | (go_at_call 16; ((with_reducible refine (HGT.out _ _).mono ?_); rintro e w7 ⟨rfl, hg7⟩; have HG7 := Lib.hid hg7; obtain ⟨c0, c1, c2, c3, c4⟩ := HK6.out _ hg7; clear hg7))
    | (go_at_call 16; ((with_reducible refine (HGT.out _ _).mono ?_); rintro e w8 ⟨rfl, hg8⟩; have HG8 := Lib.hid (grown_trans HG7.out hg8); obtain ⟨c0, c1, c2, c3, c4⟩ := HK6.out _ HG8.out; clear hg8))
    | (go_at_call 16; ((with_reducible refine (HGT.out _ _).mono ?_); rintro e w9 ⟨rfl, hg9⟩; have HG9 := Lib.hid (grown_trans HG8.out hg9); obtain ⟨c0, c1, c2, c3, c4⟩ := HK6.out _ HG9.out; clear hg9)))
  go_wp2_with (first
    | ((with_reducible refine load_any zero 9 w3.heap.size ?_ ?_ zero_size ?_); ((rfl)); ((exact row_grown HD6.out HG9.out)))
    | ((with_reducible refine store_any zero zero 6 46 (w.heap.size + 1 + 1) ?_ ?_ zero_size ?_ zero_size ?_); ((rfl)); ((rfl)); ((exact row_grown HB6.out HG9.out))))
  refine retR3 rfl zero_size (by rfl) rfl rfl (setRow_heap _ _ _ _ _ _ (row_grown HB6.out HG9.out)) ?_
  exact ⟨rfl, grown_setRow (grown_trans HG6.out HG9.out) _ (by omega) _⟩
set_option maxHeartbeats 2000000 in
theorem rdo_18 (x : List Int) (hx : x.length = 16) (p : Int) (a b c n : Int) (w : World) (hm : may ⟨18, a, b, c, n⟩ = true) (hp0 : 0 ≤ p) (hp : p ≤ 1024) (n0 : -2097152 ≤ n) (n1 : n ≤ 2097151) : Calls Tryd.prog 11 #[.agg (row x), .int .i64 p, .agg #[.int .u8 18, .int .i64 a, .int .i64 b, .int .i64 c, .int .i64 n]] w fun e w' => e = .returned (.tuple #[.agg (row zero), .int .i64 0, .int .i64 4]) ∧ w.grownBy w' none := by
  have h8 : 18 < 256 := by omega
  obtain ⟨w3, hw3, hg3, hA3, hC3, hB3⟩ := box3 w x 18 a b c n
  have HW3 := Lib.hid hw3
  have hz3 := (Array.getElem?_eq_some_iff.1 hB3).1
  obtain ⟨w5, hw5⟩ : ∃ z, w3.alloc (.cells (row zero) 23) = z := ⟨_, rfl⟩
  have hgz : w3.grownBy w5 none := hw5 ▸ grown_alloc (grown_refl _ _) _
  have hD5 : w5.heap[w3.heap.size]? = some (.cells (row zero) 23 (0, 0)) := hw5 ▸ heap_alloc_new _ _
  have HW5 := Lib.hid hw5
  have HG3 := Lib.hid (grown_trans hg3 hgz)
  have HA3 := Lib.hid (row_grown hA3 hgz)
  have HC3 := Lib.hid (row_grown hC3 hgz)
  have HB3 := Lib.hid (row_grown hB3 hgz)
  have HD3 := Lib.hid hD5
  have HK := Lib.hid (keepX (row_grown hA3 hgz) (row_grown hC3 hgz))
  have HZ : Hid (w.heap.size + 1 + 1 < w3.heap.size) := Lib.hid hz3
  obtain ⟨_, c0, c1, c2, c3, c4⟩ := keepX (row_grown hA3 hgz) (row_grown hC3 hgz) _ (grown_refl _ _)
  have HM : Hid (∀ w', Calls Tryd.prog 20 #[.agg #[.int .u8 18, .int .i64 a, .int .i64 b, .int .i64 c, .int .i64 n]] w' fun e w2 => e = .returned (.bool (may ⟨18, a, b, c, n⟩)) ∧ w'.grownBy w2 none) := Lib.hid fun w' => cd.rmay_any ⟨18, a, b, c, n⟩ w' h8
  rw [hm] at HM
  have HX := Lib.hid hx
  have hx0 : (x.set 0 0).length = 16 := by simp [hx]
  have HX0 := Lib.hid hx0
  have HGT : Hid (∀ n w, _) := Lib.hid fun n w => rget_any (x.set 0 0) hx0 n w
  have HPT : Hid (∀ n v w, _) := Lib.hid fun n v w => rput_any (x.set 0 0) hx0 n v w
  have HWD : Hid (∀ w, _) := Lib.hid fun w => rword_any n w
  clear hw3 hg3 hA3 hC3 hB3 hz3 hw5 hgz hD5 hm h8 hx hx0
  go_enter Tryd.func11, Tryd.ntmps11
  go_upto_region 1 with fail
  rw [HW3.out]
  go_upto_region 2 with ((with_reducible refine store_new' zero 9 15 ?_ ?_ zero_size ?_); ((rfl)); ((rfl)))
  rw [HW5.out]
  go_upto_region 4 with (go_at_call 20; ((with_reducible refine (HM.out _).mono ?_); rintro e w4 ⟨rfl, hg4⟩; have HG4 := Lib.hid hg4; obtain ⟨_, c0, c1, c2, c3, c4⟩ := HK.out _ hg4; clear hg4))
  have hc0 := cellR (row_grown HA3.out HG4.out) (k := 0) (by rw [HX.out]; omega)
  have hf0 := frz (row_grown HA3.out HG4.out) 0
  go_upto_region 5 with fail
  have hA6 : (w4.setCell ⟨w.heap.size, 0, none⟩ (.int .u32 0)).heap[w.heap.size]? = some (.cells (row (x.set 0 0)) 23 (0, 0)) := set_cellR (row_grown HA3.out HG4.out) 0
  have hC6 : (w4.setCell ⟨w.heap.size, 0, none⟩ (.int .u32 0)).heap[w.heap.size + 1]? = _ := (heap_setCell_other _ _ _ _ (show w.heap.size + 1 ≠ w.heap.size by omega)).trans (row_grown HC3.out HG4.out)
  have hB6 : (w4.setCell ⟨w.heap.size, 0, none⟩ (.int .u32 0)).heap[w.heap.size + 1 + 1]? = _ := (heap_setCell_other _ _ _ _ (show w.heap.size + 1 + 1 ≠ w.heap.size by omega)).trans (row_grown HB3.out HG4.out)
  have hD6 : (w4.setCell ⟨w.heap.size, 0, none⟩ (.int .u32 0)).heap[w3.heap.size]? = _ := (heap_setCell_other _ _ _ _ (show w3.heap.size ≠ w.heap.size by have := HZ.out; omega)).trans (row_grown HD3.out HG4.out)
  have hg6 := grown_set (grown_trans HG3.out HG4.out) w.heap.size 0 (Nat.le_refl _) (.int .u32 0)
  clear hc0 hf0 c0 c1 c2 c3 c4
  generalize w4.setCell ⟨w.heap.size, 0, none⟩ (.int .u32 0) = w6 at hA6 hC6 hB6 hD6 hg6 ⊢
  have HA6 := Lib.hid hA6
  have HB6 := Lib.hid hB6
  have HD6 := Lib.hid hD6
  have HG6 := Lib.hid hg6
  have HK6 := Lib.hid (fun w' hg => (keepX hA6 hC6 w' hg).2)
  obtain ⟨c0, c1, c2, c3, c4⟩ := HK6.out _ (grown_refl _ _)
  clear hA6 hC6 hB6 hD6 hg6
  go_upto_region 10 with (first
    | ((with_reducible refine load_any (x.set 0 0) 3 w.heap.size ?_ ?_ HX0.out ?_); ((rfl)); (first | (exact HA6.out) | (exact row_grown HA6.out HG7.out) | (exact row_grown HA6.out HG8.out)))
    | (go_at_call 16; ((with_reducible refine (HGT.out _ _).mono ?_); rintro e w7 ⟨rfl, hg7⟩; have HG7 := Lib.hid hg7; obtain ⟨c0, c1, c2, c3, c4⟩ := HK6.out _ hg7; clear hg7))
    | (go_at_call 16; ((with_reducible refine (HGT.out _ _).mono ?_); rintro e w8 ⟨rfl, hg8⟩; have HG8 := Lib.hid (grown_trans HG7.out hg8); obtain ⟨c0, c1, c2, c3, c4⟩ := HK6.out _ HG8.out; clear hg8))
    | (go_at_call 16; ((with_reducible refine (HGT.out _ _).mono ?_); rintro e w9 ⟨rfl, hg9⟩; have HG9 := Lib.hid (grown_trans HG8.out hg9); obtain ⟨c0, c1, c2, c3, c4⟩ := HK6.out _ HG9.out; clear hg9)))
  go_wp2_with (first
    | ((with_reducible refine load_any zero 9 w3.heap.size ?_ ?_ zero_size ?_); ((rfl)); ((exact row_grown HD6.out HG9.out)))
    | ((with_reducible refine store_any zero zero 6 46 (w.heap.size + 1 + 1) ?_ ?_ zero_size ?_ zero_size ?_); ((rfl)); ((rfl)); ((exact row_grown HB6.out HG9.out))))
  refine retR3 rfl zero_size (by rfl) rfl rfl (setRow_heap _ _ _ _ _ _ (row_grown HB6.out HG9.out)) ?_
  exact ⟨rfl, grown_setRow (grown_trans HG6.out HG9.out) _ (by omega) _⟩
set_option maxHeartbeats 2000000 in
theorem rdo_19 (x : List Int) (hx : x.length = 16) (p : Int) (a b c n : Int) (w : World) (hm : may ⟨19, a, b, c, n⟩ = true) (hp0 : 0 ≤ p) (hp : p ≤ 1024) (n0 : -2097152 ≤ n) (n1 : n ≤ 2097151) : Calls Tryd.prog 11 #[.agg (row x), .int .i64 p, .agg #[.int .u8 19, .int .i64 a, .int .i64 b, .int .i64 c, .int .i64 n]] w fun e w' => e = .returned (.tuple #[.agg (row zero), .int .i64 0, .int .i64 4]) ∧ w.grownBy w' none := by
  have h8 : 19 < 256 := by omega
  obtain ⟨w3, hw3, hg3, hA3, hC3, hB3⟩ := box3 w x 19 a b c n
  have HW3 := Lib.hid hw3
  have hz3 := (Array.getElem?_eq_some_iff.1 hB3).1
  obtain ⟨w5, hw5⟩ : ∃ z, w3.alloc (.cells (row zero) 23) = z := ⟨_, rfl⟩
  have hgz : w3.grownBy w5 none := hw5 ▸ grown_alloc (grown_refl _ _) _
  have hD5 : w5.heap[w3.heap.size]? = some (.cells (row zero) 23 (0, 0)) := hw5 ▸ heap_alloc_new _ _
  have HW5 := Lib.hid hw5
  have HG3 := Lib.hid (grown_trans hg3 hgz)
  have HA3 := Lib.hid (row_grown hA3 hgz)
  have HC3 := Lib.hid (row_grown hC3 hgz)
  have HB3 := Lib.hid (row_grown hB3 hgz)
  have HD3 := Lib.hid hD5
  have HK := Lib.hid (keepX (row_grown hA3 hgz) (row_grown hC3 hgz))
  have HZ : Hid (w.heap.size + 1 + 1 < w3.heap.size) := Lib.hid hz3
  obtain ⟨_, c0, c1, c2, c3, c4⟩ := keepX (row_grown hA3 hgz) (row_grown hC3 hgz) _ (grown_refl _ _)
  have HM : Hid (∀ w', Calls Tryd.prog 20 #[.agg #[.int .u8 19, .int .i64 a, .int .i64 b, .int .i64 c, .int .i64 n]] w' fun e w2 => e = .returned (.bool (may ⟨19, a, b, c, n⟩)) ∧ w'.grownBy w2 none) := Lib.hid fun w' => cd.rmay_any ⟨19, a, b, c, n⟩ w' h8
  rw [hm] at HM
  have HX := Lib.hid hx
  have hx0 : (x.set 0 0).length = 16 := by simp [hx]
  have HX0 := Lib.hid hx0
  have HGT : Hid (∀ n w, _) := Lib.hid fun n w => rget_any (x.set 0 0) hx0 n w
  have HPT : Hid (∀ n v w, _) := Lib.hid fun n v w => rput_any (x.set 0 0) hx0 n v w
  have HWD : Hid (∀ w, _) := Lib.hid fun w => rword_any n w
  clear hw3 hg3 hA3 hC3 hB3 hz3 hw5 hgz hD5 hm h8 hx hx0
  go_enter Tryd.func11, Tryd.ntmps11
  go_upto_region 1 with fail
  rw [HW3.out]
  go_upto_region 2 with ((with_reducible refine store_new' zero 9 15 ?_ ?_ zero_size ?_); ((rfl)); ((rfl)))
  rw [HW5.out]
  go_upto_region 4 with (go_at_call 20; ((with_reducible refine (HM.out _).mono ?_); rintro e w4 ⟨rfl, hg4⟩; have HG4 := Lib.hid hg4; obtain ⟨_, c0, c1, c2, c3, c4⟩ := HK.out _ hg4; clear hg4))
  have hc0 := cellR (row_grown HA3.out HG4.out) (k := 0) (by rw [HX.out]; omega)
  have hf0 := frz (row_grown HA3.out HG4.out) 0
  go_upto_region 5 with fail
  have hA6 : (w4.setCell ⟨w.heap.size, 0, none⟩ (.int .u32 0)).heap[w.heap.size]? = some (.cells (row (x.set 0 0)) 23 (0, 0)) := set_cellR (row_grown HA3.out HG4.out) 0
  have hC6 : (w4.setCell ⟨w.heap.size, 0, none⟩ (.int .u32 0)).heap[w.heap.size + 1]? = _ := (heap_setCell_other _ _ _ _ (show w.heap.size + 1 ≠ w.heap.size by omega)).trans (row_grown HC3.out HG4.out)
  have hB6 : (w4.setCell ⟨w.heap.size, 0, none⟩ (.int .u32 0)).heap[w.heap.size + 1 + 1]? = _ := (heap_setCell_other _ _ _ _ (show w.heap.size + 1 + 1 ≠ w.heap.size by omega)).trans (row_grown HB3.out HG4.out)
  have hD6 : (w4.setCell ⟨w.heap.size, 0, none⟩ (.int .u32 0)).heap[w3.heap.size]? = _ := (heap_setCell_other _ _ _ _ (show w3.heap.size ≠ w.heap.size by have := HZ.out; omega)).trans (row_grown HD3.out HG4.out)
  have hg6 := grown_set (grown_trans HG3.out HG4.out) w.heap.size 0 (Nat.le_refl _) (.int .u32 0)
  clear hc0 hf0 c0 c1 c2 c3 c4
  generalize w4.setCell ⟨w.heap.size, 0, none⟩ (.int .u32 0) = w6 at hA6 hC6 hB6 hD6 hg6 ⊢
  have HA6 := Lib.hid hA6
  have HB6 := Lib.hid hB6
  have HD6 := Lib.hid hD6
  have HG6 := Lib.hid hg6
  have HK6 := Lib.hid (fun w' hg => (keepX hA6 hC6 w' hg).2)
  obtain ⟨c0, c1, c2, c3, c4⟩ := HK6.out _ (grown_refl _ _)
  clear hA6 hC6 hB6 hD6 hg6
  go_upto_region 10 with (first
    | ((with_reducible refine load_any (x.set 0 0) 3 w.heap.size ?_ ?_ HX0.out ?_); ((rfl)); (first | (exact HA6.out) | (exact row_grown HA6.out HG7.out) | (exact row_grown HA6.out HG8.out)))
    | (go_at_call 16; ((with_reducible refine (HGT.out _ _).mono ?_); rintro e w7 ⟨rfl, hg7⟩; have HG7 := Lib.hid hg7; obtain ⟨c0, c1, c2, c3, c4⟩ := HK6.out _ hg7; clear hg7))
    | (go_at_call 16; ((with_reducible refine (HGT.out _ _).mono ?_); rintro e w8 ⟨rfl, hg8⟩; have HG8 := Lib.hid (grown_trans HG7.out hg8); obtain ⟨c0, c1, c2, c3, c4⟩ := HK6.out _ HG8.out; clear hg8))
    | (go_at_call 16; ((with_reducible refine (HGT.out _ _).mono ?_); rintro e w9 ⟨rfl, hg9⟩; have HG9 := Lib.hid (grown_trans HG8.out hg9); obtain ⟨c0, c1, c2, c3, c4⟩ := HK6.out _ HG9.out; clear hg9)))
  go_wp2_with (first
    | ((with_reducible refine load_any zero 9 w3.heap.size ?_ ?_ zero_size ?_); ((rfl)); ((exact row_grown HD6.out HG9.out)))
    | ((with_reducible refine store_any zero zero 6 46 (w.heap.size + 1 + 1) ?_ ?_ zero_size ?_ zero_size ?_); ((rfl)); ((rfl)); ((exact row_grown HB6.out HG9.out))))
  refine retR3 rfl zero_size (by rfl) rfl rfl (setRow_heap _ _ _ _ _ _ (row_grown HB6.out HG9.out)) ?_
  exact ⟨rfl, grown_setRow (grown_trans HG6.out HG9.out) _ (by omega) _⟩
set_option maxHeartbeats 2000000 in
theorem rdo_20 (x : List Int) (hx : x.length = 16) (p : Int) (a b c n : Int) (w : World) (hm : may ⟨20, a, b, c, n⟩ = true) (hp0 : 0 ≤ p) (hp : p ≤ 1024) (n0 : -2097152 ≤ n) (n1 : n ≤ 2097151) : Calls Tryd.prog 11 #[.agg (row x), .int .i64 p, .agg #[.int .u8 20, .int .i64 a, .int .i64 b, .int .i64 c, .int .i64 n]] w fun e w' => e = .returned (.tuple #[.agg (row zero), .int .i64 0, .int .i64 4]) ∧ w.grownBy w' none := by
  have h8 : 20 < 256 := by omega
  obtain ⟨w3, hw3, hg3, hA3, hC3, hB3⟩ := box3 w x 20 a b c n
  have HW3 := Lib.hid hw3
  have hz3 := (Array.getElem?_eq_some_iff.1 hB3).1
  obtain ⟨w5, hw5⟩ : ∃ z, w3.alloc (.cells (row zero) 23) = z := ⟨_, rfl⟩
  have hgz : w3.grownBy w5 none := hw5 ▸ grown_alloc (grown_refl _ _) _
  have hD5 : w5.heap[w3.heap.size]? = some (.cells (row zero) 23 (0, 0)) := hw5 ▸ heap_alloc_new _ _
  have HW5 := Lib.hid hw5
  have HG3 := Lib.hid (grown_trans hg3 hgz)
  have HA3 := Lib.hid (row_grown hA3 hgz)
  have HC3 := Lib.hid (row_grown hC3 hgz)
  have HB3 := Lib.hid (row_grown hB3 hgz)
  have HD3 := Lib.hid hD5
  have HK := Lib.hid (keepX (row_grown hA3 hgz) (row_grown hC3 hgz))
  have HZ : Hid (w.heap.size + 1 + 1 < w3.heap.size) := Lib.hid hz3
  obtain ⟨_, c0, c1, c2, c3, c4⟩ := keepX (row_grown hA3 hgz) (row_grown hC3 hgz) _ (grown_refl _ _)
  have HM : Hid (∀ w', Calls Tryd.prog 20 #[.agg #[.int .u8 20, .int .i64 a, .int .i64 b, .int .i64 c, .int .i64 n]] w' fun e w2 => e = .returned (.bool (may ⟨20, a, b, c, n⟩)) ∧ w'.grownBy w2 none) := Lib.hid fun w' => cd.rmay_any ⟨20, a, b, c, n⟩ w' h8
  rw [hm] at HM
  have HX := Lib.hid hx
  have hx0 : (x.set 0 0).length = 16 := by simp [hx]
  have HX0 := Lib.hid hx0
  have HGT : Hid (∀ n w, _) := Lib.hid fun n w => rget_any (x.set 0 0) hx0 n w
  have HPT : Hid (∀ n v w, _) := Lib.hid fun n v w => rput_any (x.set 0 0) hx0 n v w
  have HWD : Hid (∀ w, _) := Lib.hid fun w => rword_any n w
  clear hw3 hg3 hA3 hC3 hB3 hz3 hw5 hgz hD5 hm h8 hx hx0
  go_enter Tryd.func11, Tryd.ntmps11
  go_upto_region 1 with fail
  rw [HW3.out]
  go_upto_region 2 with ((with_reducible refine store_new' zero 9 15 ?_ ?_ zero_size ?_); ((rfl)); ((rfl)))
  rw [HW5.out]
  go_upto_region 4 with (go_at_call 20; ((with_reducible refine (HM.out _).mono ?_); rintro e w4 ⟨rfl, hg4⟩; have HG4 := Lib.hid hg4; obtain ⟨_, c0, c1, c2, c3, c4⟩ := HK.out _ hg4; clear hg4))
  have hc0 := cellR (row_grown HA3.out HG4.out) (k := 0) (by rw [HX.out]; omega)
  have hf0 := frz (row_grown HA3.out HG4.out) 0
  go_upto_region 5 with fail
  have hA6 : (w4.setCell ⟨w.heap.size, 0, none⟩ (.int .u32 0)).heap[w.heap.size]? = some (.cells (row (x.set 0 0)) 23 (0, 0)) := set_cellR (row_grown HA3.out HG4.out) 0
  have hC6 : (w4.setCell ⟨w.heap.size, 0, none⟩ (.int .u32 0)).heap[w.heap.size + 1]? = _ := (heap_setCell_other _ _ _ _ (show w.heap.size + 1 ≠ w.heap.size by omega)).trans (row_grown HC3.out HG4.out)
  have hB6 : (w4.setCell ⟨w.heap.size, 0, none⟩ (.int .u32 0)).heap[w.heap.size + 1 + 1]? = _ := (heap_setCell_other _ _ _ _ (show w.heap.size + 1 + 1 ≠ w.heap.size by omega)).trans (row_grown HB3.out HG4.out)
  have hD6 : (w4.setCell ⟨w.heap.size, 0, none⟩ (.int .u32 0)).heap[w3.heap.size]? = _ := (heap_setCell_other _ _ _ _ (show w3.heap.size ≠ w.heap.size by have := HZ.out; omega)).trans (row_grown HD3.out HG4.out)
  have hg6 := grown_set (grown_trans HG3.out HG4.out) w.heap.size 0 (Nat.le_refl _) (.int .u32 0)
  clear hc0 hf0 c0 c1 c2 c3 c4
  generalize w4.setCell ⟨w.heap.size, 0, none⟩ (.int .u32 0) = w6 at hA6 hC6 hB6 hD6 hg6 ⊢
  have HA6 := Lib.hid hA6
  have HB6 := Lib.hid hB6
  have HD6 := Lib.hid hD6
  have HG6 := Lib.hid hg6
  have HK6 := Lib.hid (fun w' hg => (keepX hA6 hC6 w' hg).2)
  obtain ⟨c0, c1, c2, c3, c4⟩ := HK6.out _ (grown_refl _ _)
  clear hA6 hC6 hB6 hD6 hg6
  go_upto_region 10 with (first
    | ((with_reducible refine load_any (x.set 0 0) 3 w.heap.size ?_ ?_ HX0.out ?_); ((rfl)); (first | (exact HA6.out) | (exact row_grown HA6.out HG7.out) | (exact row_grown HA6.out HG8.out)))
    | (go_at_call 16; ((with_reducible refine (HGT.out _ _).mono ?_); rintro e w7 ⟨rfl, hg7⟩; have HG7 := Lib.hid hg7; obtain ⟨c0, c1, c2, c3, c4⟩ := HK6.out _ hg7; clear hg7))
    | (go_at_call 16; ((with_reducible refine (HGT.out _ _).mono ?_); rintro e w8 ⟨rfl, hg8⟩; have HG8 := Lib.hid (grown_trans HG7.out hg8); obtain ⟨c0, c1, c2, c3, c4⟩ := HK6.out _ HG8.out; clear hg8))
    | (go_at_call 16; ((with_reducible refine (HGT.out _ _).mono ?_); rintro e w9 ⟨rfl, hg9⟩; have HG9 := Lib.hid (grown_trans HG8.out hg9); obtain ⟨c0, c1, c2, c3, c4⟩ := HK6.out _ HG9.out; clear hg9)))
  go_wp2_with (first
    | ((with_reducible refine load_any zero 9 w3.heap.size ?_ ?_ zero_size ?_); ((rfl)); ((exact row_grown HD6.out HG9.out)))
    | ((with_reducible refine store_any zero zero 6 46 (w.heap.size + 1 + 1) ?_ ?_ zero_size ?_ zero_size ?_); ((rfl)); ((rfl)); ((exact row_grown HB6.out HG9.out))))
  refine retR3 rfl zero_size (by rfl) rfl rfl (setRow_heap _ _ _ _ _ _ (row_grown HB6.out HG9.out)) ?_
  exact ⟨rfl, grown_setRow (grown_trans HG6.out HG9.out) _ (by omega) _⟩
end Go.Proofs.YtmfckkioccmblaaDoor.sg
