/-
  What the document's own Do answers where it refuses: contracts. No condition but the bounds that each theorem names.
-/
import Derived.Test.YtmfckkioccmblaaDoorStH
namespace Go.Proofs.YtmfckkioccmblaaDoor.sg
open Go Go.ChangeShapes Go.WideShapes Go.ChangeAt Go.RowKit Go.Proofs.YtmfckkioccmblaaDoor.cd
set_option linter.unusedVariables false
set_option maxRecDepth 1000000

set_option maxHeartbeats 2000000 in
theorem rdo_may (x : List Int) (hx : x.length = 16) (p : Int) (op : Nat) (a b c n : Int) (w : World) (h8 : op < 256) (hm : may ⟨op, a, b, c, n⟩ = false) : Calls Tryd.prog 11 #[.agg (row x), .int .i64 p, .agg #[.int .u8 (op : Int), .int .i64 a, .int .i64 b, .int .i64 c, .int .i64 n]] w fun e w' => e = .returned (.tuple #[.agg (row zero), .int .i64 0, .int .i64 2]) ∧ w.grownBy w' none := by
  obtain ⟨w3, hw3, hg3, hA3, hC3, hB3⟩ := box3 w x (op : Int) a b c n
  have HW3 := Lib.hid hw3
  have hz3 := (Array.getElem?_eq_some_iff.1 hB3).1
  obtain ⟨w5, hw5⟩ : ∃ z, w3.alloc (.cells (row zero) 23) = z := ⟨_, rfl⟩
  have hgz : w3.grownBy w5 none := hw5 ▸ grown_alloc (grown_refl _ _) _
  have hD5 : w5.heap[w3.heap.size]? = some (.cells (row zero) 23 (0, 0)) := hw5 ▸ heap_alloc_new _ _
  have HW5 := Lib.hid hw5
  have HG3 := Lib.hid (grown_trans hg3 hgz)
  have HA3 := Lib.hid (row_grown hA3 hgz)
  have HC3 := Lib.hid (row_grown hC3 hgz)
  have HB3 := Lib.hid (row_grown hB3 hgz)
  have HD3 := Lib.hid hD5
  have HK := Lib.hid (keepX (row_grown hA3 hgz) (row_grown hC3 hgz))
  have HZ : Hid (w.heap.size + 1 + 1 < w3.heap.size) := Lib.hid hz3
  obtain ⟨_, c0, c1, c2, c3, c4⟩ := keepX (row_grown hA3 hgz) (row_grown hC3 hgz) _ (grown_refl _ _)
  have HM : Hid (∀ w', Calls Tryd.prog 20 #[.agg #[.int .u8 (op : Int), .int .i64 a, .int .i64 b, .int .i64 c, .int .i64 n]] w' fun e w2 => e = .returned (.bool (may ⟨op, a, b, c, n⟩)) ∧ w'.grownBy w2 none) := Lib.hid fun w' => cd.rmay_any ⟨op, a, b, c, n⟩ w' h8
  rw [hm] at HM
  clear hw3 hg3 hA3 hC3 hB3 hz3 hw5 hgz hD5 hm h8 hx
  go_enter Tryd.func11, Tryd.ntmps11
  go_upto_region 1 with fail
  rw [HW3.out]
  go_upto_region 2 with ((with_reducible refine store_new' zero 9 15 ?_ ?_ zero_size ?_); ((rfl)); ((rfl)))
  rw [HW5.out]
  go_wp2_with (first
    | (go_at_call 20; ((with_reducible refine (HM.out _).mono ?_); rintro e w4 ⟨rfl, hg4⟩; have HG4 := Lib.hid hg4; obtain ⟨_, c0, c1, c2, c3, c4⟩ := HK.out _ hg4; clear hg4))
    | ((with_reducible refine load_any zero 9 w3.heap.size ?_ ?_ zero_size ?_); ((rfl)); ((exact row_grown HD3.out HG4.out)))
    | ((with_reducible refine store_any zero zero 6 27 (w.heap.size + 1 + 1) ?_ ?_ zero_size ?_ zero_size ?_); ((rfl)); ((rfl)); ((exact row_grown HB3.out HG4.out))))
  refine retR3 rfl zero_size (by rfl) rfl rfl (setRow_heap _ _ _ _ _ _ (row_grown HB3.out HG4.out)) ?_
  exact ⟨rfl, grown_setRow (grown_trans HG3.out HG4.out) _ (by omega) _⟩
set_option maxHeartbeats 2000000 in
theorem rdo_low (x : List Int) (hx : x.length = 16) (p : Int) (op : Nat) (a b c n : Int) (w : World) (h8 : op < 256) (hm : may ⟨op, a, b, c, n⟩ = true) (hp : p < 0) : Calls Tryd.prog 11 #[.agg (row x), .int .i64 p, .agg #[.int .u8 (op : Int), .int .i64 a, .int .i64 b, .int .i64 c, .int .i64 n]] w fun e w' => e = .returned (.tuple #[.agg (row zero), .int .i64 0, .int .i64 2]) ∧ w.grownBy w' none := by
  obtain ⟨w3, hw3, hg3, hA3, hC3, hB3⟩ := box3 w x (op : Int) a b c n
  have HW3 := Lib.hid hw3
  have hz3 := (Array.getElem?_eq_some_iff.1 hB3).1
  obtain ⟨w5, hw5⟩ : ∃ z, w3.alloc (.cells (row zero) 23) = z := ⟨_, rfl⟩
  have hgz : w3.grownBy w5 none := hw5 ▸ grown_alloc (grown_refl _ _) _
  have hD5 : w5.heap[w3.heap.size]? = some (.cells (row zero) 23 (0, 0)) := hw5 ▸ heap_alloc_new _ _
  have HW5 := Lib.hid hw5
  have HG3 := Lib.hid (grown_trans hg3 hgz)
  have HA3 := Lib.hid (row_grown hA3 hgz)
  have HC3 := Lib.hid (row_grown hC3 hgz)
  have HB3 := Lib.hid (row_grown hB3 hgz)
  have HD3 := Lib.hid hD5
  have HK := Lib.hid (keepX (row_grown hA3 hgz) (row_grown hC3 hgz))
  have HZ : Hid (w.heap.size + 1 + 1 < w3.heap.size) := Lib.hid hz3
  obtain ⟨_, c0, c1, c2, c3, c4⟩ := keepX (row_grown hA3 hgz) (row_grown hC3 hgz) _ (grown_refl _ _)
  have HM : Hid (∀ w', Calls Tryd.prog 20 #[.agg #[.int .u8 (op : Int), .int .i64 a, .int .i64 b, .int .i64 c, .int .i64 n]] w' fun e w2 => e = .returned (.bool (may ⟨op, a, b, c, n⟩)) ∧ w'.grownBy w2 none) := Lib.hid fun w' => cd.rmay_any ⟨op, a, b, c, n⟩ w' h8
  rw [hm] at HM
  clear hw3 hg3 hA3 hC3 hB3 hz3 hw5 hgz hD5 hm h8 hx
  go_enter Tryd.func11, Tryd.ntmps11
  go_upto_region 1 with fail
  rw [HW3.out]
  go_upto_region 2 with ((with_reducible refine store_new' zero 9 15 ?_ ?_ zero_size ?_); ((rfl)); ((rfl)))
  rw [HW5.out]
  go_wp2_with (first
    | (go_at_call 20; ((with_reducible refine (HM.out _).mono ?_); rintro e w4 ⟨rfl, hg4⟩; have HG4 := Lib.hid hg4; obtain ⟨_, c0, c1, c2, c3, c4⟩ := HK.out _ hg4; clear hg4))
    | ((with_reducible refine load_any zero 9 w3.heap.size ?_ ?_ zero_size ?_); ((rfl)); ((exact row_grown HD3.out HG4.out)))
    | ((with_reducible refine store_any zero zero 6 27 (w.heap.size + 1 + 1) ?_ ?_ zero_size ?_ zero_size ?_); ((rfl)); ((rfl)); ((exact row_grown HB3.out HG4.out))))
  refine retR3 rfl zero_size (by rfl) rfl rfl (setRow_heap _ _ _ _ _ _ (row_grown HB3.out HG4.out)) ?_
  exact ⟨rfl, grown_setRow (grown_trans HG3.out HG4.out) _ (by omega) _⟩
set_option maxHeartbeats 2000000 in
theorem rdo_high (x : List Int) (hx : x.length = 16) (p : Int) (op : Nat) (a b c n : Int) (w : World) (h8 : op < 256) (hm : may ⟨op, a, b, c, n⟩ = true) (hp0 : 0 ≤ p) (hp : 1024 < p) : Calls Tryd.prog 11 #[.agg (row x), .int .i64 p, .agg #[.int .u8 (op : Int), .int .i64 a, .int .i64 b, .int .i64 c, .int .i64 n]] w fun e w' => e = .returned (.tuple #[.agg (row zero), .int .i64 0, .int .i64 2]) ∧ w.grownBy w' none := by
  obtain ⟨w3, hw3, hg3, hA3, hC3, hB3⟩ := box3 w x (op : Int) a b c n
  have HW3 := Lib.hid hw3
  have hz3 := (Array.getElem?_eq_some_iff.1 hB3).1
  obtain ⟨w5, hw5⟩ : ∃ z, w3.alloc (.cells (row zero) 23) = z := ⟨_, rfl⟩
  have hgz : w3.grownBy w5 none := hw5 ▸ grown_alloc (grown_refl _ _) _
  have hD5 : w5.heap[w3.heap.size]? = some (.cells (row zero) 23 (0, 0)) := hw5 ▸ heap_alloc_new _ _
  have HW5 := Lib.hid hw5
  have HG3 := Lib.hid (grown_trans hg3 hgz)
  have HA3 := Lib.hid (row_grown hA3 hgz)
  have HC3 := Lib.hid (row_grown hC3 hgz)
  have HB3 := Lib.hid (row_grown hB3 hgz)
  have HD3 := Lib.hid hD5
  have HK := Lib.hid (keepX (row_grown hA3 hgz) (row_grown hC3 hgz))
  have HZ : Hid (w.heap.size + 1 + 1 < w3.heap.size) := Lib.hid hz3
  obtain ⟨_, c0, c1, c2, c3, c4⟩ := keepX (row_grown hA3 hgz) (row_grown hC3 hgz) _ (grown_refl _ _)
  have HM : Hid (∀ w', Calls Tryd.prog 20 #[.agg #[.int .u8 (op : Int), .int .i64 a, .int .i64 b, .int .i64 c, .int .i64 n]] w' fun e w2 => e = .returned (.bool (may ⟨op, a, b, c, n⟩)) ∧ w'.grownBy w2 none) := Lib.hid fun w' => cd.rmay_any ⟨op, a, b, c, n⟩ w' h8
  rw [hm] at HM
  clear hw3 hg3 hA3 hC3 hB3 hz3 hw5 hgz hD5 hm h8 hx
  go_enter Tryd.func11, Tryd.ntmps11
  go_upto_region 1 with fail
  rw [HW3.out]
  go_upto_region 2 with ((with_reducible refine store_new' zero 9 15 ?_ ?_ zero_size ?_); ((rfl)); ((rfl)))
  rw [HW5.out]
  go_wp2_with (first
    | (go_at_call 20; ((with_reducible refine (HM.out _).mono ?_); rintro e w4 ⟨rfl, hg4⟩; have HG4 := Lib.hid hg4; obtain ⟨_, c0, c1, c2, c3, c4⟩ := HK.out _ hg4; clear hg4))
    | ((with_reducible refine load_any zero 9 w3.heap.size ?_ ?_ zero_size ?_); ((rfl)); ((exact row_grown HD3.out HG4.out)))
    | ((with_reducible refine store_any zero zero 6 27 (w.heap.size + 1 + 1) ?_ ?_ zero_size ?_ zero_size ?_); ((rfl)); ((rfl)); ((exact row_grown HB3.out HG4.out))))
  refine retR3 rfl zero_size (by rfl) rfl rfl (setRow_heap _ _ _ _ _ _ (row_grown HB3.out HG4.out)) ?_
  exact ⟨rfl, grown_setRow (grown_trans HG3.out HG4.out) _ (by omega) _⟩
end Go.Proofs.YtmfckkioccmblaaDoor.sg
