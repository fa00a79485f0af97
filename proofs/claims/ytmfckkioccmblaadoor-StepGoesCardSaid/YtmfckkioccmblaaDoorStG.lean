/-
  What an instruction does: a contract. The tables are as the program's text lays them (Tab).
-/
import Derived.Test.YtmfckkioccmblaaDoorStF
namespace Go.Proofs.YtmfckkioccmblaaDoor.sg
open Go Go.ChangeShapes Go.WideShapes Go.ChangeAt Go.RowKit Go.Proofs.YtmfckkioccmblaaDoor.cd
set_option linter.unusedVariables false
set_option maxRecDepth 1000000

/-- Is it an instruction that does nothing here? -/
def asks (op : Nat) : Prop := op = 0 ∨ op = 9 ∨ op = 10 ∨ op = 11 ∨ op = 17 ∨ op = 18 ∨ op = 19 ∨ op = 20
instance (op : Nat) : Decidable (asks op) := by unfold asks; infer_instance
/-- The error of Do; the registers, and the place, behind an instruction. -/
def doE (p : Int) (c : Cd) : Int := if may c = true ∧ 0 ≤ p ∧ p ≤ 1024 then (if asks c.op then 4 else 0) else 2
def doR (x : List Int) (p : Int) (c : Cd) : List Int := if doE p c = 0 then res (x.set 0 0) c else zero
def doT (x : List Int) (p : Int) (c : Cd) : Int := if doE p c = 0 then goes (x.set 0 0) p c else 0
theorem box3 (w : World) (x : List Int) (o a b c n : Int) : ∃ w3, ((w.alloc (.cells (row x) 23)).alloc (.cells #[.int .u8 o, .int .i64 a, .int .i64 b, .int .i64 c, .int .i64 n] 28)).alloc (.cells #[.int .u32 0, .int .u32 0, .int .u32 0, .int .u32 0, .int .u32 0, .int .u32 0, .int .u32 0, .int .u32 0, .int .u32 0, .int .u32 0, .int .u32 0, .int .u32 0, .int .u32 0, .int .u32 0, .int .u32 0, .int .u32 0] 23) = w3 ∧ w.grownBy w3 none ∧ w3.heap[w.heap.size]? = some (.cells (row x) 23 (0, 0)) ∧ w3.heap[w.heap.size + 1]? = some (.cells #[.int .u8 o, .int .i64 a, .int .i64 b, .int .i64 c, .int .i64 n] 28 (0, 0)) ∧ w3.heap[w.heap.size + 1 + 1]? = some (.cells (row zero) 23 (0, 0)) := by
  obtain ⟨w3, h, hg, h1, h2, h3⟩ := cd.three w (.cells (row x) 23) (.cells #[.int .u8 o, .int .i64 a, .int .i64 b, .int .i64 c, .int .i64 n] 28) (.cells (row zero) 23)
  exact ⟨w3, h, hg, h1, h2, h3⟩
set_option maxHeartbeats 1000000 in
theorem do_may (x : List Int) (hx : x.length = 16) (p : Int) (op : Nat) (a b c n : Int) (w : World) (hT : Tab w) (h8 : op < 256) (hm : may ⟨op, a, b, c, n⟩ = false) : Calls Tryd.prog 8 #[.agg (row x), .int .i64 p, .agg #[.int .u8 (op : Int), .int .i64 a, .int .i64 b, .int .i64 c, .int .i64 n]] w fun e w' => e = .returned (.tuple #[.agg (row zero), .int .i64 0, .int .i64 2]) ∧ w.grownBy w' none := by
  obtain ⟨w3, hw3, hg3, hA3, hC3, hB3⟩ := box3 w x (op : Int) a b c n
  have HW3 := Lib.hid hw3
  have HG3 := Lib.hid hg3
  have HA3 := Lib.hid hA3
  have HC3 := Lib.hid hC3
  have HB3 := Lib.hid hB3
  have HK := Lib.hid (keepX hA3 hC3)
  have HZ : Hid (w.heap.size + 1 + 1 < w3.heap.size) := Lib.hid (Array.getElem?_eq_some_iff.1 hB3).1
  obtain ⟨_, c0, c1, c2, c3, c4⟩ := keepX hA3 hC3 _ (grown_refl _ _)
  have HM : Hid (∀ w', w.grownBy w' none → Calls Tryd.prog 17 #[.agg #[.int .u8 (op : Int), .int .i64 a, .int .i64 b, .int .i64 c, .int .i64 n]] w' fun e w2 => e = .returned (.int .i64 (err (may ⟨op, a, b, c, n⟩))) ∧ w'.grownBy w2 none) := Lib.hid fun w' h => cd.may_any ⟨op, a, b, c, n⟩ w' (hT.grown h) h8
  rw [hm] at HM
  clear hw3 hg3 hA3 hC3 hB3 hT hm h8 hx
  go_enter Tryd.func8, Tryd.ntmps8
  go_upto_region 1 with fail
  rw [HW3.out]
  go_wp2_with (first
    | (go_at_call 17; ((with_reducible refine (HM.out _ HG3.out).mono ?_); rintro e w4 ⟨rfl, hg4⟩; have HG4 := Lib.hid hg4; obtain ⟨_, c0, c1, c2, c3, c4⟩ := HK.out _ hg4; clear hg4))
    | ((with_reducible refine load_any zero 6 (w.heap.size + 1 + 1) ?_ ?_ zero_size ?_); ((rfl)); ((exact row_grown HB3.out HG4.out)))
    | ((with_reducible refine store_any zero zero 6 20 (w.heap.size + 1 + 1) ?_ ?_ zero_size ?_ zero_size ?_); ((rfl)); ((rfl)); ((exact row_grown HB3.out HG4.out))))
  refine retR3 rfl zero_size (by rfl) rfl rfl (setRow_heap _ _ _ _ _ _ (row_grown HB3.out HG4.out)) ?_
  exact ⟨rfl, grown_setRow (grown_trans HG3.out HG4.out) _ (by omega) _⟩
set_option maxHeartbeats 1000000 in
theorem do_low (x : List Int) (hx : x.length = 16) (p : Int) (op : Nat) (a b c n : Int) (w : World) (hT : Tab w) (h8 : op < 256) (hm : may ⟨op, a, b, c, n⟩ = true) (hp : p < 0) : Calls Tryd.prog 8 #[.agg (row x), .int .i64 p, .agg #[.int .u8 (op : Int), .int .i64 a, .int .i64 b, .int .i64 c, .int .i64 n]] w fun e w' => e = .returned (.tuple #[.agg (row zero), .int .i64 0, .int .i64 2]) ∧ w.grownBy w' none := by
  obtain ⟨w3, hw3, hg3, hA3, hC3, hB3⟩ := box3 w x (op : Int) a b c n
  have HW3 := Lib.hid hw3
  have HG3 := Lib.hid hg3
  have HA3 := Lib.hid hA3
  have HC3 := Lib.hid hC3
  have HB3 := Lib.hid hB3
  have HK := Lib.hid (keepX hA3 hC3)
  have HZ : Hid (w.heap.size + 1 + 1 < w3.heap.size) := Lib.hid (Array.getElem?_eq_some_iff.1 hB3).1
  obtain ⟨_, c0, c1, c2, c3, c4⟩ := keepX hA3 hC3 _ (grown_refl _ _)
  have HM : Hid (∀ w', w.grownBy w' none → Calls Tryd.prog 17 #[.agg #[.int .u8 (op : Int), .int .i64 a, .int .i64 b, .int .i64 c, .int .i64 n]] w' fun e w2 => e = .returned (.int .i64 (err (may ⟨op, a, b, c, n⟩))) ∧ w'.grownBy w2 none) := Lib.hid fun w' h => cd.may_any ⟨op, a, b, c, n⟩ w' (hT.grown h) h8
  rw [hm] at HM
  clear hw3 hg3 hA3 hC3 hB3 hT hm h8 hx
  go_enter Tryd.func8, Tryd.ntmps8
  go_upto_region 1 with fail
  rw [HW3.out]
  go_wp2_with (first
    | (go_at_call 17; ((with_reducible refine (HM.out _ HG3.out).mono ?_); rintro e w4 ⟨rfl, hg4⟩; have HG4 := Lib.hid hg4; obtain ⟨_, c0, c1, c2, c3, c4⟩ := HK.out _ hg4; clear hg4))
    | ((with_reducible refine load_any zero 6 (w.heap.size + 1 + 1) ?_ ?_ zero_size ?_); ((rfl)); ((exact row_grown HB3.out HG4.out)))
    | ((with_reducible refine store_any zero zero 6 20 (w.heap.size + 1 + 1) ?_ ?_ zero_size ?_ zero_size ?_); ((rfl)); ((rfl)); ((exact row_grown HB3.out HG4.out))))
  refine retR3 rfl zero_size (by rfl) rfl rfl (setRow_heap _ _ _ _ _ _ (row_grown HB3.out HG4.out)) ?_
  exact ⟨rfl, grown_setRow (grown_trans HG3.out HG4.out) _ (by omega) _⟩
set_option maxHeartbeats 1000000 in
theorem do_high (x : List Int) (hx : x.length = 16) (p : Int) (op : Nat) (a b c n : Int) (w : World) (hT : Tab w) (h8 : op < 256) (hm : may ⟨op, a, b, c, n⟩ = true) (hp0 : 0 ≤ p) (hp : 1024 < p) : Calls Tryd.prog 8 #[.agg (row x), .int .i64 p, .agg #[.int .u8 (op : Int), .int .i64 a, .int .i64 b, .int .i64 c, .int .i64 n]] w fun e w' => e = .returned (.tuple #[.agg (row zero), .int .i64 0, .int .i64 2]) ∧ w.grownBy w' none := by
  obtain ⟨w3, hw3, hg3, hA3, hC3, hB3⟩ := box3 w x (op : Int) a b c n
  have HW3 := Lib.hid hw3
  have HG3 := Lib.hid hg3
  have HA3 := Lib.hid hA3
  have HC3 := Lib.hid hC3
  have HB3 := Lib.hid hB3
  have HK := Lib.hid (keepX hA3 hC3)
  have HZ : Hid (w.heap.size + 1 + 1 < w3.heap.size) := Lib.hid (Array.getElem?_eq_some_iff.1 hB3).1
  obtain ⟨_, c0, c1, c2, c3, c4⟩ := keepX hA3 hC3 _ (grown_refl _ _)
  have HM : Hid (∀ w', w.grownBy w' none → Calls Tryd.prog 17 #[.agg #[.int .u8 (op : Int), .int .i64 a, .int .i64 b, .int .i64 c, .int .i64 n]] w' fun e w2 => e = .returned (.int .i64 (err (may ⟨op, a, b, c, n⟩))) ∧ w'.grownBy w2 none) := Lib.hid fun w' h => cd.may_any ⟨op, a, b, c, n⟩ w' (hT.grown h) h8
  rw [hm] at HM
  clear hw3 hg3 hA3 hC3 hB3 hT hm h8 hx
  go_enter Tryd.func8, Tryd.ntmps8
  go_upto_region 1 with fail
  rw [HW3.out]
  go_wp2_with (first
    | (go_at_call 17; ((with_reducible refine (HM.out _ HG3.out).mono ?_); rintro e w4 ⟨rfl, hg4⟩; have HG4 := Lib.hid hg4; obtain ⟨_, c0, c1, c2, c3, c4⟩ := HK.out _ hg4; clear hg4))
    | ((with_reducible refine load_any zero 6 (w.heap.size + 1 + 1) ?_ ?_ zero_size ?_); ((rfl)); ((exact row_grown HB3.out HG4.out)))
    | ((with_reducible refine store_any zero zero 6 20 (w.heap.size + 1 + 1) ?_ ?_ zero_size ?_ zero_size ?_); ((rfl)); ((rfl)); ((exact row_grown HB3.out HG4.out))))
  refine retR3 rfl zero_size (by rfl) rfl rfl (setRow_heap _ _ _ _ _ _ (row_grown HB3.out HG4.out)) ?_
  exact ⟨rfl, grown_setRow (grown_trans HG3.out HG4.out) _ (by omega) _⟩
set_option maxHeartbeats 1000000 in
theorem do_none_0 (x : List Int) (hx : x.length = 16) (p : Int) (a b c n : Int) (w : World) (hT : Tab w) (hm : may ⟨0, a, b, c, n⟩ = true) (hp0 : 0 ≤ p) (hp : p ≤ 1024) : Calls Tryd.prog 8 #[.agg (row x), .int .i64 p, .agg #[.int .u8 0, .int .i64 a, .int .i64 b, .int .i64 c, .int .i64 n]] w fun e w' => e = .returned (.tuple #[.agg (row zero), .int .i64 0, .int .i64 4]) ∧ w.grownBy w' none := by
  have h8 : 0 < 256 := by omega
  obtain ⟨w3, hw3, hg3, hA3, hC3, hB3⟩ := box3 w x 0 a b c n
  have HW3 := Lib.hid hw3
  have HG3 := Lib.hid hg3
  have HA3 := Lib.hid hA3
  have HC3 := Lib.hid hC3
  have HB3 := Lib.hid hB3
  have HK := Lib.hid (keepX hA3 hC3)
  have HZ : Hid (w.heap.size + 1 + 1 < w3.heap.size) := Lib.hid (Array.getElem?_eq_some_iff.1 hB3).1
  obtain ⟨_, c0, c1, c2, c3, c4⟩ := keepX hA3 hC3 _ (grown_refl _ _)
  have HM : Hid (∀ w', w.grownBy w' none → Calls Tryd.prog 17 #[.agg #[.int .u8 0, .int .i64 a, .int .i64 b, .int .i64 c, .int .i64 n]] w' fun e w2 => e = .returned (.int .i64 (err (may ⟨0, a, b, c, n⟩))) ∧ w'.grownBy w2 none) := Lib.hid fun w' h => cd.may_any ⟨0, a, b, c, n⟩ w' (hT.grown h) h8
  rw [hm] at HM
  clear hw3 hg3 hA3 hC3 hB3 hT hm h8 hx
  go_enter Tryd.func8, Tryd.ntmps8
  go_upto_region 1 with fail
  rw [HW3.out]
  go_wp2_with (first
    | (go_at_call 17; ((with_reducible refine (HM.out _ HG3.out).mono ?_); rintro e w4 ⟨rfl, hg4⟩; have HG4 := Lib.hid hg4; obtain ⟨_, c0, c1, c2, c3, c4⟩ := HK.out _ hg4; clear hg4))
    | ((with_reducible refine load_any zero 6 (w.heap.size + 1 + 1) ?_ ?_ zero_size ?_); ((rfl)); ((exact row_grown HB3.out HG4.out)))
    | ((with_reducible refine store_any zero zero 6 32 (w.heap.size + 1 + 1) ?_ ?_ zero_size ?_ zero_size ?_); ((rfl)); ((rfl)); ((exact row_grown HB3.out HG4.out))))
  refine retR3 rfl zero_size (by rfl) rfl rfl (setRow_heap _ _ _ _ _ _ (row_grown HB3.out HG4.out)) ?_
  exact ⟨rfl, grown_setRow (grown_trans HG3.out HG4.out) _ (by omega) _⟩
set_option maxHeartbeats 1000000 in
theorem do_none_9 (x : List Int) (hx : x.length = 16) (p : Int) (a b c n : Int) (w : World) (hT : Tab w) (hm : may ⟨9, a, b, c, n⟩ = true) (hp0 : 0 ≤ p) (hp : p ≤ 1024) : Calls Tryd.prog 8 #[.agg (row x), .int .i64 p, .agg #[.int .u8 9, .int .i64 a, .int .i64 b, .int .i64 c, .int .i64 n]] w fun e w' => e = .returned (.tuple #[.agg (row zero), .int .i64 0, .int .i64 4]) ∧ w.grownBy w' none := by
  have h8 : 9 < 256 := by omega
  obtain ⟨w3, hw3, hg3, hA3, hC3, hB3⟩ := box3 w x 9 a b c n
  have HW3 := Lib.hid hw3
  have HG3 := Lib.hid hg3
  have HA3 := Lib.hid hA3
  have HC3 := Lib.hid hC3
  have HB3 := Lib.hid hB3
  have HK := Lib.hid (keepX hA3 hC3)
  have HZ : Hid (w.heap.size + 1 + 1 < w3.heap.size) := Lib.hid (Array.getElem?_eq_some_iff.1 hB3).1
  obtain ⟨_, c0, c1, c2, c3, c4⟩ := keepX hA3 hC3 _ (grown_refl _ _)
  have HM : Hid (∀ w', w.grownBy w' none → Calls Tryd.prog 17 #[.agg #[.int .u8 9, .int .i64 a, .int .i64 b, .int .i64 c, .int .i64 n]] w' fun e w2 => e = .returned (.int .i64 (err (may ⟨9, a, b, c, n⟩))) ∧ w'.grownBy w2 none) := Lib.hid fun w' h => cd.may_any ⟨9, a, b, c, n⟩ w' (hT.grown h) h8
  rw [hm] at HM
  clear hw3 hg3 hA3 hC3 hB3 hT hm h8 hx
  go_enter Tryd.func8, Tryd.ntmps8
  go_upto_region 1 with fail
  rw [HW3.out]
  go_wp2_with (first
    | (go_at_call 17; ((with_reducible refine (HM.out _ HG3.out).mono ?_); rintro e w4 ⟨rfl, hg4⟩; have HG4 := Lib.hid hg4; obtain ⟨_, c0, c1, c2, c3, c4⟩ := HK.out _ hg4; clear hg4))
    | ((with_reducible refine load_any zero 6 (w.heap.size + 1 + 1) ?_ ?_ zero_size ?_); ((rfl)); ((exact row_grown HB3.out HG4.out)))
    | ((with_reducible refine store_any zero zero 6 32 (w.heap.size + 1 + 1) ?_ ?_ zero_size ?_ zero_size ?_); ((rfl)); ((rfl)); ((exact row_grown HB3.out HG4.out))))
  refine retR3 rfl zero_size (by rfl) rfl rfl (setRow_heap _ _ _ _ _ _ (row_grown HB3.out HG4.out)) ?_
  exact ⟨rfl, grown_setRow (grown_trans HG3.out HG4.out) _ (by omega) _⟩
set_option maxHeartbeats 1000000 in
theorem do_none_10 (x : List Int) (hx : x.length = 16) (p : Int) (a b c n : Int) (w : World) (hT : Tab w) (hm : may ⟨10, a, b, c, n⟩ = true) (hp0 : 0 ≤ p) (hp : p ≤ 1024) : Calls Tryd.prog 8 #[.agg (row x), .int .i64 p, .agg #[.int .u8 10, .int .i64 a, .int .i64 b, .int .i64 c, .int .i64 n]] w fun e w' => e = .returned (.tuple #[.agg (row zero), .int .i64 0, .int .i64 4]) ∧ w.grownBy w' none := by
  have h8 : 10 < 256 := by omega
  obtain ⟨w3, hw3, hg3, hA3, hC3, hB3⟩ := box3 w x 10 a b c n
  have HW3 := Lib.hid hw3
  have HG3 := Lib.hid hg3
  have HA3 := Lib.hid hA3
  have HC3 := Lib.hid hC3
  have HB3 := Lib.hid hB3
  have HK := Lib.hid (keepX hA3 hC3)
  have HZ : Hid (w.heap.size + 1 + 1 < w3.heap.size) := Lib.hid (Array.getElem?_eq_some_iff.1 hB3).1
  obtain ⟨_, c0, c1, c2, c3, c4⟩ := keepX hA3 hC3 _ (grown_refl _ _)
  have HM : Hid (∀ w', w.grownBy w' none → Calls Tryd.prog 17 #[.agg #[.int .u8 10, .int .i64 a, .int .i64 b, .int .i64 c, .int .i64 n]] w' fun e w2 => e = .returned (.int .i64 (err (may ⟨10, a, b, c, n⟩))) ∧ w'.grownBy w2 none) := Lib.hid fun w' h => cd.may_any ⟨10, a, b, c, n⟩ w' (hT.grown h) h8
  rw [hm] at HM
  clear hw3 hg3 hA3 hC3 hB3 hT hm h8 hx
  go_enter Tryd.func8, Tryd.ntmps8
  go_upto_region 1 with fail
  rw [HW3.out]
  go_wp2_with (first
    | (go_at_call 17; ((with_reducible refine (HM.out _ HG3.out).mono ?_); rintro e w4 ⟨rfl, hg4⟩; have HG4 := Lib.hid hg4; obtain ⟨_, c0, c1, c2, c3, c4⟩ := HK.out _ hg4; clear hg4))
    | ((with_reducible refine load_any zero 6 (w.heap.size + 1 + 1) ?_ ?_ zero_size ?_); ((rfl)); ((exact row_grown HB3.out HG4.out)))
    | ((with_reducible refine store_any zero zero 6 32 (w.heap.size + 1 + 1) ?_ ?_ zero_size ?_ zero_size ?_); ((rfl)); ((rfl)); ((exact row_grown HB3.out HG4.out))))
  refine retR3 rfl zero_size (by rfl) rfl rfl (setRow_heap _ _ _ _ _ _ (row_grown HB3.out HG4.out)) ?_
  exact ⟨rfl, grown_setRow (grown_trans HG3.out HG4.out) _ (by omega) _⟩
set_option maxHeartbeats 1000000 in
theorem do_none_11 (x : List Int) (hx : x.length = 16) (p : Int) (a b c n : Int) (w : World) (hT : Tab w) (hm : may ⟨11, a, b, c, n⟩ = true) (hp0 : 0 ≤ p) (hp : p ≤ 1024) : Calls Tryd.prog 8 #[.agg (row x), .int .i64 p, .agg #[.int .u8 11, .int .i64 a, .int .i64 b, .int .i64 c, .int .i64 n]] w fun e w' => e = .returned (.tuple #[.agg (row zero), .int .i64 0, .int .i64 4]) ∧ w.grownBy w' none := by
  have h8 : 11 < 256 := by omega
  obtain ⟨w3, hw3, hg3, hA3, hC3, hB3⟩ := box3 w x 11 a b c n
  have HW3 := Lib.hid hw3
  have HG3 := Lib.hid hg3
  have HA3 := Lib.hid hA3
  have HC3 := Lib.hid hC3
  have HB3 := Lib.hid hB3
  have HK := Lib.hid (keepX hA3 hC3)
  have HZ : Hid (w.heap.size + 1 + 1 < w3.heap.size) := Lib.hid (Array.getElem?_eq_some_iff.1 hB3).1
  obtain ⟨_, c0, c1, c2, c3, c4⟩ := keepX hA3 hC3 _ (grown_refl _ _)
  have HM : Hid (∀ w', w.grownBy w' none → Calls Tryd.prog 17 #[.agg #[.int .u8 11, .int .i64 a, .int .i64 b, .int .i64 c, .int .i64 n]] w' fun e w2 => e = .returned (.int .i64 (err (may ⟨11, a, b, c, n⟩))) ∧ w'.grownBy w2 none) := Lib.hid fun w' h => cd.may_any ⟨11, a, b, c, n⟩ w' (hT.grown h) h8
  rw [hm] at HM
  clear hw3 hg3 hA3 hC3 hB3 hT hm h8 hx
  go_enter Tryd.func8, Tryd.ntmps8
  go_upto_region 1 with fail
  rw [HW3.out]
  go_wp2_with (first
    | (go_at_call 17; ((with_reducible refine (HM.out _ HG3.out).mono ?_); rintro e w4 ⟨rfl, hg4⟩; have HG4 := Lib.hid hg4; obtain ⟨_, c0, c1, c2, c3, c4⟩ := HK.out _ hg4; clear hg4))
    | ((with_reducible refine load_any zero 6 (w.heap.size + 1 + 1) ?_ ?_ zero_size ?_); ((rfl)); ((exact row_grown HB3.out HG4.out)))
    | ((with_reducible refine store_any zero zero 6 32 (w.heap.size + 1 + 1) ?_ ?_ zero_size ?_ zero_size ?_); ((rfl)); ((rfl)); ((exact row_grown HB3.out HG4.out))))
  refine retR3 rfl zero_size (by rfl) rfl rfl (setRow_heap _ _ _ _ _ _ (row_grown HB3.out HG4.out)) ?_
  exact ⟨rfl, grown_setRow (grown_trans HG3.out HG4.out) _ (by omega) _⟩
set_option maxHeartbeats 1000000 in
theorem do_none_17 (x : List Int) (hx : x.length = 16) (p : Int) (a b c n : Int) (w : World) (hT : Tab w) (hm : may ⟨17, a, b, c, n⟩ = true) (hp0 : 0 ≤ p) (hp : p ≤ 1024) : Calls Tryd.prog 8 #[.agg (row x), .int .i64 p, .agg #[.int .u8 17, .int .i64 a, .int .i64 b, .int .i64 c, .int .i64 n]] w fun e w' => e = .returned (.tuple #[.agg (row zero), .int .i64 0, .int .i64 4]) ∧ w.grownBy w' none := by
  have h8 : 17 < 256 := by omega
  obtain ⟨w3, hw3, hg3, hA3, hC3, hB3⟩ := box3 w x 17 a b c n
  have HW3 := Lib.hid hw3
  have HG3 := Lib.hid hg3
  have HA3 := Lib.hid hA3
  have HC3 := Lib.hid hC3
  have HB3 := Lib.hid hB3
  have HK := Lib.hid (keepX hA3 hC3)
  have HZ : Hid (w.heap.size + 1 + 1 < w3.heap.size) := Lib.hid (Array.getElem?_eq_some_iff.1 hB3).1
  obtain ⟨_, c0, c1, c2, c3, c4⟩ := keepX hA3 hC3 _ (grown_refl _ _)
  have HM : Hid (∀ w', w.grownBy w' none → Calls Tryd.prog 17 #[.agg #[.int .u8 17, .int .i64 a, .int .i64 b, .int .i64 c, .int .i64 n]] w' fun e w2 => e = .returned (.int .i64 (err (may ⟨17, a, b, c, n⟩))) ∧ w'.grownBy w2 none) := Lib.hid fun w' h => cd.may_any ⟨17, a, b, c, n⟩ w' (hT.grown h) h8
  rw [hm] at HM
  clear hw3 hg3 hA3 hC3 hB3 hT hm h8 hx
  go_enter Tryd.func8, Tryd.ntmps8
  go_upto_region 1 with fail
  rw [HW3.out]
  go_wp2_with (first
    | (go_at_call 17; ((with_reducible refine (HM.out _ HG3.out).mono ?_); rintro e w4 ⟨rfl, hg4⟩; have HG4 := Lib.hid hg4; obtain ⟨_, c0, c1, c2, c3, c4⟩ := HK.out _ hg4; clear hg4))
    | ((with_reducible refine load_any zero 6 (w.heap.size + 1 + 1) ?_ ?_ zero_size ?_); ((rfl)); ((exact row_grown HB3.out HG4.out)))
    | ((with_reducible refine store_any zero zero 6 32 (w.heap.size + 1 + 1) ?_ ?_ zero_size ?_ zero_size ?_); ((rfl)); ((rfl)); ((exact row_grown HB3.out HG4.out))))
  refine retR3 rfl zero_size (by rfl) rfl rfl (setRow_heap _ _ _ _ _ _ (row_grown HB3.out HG4.out)) ?_
  exact ⟨rfl, grown_setRow (grown_trans HG3.out HG4.out) _ (by omega) _⟩
set_option maxHeartbeats 1000000 in
theorem do_none_18 (x : List Int) (hx : x.length = 16) (p : Int) (a b c n : Int) (w : World) (hT : Tab w) (hm : may ⟨18, a, b, c, n⟩ = true) (hp0 : 0 ≤ p) (hp : p ≤ 1024) : Calls Tryd.prog 8 #[.agg (row x), .int .i64 p, .agg #[.int .u8 18, .int .i64 a, .int .i64 b, .int .i64 c, .int .i64 n]] w fun e w' => e = .returned (.tuple #[.agg (row zero), .int .i64 0, .int .i64 4]) ∧ w.grownBy w' none := by
  have h8 : 18 < 256 := by omega
  obtain ⟨w3, hw3, hg3, hA3, hC3, hB3⟩ := box3 w x 18 a b c n
  have HW3 := Lib.hid hw3
  have HG3 := Lib.hid hg3
  have HA3 := Lib.hid hA3
  have HC3 := Lib.hid hC3
  have HB3 := Lib.hid hB3
  have HK := Lib.hid (keepX hA3 hC3)
  have HZ : Hid (w.heap.size + 1 + 1 < w3.heap.size) := Lib.hid (Array.getElem?_eq_some_iff.1 hB3).1
  obtain ⟨_, c0, c1, c2, c3, c4⟩ := keepX hA3 hC3 _ (grown_refl _ _)
  have HM : Hid (∀ w', w.grownBy w' none → Calls Tryd.prog 17 #[.agg #[.int .u8 18, .int .i64 a, .int .i64 b, .int .i64 c, .int .i64 n]] w' fun e w2 => e = .returned (.int .i64 (err (may ⟨18, a, b, c, n⟩))) ∧ w'.grownBy w2 none) := Lib.hid fun w' h => cd.may_any ⟨18, a, b, c, n⟩ w' (hT.grown h) h8
  rw [hm] at HM
  clear hw3 hg3 hA3 hC3 hB3 hT hm h8 hx
  go_enter Tryd.func8, Tryd.ntmps8
  go_upto_region 1 with fail
  rw [HW3.out]
  go_wp2_with (first
    | (go_at_call 17; ((with_reducible refine (HM.out _ HG3.out).mono ?_); rintro e w4 ⟨rfl, hg4⟩; have HG4 := Lib.hid hg4; obtain ⟨_, c0, c1, c2, c3, c4⟩ := HK.out _ hg4; clear hg4))
    | ((with_reducible refine load_any zero 6 (w.heap.size + 1 + 1) ?_ ?_ zero_size ?_); ((rfl)); ((exact row_grown HB3.out HG4.out)))
    | ((with_reducible refine store_any zero zero 6 32 (w.heap.size + 1 + 1) ?_ ?_ zero_size ?_ zero_size ?_); ((rfl)); ((rfl)); ((exact row_grown HB3.out HG4.out))))
  refine retR3 rfl zero_size (by rfl) rfl rfl (setRow_heap _ _ _ _ _ _ (row_grown HB3.out HG4.out)) ?_
  exact ⟨rfl, grown_setRow (grown_trans HG3.out HG4.out) _ (by omega) _⟩
set_option maxHeartbeats 1000000 in
theorem do_none_19 (x : List Int) (hx : x.length = 16) (p : Int) (a b c n : Int) (w : World) (hT : Tab w) (hm : may ⟨19, a, b, c, n⟩ = true) (hp0 : 0 ≤ p) (hp : p ≤ 1024) : Calls Tryd.prog 8 #[.agg (row x), .int .i64 p, .agg #[.int .u8 19, .int .i64 a, .int .i64 b, .int .i64 c, .int .i64 n]] w fun e w' => e = .returned (.tuple #[.agg (row zero), .int .i64 0, .int .i64 4]) ∧ w.grownBy w' none := by
  have h8 : 19 < 256 := by omega
  obtain ⟨w3, hw3, hg3, hA3, hC3, hB3⟩ := box3 w x 19 a b c n
  have HW3 := Lib.hid hw3
  have HG3 := Lib.hid hg3
  have HA3 := Lib.hid hA3
  have HC3 := Lib.hid hC3
  have HB3 := Lib.hid hB3
  have HK := Lib.hid (keepX hA3 hC3)
  have HZ : Hid (w.heap.size + 1 + 1 < w3.heap.size) := Lib.hid (Array.getElem?_eq_some_iff.1 hB3).1
  obtain ⟨_, c0, c1, c2, c3, c4⟩ := keepX hA3 hC3 _ (grown_refl _ _)
  have HM : Hid (∀ w', w.grownBy w' none → Calls Tryd.prog 17 #[.agg #[.int .u8 19, .int .i64 a, .int .i64 b, .int .i64 c, .int .i64 n]] w' fun e w2 => e = .returned (.int .i64 (err (may ⟨19, a, b, c, n⟩))) ∧ w'.grownBy w2 none) := Lib.hid fun w' h => cd.may_any ⟨19, a, b, c, n⟩ w' (hT.grown h) h8
  rw [hm] at HM
  clear hw3 hg3 hA3 hC3 hB3 hT hm h8 hx
  go_enter Tryd.func8, Tryd.ntmps8
  go_upto_region 1 with fail
  rw [HW3.out]
  go_wp2_with (first
    | (go_at_call 17; ((with_reducible refine (HM.out _ HG3.out).mono ?_); rintro e w4 ⟨rfl, hg4⟩; have HG4 := Lib.hid hg4; obtain ⟨_, c0, c1, c2, c3, c4⟩ := HK.out _ hg4; clear hg4))
    | ((with_reducible refine load_any zero 6 (w.heap.size + 1 + 1) ?_ ?_ zero_size ?_); ((rfl)); ((exact row_grown HB3.out HG4.out)))
    | ((with_reducible refine store_any zero zero 6 32 (w.heap.size + 1 + 1) ?_ ?_ zero_size ?_ zero_size ?_); ((rfl)); ((rfl)); ((exact row_grown HB3.out HG4.out))))
  refine retR3 rfl zero_size (by rfl) rfl rfl (setRow_heap _ _ _ _ _ _ (row_grown HB3.out HG4.out)) ?_
  exact ⟨rfl, grown_setRow (grown_trans HG3.out HG4.out) _ (by omega) _⟩
set_option maxHeartbeats 1000000 in
theorem do_none_20 (x : List Int) (hx : x.length = 16) (p : Int) (a b c n : Int) (w : World) (hT : Tab w) (hm : may ⟨20, a, b, c, n⟩ = true) (hp0 : 0 ≤ p) (hp : p ≤ 1024) : Calls Tryd.prog 8 #[.agg (row x), .int .i64 p, .agg #[.int .u8 20, .int .i64 a, .int .i64 b, .int .i64 c, .int .i64 n]] w fun e w' => e = .returned (.tuple #[.agg (row zero), .int .i64 0, .int .i64 4]) ∧ w.grownBy w' none := by
  have h8 : 20 < 256 := by omega
  obtain ⟨w3, hw3, hg3, hA3, hC3, hB3⟩ := box3 w x 20 a b c n
  have HW3 := Lib.hid hw3
  have HG3 := Lib.hid hg3
  have HA3 := Lib.hid hA3
  have HC3 := Lib.hid hC3
  have HB3 := Lib.hid hB3
  have HK := Lib.hid (keepX hA3 hC3)
  have HZ : Hid (w.heap.size + 1 + 1 < w3.heap.size) := Lib.hid (Array.getElem?_eq_some_iff.1 hB3).1
  obtain ⟨_, c0, c1, c2, c3, c4⟩ := keepX hA3 hC3 _ (grown_refl _ _)
  have HM : Hid (∀ w', w.grownBy w' none → Calls Tryd.prog 17 #[.agg #[.int .u8 20, .int .i64 a, .int .i64 b, .int .i64 c, .int .i64 n]] w' fun e w2 => e = .returned (.int .i64 (err (may ⟨20, a, b, c, n⟩))) ∧ w'.grownBy w2 none) := Lib.hid fun w' h => cd.may_any ⟨20, a, b, c, n⟩ w' (hT.grown h) h8
  rw [hm] at HM
  clear hw3 hg3 hA3 hC3 hB3 hT hm h8 hx
  go_enter Tryd.func8, Tryd.ntmps8
  go_upto_region 1 with fail
  rw [HW3.out]
  go_wp2_with (first
    | (go_at_call 17; ((with_reducible refine (HM.out _ HG3.out).mono ?_); rintro e w4 ⟨rfl, hg4⟩; have HG4 := Lib.hid hg4; obtain ⟨_, c0, c1, c2, c3, c4⟩ := HK.out _ hg4; clear hg4))
    | ((with_reducible refine load_any zero 6 (w.heap.size + 1 + 1) ?_ ?_ zero_size ?_); ((rfl)); ((exact row_grown HB3.out HG4.out)))
    | ((with_reducible refine store_any zero zero 6 32 (w.heap.size + 1 + 1) ?_ ?_ zero_size ?_ zero_size ?_); ((rfl)); ((rfl)); ((exact row_grown HB3.out HG4.out))))
  refine retR3 rfl zero_size (by rfl) rfl rfl (setRow_heap _ _ _ _ _ _ (row_grown HB3.out HG4.out)) ?_
  exact ⟨rfl, grown_setRow (grown_trans HG3.out HG4.out) _ (by omega) _⟩
set_option maxHeartbeats 1000000 in
theorem do_ok (x : List Int) (hx : x.length = 16) (p : Int) (op : Nat) (a b c n : Int) (w : World) (hT : Tab w) (h8 : op < 256) (hm : may ⟨op, a, b, c, n⟩ = true) (hp0 : 0 ≤ p) (hp : p ≤ 1024) (hk : ¬ asks op) : Calls Tryd.prog 8 #[.agg (row x), .int .i64 p, .agg #[.int .u8 (op : Int), .int .i64 a, .int .i64 b, .int .i64 c, .int .i64 n]] w fun e w' => e = .returned (.tuple #[.agg (row (res (x.set 0 0) ⟨op, a, b, c, n⟩)), .int .i64 (goes (x.set 0 0) p ⟨op, a, b, c, n⟩), .int .i64 0]) ∧ w.grownBy w' none := by
  obtain ⟨w3, hw3, hg3, hA3, hC3, hB3⟩ := box3 w x (op : Int) a b c n
  have HW3 := Lib.hid hw3
  have HG3 := Lib.hid hg3
  have HA3 := Lib.hid hA3
  have HC3 := Lib.hid hC3
  have HB3 := Lib.hid hB3
  have HK := Lib.hid (keepX hA3 hC3)
  have HZ : Hid (w.heap.size + 1 + 1 < w3.heap.size) := Lib.hid (Array.getElem?_eq_some_iff.1 hB3).1
  obtain ⟨_, c0, c1, c2, c3, c4⟩ := keepX hA3 hC3 _ (grown_refl _ _)
  have HM : Hid (∀ w', w.grownBy w' none → Calls Tryd.prog 17 #[.agg #[.int .u8 (op : Int), .int .i64 a, .int .i64 b, .int .i64 c, .int .i64 n]] w' fun e w2 => e = .returned (.int .i64 (err (may ⟨op, a, b, c, n⟩))) ∧ w'.grownBy w2 none) := Lib.hid fun w' h => cd.may_any ⟨op, a, b, c, n⟩ w' (hT.grown h) h8
  rw [hm] at HM
  obtain ⟨ho, _, _, _, hn⟩ := may_parts hm
  have hbn : -2097152 ≤ n ∧ n ≤ 2097151 := by
    have hf := fm_lt op
    simp only at hn
    rcases form_cases hf with q | q | q | q | q | q | q <;> rw [q] at hn <;> simp only [us] at hn <;> omega
  have hx0 : (x.set 0 0).length = 16 := by simp [hx]
  unfold asks at hk
  have e0 : ((op : Int) == 0) = false := beq_eq_false_iff_ne.2 (by omega)
  have e9 : ((op : Int) == 9) = false := beq_eq_false_iff_ne.2 (by omega)
  have e10 : ((op : Int) == 10) = false := beq_eq_false_iff_ne.2 (by omega)
  have e11 : ((op : Int) == 11) = false := beq_eq_false_iff_ne.2 (by omega)
  have e17 : ((op : Int) == 17) = false := beq_eq_false_iff_ne.2 (by omega)
  have e18 : ((op : Int) == 18) = false := beq_eq_false_iff_ne.2 (by omega)
  have e19 : ((op : Int) == 19) = false := beq_eq_false_iff_ne.2 (by omega)
  have e20 : ((op : Int) == 20) = false := beq_eq_false_iff_ne.2 (by omega)
  have HMD : Hid (∀ w, Calls Tryd.prog 18 #[.agg (row (x.set 0 0)), .agg #[.int .u8 (op : Int), .int .i64 a, .int .i64 b, .int .i64 c, .int .i64 n]] w fun e w' => e = .returned (.agg (row (res (x.set 0 0) ⟨op, a, b, c, n⟩))) ∧ w.grownBy w' none) := Lib.hid fun w => made_any (x.set 0 0) hx0 ⟨op, a, b, c, n⟩ w ho
  have HGO : Hid (∀ w, Calls Tryd.prog 19 #[.agg (row (x.set 0 0)), .int .i64 p, .agg #[.int .u8 (op : Int), .int .i64 a, .int .i64 b, .int .i64 c, .int .i64 n]] w fun e w' => e = .returned (.int .i64 (goes (x.set 0 0) p ⟨op, a, b, c, n⟩)) ∧ w.grownBy w' none) := Lib.hid fun w => goesOn_any (x.set 0 0) hx0 p ⟨op, a, b, c, n⟩ w hp0 hp hbn.1 hbn.2
  have HX := Lib.hid hx
  have HL : Hid ((res (x.set 0 0) ⟨op, a, b, c, n⟩).length = 16) := Lib.hid (res_len hx0 _)
  have HX0 := Lib.hid hx0
  generalize res (x.set 0 0) ⟨op, a, b, c, n⟩ = R at HMD HL ⊢
  generalize goes (x.set 0 0) p ⟨op, a, b, c, n⟩ = T at HGO ⊢
  clear hw3 hg3 hA3 hC3 hB3 hT hm h8 hx hx0 hk hn ho hbn
  go_enter Tryd.func8, Tryd.ntmps8
  go_upto_region 1 with fail
  rw [HW3.out]
  go_upto_region 13 with (go_at_call 17; ((with_reducible refine (HM.out _ HG3.out).mono ?_); rintro e w4 ⟨rfl, hg4⟩; have HG4 := Lib.hid hg4; obtain ⟨_, c0, c1, c2, c3, c4⟩ := HK.out _ hg4; clear hg4))
  have hc0 := cellR (row_grown HA3.out HG4.out) (k := 0) (by rw [HX.out]; omega)
  have hf0 := frz (row_grown HA3.out HG4.out) 0
  go_upto_region 14 with fail
  have hA5 : (w4.setCell ⟨w.heap.size, 0, none⟩ (.int .u32 0)).heap[w.heap.size]? = some (.cells (row (x.set 0 0)) 23 (0, 0)) := set_cellR (row_grown HA3.out HG4.out) 0
  have hC5 : (w4.setCell ⟨w.heap.size, 0, none⟩ (.int .u32 0)).heap[w.heap.size + 1]? = _ := (heap_setCell_other _ _ _ _ (show w.heap.size + 1 ≠ w.heap.size by omega)).trans (row_grown HC3.out HG4.out)
  have hB5 : (w4.setCell ⟨w.heap.size, 0, none⟩ (.int .u32 0)).heap[w.heap.size + 1 + 1]? = _ := (heap_setCell_other _ _ _ _ (show w.heap.size + 1 + 1 ≠ w.heap.size by omega)).trans (row_grown HB3.out HG4.out)
  have hg5 := grown_set (grown_trans HG3.out HG4.out) w.heap.size 0 (Nat.le_refl _) (.int .u32 0)
  clear hc0 hf0 c0 c1 c2 c3 c4
  generalize w4.setCell ⟨w.heap.size, 0, none⟩ (.int .u32 0) = w5 at hA5 hC5 hB5 hg5 ⊢
  have HK5 := Lib.hid (keepX hA5 hC5)
  have HS5 := Lib.hid (fun w' y hg => keepS (y := y) hA5 hC5 (w' := w') hg (p := w.heap.size + 1 + 1) (by omega) (by omega))
  have HB5 := Lib.hid hB5
  have HG5 := Lib.hid hg5
  clear hA5 hC5 hB5 hg5
  obtain ⟨t, nn, HT, hagg, hsize, hsz, hld, hst⟩ := namedR
  have hsz := hsz _ HL.out
  have HST : Hid (∀ W, _) := Lib.hid fun W => hst (w.heap.size + 1 + 1) R zero HL.out zero_size W
  have hld := hld w.heap.size (x.set 0 0) HX0.out
  clear hst
  rw [HT.out.1, HT.out.2]
  go_region_held3 (fun w' => w'.rangeAt w.heap.size 0 (rl (x.set 0 0)) ∧ w'.cell? ⟨w.heap.size + 1, 0, none⟩ = some (.int .u8 (op : Int)) ∧ w'.cell? ⟨w.heap.size + 1, 1, none⟩ = some (.int .i64 a) ∧ w'.cell? ⟨w.heap.size + 1, 2, none⟩ = some (.int .i64 b) ∧ w'.cell? ⟨w.heap.size + 1, 3, none⟩ = some (.int .i64 c) ∧ w'.cell? ⟨w.heap.size + 1, 4, none⟩ = some (.int .i64 n))
    (first | (with_reducible exact HK5.out _ (grown_refl _ _)) | (with_reducible exact HK5.out _ (grown_drew (grown_refl _ _))) | (with_reducible exact HK5.out _ HG6.out) | (with_reducible exact HK5.out _ HG7.out) | (with_reducible exact HS5.out _ _ HG7.out))
    (first
      | (go_at_call 18; ((with_reducible refine (HMD.out _).mono ?_); rintro e w6 ⟨rfl, hg6⟩; have HG6 := Lib.hid (grown_trans (grown_drew (grown_refl w5 none)) hg6); clear hg6))
      | (go_at_call 19; ((with_reducible refine (HGO.out _).mono ?_); rintro e w7 ⟨rfl, hg7⟩; have HG7 := Lib.hid (grown_trans HG6.out hg7); have HB7 := Lib.hid (row_grown HB5.out HG7.out); have hs7 := HST.out _ HB7.out; have fz := frz HB7.out; clear hg7)))
  go_wp2_with fail
  refine retR3 rfl HL.out (by rfl) rfl rfl (setRow_heap _ _ _ _ _ _ HB7.out) ?_
  exact ⟨rfl, grown_setRow (grown_trans HG5.out HG7.out) _ (by omega) _⟩
theorem do_any (x : List Int) (hx : x.length = 16) (p : Int) (c : Cd) (w : World) (hT : Tab w) (h8 : c.op < 256) : Calls Tryd.prog 8 #[.agg (row x), .int .i64 p, .agg (ca c)] w fun e w' => e = .returned (.tuple #[.agg (row (doR x p c)), .int .i64 (doT x p c), .int .i64 (doE p c)]) ∧ w.grownBy w' none := by
  obtain ⟨op, a, b, c, n⟩ := c
  unfold ca doR doT
  simp only at h8 ⊢
  cases hm : may ⟨op, a, b, c, n⟩
  · rw [show doE p ⟨op, a, b, c, n⟩ = 2 from if_neg (fun h => by rw [hm] at h; cases h.1)]
    exact do_may x hx p op a b c n w hT h8 hm
  · by_cases hp0 : 0 ≤ p
    · by_cases hp : p ≤ 1024
      · by_cases hk : asks op
        · rw [show doE p ⟨op, a, b, c, n⟩ = 4 from (if_pos ⟨hm, hp0, hp⟩).trans (if_pos hk)]
          rcases hk with rfl | rfl | rfl | rfl | rfl | rfl | rfl | rfl
          · exact do_none_0 x hx p a b c n w hT hm hp0 hp
          · exact do_none_9 x hx p a b c n w hT hm hp0 hp
          · exact do_none_10 x hx p a b c n w hT hm hp0 hp
          · exact do_none_11 x hx p a b c n w hT hm hp0 hp
          · exact do_none_17 x hx p a b c n w hT hm hp0 hp
          · exact do_none_18 x hx p a b c n w hT hm hp0 hp
          · exact do_none_19 x hx p a b c n w hT hm hp0 hp
          · exact do_none_20 x hx p a b c n w hT hm hp0 hp
        · rw [show doE p ⟨op, a, b, c, n⟩ = 0 from (if_pos ⟨hm, hp0, hp⟩).trans (if_neg hk)]
          exact do_ok x hx p op a b c n w hT h8 hm hp0 hp hk
      · rw [show doE p ⟨op, a, b, c, n⟩ = 2 from if_neg (fun h => hp h.2.2)]
        exact do_high x hx p op a b c n w hT h8 hm hp0 (by omega)
    · rw [show doE p ⟨op, a, b, c, n⟩ = 2 from if_neg (fun h => hp0 h.2.1)]
      exact do_low x hx p op a b c n w hT h8 hm (by omega)
end Go.Proofs.YtmfckkioccmblaaDoor.sg
