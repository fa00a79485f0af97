/-
  The registers behind an instruction: a contract. No condition but the bounds that each theorem names.
-/
import Derived.Test.YtmfckkioccmblaaDoorStC
namespace Go.Proofs.YtmfckkioccmblaaDoor.sg
open Go Go.ChangeShapes Go.WideShapes Go.ChangeAt Go.RowKit Go.Proofs.YtmfckkioccmblaaDoor.cd
set_option linter.unusedVariables false
set_option maxRecDepth 1000000

/-- What an instruction does with two words. -/
def val (op : Nat) (x y : Int) : Int := match op with
  | 1 => IntKind.u32.wrap (x + y)
  | 2 => IntKind.u32.wrap (x - y)
  | 3 => bits .and .u32 x y
  | 4 => bits .or .u32 x y
  | 5 => bits .xor .u32 x y
  | 6 => tru (decide (x < y))
  | 7 => IntKind.u32.wrap (x * y)
  | 8 => IntKind.u32.wrap (x + y)
  | 12 => y
  | 13 => tru (x == y)
  | 14 => tru (x != y)
  | 15 => tru (decide (x < y))
  | _ => 0
/-- The registers behind an instruction. -/
def res (x : List Int) (c : Cd) : List Int :=
  if 1 ≤ c.op ∧ c.op ≤ 7 then pt x c.a (val c.op (gt x c.b) (gt x c.c))
  else if c.op = 8 ∨ c.op = 12 then pt x c.a (val c.op (gt x c.b) (IntKind.u32.wrap c.n)) else x
theorem res_len {x : List Int} (h : x.length = 16) (c : Cd) : (res x c).length = 16 := by unfold res; split <;> (try split) <;> simp [pt_len, h]

/-- The registers' cells, as a list. -/
def rl (x : List Int) : List Value := x.map U
theorem range_of {w : World} {g : Nat} {x : List Int} {t : TypeId} {fr : Nat × Nat} (h : w.heap[g]? = some (.cells (row x) t fr)) : w.rangeAt g 0 (rl x) := fun j v hv => by
  rw [Nat.zero_add, cell_of_row _ _ j _ _ _ h, row_get]
  simpa [rl] using hv
/-- Loads and stores of registers in a region that draws its order, their type and its size kept under names. -/
theorem namedR : ∃ (t : TypeId) (n : Nat), Hid (Op.load 23 = Op.load t ∧ Op.store 23 = Op.store t) ∧ (∀ w, (isAgg t).run Tryd.prog w = .ok true w) ∧ (∀ w, (sizeOf t).run Tryd.prog w = .ok n w) ∧ (∀ x : List Int, x.length = 16 → (row x).size = n) ∧
    (∀ (g : Nat) (x : List Int), x.length = 16 → ∀ w : World, w.rangeAt g 0 (rl x) → (loadCellsFrom ⟨g, 0, none⟩ 0 n #[]).run Tryd.prog w = .ok (row x) w) ∧
    (∀ (g : Nat) (x y : List Int), x.length = 16 → y.length = 16 → ∀ w : World, w.heap[g]? = some (.cells (row y) 23 (0, 0)) → (storeCells ⟨g, 0, none⟩ (row x).toList 0).run Tryd.prog w = .ok () (w.setRow g (row x))) :=
  ⟨23, 16, Lib.hid ⟨rfl, rfl⟩, Tryd.isAgg23, Tryd.sizeOf23, fun x hx => by rw [row_size, hx], fun g x hx w h => by
    have := run_loadCells_list (P := Tryd.prog) w ⟨g, 0, none⟩ (rl x) (fun j v hv => by
      have := h j v hv
      unfold Addr.add
      split <;> simp_all)
    simpa [loadCells, rl, hx, row] using this, fun g x y hx hy w h => by
    have := run_storeCells_from (P := Tryd.prog) g 23 (row x).toList 0 (row y) w h (by simp [row_size, hx, hy]) (fun v hv => by
      have h1 := row_one x
      rw [Array.all_eq_true_iff_forall_mem] at h1
      exact h1 v (by simpa using hv))
    simpa using this⟩

/-- The boxes of a function over registers and an instruction, and its result's variable. -/
theorem boxes3 (w : World) (x : List Int) (c : Cd) : ∃ w3, ((w.alloc (.cells (row x) 23)).alloc (.cells (ca c) 28)).alloc (.cells #[.int .u32 0, .int .u32 0, .int .u32 0, .int .u32 0, .int .u32 0, .int .u32 0, .int .u32 0, .int .u32 0, .int .u32 0, .int .u32 0, .int .u32 0, .int .u32 0, .int .u32 0, .int .u32 0, .int .u32 0, .int .u32 0] 23) = w3 ∧ w.grownBy w3 none ∧ w3.heap[w.heap.size]? = some (.cells (row x) 23 (0, 0)) ∧ w3.heap[w.heap.size + 1]? = some (.cells (ca c) 28 (0, 0)) ∧ w3.heap[w.heap.size + 1 + 1]? = some (.cells (row zero) 23 (0, 0)) := by
  obtain ⟨w3, h, hg, h1, h2, h3⟩ := cd.three w (.cells (row x) 23) (.cells (ca c) 28) (.cells (row zero) 23)
  exact ⟨w3, h, hg, h1, h2, h3⟩
theorem keepX {w : World} {g k : Nat} {x : List Int} {o a b c n : Int} {t u : TypeId} {fr fs : Nat × Nat} (hA : w.heap[g]? = some (.cells (row x) t fr)) (hC : w.heap[k]? = some (.cells #[.int .u8 o, .int .i64 a, .int .i64 b, .int .i64 c, .int .i64 n] u fs)) (w' : World) (hg : w.grownBy w' none) :
    w'.rangeAt g 0 (rl x) ∧ w'.cell? ⟨k, 0, none⟩ = some (.int .u8 o) ∧ w'.cell? ⟨k, 1, none⟩ = some (.int .i64 a) ∧ w'.cell? ⟨k, 2, none⟩ = some (.int .i64 b) ∧ w'.cell? ⟨k, 3, none⟩ = some (.int .i64 c) ∧ w'.cell? ⟨k, 4, none⟩ = some (.int .i64 n) :=
  ⟨range_of (row_grown hA hg), cells5 (row_grown hC hg)⟩
theorem keepS {w w' : World} {g k p : Nat} {x y : List Int} {o a b c n : Int} {t u : TypeId} {fr fs : Nat × Nat} (hA : w.heap[g]? = some (.cells (row x) t fr)) (hC : w.heap[k]? = some (.cells #[.int .u8 o, .int .i64 a, .int .i64 b, .int .i64 c, .int .i64 n] u fs)) (hg : w.grownBy w' none) (hp : g ≠ p) (hq : k ≠ p) :
    (w'.setRow p (row y)).rangeAt g 0 (rl x) ∧ (w'.setRow p (row y)).cell? ⟨k, 0, none⟩ = some (.int .u8 o) ∧ (w'.setRow p (row y)).cell? ⟨k, 1, none⟩ = some (.int .i64 a) ∧ (w'.setRow p (row y)).cell? ⟨k, 2, none⟩ = some (.int .i64 b) ∧ (w'.setRow p (row y)).cell? ⟨k, 3, none⟩ = some (.int .i64 c) ∧ (w'.setRow p (row y)).cell? ⟨k, 4, none⟩ = some (.int .i64 n) :=
  ⟨range_of ((setRow_other _ _ _ _ hp).trans (row_grown hA hg)), cells5 ((setRow_other _ _ _ _ hq).trans (row_grown hC hg))⟩
set_option maxHeartbeats 4000000 in
theorem made_1 (x : List Int) (hx : x.length = 16) (a b c n : Int) (w : World) : Calls Tryd.prog 18 #[.agg (row x), .agg #[.int .u8 1, .int .i64 a, .int .i64 b, .int .i64 c, .int .i64 n]] w fun e w' => e = .returned (.agg (row (pt x a (val 1 (gt x b) (gt x c))))) ∧ w.grownBy w' none := by
  obtain ⟨w3, hw3, hg3, hA3, hC3', hB3⟩ := boxes3 w x ⟨1, a, b, c, n⟩
  have hC3 : w3.heap[w.heap.size + 1]? = some (.cells #[.int .u8 1, .int .i64 a, .int .i64 b, .int .i64 c, .int .i64 n] 28 (0, 0)) := hC3'
  have HW3 : Hid (((w.alloc (.cells (row x) 23)).alloc (.cells #[.int .u8 1, .int .i64 a, .int .i64 b, .int .i64 c, .int .i64 n] 28)).alloc _ = w3) := Lib.hid hw3
  have HG3 := Lib.hid hg3
  have HB3 := Lib.hid hB3
  have HK := Lib.hid (keepX hA3 hC3)
  have HS := Lib.hid (fun w' y hg => keepS (y := y) hA3 hC3 (w' := w') hg (p := w.heap.size + 1 + 1) (by omega) (by omega))
  have hix : ∀ w, (Instr.index 44 (.agg wks) (.int .u8 1)).run Tryd.prog w = .ok (.func (.func 27) #[] #[]) w := fun w => idxW 1 _ (by decide) rfl w
  have HGT : Hid (∀ n w, _) := Lib.hid fun n w => get_any x hx n w
  have HPT : Hid (∀ n v w, _) := Lib.hid fun n v w => put_any x hx n v w
  have HWK : Hid (∀ w, _) := Lib.hid fun w => works_row w
  have HF : Hid (∀ y z w, Calls Tryd.prog 27 #[.int .u32 y, .int .u32 z] w fun e w' => e = .returned (.int .u32 (val 1 y z)) ∧ w = w') := Lib.hid fun y z w => sum_any y z w
  have HL : Hid ((pt x a (val 1 (gt x b) (gt x c))).length = 16) := Lib.hid (pt_len hx _ _)
  obtain ⟨t, nn, HT, hagg, hsize, hsz, hld, hst⟩ := namedR
  have hsz := hsz _ HL.out
  have HST : Hid (∀ W, _) := Lib.hid fun W => hst (w.heap.size + 1 + 1) (pt x a (val 1 (gt x b) (gt x c))) zero HL.out zero_size W
  have hld := hld w.heap.size x hx
  have HZ : Hid (w.heap.size + 1 + 1 < w3.heap.size) := Lib.hid (Array.getElem?_eq_some_iff.1 hB3).1
  clear hw3 hg3 hA3 hC3 hC3' hB3 hst hx
  go_enter Tryd.func18, Tryd.ntmps18
  go_upto_region 1 with fail
  rw [HW3.out]
  go_region_held3 (fun w' => w'.rangeAt w.heap.size 0 (rl x) ∧ w'.cell? ⟨w.heap.size + 1, 0, none⟩ = some (.int .u8 1) ∧ w'.cell? ⟨w.heap.size + 1, 1, none⟩ = some (.int .i64 a) ∧ w'.cell? ⟨w.heap.size + 1, 2, none⟩ = some (.int .i64 b) ∧ w'.cell? ⟨w.heap.size + 1, 3, none⟩ = some (.int .i64 c) ∧ w'.cell? ⟨w.heap.size + 1, 4, none⟩ = some (.int .i64 n))
    (first | (with_reducible exact HK.out _ (grown_refl _ _)) | (with_reducible exact HK.out _ (grown_drew (grown_refl _ _))) | (with_reducible exact HK.out _ HG4.out))
    (first | (go_at_call 23; ((with_reducible refine (HWK.out _).mono ?_); rintro e w4 ⟨rfl, hg4⟩; have HG4 := Lib.hid (grown_trans (grown_drew (grown_refl w3 none)) hg4); clear hg4)))
  have HG4' := Lib.hid (grown_drew HG4.out)
  go_upto_region 10 with fail
  rw [HT.out.1, HT.out.2]
  go_region_held3 (fun w' => w'.rangeAt w.heap.size 0 (rl x) ∧ w'.cell? ⟨w.heap.size + 1, 0, none⟩ = some (.int .u8 1) ∧ w'.cell? ⟨w.heap.size + 1, 1, none⟩ = some (.int .i64 a) ∧ w'.cell? ⟨w.heap.size + 1, 2, none⟩ = some (.int .i64 b) ∧ w'.cell? ⟨w.heap.size + 1, 3, none⟩ = some (.int .i64 c) ∧ w'.cell? ⟨w.heap.size + 1, 4, none⟩ = some (.int .i64 n))
    (first | (with_reducible exact HK.out _ HG4'.out) | (with_reducible exact HK.out _ HG4.out) | (with_reducible exact HK.out _ HG5.out) | (with_reducible exact HK.out _ HG6.out) | (with_reducible exact HK.out _ HG7.out) | (with_reducible exact HK.out _ HG8.out) | (with_reducible exact HS.out _ _ HG8.out))
    (first
      | (go_at_call 15; ((with_reducible refine (HGT.out _ _).mono ?_); rintro e w5 ⟨rfl, hg5⟩; have HG5 := Lib.hid (grown_trans HG4'.out hg5); clear hg5))
      | (go_at_call 15; ((with_reducible refine (HGT.out _ _).mono ?_); rintro e w6 ⟨rfl, hg6⟩; have HG6 := Lib.hid (grown_trans HG5.out hg6); clear hg6))
      | (go_at_call 27; ((with_reducible refine (HF.out _ _ _).mono ?_); rintro e w7 ⟨rfl, rfl⟩))
      | (go_at_call 13; ((with_reducible refine (HPT.out _ _ _).mono ?_); rintro e w8 ⟨rfl, hg8⟩; have HG8 := Lib.hid (grown_trans HG6.out hg8); have HB8 := Lib.hid (row_grown HB3.out HG8.out); have hs8 := HST.out _ HB8.out; have fz := frz HB8.out; clear hg8)))
  go_wp2_with fail
  refine retR rfl HL.out (by rfl) (setRow_heap _ _ _ _ _ _ HB8.out) ?_
  exact ⟨rfl, grown_setRow (grown_trans HG3.out HG8.out) _ (by omega) _⟩
set_option maxHeartbeats 4000000 in
theorem made_2 (x : List Int) (hx : x.length = 16) (a b c n : Int) (w : World) : Calls Tryd.prog 18 #[.agg (row x), .agg #[.int .u8 2, .int .i64 a, .int .i64 b, .int .i64 c, .int .i64 n]] w fun e w' => e = .returned (.agg (row (pt x a (val 2 (gt x b) (gt x c))))) ∧ w.grownBy w' none := by
  obtain ⟨w3, hw3, hg3, hA3, hC3', hB3⟩ := boxes3 w x ⟨2, a, b, c, n⟩
  have hC3 : w3.heap[w.heap.size + 1]? = some (.cells #[.int .u8 2, .int .i64 a, .int .i64 b, .int .i64 c, .int .i64 n] 28 (0, 0)) := hC3'
  have HW3 : Hid (((w.alloc (.cells (row x) 23)).alloc (.cells #[.int .u8 2, .int .i64 a, .int .i64 b, .int .i64 c, .int .i64 n] 28)).alloc _ = w3) := Lib.hid hw3
  have HG3 := Lib.hid hg3
  have HB3 := Lib.hid hB3
  have HK := Lib.hid (keepX hA3 hC3)
  have HS := Lib.hid (fun w' y hg => keepS (y := y) hA3 hC3 (w' := w') hg (p := w.heap.size + 1 + 1) (by omega) (by omega))
  have hix : ∀ w, (Instr.index 44 (.agg wks) (.int .u8 2)).run Tryd.prog w = .ok (.func (.func 30) #[] #[]) w := fun w => idxW 2 _ (by decide) rfl w
  have HGT : Hid (∀ n w, _) := Lib.hid fun n w => get_any x hx n w
  have HPT : Hid (∀ n v w, _) := Lib.hid fun n v w => put_any x hx n v w
  have HWK : Hid (∀ w, _) := Lib.hid fun w => works_row w
  have HF : Hid (∀ y z w, Calls Tryd.prog 30 #[.int .u32 y, .int .u32 z] w fun e w' => e = .returned (.int .u32 (val 2 y z)) ∧ w = w') := Lib.hid fun y z w => sub_any y z w
  have HL : Hid ((pt x a (val 2 (gt x b) (gt x c))).length = 16) := Lib.hid (pt_len hx _ _)
  obtain ⟨t, nn, HT, hagg, hsize, hsz, hld, hst⟩ := namedR
  have hsz := hsz _ HL.out
  have HST : Hid (∀ W, _) := Lib.hid fun W => hst (w.heap.size + 1 + 1) (pt x a (val 2 (gt x b) (gt x c))) zero HL.out zero_size W
  have hld := hld w.heap.size x hx
  have HZ : Hid (w.heap.size + 1 + 1 < w3.heap.size) := Lib.hid (Array.getElem?_eq_some_iff.1 hB3).1
  clear hw3 hg3 hA3 hC3 hC3' hB3 hst hx
  go_enter Tryd.func18, Tryd.ntmps18
  go_upto_region 1 with fail
  rw [HW3.out]
  go_region_held3 (fun w' => w'.rangeAt w.heap.size 0 (rl x) ∧ w'.cell? ⟨w.heap.size + 1, 0, none⟩ = some (.int .u8 2) ∧ w'.cell? ⟨w.heap.size + 1, 1, none⟩ = some (.int .i64 a) ∧ w'.cell? ⟨w.heap.size + 1, 2, none⟩ = some (.int .i64 b) ∧ w'.cell? ⟨w.heap.size + 1, 3, none⟩ = some (.int .i64 c) ∧ w'.cell? ⟨w.heap.size + 1, 4, none⟩ = some (.int .i64 n))
    (first | (with_reducible exact HK.out _ (grown_refl _ _)) | (with_reducible exact HK.out _ (grown_drew (grown_refl _ _))) | (with_reducible exact HK.out _ HG4.out))
    (first | (go_at_call 23; ((with_reducible refine (HWK.out _).mono ?_); rintro e w4 ⟨rfl, hg4⟩; have HG4 := Lib.hid (grown_trans (grown_drew (grown_refl w3 none)) hg4); clear hg4)))
  have HG4' := Lib.hid (grown_drew HG4.out)
  go_upto_region 10 with fail
  rw [HT.out.1, HT.out.2]
  go_region_held3 (fun w' => w'.rangeAt w.heap.size 0 (rl x) ∧ w'.cell? ⟨w.heap.size + 1, 0, none⟩ = some (.int .u8 2) ∧ w'.cell? ⟨w.heap.size + 1, 1, none⟩ = some (.int .i64 a) ∧ w'.cell? ⟨w.heap.size + 1, 2, none⟩ = some (.int .i64 b) ∧ w'.cell? ⟨w.heap.size + 1, 3, none⟩ = some (.int .i64 c) ∧ w'.cell? ⟨w.heap.size + 1, 4, none⟩ = some (.int .i64 n))
    (first | (with_reducible exact HK.out _ HG4'.out) | (with_reducible exact HK.out _ HG4.out) | (with_reducible exact HK.out _ HG5.out) | (with_reducible exact HK.out _ HG6.out) | (with_reducible exact HK.out _ HG7.out) | (with_reducible exact HK.out _ HG8.out) | (with_reducible exact HS.out _ _ HG8.out))
    (first
      | (go_at_call 15; ((with_reducible refine (HGT.out _ _).mono ?_); rintro e w5 ⟨rfl, hg5⟩; have HG5 := Lib.hid (grown_trans HG4'.out hg5); clear hg5))
      | (go_at_call 15; ((with_reducible refine (HGT.out _ _).mono ?_); rintro e w6 ⟨rfl, hg6⟩; have HG6 := Lib.hid (grown_trans HG5.out hg6); clear hg6))
      | (go_at_call 30; ((with_reducible refine (HF.out _ _ _).mono ?_); rintro e w7 ⟨rfl, rfl⟩))
      | (go_at_call 13; ((with_reducible refine (HPT.out _ _ _).mono ?_); rintro e w8 ⟨rfl, hg8⟩; have HG8 := Lib.hid (grown_trans HG6.out hg8); have HB8 := Lib.hid (row_grown HB3.out HG8.out); have hs8 := HST.out _ HB8.out; have fz := frz HB8.out; clear hg8)))
  go_wp2_with fail
  refine retR rfl HL.out (by rfl) (setRow_heap _ _ _ _ _ _ HB8.out) ?_
  exact ⟨rfl, grown_setRow (grown_trans HG3.out HG8.out) _ (by omega) _⟩
set_option maxHeartbeats 4000000 in
theorem made_3 (x : List Int) (hx : x.length = 16) (a b c n : Int) (w : World) : Calls Tryd.prog 18 #[.agg (row x), .agg #[.int .u8 3, .int .i64 a, .int .i64 b, .int .i64 c, .int .i64 n]] w fun e w' => e = .returned (.agg (row (pt x a (val 3 (gt x b) (gt x c))))) ∧ w.grownBy w' none := by
  obtain ⟨w3, hw3, hg3, hA3, hC3', hB3⟩ := boxes3 w x ⟨3, a, b, c, n⟩
  have hC3 : w3.heap[w.heap.size + 1]? = some (.cells #[.int .u8 3, .int .i64 a, .int .i64 b, .int .i64 c, .int .i64 n] 28 (0, 0)) := hC3'
  have HW3 : Hid (((w.alloc (.cells (row x) 23)).alloc (.cells #[.int .u8 3, .int .i64 a, .int .i64 b, .int .i64 c, .int .i64 n] 28)).alloc _ = w3) := Lib.hid hw3
  have HG3 := Lib.hid hg3
  have HB3 := Lib.hid hB3
  have HK := Lib.hid (keepX hA3 hC3)
  have HS := Lib.hid (fun w' y hg => keepS (y := y) hA3 hC3 (w' := w') hg (p := w.heap.size + 1 + 1) (by omega) (by omega))
  have hix : ∀ w, (Instr.index 44 (.agg wks) (.int .u8 3)).run Tryd.prog w = .ok (.func (.func 31) #[] #[]) w := fun w => idxW 3 _ (by decide) rfl w
  have HGT : Hid (∀ n w, _) := Lib.hid fun n w => get_any x hx n w
  have HPT : Hid (∀ n v w, _) := Lib.hid fun n v w => put_any x hx n v w
  have HWK : Hid (∀ w, _) := Lib.hid fun w => works_row w
  have HF : Hid (∀ y z w, Calls Tryd.prog 31 #[.int .u32 y, .int .u32 z] w fun e w' => e = .returned (.int .u32 (val 3 y z)) ∧ w = w') := Lib.hid fun y z w => and_any y z w
  have HL : Hid ((pt x a (val 3 (gt x b) (gt x c))).length = 16) := Lib.hid (pt_len hx _ _)
  obtain ⟨t, nn, HT, hagg, hsize, hsz, hld, hst⟩ := namedR
  have hsz := hsz _ HL.out
  have HST : Hid (∀ W, _) := Lib.hid fun W => hst (w.heap.size + 1 + 1) (pt x a (val 3 (gt x b) (gt x c))) zero HL.out zero_size W
  have hld := hld w.heap.size x hx
  have HZ : Hid (w.heap.size + 1 + 1 < w3.heap.size) := Lib.hid (Array.getElem?_eq_some_iff.1 hB3).1
  clear hw3 hg3 hA3 hC3 hC3' hB3 hst hx
  go_enter Tryd.func18, Tryd.ntmps18
  go_upto_region 1 with fail
  rw [HW3.out]
  go_region_held3 (fun w' => w'.rangeAt w.heap.size 0 (rl x) ∧ w'.cell? ⟨w.heap.size + 1, 0, none⟩ = some (.int .u8 3) ∧ w'.cell? ⟨w.heap.size + 1, 1, none⟩ = some (.int .i64 a) ∧ w'.cell? ⟨w.heap.size + 1, 2, none⟩ = some (.int .i64 b) ∧ w'.cell? ⟨w.heap.size + 1, 3, none⟩ = some (.int .i64 c) ∧ w'.cell? ⟨w.heap.size + 1, 4, none⟩ = some (.int .i64 n))
    (first | (with_reducible exact HK.out _ (grown_refl _ _)) | (with_reducible exact HK.out _ (grown_drew (grown_refl _ _))) | (with_reducible exact HK.out _ HG4.out))
    (first | (go_at_call 23; ((with_reducible refine (HWK.out _).mono ?_); rintro e w4 ⟨rfl, hg4⟩; have HG4 := Lib.hid (grown_trans (grown_drew (grown_refl w3 none)) hg4); clear hg4)))
  have HG4' := Lib.hid (grown_drew HG4.out)
  go_upto_region 10 with fail
  rw [HT.out.1, HT.out.2]
  go_region_held3 (fun w' => w'.rangeAt w.heap.size 0 (rl x) ∧ w'.cell? ⟨w.heap.size + 1, 0, none⟩ = some (.int .u8 3) ∧ w'.cell? ⟨w.heap.size + 1, 1, none⟩ = some (.int .i64 a) ∧ w'.cell? ⟨w.heap.size + 1, 2, none⟩ = some (.int .i64 b) ∧ w'.cell? ⟨w.heap.size + 1, 3, none⟩ = some (.int .i64 c) ∧ w'.cell? ⟨w.heap.size + 1, 4, none⟩ = some (.int .i64 n))
    (first | (with_reducible exact HK.out _ HG4'.out) | (with_reducible exact HK.out _ HG4.out) | (with_reducible exact HK.out _ HG5.out) | (with_reducible exact HK.out _ HG6.out) | (with_reducible exact HK.out _ HG7.out) | (with_reducible exact HK.out _ HG8.out) | (with_reducible exact HS.out _ _ HG8.out))
    (first
      | (go_at_call 15; ((with_reducible refine (HGT.out _ _).mono ?_); rintro e w5 ⟨rfl, hg5⟩; have HG5 := Lib.hid (grown_trans HG4'.out hg5); clear hg5))
      | (go_at_call 15; ((with_reducible refine (HGT.out _ _).mono ?_); rintro e w6 ⟨rfl, hg6⟩; have HG6 := Lib.hid (grown_trans HG5.out hg6); clear hg6))
      | (go_at_call 31; ((with_reducible refine (HF.out _ _ _).mono ?_); rintro e w7 ⟨rfl, rfl⟩))
      | (go_at_call 13; ((with_reducible refine (HPT.out _ _ _).mono ?_); rintro e w8 ⟨rfl, hg8⟩; have HG8 := Lib.hid (grown_trans HG6.out hg8); have HB8 := Lib.hid (row_grown HB3.out HG8.out); have hs8 := HST.out _ HB8.out; have fz := frz HB8.out; clear hg8)))
  go_wp2_with fail
  refine retR rfl HL.out (by rfl) (setRow_heap _ _ _ _ _ _ HB8.out) ?_
  exact ⟨rfl, grown_setRow (grown_trans HG3.out HG8.out) _ (by omega) _⟩
set_option maxHeartbeats 4000000 in
theorem made_4 (x : List Int) (hx : x.length = 16) (a b c n : Int) (w : World) : Calls Tryd.prog 18 #[.agg (row x), .agg #[.int .u8 4, .int .i64 a, .int .i64 b, .int .i64 c, .int .i64 n]] w fun e w' => e = .returned (.agg (row (pt x a (val 4 (gt x b) (gt x c))))) ∧ w.grownBy w' none := by
  obtain ⟨w3, hw3, hg3, hA3, hC3', hB3⟩ := boxes3 w x ⟨4, a, b, c, n⟩
  have hC3 : w3.heap[w.heap.size + 1]? = some (.cells #[.int .u8 4, .int .i64 a, .int .i64 b, .int .i64 c, .int .i64 n] 28 (0, 0)) := hC3'
  have HW3 : Hid (((w.alloc (.cells (row x) 23)).alloc (.cells #[.int .u8 4, .int .i64 a, .int .i64 b, .int .i64 c, .int .i64 n] 28)).alloc _ = w3) := Lib.hid hw3
  have HG3 := Lib.hid hg3
  have HB3 := Lib.hid hB3
  have HK := Lib.hid (keepX hA3 hC3)
  have HS := Lib.hid (fun w' y hg => keepS (y := y) hA3 hC3 (w' := w') hg (p := w.heap.size + 1 + 1) (by omega) (by omega))
  have hix : ∀ w, (Instr.index 44 (.agg wks) (.int .u8 4)).run Tryd.prog w = .ok (.func (.func 32) #[] #[]) w := fun w => idxW 4 _ (by decide) rfl w
  have HGT : Hid (∀ n w, _) := Lib.hid fun n w => get_any x hx n w
  have HPT : Hid (∀ n v w, _) := Lib.hid fun n v w => put_any x hx n v w
  have HWK : Hid (∀ w, _) := Lib.hid fun w => works_row w
  have HF : Hid (∀ y z w, Calls Tryd.prog 32 #[.int .u32 y, .int .u32 z] w fun e w' => e = .returned (.int .u32 (val 4 y z)) ∧ w = w') := Lib.hid fun y z w => or_any y z w
  have HL : Hid ((pt x a (val 4 (gt x b) (gt x c))).length = 16) := Lib.hid (pt_len hx _ _)
  obtain ⟨t, nn, HT, hagg, hsize, hsz, hld, hst⟩ := namedR
  have hsz := hsz _ HL.out
  have HST : Hid (∀ W, _) := Lib.hid fun W => hst (w.heap.size + 1 + 1) (pt x a (val 4 (gt x b) (gt x c))) zero HL.out zero_size W
  have hld := hld w.heap.size x hx
  have HZ : Hid (w.heap.size + 1 + 1 < w3.heap.size) := Lib.hid (Array.getElem?_eq_some_iff.1 hB3).1
  clear hw3 hg3 hA3 hC3 hC3' hB3 hst hx
  go_enter Tryd.func18, Tryd.ntmps18
  go_upto_region 1 with fail
  rw [HW3.out]
  go_region_held3 (fun w' => w'.rangeAt w.heap.size 0 (rl x) ∧ w'.cell? ⟨w.heap.size + 1, 0, none⟩ = some (.int .u8 4) ∧ w'.cell? ⟨w.heap.size + 1, 1, none⟩ = some (.int .i64 a) ∧ w'.cell? ⟨w.heap.size + 1, 2, none⟩ = some (.int .i64 b) ∧ w'.cell? ⟨w.heap.size + 1, 3, none⟩ = some (.int .i64 c) ∧ w'.cell? ⟨w.heap.size + 1, 4, none⟩ = some (.int .i64 n))
    (first | (with_reducible exact HK.out _ (grown_refl _ _)) | (with_reducible exact HK.out _ (grown_drew (grown_refl _ _))) | (with_reducible exact HK.out _ HG4.out))
    (first | (go_at_call 23; ((with_reducible refine (HWK.out _).mono ?_); rintro e w4 ⟨rfl, hg4⟩; have HG4 := Lib.hid (grown_trans (grown_drew (grown_refl w3 none)) hg4); clear hg4)))
  have HG4' := Lib.hid (grown_drew HG4.out)
  go_upto_region 10 with fail
  rw [HT.out.1, HT.out.2]
  go_region_held3 (fun w' => w'.rangeAt w.heap.size 0 (rl x) ∧ w'.cell? ⟨w.heap.size + 1, 0, none⟩ = some (.int .u8 4) ∧ w'.cell? ⟨w.heap.size + 1, 1, none⟩ = some (.int .i64 a) ∧ w'.cell? ⟨w.heap.size + 1, 2, none⟩ = some (.int .i64 b) ∧ w'.cell? ⟨w.heap.size + 1, 3, none⟩ = some (.int .i64 c) ∧ w'.cell? ⟨w.heap.size + 1, 4, none⟩ = some (.int .i64 n))
    (first | (with_reducible exact HK.out _ HG4'.out) | (with_reducible exact HK.out _ HG4.out) | (with_reducible exact HK.out _ HG5.out) | (with_reducible exact HK.out _ HG6.out) | (with_reducible exact HK.out _ HG7.out) | (with_reducible exact HK.out _ HG8.out) | (with_reducible exact HS.out _ _ HG8.out))
    (first
      | (go_at_call 15; ((with_reducible refine (HGT.out _ _).mono ?_); rintro e w5 ⟨rfl, hg5⟩; have HG5 := Lib.hid (grown_trans HG4'.out hg5); clear hg5))
      | (go_at_call 15; ((with_reducible refine (HGT.out _ _).mono ?_); rintro e w6 ⟨rfl, hg6⟩; have HG6 := Lib.hid (grown_trans HG5.out hg6); clear hg6))
      | (go_at_call 32; ((with_reducible refine (HF.out _ _ _).mono ?_); rintro e w7 ⟨rfl, rfl⟩))
      | (go_at_call 13; ((with_reducible refine (HPT.out _ _ _).mono ?_); rintro e w8 ⟨rfl, hg8⟩; have HG8 := Lib.hid (grown_trans HG6.out hg8); have HB8 := Lib.hid (row_grown HB3.out HG8.out); have hs8 := HST.out _ HB8.out; have fz := frz HB8.out; clear hg8)))
  go_wp2_with fail
  refine retR rfl HL.out (by rfl) (setRow_heap _ _ _ _ _ _ HB8.out) ?_
  exact ⟨rfl, grown_setRow (grown_trans HG3.out HG8.out) _ (by omega) _⟩
set_option maxHeartbeats 4000000 in
theorem made_5 (x : List Int) (hx : x.length = 16) (a b c n : Int) (w : World) : Calls Tryd.prog 18 #[.agg (row x), .agg #[.int .u8 5, .int .i64 a, .int .i64 b, .int .i64 c, .int .i64 n]] w fun e w' => e = .returned (.agg (row (pt x a (val 5 (gt x b) (gt x c))))) ∧ w.grownBy w' none := by
  obtain ⟨w3, hw3, hg3, hA3, hC3', hB3⟩ := boxes3 w x ⟨5, a, b, c, n⟩
  have hC3 : w3.heap[w.heap.size + 1]? = some (.cells #[.int .u8 5, .int .i64 a, .int .i64 b, .int .i64 c, .int .i64 n] 28 (0, 0)) := hC3'
  have HW3 : Hid (((w.alloc (.cells (row x) 23)).alloc (.cells #[.int .u8 5, .int .i64 a, .int .i64 b, .int .i64 c, .int .i64 n] 28)).alloc _ = w3) := Lib.hid hw3
  have HG3 := Lib.hid hg3
  have HB3 := Lib.hid hB3
  have HK := Lib.hid (keepX hA3 hC3)
  have HS := Lib.hid (fun w' y hg => keepS (y := y) hA3 hC3 (w' := w') hg (p := w.heap.size + 1 + 1) (by omega) (by omega))
  have hix : ∀ w, (Instr.index 44 (.agg wks) (.int .u8 5)).run Tryd.prog w = .ok (.func (.func 33) #[] #[]) w := fun w => idxW 5 _ (by decide) rfl w
  have HGT : Hid (∀ n w, _) := Lib.hid fun n w => get_any x hx n w
  have HPT : Hid (∀ n v w, _) := Lib.hid fun n v w => put_any x hx n v w
  have HWK : Hid (∀ w, _) := Lib.hid fun w => works_row w
  have HF : Hid (∀ y z w, Calls Tryd.prog 33 #[.int .u32 y, .int .u32 z] w fun e w' => e = .returned (.int .u32 (val 5 y z)) ∧ w = w') := Lib.hid fun y z w => xor_any y z w
  have HL : Hid ((pt x a (val 5 (gt x b) (gt x c))).length = 16) := Lib.hid (pt_len hx _ _)
  obtain ⟨t, nn, HT, hagg, hsize, hsz, hld, hst⟩ := namedR
  have hsz := hsz _ HL.out
  have HST : Hid (∀ W, _) := Lib.hid fun W => hst (w.heap.size + 1 + 1) (pt x a (val 5 (gt x b) (gt x c))) zero HL.out zero_size W
  have hld := hld w.heap.size x hx
  have HZ : Hid (w.heap.size + 1 + 1 < w3.heap.size) := Lib.hid (Array.getElem?_eq_some_iff.1 hB3).1
  clear hw3 hg3 hA3 hC3 hC3' hB3 hst hx
  go_enter Tryd.func18, Tryd.ntmps18
  go_upto_region 1 with fail
  rw [HW3.out]
  go_region_held3 (fun w' => w'.rangeAt w.heap.size 0 (rl x) ∧ w'.cell? ⟨w.heap.size + 1, 0, none⟩ = some (.int .u8 5) ∧ w'.cell? ⟨w.heap.size + 1, 1, none⟩ = some (.int .i64 a) ∧ w'.cell? ⟨w.heap.size + 1, 2, none⟩ = some (.int .i64 b) ∧ w'.cell? ⟨w.heap.size + 1, 3, none⟩ = some (.int .i64 c) ∧ w'.cell? ⟨w.heap.size + 1, 4, none⟩ = some (.int .i64 n))
    (first | (with_reducible exact HK.out _ (grown_refl _ _)) | (with_reducible exact HK.out _ (grown_drew (grown_refl _ _))) | (with_reducible exact HK.out _ HG4.out))
    (first | (go_at_call 23; ((with_reducible refine (HWK.out _).mono ?_); rintro e w4 ⟨rfl, hg4⟩; have HG4 := Lib.hid (grown_trans (grown_drew (grown_refl w3 none)) hg4); clear hg4)))
  have HG4' := Lib.hid (grown_drew HG4.out)
  go_upto_region 10 with fail
  rw [HT.out.1, HT.out.2]
  go_region_held3 (fun w' => w'.rangeAt w.heap.size 0 (rl x) ∧ w'.cell? ⟨w.heap.size + 1, 0, none⟩ = some (.int .u8 5) ∧ w'.cell? ⟨w.heap.size + 1, 1, none⟩ = some (.int .i64 a) ∧ w'.cell? ⟨w.heap.size + 1, 2, none⟩ = some (.int .i64 b) ∧ w'.cell? ⟨w.heap.size + 1, 3, none⟩ = some (.int .i64 c) ∧ w'.cell? ⟨w.heap.size + 1, 4, none⟩ = some (.int .i64 n))
    (first | (with_reducible exact HK.out _ HG4'.out) | (with_reducible exact HK.out _ HG4.out) | (with_reducible exact HK.out _ HG5.out) | (with_reducible exact HK.out _ HG6.out) | (with_reducible exact HK.out _ HG7.out) | (with_reducible exact HK.out _ HG8.out) | (with_reducible exact HS.out _ _ HG8.out))
    (first
      | (go_at_call 15; ((with_reducible refine (HGT.out _ _).mono ?_); rintro e w5 ⟨rfl, hg5⟩; have HG5 := Lib.hid (grown_trans HG4'.out hg5); clear hg5))
      | (go_at_call 15; ((with_reducible refine (HGT.out _ _).mono ?_); rintro e w6 ⟨rfl, hg6⟩; have HG6 := Lib.hid (grown_trans HG5.out hg6); clear hg6))
      | (go_at_call 33; ((with_reducible refine (HF.out _ _ _).mono ?_); rintro e w7 ⟨rfl, rfl⟩))
      | (go_at_call 13; ((with_reducible refine (HPT.out _ _ _).mono ?_); rintro e w8 ⟨rfl, hg8⟩; have HG8 := Lib.hid (grown_trans HG6.out hg8); have HB8 := Lib.hid (row_grown HB3.out HG8.out); have hs8 := HST.out _ HB8.out; have fz := frz HB8.out; clear hg8)))
  go_wp2_with fail
  refine retR rfl HL.out (by rfl) (setRow_heap _ _ _ _ _ _ HB8.out) ?_
  exact ⟨rfl, grown_setRow (grown_trans HG3.out HG8.out) _ (by omega) _⟩
set_option maxHeartbeats 4000000 in
theorem made_6 (x : List Int) (hx : x.length = 16) (a b c n : Int) (w : World) : Calls Tryd.prog 18 #[.agg (row x), .agg #[.int .u8 6, .int .i64 a, .int .i64 b, .int .i64 c, .int .i64 n]] w fun e w' => e = .returned (.agg (row (pt x a (val 6 (gt x b) (gt x c))))) ∧ w.grownBy w' none := by
  obtain ⟨w3, hw3, hg3, hA3, hC3', hB3⟩ := boxes3 w x ⟨6, a, b, c, n⟩
  have hC3 : w3.heap[w.heap.size + 1]? = some (.cells #[.int .u8 6, .int .i64 a, .int .i64 b, .int .i64 c, .int .i64 n] 28 (0, 0)) := hC3'
  have HW3 : Hid (((w.alloc (.cells (row x) 23)).alloc (.cells #[.int .u8 6, .int .i64 a, .int .i64 b, .int .i64 c, .int .i64 n] 28)).alloc _ = w3) := Lib.hid hw3
  have HG3 := Lib.hid hg3
  have HB3 := Lib.hid hB3
  have HK := Lib.hid (keepX hA3 hC3)
  have HS := Lib.hid (fun w' y hg => keepS (y := y) hA3 hC3 (w' := w') hg (p := w.heap.size + 1 + 1) (by omega) (by omega))
  have hix : ∀ w, (Instr.index 44 (.agg wks) (.int .u8 6)).run Tryd.prog w = .ok (.func (.func 28) #[] #[]) w := fun w => idxW 6 _ (by decide) rfl w
  have HGT : Hid (∀ n w, _) := Lib.hid fun n w => get_any x hx n w
  have HPT : Hid (∀ n v w, _) := Lib.hid fun n v w => put_any x hx n v w
  have HWK : Hid (∀ w, _) := Lib.hid fun w => works_row w
  have HF : Hid (∀ y z w, Calls Tryd.prog 28 #[.int .u32 y, .int .u32 z] w fun e w' => e = .returned (.int .u32 (val 6 y z)) ∧ w = w') := Lib.hid fun y z w => less_any y z w
  have HL : Hid ((pt x a (val 6 (gt x b) (gt x c))).length = 16) := Lib.hid (pt_len hx _ _)
  obtain ⟨t, nn, HT, hagg, hsize, hsz, hld, hst⟩ := namedR
  have hsz := hsz _ HL.out
  have HST : Hid (∀ W, _) := Lib.hid fun W => hst (w.heap.size + 1 + 1) (pt x a (val 6 (gt x b) (gt x c))) zero HL.out zero_size W
  have hld := hld w.heap.size x hx
  have HZ : Hid (w.heap.size + 1 + 1 < w3.heap.size) := Lib.hid (Array.getElem?_eq_some_iff.1 hB3).1
  clear hw3 hg3 hA3 hC3 hC3' hB3 hst hx
  go_enter Tryd.func18, Tryd.ntmps18
  go_upto_region 1 with fail
  rw [HW3.out]
  go_region_held3 (fun w' => w'.rangeAt w.heap.size 0 (rl x) ∧ w'.cell? ⟨w.heap.size + 1, 0, none⟩ = some (.int .u8 6) ∧ w'.cell? ⟨w.heap.size + 1, 1, none⟩ = some (.int .i64 a) ∧ w'.cell? ⟨w.heap.size + 1, 2, none⟩ = some (.int .i64 b) ∧ w'.cell? ⟨w.heap.size + 1, 3, none⟩ = some (.int .i64 c) ∧ w'.cell? ⟨w.heap.size + 1, 4, none⟩ = some (.int .i64 n))
    (first | (with_reducible exact HK.out _ (grown_refl _ _)) | (with_reducible exact HK.out _ (grown_drew (grown_refl _ _))) | (with_reducible exact HK.out _ HG4.out))
    (first | (go_at_call 23; ((with_reducible refine (HWK.out _).mono ?_); rintro e w4 ⟨rfl, hg4⟩; have HG4 := Lib.hid (grown_trans (grown_drew (grown_refl w3 none)) hg4); clear hg4)))
  have HG4' := Lib.hid (grown_drew HG4.out)
  go_upto_region 10 with fail
  rw [HT.out.1, HT.out.2]
  go_region_held3 (fun w' => w'.rangeAt w.heap.size 0 (rl x) ∧ w'.cell? ⟨w.heap.size + 1, 0, none⟩ = some (.int .u8 6) ∧ w'.cell? ⟨w.heap.size + 1, 1, none⟩ = some (.int .i64 a) ∧ w'.cell? ⟨w.heap.size + 1, 2, none⟩ = some (.int .i64 b) ∧ w'.cell? ⟨w.heap.size + 1, 3, none⟩ = some (.int .i64 c) ∧ w'.cell? ⟨w.heap.size + 1, 4, none⟩ = some (.int .i64 n))
    (first | (with_reducible exact HK.out _ HG4'.out) | (with_reducible exact HK.out _ HG4.out) | (with_reducible exact HK.out _ HG5.out) | (with_reducible exact HK.out _ HG6.out) | (with_reducible exact HK.out _ HG7.out) | (with_reducible exact HK.out _ HG8.out) | (with_reducible exact HS.out _ _ HG8.out))
    (first
      | (go_at_call 15; ((with_reducible refine (HGT.out _ _).mono ?_); rintro e w5 ⟨rfl, hg5⟩; have HG5 := Lib.hid (grown_trans HG4'.out hg5); clear hg5))
      | (go_at_call 15; ((with_reducible refine (HGT.out _ _).mono ?_); rintro e w6 ⟨rfl, hg6⟩; have HG6 := Lib.hid (grown_trans HG5.out hg6); clear hg6))
      | (go_at_call 28; ((with_reducible refine (HF.out _ _ _).mono ?_); rintro e w7 ⟨rfl, rfl⟩))
      | (go_at_call 13; ((with_reducible refine (HPT.out _ _ _).mono ?_); rintro e w8 ⟨rfl, hg8⟩; have HG8 := Lib.hid (grown_trans HG6.out hg8); have HB8 := Lib.hid (row_grown HB3.out HG8.out); have hs8 := HST.out _ HB8.out; have fz := frz HB8.out; clear hg8)))
  go_wp2_with fail
  refine retR rfl HL.out (by rfl) (setRow_heap _ _ _ _ _ _ HB8.out) ?_
  exact ⟨rfl, grown_setRow (grown_trans HG3.out HG8.out) _ (by omega) _⟩
set_option maxHeartbeats 4000000 in
theorem made_7 (x : List Int) (hx : x.length = 16) (a b c n : Int) (w : World) : Calls Tryd.prog 18 #[.agg (row x), .agg #[.int .u8 7, .int .i64 a, .int .i64 b, .int .i64 c, .int .i64 n]] w fun e w' => e = .returned (.agg (row (pt x a (val 7 (gt x b) (gt x c))))) ∧ w.grownBy w' none := by
  obtain ⟨w3, hw3, hg3, hA3, hC3', hB3⟩ := boxes3 w x ⟨7, a, b, c, n⟩
  have hC3 : w3.heap[w.heap.size + 1]? = some (.cells #[.int .u8 7, .int .i64 a, .int .i64 b, .int .i64 c, .int .i64 n] 28 (0, 0)) := hC3'
  have HW3 : Hid (((w.alloc (.cells (row x) 23)).alloc (.cells #[.int .u8 7, .int .i64 a, .int .i64 b, .int .i64 c, .int .i64 n] 28)).alloc _ = w3) := Lib.hid hw3
  have HG3 := Lib.hid hg3
  have HB3 := Lib.hid hB3
  have HK := Lib.hid (keepX hA3 hC3)
  have HS := Lib.hid (fun w' y hg => keepS (y := y) hA3 hC3 (w' := w') hg (p := w.heap.size + 1 + 1) (by omega) (by omega))
  have hix : ∀ w, (Instr.index 44 (.agg wks) (.int .u8 7)).run Tryd.prog w = .ok (.func (.func 34) #[] #[]) w := fun w => idxW 7 _ (by decide) rfl w
  have HGT : Hid (∀ n w, _) := Lib.hid fun n w => get_any x hx n w
  have HPT : Hid (∀ n v w, _) := Lib.hid fun n v w => put_any x hx n v w
  have HWK : Hid (∀ w, _) := Lib.hid fun w => works_row w
  have HF : Hid (∀ y z w, Calls Tryd.prog 34 #[.int .u32 y, .int .u32 z] w fun e w' => e = .returned (.int .u32 (val 7 y z)) ∧ w = w') := Lib.hid fun y z w => mul_any y z w
  have HL : Hid ((pt x a (val 7 (gt x b) (gt x c))).length = 16) := Lib.hid (pt_len hx _ _)
  obtain ⟨t, nn, HT, hagg, hsize, hsz, hld, hst⟩ := namedR
  have hsz := hsz _ HL.out
  have HST : Hid (∀ W, _) := Lib.hid fun W => hst (w.heap.size + 1 + 1) (pt x a (val 7 (gt x b) (gt x c))) zero HL.out zero_size W
  have hld := hld w.heap.size x hx
  have HZ : Hid (w.heap.size + 1 + 1 < w3.heap.size) := Lib.hid (Array.getElem?_eq_some_iff.1 hB3).1
  clear hw3 hg3 hA3 hC3 hC3' hB3 hst hx
  go_enter Tryd.func18, Tryd.ntmps18
  go_upto_region 1 with fail
  rw [HW3.out]
  go_region_held3 (fun w' => w'.rangeAt w.heap.size 0 (rl x) ∧ w'.cell? ⟨w.heap.size + 1, 0, none⟩ = some (.int .u8 7) ∧ w'.cell? ⟨w.heap.size + 1, 1, none⟩ = some (.int .i64 a) ∧ w'.cell? ⟨w.heap.size + 1, 2, none⟩ = some (.int .i64 b) ∧ w'.cell? ⟨w.heap.size + 1, 3, none⟩ = some (.int .i64 c) ∧ w'.cell? ⟨w.heap.size + 1, 4, none⟩ = some (.int .i64 n))
    (first | (with_reducible exact HK.out _ (grown_refl _ _)) | (with_reducible exact HK.out _ (grown_drew (grown_refl _ _))) | (with_reducible exact HK.out _ HG4.out))
    (first | (go_at_call 23; ((with_reducible refine (HWK.out _).mono ?_); rintro e w4 ⟨rfl, hg4⟩; have HG4 := Lib.hid (grown_trans (grown_drew (grown_refl w3 none)) hg4); clear hg4)))
  have HG4' := Lib.hid (grown_drew HG4.out)
  go_upto_region 10 with fail
  rw [HT.out.1, HT.out.2]
  go_region_held3 (fun w' => w'.rangeAt w.heap.size 0 (rl x) ∧ w'.cell? ⟨w.heap.size + 1, 0, none⟩ = some (.int .u8 7) ∧ w'.cell? ⟨w.heap.size + 1, 1, none⟩ = some (.int .i64 a) ∧ w'.cell? ⟨w.heap.size + 1, 2, none⟩ = some (.int .i64 b) ∧ w'.cell? ⟨w.heap.size + 1, 3, none⟩ = some (.int .i64 c) ∧ w'.cell? ⟨w.heap.size + 1, 4, none⟩ = some (.int .i64 n))
    (first | (with_reducible exact HK.out _ HG4'.out) | (with_reducible exact HK.out _ HG4.out) | (with_reducible exact HK.out _ HG5.out) | (with_reducible exact HK.out _ HG6.out) | (with_reducible exact HK.out _ HG7.out) | (with_reducible exact HK.out _ HG8.out) | (with_reducible exact HS.out _ _ HG8.out))
    (first
      | (go_at_call 15; ((with_reducible refine (HGT.out _ _).mono ?_); rintro e w5 ⟨rfl, hg5⟩; have HG5 := Lib.hid (grown_trans HG4'.out hg5); clear hg5))
      | (go_at_call 15; ((with_reducible refine (HGT.out _ _).mono ?_); rintro e w6 ⟨rfl, hg6⟩; have HG6 := Lib.hid (grown_trans HG5.out hg6); clear hg6))
      | (go_at_call 34; ((with_reducible refine (HF.out _ _ _).mono ?_); rintro e w7 ⟨rfl, rfl⟩))
      | (go_at_call 13; ((with_reducible refine (HPT.out _ _ _).mono ?_); rintro e w8 ⟨rfl, hg8⟩; have HG8 := Lib.hid (grown_trans HG6.out hg8); have HB8 := Lib.hid (row_grown HB3.out HG8.out); have hs8 := HST.out _ HB8.out; have fz := frz HB8.out; clear hg8)))
  go_wp2_with fail
  refine retR rfl HL.out (by rfl) (setRow_heap _ _ _ _ _ _ HB8.out) ?_
  exact ⟨rfl, grown_setRow (grown_trans HG3.out HG8.out) _ (by omega) _⟩
set_option maxHeartbeats 4000000 in
theorem made_8 (x : List Int) (hx : x.length = 16) (a b c n : Int) (w : World) : Calls Tryd.prog 18 #[.agg (row x), .agg #[.int .u8 8, .int .i64 a, .int .i64 b, .int .i64 c, .int .i64 n]] w fun e w' => e = .returned (.agg (row (pt x a (val 8 (gt x b) (IntKind.u32.wrap n))))) ∧ w.grownBy w' none := by
  obtain ⟨w3, hw3, hg3, hA3, hC3', hB3⟩ := boxes3 w x ⟨8, a, b, c, n⟩
  have hC3 : w3.heap[w.heap.size + 1]? = some (.cells #[.int .u8 8, .int .i64 a, .int .i64 b, .int .i64 c, .int .i64 n] 28 (0, 0)) := hC3'
  have HW3 : Hid (((w.alloc (.cells (row x) 23)).alloc (.cells #[.int .u8 8, .int .i64 a, .int .i64 b, .int .i64 c, .int .i64 n] 28)).alloc _ = w3) := Lib.hid hw3
  have HG3 := Lib.hid hg3
  have HB3 := Lib.hid hB3
  have HK := Lib.hid (keepX hA3 hC3)
  have HS := Lib.hid (fun w' y hg => keepS (y := y) hA3 hC3 (w' := w') hg (p := w.heap.size + 1 + 1) (by omega) (by omega))
  have hix : ∀ w, (Instr.index 44 (.agg wks) (.int .u8 8)).run Tryd.prog w = .ok (.func (.func 27) #[] #[]) w := fun w => idxW 8 _ (by decide) rfl w
  have HGT : Hid (∀ n w, _) := Lib.hid fun n w => get_any x hx n w
  have HPT : Hid (∀ n v w, _) := Lib.hid fun n v w => put_any x hx n v w
  have HWK : Hid (∀ w, _) := Lib.hid fun w => works_row w
  have HF : Hid (∀ y z w, Calls Tryd.prog 27 #[.int .u32 y, .int .u32 z] w fun e w' => e = .returned (.int .u32 (val 8 y z)) ∧ w = w') := Lib.hid fun y z w => sum_any y z w
  have HL : Hid ((pt x a (val 8 (gt x b) (IntKind.u32.wrap n))).length = 16) := Lib.hid (pt_len hx _ _)
  obtain ⟨t, nn, HT, hagg, hsize, hsz, hld, hst⟩ := namedR
  have hsz := hsz _ HL.out
  have HST : Hid (∀ W, _) := Lib.hid fun W => hst (w.heap.size + 1 + 1) (pt x a (val 8 (gt x b) (IntKind.u32.wrap n))) zero HL.out zero_size W
  have hld := hld w.heap.size x hx
  have HZ : Hid (w.heap.size + 1 + 1 < w3.heap.size) := Lib.hid (Array.getElem?_eq_some_iff.1 hB3).1
  clear hw3 hg3 hA3 hC3 hC3' hB3 hst hx
  go_enter Tryd.func18, Tryd.ntmps18
  go_upto_region 1 with fail
  rw [HW3.out]
  go_region_held3 (fun w' => w'.rangeAt w.heap.size 0 (rl x) ∧ w'.cell? ⟨w.heap.size + 1, 0, none⟩ = some (.int .u8 8) ∧ w'.cell? ⟨w.heap.size + 1, 1, none⟩ = some (.int .i64 a) ∧ w'.cell? ⟨w.heap.size + 1, 2, none⟩ = some (.int .i64 b) ∧ w'.cell? ⟨w.heap.size + 1, 3, none⟩ = some (.int .i64 c) ∧ w'.cell? ⟨w.heap.size + 1, 4, none⟩ = some (.int .i64 n))
    (first | (with_reducible exact HK.out _ (grown_refl _ _)) | (with_reducible exact HK.out _ (grown_drew (grown_refl _ _))) | (with_reducible exact HK.out _ HG4.out))
    (first | (go_at_call 23; ((with_reducible refine (HWK.out _).mono ?_); rintro e w4 ⟨rfl, hg4⟩; have HG4 := Lib.hid (grown_trans (grown_drew (grown_refl w3 none)) hg4); clear hg4)))
  have HG4' := Lib.hid (grown_drew HG4.out)
  go_upto_region 13 with fail
  rw [HT.out.1, HT.out.2]
  go_region_held3 (fun w' => w'.rangeAt w.heap.size 0 (rl x) ∧ w'.cell? ⟨w.heap.size + 1, 0, none⟩ = some (.int .u8 8) ∧ w'.cell? ⟨w.heap.size + 1, 1, none⟩ = some (.int .i64 a) ∧ w'.cell? ⟨w.heap.size + 1, 2, none⟩ = some (.int .i64 b) ∧ w'.cell? ⟨w.heap.size + 1, 3, none⟩ = some (.int .i64 c) ∧ w'.cell? ⟨w.heap.size + 1, 4, none⟩ = some (.int .i64 n))
    (first | (with_reducible exact HK.out _ HG4'.out) | (with_reducible exact HK.out _ HG4.out) | (with_reducible exact HK.out _ HG5.out) | (with_reducible exact HK.out _ HG6.out) | (with_reducible exact HK.out _ HG7.out) | (with_reducible exact HK.out _ HG8.out) | (with_reducible exact HS.out _ _ HG8.out))
    (first
      | (go_at_call 15; ((with_reducible refine (HGT.out _ _).mono ?_); rintro e w5 ⟨rfl, hg5⟩; have HG5 := Lib.hid (grown_trans HG4'.out hg5); clear hg5))
      | (go_at_call 27; ((with_reducible refine (HF.out _ _ _).mono ?_); rintro e w7 ⟨rfl, rfl⟩))
      | (go_at_call 13; ((with_reducible refine (HPT.out _ _ _).mono ?_); rintro e w8 ⟨rfl, hg8⟩; have HG8 := Lib.hid (grown_trans HG5.out hg8); have HB8 := Lib.hid (row_grown HB3.out HG8.out); have hs8 := HST.out _ HB8.out; have fz := frz HB8.out; clear hg8)))
  go_wp2_with fail
  refine retR rfl HL.out (by rfl) (setRow_heap _ _ _ _ _ _ HB8.out) ?_
  exact ⟨rfl, grown_setRow (grown_trans HG3.out HG8.out) _ (by omega) _⟩
set_option maxHeartbeats 4000000 in
theorem made_12 (x : List Int) (hx : x.length = 16) (a b c n : Int) (w : World) : Calls Tryd.prog 18 #[.agg (row x), .agg #[.int .u8 12, .int .i64 a, .int .i64 b, .int .i64 c, .int .i64 n]] w fun e w' => e = .returned (.agg (row (pt x a (val 12 (gt x b) (IntKind.u32.wrap n))))) ∧ w.grownBy w' none := by
  obtain ⟨w3, hw3, hg3, hA3, hC3', hB3⟩ := boxes3 w x ⟨12, a, b, c, n⟩
  have hC3 : w3.heap[w.heap.size + 1]? = some (.cells #[.int .u8 12, .int .i64 a, .int .i64 b, .int .i64 c, .int .i64 n] 28 (0, 0)) := hC3'
  have HW3 : Hid (((w.alloc (.cells (row x) 23)).alloc (.cells #[.int .u8 12, .int .i64 a, .int .i64 b, .int .i64 c, .int .i64 n] 28)).alloc _ = w3) := Lib.hid hw3
  have HG3 := Lib.hid hg3
  have HB3 := Lib.hid hB3
  have HK := Lib.hid (keepX hA3 hC3)
  have HS := Lib.hid (fun w' y hg => keepS (y := y) hA3 hC3 (w' := w') hg (p := w.heap.size + 1 + 1) (by omega) (by omega))
  have hix : ∀ w, (Instr.index 44 (.agg wks) (.int .u8 12)).run Tryd.prog w = .ok (.func (.func 35) #[] #[]) w := fun w => idxW 12 _ (by decide) rfl w
  have HGT : Hid (∀ n w, _) := Lib.hid fun n w => get_any x hx n w
  have HPT : Hid (∀ n v w, _) := Lib.hid fun n v w => put_any x hx n v w
  have HWK : Hid (∀ w, _) := Lib.hid fun w => works_row w
  have HF : Hid (∀ y z w, Calls Tryd.prog 35 #[.int .u32 y, .int .u32 z] w fun e w' => e = .returned (.int .u32 (val 12 y z)) ∧ w = w') := Lib.hid fun y z w => set_any y z w
  have HL : Hid ((pt x a (val 12 (gt x b) (IntKind.u32.wrap n))).length = 16) := Lib.hid (pt_len hx _ _)
  obtain ⟨t, nn, HT, hagg, hsize, hsz, hld, hst⟩ := namedR
  have hsz := hsz _ HL.out
  have HST : Hid (∀ W, _) := Lib.hid fun W => hst (w.heap.size + 1 + 1) (pt x a (val 12 (gt x b) (IntKind.u32.wrap n))) zero HL.out zero_size W
  have hld := hld w.heap.size x hx
  have HZ : Hid (w.heap.size + 1 + 1 < w3.heap.size) := Lib.hid (Array.getElem?_eq_some_iff.1 hB3).1
  clear hw3 hg3 hA3 hC3 hC3' hB3 hst hx
  go_enter Tryd.func18, Tryd.ntmps18
  go_upto_region 1 with fail
  rw [HW3.out]
  go_region_held3 (fun w' => w'.rangeAt w.heap.size 0 (rl x) ∧ w'.cell? ⟨w.heap.size + 1, 0, none⟩ = some (.int .u8 12) ∧ w'.cell? ⟨w.heap.size + 1, 1, none⟩ = some (.int .i64 a) ∧ w'.cell? ⟨w.heap.size + 1, 2, none⟩ = some (.int .i64 b) ∧ w'.cell? ⟨w.heap.size + 1, 3, none⟩ = some (.int .i64 c) ∧ w'.cell? ⟨w.heap.size + 1, 4, none⟩ = some (.int .i64 n))
    (first | (with_reducible exact HK.out _ (grown_refl _ _)) | (with_reducible exact HK.out _ (grown_drew (grown_refl _ _))) | (with_reducible exact HK.out _ HG4.out))
    (first | (go_at_call 23; ((with_reducible refine (HWK.out _).mono ?_); rintro e w4 ⟨rfl, hg4⟩; have HG4 := Lib.hid (grown_trans (grown_drew (grown_refl w3 none)) hg4); clear hg4)))
  have HG4' := Lib.hid (grown_drew HG4.out)
  go_upto_region 13 with fail
  rw [HT.out.1, HT.out.2]
  go_region_held3 (fun w' => w'.rangeAt w.heap.size 0 (rl x) ∧ w'.cell? ⟨w.heap.size + 1, 0, none⟩ = some (.int .u8 12) ∧ w'.cell? ⟨w.heap.size + 1, 1, none⟩ = some (.int .i64 a) ∧ w'.cell? ⟨w.heap.size + 1, 2, none⟩ = some (.int .i64 b) ∧ w'.cell? ⟨w.heap.size + 1, 3, none⟩ = some (.int .i64 c) ∧ w'.cell? ⟨w.heap.size + 1, 4, none⟩ = some (.int .i64 n))
    (first | (with_reducible exact HK.out _ HG4'.out) | (with_reducible exact HK.out _ HG4.out) | (with_reducible exact HK.out _ HG5.out) | (with_reducible exact HK.out _ HG6.out) | (with_reducible exact HK.out _ HG7.out) | (with_reducible exact HK.out _ HG8.out) | (with_reducible exact HS.out _ _ HG8.out))
    (first
      | (go_at_call 15; ((with_reducible refine (HGT.out _ _).mono ?_); rintro e w5 ⟨rfl, hg5⟩; have HG5 := Lib.hid (grown_trans HG4'.out hg5); clear hg5))
      | (go_at_call 35; ((with_reducible refine (HF.out _ _ _).mono ?_); rintro e w7 ⟨rfl, rfl⟩))
      | (go_at_call 13; ((with_reducible refine (HPT.out _ _ _).mono ?_); rintro e w8 ⟨rfl, hg8⟩; have HG8 := Lib.hid (grown_trans HG5.out hg8); have HB8 := Lib.hid (row_grown HB3.out HG8.out); have hs8 := HST.out _ HB8.out; have fz := frz HB8.out; clear hg8)))
  go_wp2_with fail
  refine retR rfl HL.out (by rfl) (setRow_heap _ _ _ _ _ _ HB8.out) ?_
  exact ⟨rfl, grown_setRow (grown_trans HG3.out HG8.out) _ (by omega) _⟩
set_option maxHeartbeats 4000000 in
theorem made_other (x : List Int) (hx : x.length = 16) (o : Nat) (v : Value) (hv : wks[o]? = some v) (a b c n : Int) (w : World) (ho : o < 22) (h1 : ¬ (1 ≤ o ∧ o ≤ 7)) (h2 : ¬ o = 8) (h3 : ¬ o = 12) : Calls Tryd.prog 18 #[.agg (row x), .agg #[.int .u8 (o : Int), .int .i64 a, .int .i64 b, .int .i64 c, .int .i64 n]] w fun e w' => e = .returned (.agg (row x)) ∧ w.grownBy w' none := by
  obtain ⟨w3, hw3, hg3, hA3, hC3, hB3⟩ := boxes3 w x ⟨o, a, b, c, n⟩
  unfold ca at hC3 hw3
  simp only at hC3 hw3
  have HW3 := Lib.hid hw3
  have HG3 := Lib.hid hg3
  have HB3 := Lib.hid hB3
  have HA3 := Lib.hid hA3
  have HK := Lib.hid (keepX hA3 hC3)
  have hix : ∀ w, (Instr.index 44 (.agg wks) (.int .u8 (o : Int))).run Tryd.prog w = .ok v w := fun w => idxW o _ ho hv w
  have HWK : Hid (∀ w, _) := Lib.hid fun w => works_row w
  have HX := Lib.hid hx
  have HZ : Hid (w.heap.size + 1 + 1 < w3.heap.size) := Lib.hid (Array.getElem?_eq_some_iff.1 hB3).1
  have e1 : ((o : Int) == 1) = false := beq_eq_false_iff_ne.2 (by omega)
  have e2 : ((o : Int) == 2) = false := beq_eq_false_iff_ne.2 (by omega)
  have e3 : ((o : Int) == 3) = false := beq_eq_false_iff_ne.2 (by omega)
  have e4 : ((o : Int) == 4) = false := beq_eq_false_iff_ne.2 (by omega)
  have e5 : ((o : Int) == 5) = false := beq_eq_false_iff_ne.2 (by omega)
  have e6 : ((o : Int) == 6) = false := beq_eq_false_iff_ne.2 (by omega)
  have e7 : ((o : Int) == 7) = false := beq_eq_false_iff_ne.2 (by omega)
  have e8 : ((o : Int) == 8) = false := beq_eq_false_iff_ne.2 (by omega)
  have e12 : ((o : Int) == 12) = false := beq_eq_false_iff_ne.2 (by omega)
  clear hw3 hg3 hA3 hC3 hB3 hx h1 h2 h3 hv
  go_enter Tryd.func18, Tryd.ntmps18
  go_upto_region 1 with fail
  rw [HW3.out]
  go_region_held3 (fun w' => w'.rangeAt w.heap.size 0 (rl x) ∧ w'.cell? ⟨w.heap.size + 1, 0, none⟩ = some (.int .u8 (o : Int)) ∧ w'.cell? ⟨w.heap.size + 1, 1, none⟩ = some (.int .i64 a) ∧ w'.cell? ⟨w.heap.size + 1, 2, none⟩ = some (.int .i64 b) ∧ w'.cell? ⟨w.heap.size + 1, 3, none⟩ = some (.int .i64 c) ∧ w'.cell? ⟨w.heap.size + 1, 4, none⟩ = some (.int .i64 n))
    (first | (with_reducible exact HK.out _ (grown_refl _ _)) | (with_reducible exact HK.out _ (grown_drew (grown_refl _ _))) | (with_reducible exact HK.out _ HG4.out))
    (first | (go_at_call 23; ((with_reducible refine (HWK.out _).mono ?_); rintro e w4 ⟨rfl, hg4⟩; have HG4 := Lib.hid (grown_trans (grown_drew (grown_refl w3 none)) hg4); clear hg4)))
  go_wp2_with (first
    | ((with_reducible refine load_any x 2 w.heap.size ?_ ?_ HX.out ?_); ((rfl)); ((exact row_grown HA3.out HG4.out)))
    | ((with_reducible refine store_any x zero 4 50 (w.heap.size + 1 + 1) ?_ ?_ HX.out ?_ zero_size ?_); ((rfl)); ((rfl)); ((exact row_grown HB3.out HG4.out))))
  refine retR rfl HX.out (by rfl) (setRow_heap _ _ _ _ _ _ (row_grown HB3.out HG4.out)) ?_
  exact ⟨rfl, grown_setRow (grown_trans HG3.out HG4.out) _ (by omega) _⟩
theorem made_any (x : List Int) (hx : x.length = 16) (c : Cd) (w : World) (ho : c.op < 22) : Calls Tryd.prog 18 #[.agg (row x), .agg (ca c)] w fun e w' => e = .returned (.agg (row (res x c))) ∧ w.grownBy w' none := by
  obtain ⟨op, a, b, c, n⟩ := c
  simp only at ho
  unfold ca
  by_cases h1 : 1 ≤ op ∧ op ≤ 7
  · rw [show res x ⟨op, a, b, c, n⟩ = pt x a (val op (gt x b) (gt x c)) from if_pos h1]
    obtain rfl | rfl | rfl | rfl | rfl | rfl | rfl : op = 1 ∨ op = 2 ∨ op = 3 ∨ op = 4 ∨ op = 5 ∨ op = 6 ∨ op = 7 := by omega
    · exact made_1 x hx a b c n w
    · exact made_2 x hx a b c n w
    · exact made_3 x hx a b c n w
    · exact made_4 x hx a b c n w
    · exact made_5 x hx a b c n w
    · exact made_6 x hx a b c n w
    · exact made_7 x hx a b c n w
  · by_cases h2 : op = 8 ∨ op = 12
    · rw [show res x ⟨op, a, b, c, n⟩ = pt x a (val op (gt x b) (IntKind.u32.wrap n)) from (if_neg h1).trans (if_pos h2)]
      rcases h2 with rfl | rfl
      · exact made_8 x hx a b c n w
      · exact made_12 x hx a b c n w
    · rw [show res x ⟨op, a, b, c, n⟩ = x from (if_neg h1).trans (if_neg h2)]
      exact made_other x hx op wks[op] (Array.getElem?_eq_getElem (show op < wks.size from ho)) a b c n w ho h1 (fun h => h2 (.inl h)) (fun h => h2 (.inr h))
end Go.Proofs.YtmfckkioccmblaaDoor.sg
