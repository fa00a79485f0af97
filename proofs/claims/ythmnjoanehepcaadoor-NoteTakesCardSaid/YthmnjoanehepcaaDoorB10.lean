/-
  What the document's Take answers: contract. No condition but the bounds that the theorem names.
-/
import Derived.Test.YthmnjoanehepcaaDoorB9
import Derived.Test.YthmnjoanehepcaaDoorA6
namespace Go.Proofs.YthmnjoanehepcaaDoor.nn
open Go Go.ChangeShapes Go.WideShapes Go.ChangeAt Go.RowKit
set_option linter.unusedVariables false

theorem eq_dec (a : Int) (b : Nat) (h : a = (b : Int)) : (a == 1) = decide (b = 1) := by
  subst h
  by_cases hb : b = 1
  · subst hb; rfl
  · rw [decide_eq_false hb]; simp; omega
theorem three_cells {w : World} {g : Nat} {k f t b st : Int} (h : w.heap[g]? = some (.cells (na (bare k f t b st 0 false false)) 31 (0, 0))) :
    (w.cell? ⟨g, 5, none⟩ = some (.int .u8 0) ∧ w.cell? ⟨g, 6, none⟩ = some (.bool false) ∧ w.cell? ⟨g, 7, none⟩ = some (.bool false)) ∧ w.frozen? ⟨g, 5, none⟩ = false ∧ w.frozen? ⟨g, 6, none⟩ = false ∧ w.frozen? ⟨g, 7, none⟩ = false :=
  ⟨⟨cell_at (range_of h) 5 _ rfl, cell_at (range_of h) 6 _ rfl, cell_at (range_of h) 7 _ rfl⟩, frozen_of_row _ _ _ _ _ h, frozen_of_row _ _ _ _ _ h, frozen_of_row _ _ _ _ _ h⟩
theorem fin3 {w : World} {g : Nat} {l : List UInt8} (h : w.heap[g]? = some (.cells (na (bare (bn l 0) ((bn l 1 : Int) - 1) ((bn l 2 : Int) - 1) (pv l 3 2) (pv l 5 8) 0 false false)) 31 (0, 0))) :
    (((w.setCell ⟨g, 5, none⟩ (.int .u8 ((bn l 13 : Int) / 4))).setCell ⟨g, 6, none⟩ (.bool (decide (bn l 13 / 2 % 2 = 1)))).setCell ⟨g, 7, none⟩ (.bool (decide (bn l 13 % 2 = 1)))).heap[g]? = some (.cells (na (tki l 0)) 31 (0, 0)) := by
  have b := blk_setCell (o := 7) (.bool (decide (bn l 13 % 2 = 1))) (blk_setCell (o := 6) (.bool (decide (bn l 13 / 2 % 2 = 1))) (blk_setCell (o := 5) (.int .u8 ((bn l 13 : Int) / 4)) h))
  rw [b, tki_zero, bare_na]
  rfl
theorem fin3g {wc w : World} {v5 v6 v7 : Value} (h : wc.grownBy w none) : wc.grownBy (((w.setCell ⟨wc.heap.size, 5, none⟩ v5).setCell ⟨wc.heap.size, 6, none⟩ v6).setCell ⟨wc.heap.size, 7, none⟩ v7) none :=
  grown_new h (Nat.le_refl _) (grown_trans (grown_setCells _ _ 5 [_]) (grown_trans (grown_setCells _ _ 6 [_]) (grown_setCells _ _ 7 [_])))
theorem rtake_len (l : List UInt8) (hl : l.length ≤ 1000000) (w : World) (h : l.length ≠ 78) : Calls Tryd.prog 18 #[S l] w fun e w' => e = .returned (.tuple #[.agg (na zn), .int .i64 6]) ∧ w.grownBy w' none := by
  have hsz : (ByteArray.mk l.toArray).size = l.length := by show l.toArray.size = _; simp
  have hd : decide ((l.length : Int) = 78) = false := by simp; omega
  have HZ : Hid (na zn = _) := Lib.hid (bare_na 0 0 0 0 0 0 false false)
  obtain ⟨wa, hwa⟩ : ∃ wa, w.alloc (.cells (na zn) 31) = wa := ⟨_, rfl⟩
  obtain ⟨wb, hwb⟩ : ∃ wb, wa.alloc (.cells (na zn) 31) = wb := ⟨_, rfl⟩
  have HB : Hid (wb.heap[w.heap.size]? = some (.cells (na zn) 31 (0, 0)) ∧ wb.heap[wa.heap.size]? = some (.cells (na zn) 31 (0, 0)) ∧ w.grownBy wb none ∧ w.heap.size < wa.heap.size) := Lib.hid ⟨by
      rw [← hwb, ← hwa]
      exact (Below.heap_alloc _ _ _ (by simp)).trans (heap_alloc_new _ _), by rw [← hwb]; exact heap_alloc_new _ _, by rw [← hwb, ← hwa]; exact grown_alloc (grown_alloc (grown_refl _ _) _) _, by rw [← hwa]; simp⟩
  have HC : Hid ((wb.setRow wa.heap.size (na zn)).heap[w.heap.size]? = some (.cells (na zn) 31 (0, 0)) ∧ (wb.setRow wa.heap.size (na zn)).heap[wa.heap.size]? = some (.cells (na zn) 31 (0, 0)) ∧ w.grownBy (wb.setRow wa.heap.size (na zn)) none) := Lib.hid
    ⟨(setRow_other _ _ _ _ (by have := HB.out.2.2.2; omega)).trans HB.out.1, setRow_heap _ _ _ _ _ _ HB.out.2.1, grown_setRow HB.out.2.2.1 _ (by have := HB.out.2.2.2; omega) _⟩
  rw [HZ.out] at hwa hwb
  go_enter Tryd.func18, Tryd.ntmps18
  go_wp2_with (first
    | ((with_reducible refine store_any zn _ 4 7 wa.heap.size ?_ ?_ HB.out.2.1 ?_ ?_); (rfl); (rfl); (rfl))
    | ((with_reducible refine load_nt zn 4 wa.heap.size ?_ (range_of HC.out.2.1) ?_); (rfl))
    | ((with_reducible refine store_any zn _ 2 11 w.heap.size ?_ ?_ HC.out.1 ?_ ?_); (rfl); (rfl); (rfl)))
  exact ret_nt2 rfl _ zn _ w.heap.size _ _ (by rfl) (by rfl) (range_of (setRow_heap _ _ _ _ _ _ HC.out.1)) ⟨rfl, grown_setRow HC.out.2.2 _ (Nat.le_refl _) _⟩

set_option maxRecDepth 1000000 in
set_option maxHeartbeats 4000000 in
theorem rtake_78 (l : List UInt8) (hl : l.length = 78) (w : World) : Calls Tryd.prog 18 #[S l] w fun e w' => e = .returned (if (tk l).ok then .tuple #[.agg (na (tk l)), .int .i64 0] else .tuple #[.agg (na zn), .int .i64 6]) ∧ w.grownBy w' none := by
  have hsz : (ByteArray.mk l.toArray).size = 78 := by show l.toArray.size = _; simp [hl]
  have g0 := bn_get l 0 (by omega)
  have g1 := bn_get l 1 (by omega)
  have g2 := bn_get l 2 (by omega)
  have g13 := bn_get l 13 (by omega)
  have x3 : (ByteArray.mk l.toArray).extract 3 5 = ⟨((l.drop 3).take 2).toArray⟩ := ext_s l 3 5
  have x5 : (ByteArray.mk l.toArray).extract 5 13 = ⟨((l.drop 5).take 8).toArray⟩ := ext_s l 5 13
  have HN3 := Lib.hid (value_part l 3 2 (by omega))
  have HN5 := Lib.hid (value_part l 5 8 (by omega))
  have e1 : IntKind.i64.wrap (bn l 1 : Int) = bn l 1 := IntWalk.i64_in _ (by have := bn_lt l 1; omega)
  have e2 : IntKind.i64.wrap (bn l 2 : Int) = bn l 2 := IntWalk.i64_in _ (by have := bn_lt l 2; omega)
  have e3 : IntKind.i64.wrap ((bn l 1 : Int) - 1) = (bn l 1 : Int) - 1 := IntWalk.i64_in _ (by have := bn_lt l 1; omega)
  have e4 : IntKind.i64.wrap ((bn l 2 : Int) - 1) = (bn l 2 : Int) - 1 := IntWalk.i64_in _ (by have := bn_lt l 2; omega)
  have e5 : IntKind.i64.wrap (pv l 3 2 : Int) = pv l 3 2 := IntWalk.i64_in _ (by have := pv_lt l 3 2; omega)
  have HZ : Hid (na zn = _) := Lib.hid (bare_na 0 0 0 0 0 0 false false)
  obtain ⟨wa, hwa⟩ : ∃ wa, w.alloc (.cells (na zn) 31) = wa := ⟨_, rfl⟩
  obtain ⟨wb, hwb⟩ : ∃ wb, wa.alloc (.cells (na zn) 31) = wb := ⟨_, rfl⟩
  have HB : Hid (wb.heap[w.heap.size]? = some (.cells (na zn) 31 (0, 0)) ∧ wb.heap[wa.heap.size]? = some (.cells (na zn) 31 (0, 0)) ∧ w.grownBy wb none ∧ w.heap.size < wa.heap.size) := Lib.hid ⟨by
      rw [← hwb, ← hwa]
      exact (Below.heap_alloc _ _ _ (by simp)).trans (heap_alloc_new _ _), by rw [← hwb]; exact heap_alloc_new _ _, by rw [← hwb, ← hwa]; exact grown_alloc (grown_alloc (grown_refl _ _) _) _, by rw [← hwa]; simp⟩
  have HC : Hid ((wb.setRow wa.heap.size (na zn)).heap[w.heap.size]? = some (.cells (na zn) 31 (0, 0)) ∧ (wb.setRow wa.heap.size (na zn)).heap[wa.heap.size]? = some (.cells (na zn) 31 (0, 0)) ∧ w.grownBy (wb.setRow wa.heap.size (na zn)) none) := Lib.hid
    ⟨(setRow_other _ _ _ _ (by have := HB.out.2.2.2; omega)).trans HB.out.1, setRow_heap _ _ _ _ _ _ HB.out.2.1, grown_setRow HB.out.2.2.1 _ (by have := HB.out.2.2.2; omega) _⟩
  rw [HZ.out] at hwa hwb
  go_enter Tryd.func18, Tryd.ntmps18
  go_wp2_with ((with_reducible refine store_any zn _ 4 7 wa.heap.size ?_ ?_ HB.out.2.1 ?_ ?_); (rfl); (rfl); (rfl))
  clear hwb hwa
  generalize wb.setRow wa.heap.size (na zn) = wc at HC ⊢
  obtain ⟨A, hA⟩ : ∃ A, na (bare (bn l 0) ((bn l 1 : Int) - 1) ((bn l 2 : Int) - 1) (pv l 3 2) (pv l 5 8) 0 false false) = A := ⟨_, rfl⟩
  obtain ⟨t, mm, HTT, hagg, hsize, hm24, hst⟩ := named31
  have HA := Lib.hid hA
  have hAs : A.size = mm := by rw [← hA, na_size, hm24]
  have hst : (storeCells ⟨wc.heap.size, 0, none⟩ A.toList 0).run Tryd.prog (wc.alloc (.cells _ 31)).drew = .ok () (wc.alloc (.cells A 31)).drew := hst _ A _ hA (bare_size 0 0 0 0 0 0 false false) wc.drew
  rw [bare_na] at hA
  clear hm24
  rw [HTT.out]
  refine wp_region_held_drew (S := fun _ => True) (by kernel_rfl) trivial (fun hHeld => ?_)
  refine wpAnyH_take (i := 0) (oi := ⟨some 12, Op.move (Operand.tmp 0), _, _, _, _⟩) (v := ?v1) rfl (by kernel_rfl) (by kernel_rfl) (by kernel_rfl) (fun _ _ _ h => h) (Or.inl ⟨by rfl, ?hy1⟩) (by assumption) ?rest1
  case hy1 => ((intro w0 hSw; go_simp); try (with_reducible rfl))
  try simp only [Act.put, List.setIfInBounds_toArray, List.set_cons_zero, List.set_cons_succ]
  refine wpAnyH_take (i := 1) (oi := ⟨some 13, Op.index 9 (Operand.tmp 12) (Operand.const (Value.int IntKind.i64 0)), _, _, _, _⟩) (v := ?v2) rfl (by kernel_rfl) (by kernel_rfl) (by kernel_rfl) (fun _ _ _ h => h) (Or.inl ⟨by rfl, ?hy2⟩) (by assumption) ?rest2
  case hy2 => ((intro w0 hSw; go_simp); try (with_reducible rfl))
  try simp only [Act.put, List.setIfInBounds_toArray, List.set_cons_zero, List.set_cons_succ]
  refine wpAnyH_take (i := 2) (oi := ⟨some 14, Op.move (Operand.tmp 0), _, _, _, _⟩) (v := ?v3) rfl (by kernel_rfl) (by kernel_rfl) (by kernel_rfl) (fun _ _ _ h => h) (Or.inl ⟨by rfl, ?hy3⟩) (by assumption) ?rest3
  case hy3 => ((intro w0 hSw; go_simp); try (with_reducible rfl))
  try simp only [Act.put, List.setIfInBounds_toArray, List.set_cons_zero, List.set_cons_succ]
  refine wpAnyH_take (i := 3) (oi := ⟨some 15, Op.index 9 (Operand.tmp 14) (Operand.const (Value.int IntKind.i64 1)), _, _, _, _⟩) (v := ?v4) rfl (by kernel_rfl) (by kernel_rfl) (by kernel_rfl) (fun _ _ _ h => h) (Or.inl ⟨by rfl, ?hy4⟩) (by assumption) ?rest4
  case hy4 => ((intro w0 hSw; go_simp); try (with_reducible rfl))
  try simp only [Act.put, List.setIfInBounds_toArray, List.set_cons_zero, List.set_cons_succ]
  refine wpAnyH_take (i := 4) (oi := ⟨some 16, Op.convert 5 3 (Operand.tmp 15), _, _, _, _⟩) (v := ?v5) rfl (by kernel_rfl) (by kernel_rfl) (by kernel_rfl) (fun _ _ _ h => h) (Or.inl ⟨by rfl, ?hy5⟩) (by assumption) ?rest5
  case hy5 => ((intro w0 hSw; go_simp); try (with_reducible rfl))
  try simp only [Act.put, List.setIfInBounds_toArray, List.set_cons_zero, List.set_cons_succ]
  refine wpAnyH_take (i := 5) (oi := ⟨some 17, Op.binOp BinOp.sub 3 (Operand.tmp 16) (Operand.const (Value.int IntKind.i64 1)) 3, _, _, _, _⟩) (v := ?v6) rfl (by kernel_rfl) (by kernel_rfl) (by kernel_rfl) (fun _ _ _ h => h) (Or.inl ⟨by rfl, ?hy6⟩) (by assumption) ?rest6
  case hy6 => ((intro w0 hSw; go_simp); try (with_reducible rfl))
  try simp only [Act.put, List.setIfInBounds_toArray, List.set_cons_zero, List.set_cons_succ]
  refine wpAnyH_take (i := 6) (oi := ⟨some 18, Op.move (Operand.tmp 0), _, _, _, _⟩) (v := ?v7) rfl (by kernel_rfl) (by kernel_rfl) (by kernel_rfl) (fun _ _ _ h => h) (Or.inl ⟨by rfl, ?hy7⟩) (by assumption) ?rest7
  case hy7 => ((intro w0 hSw; go_simp); try (with_reducible rfl))
  try simp only [Act.put, List.setIfInBounds_toArray, List.set_cons_zero, List.set_cons_succ]
  refine wpAnyH_take (i := 7) (oi := ⟨some 19, Op.index 9 (Operand.tmp 18) (Operand.const (Value.int IntKind.i64 2)), _, _, _, _⟩) (v := ?v8) rfl (by kernel_rfl) (by kernel_rfl) (by kernel_rfl) (fun _ _ _ h => h) (Or.inl ⟨by rfl, ?hy8⟩) (by assumption) ?rest8
  case hy8 => ((intro w0 hSw; go_simp); try (with_reducible rfl))
  try simp only [Act.put, List.setIfInBounds_toArray, List.set_cons_zero, List.set_cons_succ]
  refine wpAnyH_take (i := 8) (oi := ⟨some 20, Op.convert 5 3 (Operand.tmp 19), _, _, _, _⟩) (v := ?v9) rfl (by kernel_rfl) (by kernel_rfl) (by kernel_rfl) (fun _ _ _ h => h) (Or.inl ⟨by rfl, ?hy9⟩) (by assumption) ?rest9
  case hy9 => ((intro w0 hSw; go_simp); try (with_reducible rfl))
  try simp only [Act.put, List.setIfInBounds_toArray, List.set_cons_zero, List.set_cons_succ]
  refine wpAnyH_take (i := 9) (oi := ⟨some 21, Op.binOp BinOp.sub 3 (Operand.tmp 20) (Operand.const (Value.int IntKind.i64 1)) 3, _, _, _, _⟩) (v := ?v10) rfl (by kernel_rfl) (by kernel_rfl) (by kernel_rfl) (fun _ _ _ h => h) (Or.inl ⟨by rfl, ?hy10⟩) (by assumption) ?rest10
  case hy10 => ((intro w0 hSw; go_simp); try (with_reducible rfl))
  try simp only [Act.put, List.setIfInBounds_toArray, List.set_cons_zero, List.set_cons_succ]
  refine wpAnyH_take (i := 10) (oi := ⟨some 22, Op.move (Operand.tmp 0), _, _, _, _⟩) (v := ?v11) rfl (by kernel_rfl) (by kernel_rfl) (by kernel_rfl) (fun _ _ _ h => h) (Or.inl ⟨by rfl, ?hy11⟩) (by assumption) ?rest11
  case hy11 => ((intro w0 hSw; go_simp); try (with_reducible rfl))
  try simp only [Act.put, List.setIfInBounds_toArray, List.set_cons_zero, List.set_cons_succ]
  refine wpAnyH_take (i := 11) (oi := ⟨some 23, Op.slice 9 (Operand.tmp 22) (some (Operand.const (Value.int IntKind.i64 3))) (some (Operand.const (Value.int IntKind.i64 5))) none, _, _, _, _⟩) (v := ?v12) rfl (by kernel_rfl) (by kernel_rfl) (by kernel_rfl) (fun _ _ _ h => h) (Or.inl ⟨by rfl, ?hy12⟩) (by assumption) ?rest12
  case hy12 => ((intro w0 hSw; go_simp); try (with_reducible rfl))
  try simp only [Act.put, List.setIfInBounds_toArray, List.set_cons_zero, List.set_cons_succ]
  refine wpAnyH_take (i := 14) (oi := ⟨some 26, Op.move (Operand.tmp 0), _, _, _, _⟩) (v := ?v13) rfl (by kernel_rfl) (by kernel_rfl) (by kernel_rfl) (fun _ _ _ h => h) (Or.inl ⟨by rfl, ?hy13⟩) (by assumption) ?rest13
  case hy13 => ((intro w0 hSw; go_simp); try (with_reducible rfl))
  try simp only [Act.put, List.setIfInBounds_toArray, List.set_cons_zero, List.set_cons_succ]
  refine wpAnyH_take (i := 15) (oi := ⟨some 27, Op.slice 9 (Operand.tmp 26) (some (Operand.const (Value.int IntKind.i64 5))) (some (Operand.const (Value.int IntKind.i64 13))) none, _, _, _, _⟩) (v := ?v14) rfl (by kernel_rfl) (by kernel_rfl) (by kernel_rfl) (fun _ _ _ h => h) (Or.inl ⟨by rfl, ?hy14⟩) (by assumption) ?rest14
  case hy14 => ((intro w0 hSw; go_simp); try (with_reducible rfl))
  try simp only [Act.put, List.setIfInBounds_toArray, List.set_cons_zero, List.set_cons_succ]
  refine wpAnyH_ready (rs := [12, 18]) (by kernel_rfl) (by simp) ?_
  refine AllReadyH.cons (o := ⟨some 24, Op.call { callee := Callee.value (Operand.func 31), args := #[(Operand.tmp 23)], argTypes := #[9] }, _, _, _, _⟩) rfl (fun K hK => ?_) ?_
  · go_simp
    (with_reducible refine (HN3.out _).mono ?_); rintro e w9 ⟨rfl, rfl⟩
    go_wp2_with fail
    refine hK.out _ _ trivial (fun hHeld => ?_)
    clear hK K
    try simp only [Act.put, List.setIfInBounds_toArray, List.set_cons_zero, List.set_cons_succ]
    refine wpAnyH_take (i := 13) (oi := ⟨some 25, Op.convert 25 3 (Operand.tmp 24), _, _, _, _⟩) (v := ?v15) rfl (by kernel_rfl) (by kernel_rfl) (by kernel_rfl) (fun _ _ _ h => h) (Or.inl ⟨by rfl, ?hy15⟩) (by assumption) ?rest15
    case hy15 => ((intro w0 hSw; go_simp); try (with_reducible rfl))
    try simp only [Act.put, List.setIfInBounds_toArray, List.set_cons_zero, List.set_cons_succ]
    refine wpAnyH_ready (rs := [16, 18]) (by kernel_rfl) (by simp) ?_
    refine AllReadyH.cons (o := ⟨some 28, Op.call { callee := Callee.value (Operand.func 31), args := #[(Operand.tmp 27)], argTypes := #[9] }, _, _, _, _⟩) rfl (fun K hK => ?_) ?_
    · go_simp
      (with_reducible refine (HN5.out _).mono ?_); rintro e w9 ⟨rfl, rfl⟩
      go_wp2_with fail
      refine hK.out _ _ trivial (fun hHeld => ?_)
      clear hK K
      try simp only [Act.put, List.setIfInBounds_toArray, List.set_cons_zero, List.set_cons_succ]
      refine wpAnyH_take (i := 17) (oi := ⟨some 29, Op.build 31 #[(0, (Operand.tmp 13)), (1, (Operand.tmp 17)), (2, (Operand.tmp 21)), (3, (Operand.tmp 25)), (4, (Operand.tmp 28))], _, _, _, _⟩) (v := ?v16) rfl (by kernel_rfl) (by kernel_rfl) (by kernel_rfl) (fun _ _ _ h => h) (Or.inl ⟨by rfl, ?hy16⟩) (by assumption) ?rest16
      case hy16 => ((intro w0 hSw; go_simp); try (with_reducible rfl))
      try simp only [Act.put, List.setIfInBounds_toArray, List.set_cons_zero, List.set_cons_succ]
      refine wpAnyH_ready (rs := [18]) (by kernel_rfl) (by simp) ?_
      refine AllReadyH.cons (o := ⟨some 5, Op.alloc 31, _, _, _, _⟩) rfl (fun K hK => ?_) ?_
      · go_simp
        refine hK.out _ _ trivial (fun hHeld => ?_)
        clear hK K
        try simp only [Act.put, List.setIfInBounds_toArray, List.set_cons_zero, List.set_cons_succ]
        refine wpAnyH_ready (rs := [19]) (by kernel_rfl) (by simp) ?_
        refine AllReadyH.cons (o := ⟨none, Op.store t (Operand.tmp 5) (Operand.tmp 29), _, _, _, _⟩) rfl (fun K hK => ?_) ?_
        · go_simp
          refine hK.out _ _ trivial (fun hHeld => ?_)
          clear hK K
          try simp only [Act.put, List.setIfInBounds_toArray, List.set_cons_zero, List.set_cons_succ]
          refine wpAnyH_done (by kernel_rfl) ?_ _
          have HB2 : Hid ((wc.alloc (.cells A 31)).drew.heap[wc.heap.size]? = some (.cells (na (bare (bn l 0) ((bn l 1 : Int) - 1) ((bn l 2 : Int) - 1) (pv l 3 2) (pv l 5 8) 0 false false)) 31 (0, 0)) ∧ wc.grownBy (wc.alloc (.cells A 31)).drew none) := Lib.hid (HA.out ▸ ⟨heap_alloc_new wc _, grown_drew (grown_alloc (grown_refl _ _) _)⟩)
          clear hA hst hAs hagg hsize e1 e2 e3 e4 e5 g0 g1 g2 x3 x5 HN3 HN5
          generalize (wc.alloc (.cells A 31)).drew = w2 at HB2 ⊢
          clear HA HTT
          obtain ⟨⟨c5, c6, c7⟩, f5, f6, f7⟩ := three_cells HB2.out.1
          have e6 : IntKind.u8.wrap ((bn l 13 : Int) / 4) = (bn l 13 : Int) / 4 := IntWalk.u8_in _ (by have := bn_lt l 13; omega)
          have e7 : IntKind.u8.wrap ((bn l 13 : Int) / 2) = (bn l 13 : Int) / 2 := IntWalk.u8_in _ (by have := bn_lt l 13; omega)
          have h2 : ((bn l 13 : Int) / 2 % 2 == 1) = decide (bn l 13 / 2 % 2 = 1) := eq_dec _ _ (by omega)
          have h1 : ((bn l 13 : Int) % 2 == 1) = decide (bn l 13 % 2 = 1) := eq_dec _ _ (by omega)
          go_wp2_with fail
          go_loopw [6] (fun c wr => ∃ k : Nat, k ≤ 16 ∧ c = .int .i64 (k : Int) ∧ wr.heap[wc.heap.size]? = some (.cells (na (tki l k)) 31 (0, 0)) ∧ wc.grownBy wr none) (fun c _ => 16 - (intOf c).toNat)
          case atStart => exact ⟨0, by omega, rfl, fin3 HB2.out.1, fin3g HB2.out.2⟩
          case round =>
            obtain ⟨k, hk, rfl, hb, hg⟩ := hrel
            have HBK : Hid _ := Lib.hid (And.intro hb hg)
            clear hb hg c5 c6 c7 f5 f6 f7 e6 e7 h2 h1 g13
            by_cases hlt : k < 16
            · obtain ⟨⟨v0, hc⟩, hf⟩ := tki_cell hlt HBK.out.1
              have hsl := fun w => slice_part l (14 + 4 * k) 4 (by rw [hl]; omega) ((14 : Int) + 4 * (k : Int)) ((18 : Int) + 4 * (k : Int)) (by omega) (by omega) w
              have HNK := Lib.hid (value_part l (14 + 4 * k) 4 (by omega))
              have HS := Lib.hid (tki_succ l k hlt)
              have hpv : IntKind.u32.wrap (pv l (14 + 4 * k) 4 : Int) = pv l (14 + 4 * k) 4 := IntWalk.u32_in _ (by have := pv_lt l (14 + 4 * k) 4; omega)
              generalize (l.drop (14 + 4 * k)).take 4 = y at *
              generalize pv l (14 + 4 * k) 4 = p at *
              clear hsz hl
              go_wp2_with (go_at_call 31; ((with_reducible refine (HNK.out _).mono ?_); rintro e w9 ⟨rfl, rfl⟩))
              go_roundw
              case rel => exact ⟨k + 1, by omega, by go_num, by rw [← HS.out]; exact blk_setCell _ HBK.out.1, grown_new HBK.out.2 (Nat.le_refl _) (grown_setCells _ _ (8 + k) [_])⟩
              case measure => simp [intOf]; omega
            · obtain rfl : k = 16 := by omega
              have HK : Hid (wr.heap[wc.heap.size]? = some (.cells (na (tk l)) 31 (0, 0)) ∧ wc.grownBy wr none) := Lib.hid (by rw [← tki_all]; exact HBK.out)
              have hr := range_of HK.out.1
              clear hsz hl
              have HE0 : Hid (∀ w10, wr.grownBy w10 none → w10.rangeAt wc.heap.size 0 (nt (tk l)) ∧ w10.heap[w.heap.size]? = some (.cells (na zn) 31 (0, 0)) ∧ w10.rangeAt wa.heap.size 0 (nt zn) ∧ w.grownBy w10 none) := Lib.hid fun w10 hg =>
                have hh := grown_trans HK.out.2 hg
                ⟨range_grown (range_of HK.out.1) hg (by simp), (hh.block _ (lt_of HC.out.1) (by simp)).trans HC.out.1, range_grown (range_of HC.out.2.1) hh (by simp), grown_trans HC.out.2.2 hh⟩
              have HM := Lib.hid (rmay_any (tk l) wr)
              by_cases hok : (tk l).ok
              · rw [decide_eq_true hok] at HM
                have HOK := Lib.hid hok
                clear hok
                go_wp2_with (first
                  | ((with_reducible refine load_nt (tk l) 5 wc.heap.size ?_ hr ?_); (rfl))
                  | (go_at_call 15; ((with_reducible refine HM.out.mono ?_); rintro e w10 ⟨rfl, hg10⟩; have HE := Lib.hid (HE0.out w10 hg10); clear hg10 hr))
                  | ((with_reducible refine load_nt (tk l) 5 wc.heap.size ?_ HE.out.1 ?_); (rfl))
                  | ((with_reducible refine store_any (tk l) _ 2 66 w.heap.size ?_ ?_ HE.out.2.1 ?_ ?_); (rfl); (rfl); (rfl)))
                exact ret_nt2 rfl _ (tk l) _ w.heap.size _ _ (by rfl) (by rfl) (range_of (setRow_heap _ _ _ _ _ _ HE.out.2.1)) ⟨by first | rfl | rw [if_pos HOK.out], grown_setRow HE.out.2.2.2 _ (Nat.le_refl _) _⟩
              · rw [decide_eq_false hok] at HM
                have HOK := Lib.hid hok
                clear hok
                go_wp2_with (first
                  | ((with_reducible refine load_nt (tk l) 5 wc.heap.size ?_ hr ?_); (rfl))
                  | (go_at_call 15; ((with_reducible refine HM.out.mono ?_); rintro e w10 ⟨rfl, hg10⟩; have HE := Lib.hid (HE0.out w10 hg10); clear hg10 hr))
                  | ((with_reducible refine load_nt zn 4 wa.heap.size ?_ HE.out.2.2.1 ?_); (rfl))
                  | ((with_reducible refine store_any zn _ 2 65 w.heap.size ?_ ?_ HE.out.2.1 ?_ ?_); (rfl); (rfl); (rfl)))
                exact ret_nt2 rfl _ zn _ w.heap.size _ _ (by rfl) (by rfl) (range_of (setRow_heap _ _ _ _ _ _ HE.out.2.1)) ⟨by first | rfl | rw [if_neg HOK.out], grown_setRow HE.out.2.2.2 _ (Nat.le_refl _) _⟩
        exact AllReadyH.nil
      exact AllReadyH.nil
    refine AllReadyH.cons (o := ⟨some 5, Op.alloc 31, _, _, _, _⟩) rfl (fun K hK => ?_) ?_
    · go_simp
      refine hK.out _ _ trivial (fun hHeld => ?_)
      clear hK K
      try simp only [Act.put, List.setIfInBounds_toArray, List.set_cons_zero, List.set_cons_succ]
      refine wpAnyH_ready (rs := [16]) (by kernel_rfl) (by simp) ?_
      refine AllReadyH.cons (o := ⟨some 28, Op.call { callee := Callee.value (Operand.func 31), args := #[(Operand.tmp 27)], argTypes := #[9] }, _, _, _, _⟩) rfl (fun K hK => ?_) ?_
      · go_simp
        (with_reducible refine (HN5.out _).mono ?_); rintro e w9 ⟨rfl, rfl⟩
        go_wp2_with fail
        refine hK.out _ _ trivial (fun hHeld => ?_)
        clear hK K
        try simp only [Act.put, List.setIfInBounds_toArray, List.set_cons_zero, List.set_cons_succ]
        refine wpAnyH_take (i := 17) (oi := ⟨some 29, Op.build 31 #[(0, (Operand.tmp 13)), (1, (Operand.tmp 17)), (2, (Operand.tmp 21)), (3, (Operand.tmp 25)), (4, (Operand.tmp 28))], _, _, _, _⟩) (v := ?v17) rfl (by kernel_rfl) (by kernel_rfl) (by kernel_rfl) (fun _ _ _ h => h) (Or.inl ⟨by rfl, ?hy17⟩) (by assumption) ?rest17
        case hy17 => ((intro w0 hSw; go_simp); try (with_reducible rfl))
        try simp only [Act.put, List.setIfInBounds_toArray, List.set_cons_zero, List.set_cons_succ]
        refine wpAnyH_ready (rs := [19]) (by kernel_rfl) (by simp) ?_
        refine AllReadyH.cons (o := ⟨none, Op.store t (Operand.tmp 5) (Operand.tmp 29), _, _, _, _⟩) rfl (fun K hK => ?_) ?_
        · go_simp
          refine hK.out _ _ trivial (fun hHeld => ?_)
          clear hK K
          try simp only [Act.put, List.setIfInBounds_toArray, List.set_cons_zero, List.set_cons_succ]
          refine wpAnyH_done (by kernel_rfl) ?_ _
          have HB2 : Hid ((wc.alloc (.cells A 31)).drew.heap[wc.heap.size]? = some (.cells (na (bare (bn l 0) ((bn l 1 : Int) - 1) ((bn l 2 : Int) - 1) (pv l 3 2) (pv l 5 8) 0 false false)) 31 (0, 0)) ∧ wc.grownBy (wc.alloc (.cells A 31)).drew none) := Lib.hid (HA.out ▸ ⟨heap_alloc_new wc _, grown_drew (grown_alloc (grown_refl _ _) _)⟩)
          clear hA hst hAs hagg hsize e1 e2 e3 e4 e5 g0 g1 g2 x3 x5 HN3 HN5
          generalize (wc.alloc (.cells A 31)).drew = w2 at HB2 ⊢
          clear HA HTT
          obtain ⟨⟨c5, c6, c7⟩, f5, f6, f7⟩ := three_cells HB2.out.1
          have e6 : IntKind.u8.wrap ((bn l 13 : Int) / 4) = (bn l 13 : Int) / 4 := IntWalk.u8_in _ (by have := bn_lt l 13; omega)
          have e7 : IntKind.u8.wrap ((bn l 13 : Int) / 2) = (bn l 13 : Int) / 2 := IntWalk.u8_in _ (by have := bn_lt l 13; omega)
          have h2 : ((bn l 13 : Int) / 2 % 2 == 1) = decide (bn l 13 / 2 % 2 = 1) := eq_dec _ _ (by omega)
          have h1 : ((bn l 13 : Int) % 2 == 1) = decide (bn l 13 % 2 = 1) := eq_dec _ _ (by omega)
          go_wp2_with fail
          go_loopw [6] (fun c wr => ∃ k : Nat, k ≤ 16 ∧ c = .int .i64 (k : Int) ∧ wr.heap[wc.heap.size]? = some (.cells (na (tki l k)) 31 (0, 0)) ∧ wc.grownBy wr none) (fun c _ => 16 - (intOf c).toNat)
          case atStart => exact ⟨0, by omega, rfl, fin3 HB2.out.1, fin3g HB2.out.2⟩
          case round =>
            obtain ⟨k, hk, rfl, hb, hg⟩ := hrel
            have HBK : Hid _ := Lib.hid (And.intro hb hg)
            clear hb hg c5 c6 c7 f5 f6 f7 e6 e7 h2 h1 g13
            by_cases hlt : k < 16
            · obtain ⟨⟨v0, hc⟩, hf⟩ := tki_cell hlt HBK.out.1
              have hsl := fun w => slice_part l (14 + 4 * k) 4 (by rw [hl]; omega) ((14 : Int) + 4 * (k : Int)) ((18 : Int) + 4 * (k : Int)) (by omega) (by omega) w
              have HNK := Lib.hid (value_part l (14 + 4 * k) 4 (by omega))
              have HS := Lib.hid (tki_succ l k hlt)
              have hpv : IntKind.u32.wrap (pv l (14 + 4 * k) 4 : Int) = pv l (14 + 4 * k) 4 := IntWalk.u32_in _ (by have := pv_lt l (14 + 4 * k) 4; omega)
              generalize (l.drop (14 + 4 * k)).take 4 = y at *
              generalize pv l (14 + 4 * k) 4 = p at *
              clear hsz hl
              go_wp2_with (go_at_call 31; ((with_reducible refine (HNK.out _).mono ?_); rintro e w9 ⟨rfl, rfl⟩))
              go_roundw
              case rel => exact ⟨k + 1, by omega, by go_num, by rw [← HS.out]; exact blk_setCell _ HBK.out.1, grown_new HBK.out.2 (Nat.le_refl _) (grown_setCells _ _ (8 + k) [_])⟩
              case measure => simp [intOf]; omega
            · obtain rfl : k = 16 := by omega
              have HK : Hid (wr.heap[wc.heap.size]? = some (.cells (na (tk l)) 31 (0, 0)) ∧ wc.grownBy wr none) := Lib.hid (by rw [← tki_all]; exact HBK.out)
              have hr := range_of HK.out.1
              clear hsz hl
              have HE0 : Hid (∀ w10, wr.grownBy w10 none → w10.rangeAt wc.heap.size 0 (nt (tk l)) ∧ w10.heap[w.heap.size]? = some (.cells (na zn) 31 (0, 0)) ∧ w10.rangeAt wa.heap.size 0 (nt zn) ∧ w.grownBy w10 none) := Lib.hid fun w10 hg =>
                have hh := grown_trans HK.out.2 hg
                ⟨range_grown (range_of HK.out.1) hg (by simp), (hh.block _ (lt_of HC.out.1) (by simp)).trans HC.out.1, range_grown (range_of HC.out.2.1) hh (by simp), grown_trans HC.out.2.2 hh⟩
              have HM := Lib.hid (rmay_any (tk l) wr)
              by_cases hok : (tk l).ok
              · rw [decide_eq_true hok] at HM
                have HOK := Lib.hid hok
                clear hok
                go_wp2_with (first
                  | ((with_reducible refine load_nt (tk l) 5 wc.heap.size ?_ hr ?_); (rfl))
                  | (go_at_call 15; ((with_reducible refine HM.out.mono ?_); rintro e w10 ⟨rfl, hg10⟩; have HE := Lib.hid (HE0.out w10 hg10); clear hg10 hr))
                  | ((with_reducible refine load_nt (tk l) 5 wc.heap.size ?_ HE.out.1 ?_); (rfl))
                  | ((with_reducible refine store_any (tk l) _ 2 66 w.heap.size ?_ ?_ HE.out.2.1 ?_ ?_); (rfl); (rfl); (rfl)))
                exact ret_nt2 rfl _ (tk l) _ w.heap.size _ _ (by rfl) (by rfl) (range_of (setRow_heap _ _ _ _ _ _ HE.out.2.1)) ⟨by first | rfl | rw [if_pos HOK.out], grown_setRow HE.out.2.2.2 _ (Nat.le_refl _) _⟩
              · rw [decide_eq_false hok] at HM
                have HOK := Lib.hid hok
                clear hok
                go_wp2_with (first
                  | ((with_reducible refine load_nt (tk l) 5 wc.heap.size ?_ hr ?_); (rfl))
                  | (go_at_call 15; ((with_reducible refine HM.out.mono ?_); rintro e w10 ⟨rfl, hg10⟩; have HE := Lib.hid (HE0.out w10 hg10); clear hg10 hr))
                  | ((with_reducible refine load_nt zn 4 wa.heap.size ?_ HE.out.2.2.1 ?_); (rfl))
                  | ((with_reducible refine store_any zn _ 2 65 w.heap.size ?_ ?_ HE.out.2.1 ?_ ?_); (rfl); (rfl); (rfl)))
                exact ret_nt2 rfl _ zn _ w.heap.size _ _ (by rfl) (by rfl) (range_of (setRow_heap _ _ _ _ _ _ HE.out.2.1)) ⟨by first | rfl | rw [if_neg HOK.out], grown_setRow HE.out.2.2.2 _ (Nat.le_refl _) _⟩
        exact AllReadyH.nil
      exact AllReadyH.nil
    exact AllReadyH.nil
  refine AllReadyH.cons (o := ⟨some 5, Op.alloc 31, _, _, _, _⟩) rfl (fun K hK => ?_) ?_
  · go_simp
    refine hK.out _ _ trivial (fun hHeld => ?_)
    clear hK K
    try simp only [Act.put, List.setIfInBounds_toArray, List.set_cons_zero, List.set_cons_succ]
    refine wpAnyH_ready (rs := [12]) (by kernel_rfl) (by simp) ?_
    refine AllReadyH.cons (o := ⟨some 24, Op.call { callee := Callee.value (Operand.func 31), args := #[(Operand.tmp 23)], argTypes := #[9] }, _, _, _, _⟩) rfl (fun K hK => ?_) ?_
    · go_simp
      (with_reducible refine (HN3.out _).mono ?_); rintro e w9 ⟨rfl, rfl⟩
      go_wp2_with fail
      refine hK.out _ _ trivial (fun hHeld => ?_)
      clear hK K
      try simp only [Act.put, List.setIfInBounds_toArray, List.set_cons_zero, List.set_cons_succ]
      refine wpAnyH_take (i := 13) (oi := ⟨some 25, Op.convert 25 3 (Operand.tmp 24), _, _, _, _⟩) (v := ?v18) rfl (by kernel_rfl) (by kernel_rfl) (by kernel_rfl) (fun _ _ _ h => h) (Or.inl ⟨by rfl, ?hy18⟩) (by assumption) ?rest18
      case hy18 => ((intro w0 hSw; go_simp); try (with_reducible rfl))
      try simp only [Act.put, List.setIfInBounds_toArray, List.set_cons_zero, List.set_cons_succ]
      refine wpAnyH_ready (rs := [16]) (by kernel_rfl) (by simp) ?_
      refine AllReadyH.cons (o := ⟨some 28, Op.call { callee := Callee.value (Operand.func 31), args := #[(Operand.tmp 27)], argTypes := #[9] }, _, _, _, _⟩) rfl (fun K hK => ?_) ?_
      · go_simp
        (with_reducible refine (HN5.out _).mono ?_); rintro e w9 ⟨rfl, rfl⟩
        go_wp2_with fail
        refine hK.out _ _ trivial (fun hHeld => ?_)
        clear hK K
        try simp only [Act.put, List.setIfInBounds_toArray, List.set_cons_zero, List.set_cons_succ]
        refine wpAnyH_take (i := 17) (oi := ⟨some 29, Op.build 31 #[(0, (Operand.tmp 13)), (1, (Operand.tmp 17)), (2, (Operand.tmp 21)), (3, (Operand.tmp 25)), (4, (Operand.tmp 28))], _, _, _, _⟩) (v := ?v19) rfl (by kernel_rfl) (by kernel_rfl) (by kernel_rfl) (fun _ _ _ h => h) (Or.inl ⟨by rfl, ?hy19⟩) (by assumption) ?rest19
        case hy19 => ((intro w0 hSw; go_simp); try (with_reducible rfl))
        try simp only [Act.put, List.setIfInBounds_toArray, List.set_cons_zero, List.set_cons_succ]
        refine wpAnyH_ready (rs := [19]) (by kernel_rfl) (by simp) ?_
        refine AllReadyH.cons (o := ⟨none, Op.store t (Operand.tmp 5) (Operand.tmp 29), _, _, _, _⟩) rfl (fun K hK => ?_) ?_
        · go_simp
          refine hK.out _ _ trivial (fun hHeld => ?_)
          clear hK K
          try simp only [Act.put, List.setIfInBounds_toArray, List.set_cons_zero, List.set_cons_succ]
          refine wpAnyH_done (by kernel_rfl) ?_ _
          have HB2 : Hid ((wc.alloc (.cells A 31)).drew.heap[wc.heap.size]? = some (.cells (na (bare (bn l 0) ((bn l 1 : Int) - 1) ((bn l 2 : Int) - 1) (pv l 3 2) (pv l 5 8) 0 false false)) 31 (0, 0)) ∧ wc.grownBy (wc.alloc (.cells A 31)).drew none) := Lib.hid (HA.out ▸ ⟨heap_alloc_new wc _, grown_drew (grown_alloc (grown_refl _ _) _)⟩)
          clear hA hst hAs hagg hsize e1 e2 e3 e4 e5 g0 g1 g2 x3 x5 HN3 HN5
          generalize (wc.alloc (.cells A 31)).drew = w2 at HB2 ⊢
          clear HA HTT
          obtain ⟨⟨c5, c6, c7⟩, f5, f6, f7⟩ := three_cells HB2.out.1
          have e6 : IntKind.u8.wrap ((bn l 13 : Int) / 4) = (bn l 13 : Int) / 4 := IntWalk.u8_in _ (by have := bn_lt l 13; omega)
          have e7 : IntKind.u8.wrap ((bn l 13 : Int) / 2) = (bn l 13 : Int) / 2 := IntWalk.u8_in _ (by have := bn_lt l 13; omega)
          have h2 : ((bn l 13 : Int) / 2 % 2 == 1) = decide (bn l 13 / 2 % 2 = 1) := eq_dec _ _ (by omega)
          have h1 : ((bn l 13 : Int) % 2 == 1) = decide (bn l 13 % 2 = 1) := eq_dec _ _ (by omega)
          go_wp2_with fail
          go_loopw [6] (fun c wr => ∃ k : Nat, k ≤ 16 ∧ c = .int .i64 (k : Int) ∧ wr.heap[wc.heap.size]? = some (.cells (na (tki l k)) 31 (0, 0)) ∧ wc.grownBy wr none) (fun c _ => 16 - (intOf c).toNat)
          case atStart => exact ⟨0, by omega, rfl, fin3 HB2.out.1, fin3g HB2.out.2⟩
          case round =>
            obtain ⟨k, hk, rfl, hb, hg⟩ := hrel
            have HBK : Hid _ := Lib.hid (And.intro hb hg)
            clear hb hg c5 c6 c7 f5 f6 f7 e6 e7 h2 h1 g13
            by_cases hlt : k < 16
            · obtain ⟨⟨v0, hc⟩, hf⟩ := tki_cell hlt HBK.out.1
              have hsl := fun w => slice_part l (14 + 4 * k) 4 (by rw [hl]; omega) ((14 : Int) + 4 * (k : Int)) ((18 : Int) + 4 * (k : Int)) (by omega) (by omega) w
              have HNK := Lib.hid (value_part l (14 + 4 * k) 4 (by omega))
              have HS := Lib.hid (tki_succ l k hlt)
              have hpv : IntKind.u32.wrap (pv l (14 + 4 * k) 4 : Int) = pv l (14 + 4 * k) 4 := IntWalk.u32_in _ (by have := pv_lt l (14 + 4 * k) 4; omega)
              generalize (l.drop (14 + 4 * k)).take 4 = y at *
              generalize pv l (14 + 4 * k) 4 = p at *
              clear hsz hl
              go_wp2_with (go_at_call 31; ((with_reducible refine (HNK.out _).mono ?_); rintro e w9 ⟨rfl, rfl⟩))
              go_roundw
              case rel => exact ⟨k + 1, by omega, by go_num, by rw [← HS.out]; exact blk_setCell _ HBK.out.1, grown_new HBK.out.2 (Nat.le_refl _) (grown_setCells _ _ (8 + k) [_])⟩
              case measure => simp [intOf]; omega
            · obtain rfl : k = 16 := by omega
              have HK : Hid (wr.heap[wc.heap.size]? = some (.cells (na (tk l)) 31 (0, 0)) ∧ wc.grownBy wr none) := Lib.hid (by rw [← tki_all]; exact HBK.out)
              have hr := range_of HK.out.1
              clear hsz hl
              have HE0 : Hid (∀ w10, wr.grownBy w10 none → w10.rangeAt wc.heap.size 0 (nt (tk l)) ∧ w10.heap[w.heap.size]? = some (.cells (na zn) 31 (0, 0)) ∧ w10.rangeAt wa.heap.size 0 (nt zn) ∧ w.grownBy w10 none) := Lib.hid fun w10 hg =>
                have hh := grown_trans HK.out.2 hg
                ⟨range_grown (range_of HK.out.1) hg (by simp), (hh.block _ (lt_of HC.out.1) (by simp)).trans HC.out.1, range_grown (range_of HC.out.2.1) hh (by simp), grown_trans HC.out.2.2 hh⟩
              have HM := Lib.hid (rmay_any (tk l) wr)
              by_cases hok : (tk l).ok
              · rw [decide_eq_true hok] at HM
                have HOK := Lib.hid hok
                clear hok
                go_wp2_with (first
                  | ((with_reducible refine load_nt (tk l) 5 wc.heap.size ?_ hr ?_); (rfl))
                  | (go_at_call 15; ((with_reducible refine HM.out.mono ?_); rintro e w10 ⟨rfl, hg10⟩; have HE := Lib.hid (HE0.out w10 hg10); clear hg10 hr))
                  | ((with_reducible refine load_nt (tk l) 5 wc.heap.size ?_ HE.out.1 ?_); (rfl))
                  | ((with_reducible refine store_any (tk l) _ 2 66 w.heap.size ?_ ?_ HE.out.2.1 ?_ ?_); (rfl); (rfl); (rfl)))
                exact ret_nt2 rfl _ (tk l) _ w.heap.size _ _ (by rfl) (by rfl) (range_of (setRow_heap _ _ _ _ _ _ HE.out.2.1)) ⟨by first | rfl | rw [if_pos HOK.out], grown_setRow HE.out.2.2.2 _ (Nat.le_refl _) _⟩
              · rw [decide_eq_false hok] at HM
                have HOK := Lib.hid hok
                clear hok
                go_wp2_with (first
                  | ((with_reducible refine load_nt (tk l) 5 wc.heap.size ?_ hr ?_); (rfl))
                  | (go_at_call 15; ((with_reducible refine HM.out.mono ?_); rintro e w10 ⟨rfl, hg10⟩; have HE := Lib.hid (HE0.out w10 hg10); clear hg10 hr))
                  | ((with_reducible refine load_nt zn 4 wa.heap.size ?_ HE.out.2.2.1 ?_); (rfl))
                  | ((with_reducible refine store_any zn _ 2 65 w.heap.size ?_ ?_ HE.out.2.1 ?_ ?_); (rfl); (rfl); (rfl)))
                exact ret_nt2 rfl _ zn _ w.heap.size _ _ (by rfl) (by rfl) (range_of (setRow_heap _ _ _ _ _ _ HE.out.2.1)) ⟨by first | rfl | rw [if_neg HOK.out], grown_setRow HE.out.2.2.2 _ (Nat.le_refl _) _⟩
        exact AllReadyH.nil
      exact AllReadyH.nil
    exact AllReadyH.nil
  exact AllReadyH.nil
end Go.Proofs.YthmnjoanehepcaaDoor.nn
