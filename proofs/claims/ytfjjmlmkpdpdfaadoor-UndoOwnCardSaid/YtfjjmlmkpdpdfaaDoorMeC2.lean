/-
  What SetBlock, Word, SetWord answer, and what the memory is behind them: contracts. No condition but the bounds that each theorem names.
-/
import Derived.Test.YtfjjmlmkpdpdfaaDoorMeC1
namespace Go.Proofs.YtfjjmlmkpdpdfaaDoor.pp
open Go Go.ChangeShapes Go.WideShapes Go.ChangeAt Go.RowKit
set_option linter.unusedVariables false

/-- Blocks of unlike types are not one. -/
theorem tyne {w : World} {k q : Nat} {c1 c2 : Array Value} {t1 t2 : TypeId} {f1 f2 : Nat × Nat} (h1 : w.heap[k]? = some (.cells c1 t1 f1)) (h2 : w.heap[q]? = some (.cells c2 t2 f2)) (h : t1 ≠ t2) : k ≠ q := fun e => by
  subst e; rw [h1] at h2; cases h2; exact h rfl

theorem Mem.grown {w w' : World} {b : Nat} {v : Value} {bs : List (List Int)} (h : Mem w b v bs) {own : Option Nat} (hg : w.grownBy w' own)
    (hk : ∀ k, own = some k → some k ≠ v.ownBlock ∧ ∃ c t f, w.heap[k]? = some (.cells c t f) ∧ t ≠ 76 ∧ t ≠ 56) : Mem w' b v bs := by
  obtain ⟨ps, h1, h2, h3⟩ := h.sl
  refine ⟨(hg.block b h.lt fun e => ?_).trans h.blk, ⟨ps, h1.of_block fun g hgk => hg.block g (h1.lt g hgk) fun e => ?_, h2, fun i q x hq hx => (hg.block q ?_ fun e => ?_).trans (h3 i q x hq hx)⟩, h.len⟩
  · obtain ⟨_, c, t, f, hc, ht, _⟩ := hk b e.symm
    exact tyne hc h.blk ht rfl
  · exact (hk g e.symm).1 hgk.symm
  · exact (Array.getElem?_eq_some_iff.1 (h3 i q x hq hx)).1
  · obtain ⟨_, c, t, f, hc, _, ht⟩ := hk q e.symm
    exact tyne hc (h3 i q x hq hx) ht rfl
theorem Mem.kept {w w' : World} {b : Nat} {v : Value} {bs : List (List Int)} (h : Mem w b v bs) (hg : w.grownBy w' none) : Mem w' b v bs := h.grown hg fun k e => by cases e
theorem grown_alloc {w w' : World} {own : Option Nat} (h : w.grownBy w' own) (o : Obj) : w.grownBy (w'.alloc o) own :=
  ⟨h.os, h.tape, h.output, by have := h.size; simp; omega, fun k hk hn => (Below.heap_alloc _ _ _ (Nat.lt_of_lt_of_le hk h.size)).trans (h.block k hk hn)⟩
theorem grown_refl (w : World) (own : Option Nat) : w.grownBy w own := ⟨rfl, rfl, rfl, Nat.le_refl _, fun _ _ _ => rfl⟩
theorem grown_trans {a b c : World} {own : Option Nat} (h : a.grownBy b own) (k : b.grownBy c own) : a.grownBy c own :=
  ⟨k.os.trans h.os, k.tape.trans h.tape, k.output.trans h.output, Nat.le_trans h.size k.size, fun i hi hn => (k.block i (Nat.lt_of_lt_of_le hi h.size) hn).trans (h.block i hi hn)⟩
theorem grown_some {a b : World} (h : a.grownBy b none) (own : Option Nat) : a.grownBy b own := ⟨h.os, h.tape, h.output, h.size, fun i hi hn => h.block i hi (by simp)⟩

/-- A pointer was stored into the memory's slice. -/
theorem Mem.put {w w1 : World} {b : Nat} {g off cap n : Nat} {bs : List (List Int)} (h : Mem w b (.slice (some ⟨g, off, none⟩) n cap) bs) (hg : w.grownBy w1 none) {i q : Nat} {x : List Int} (hi : i < bs.length) (hx : x.length = 16)
    (hq : w1.heap[q]? = some (.cells (row x) 56 (0, 0))) :
    w1.frozen? ⟨g, off + i, none⟩ = false ∧ Mem (w1.setCell ⟨g, off + i, none⟩ (.pointer (some ⟨q, 0, none⟩))) b (.slice (some ⟨g, off, none⟩) n cap) (bs.set i x) ∧ w.grownBy (w1.setCell ⟨g, off + i, none⟩ (.pointer (some ⟨q, 0, none⟩))) (some g) := by
  have h0 := h.kept hg
  obtain ⟨ps, h1, h2, h3⟩ := h0.sl
  rcases h1 with ⟨hv, _⟩ | ⟨g', off', cap', cur, hv, hb, h4, h5, h6, h7⟩
  · cases hv
  cases hv
  have hcell : (w1.setCell ⟨g, off + i, none⟩ (Ptr q)).heap[g]? = some (.cells (cur.setIfInBounds (off + i) (Ptr q)) 74 (0, 0)) := heap_setCell_same _ _ _ _ _ _ hb
  have hoth : ∀ k, k ≠ g → (w1.setCell ⟨g, off + i, none⟩ (Ptr q)).heap[k]? = w1.heap[k]? := fun k hk => heap_setCell_other _ _ _ _ hk
  simp only [List.length_map] at h4
  refine ⟨frozen_of_row _ _ _ _ _ hb, ⟨(hoth b (tyne h0.blk hb (by decide))).trans h0.blk, ⟨ps.set i q, .inr ⟨g, off, cap, _, by simp, hcell, by simp; omega, h5, by simp; omega, fun k u hu => ?_⟩, by simp [h2], fun k p y hp hy => ?_⟩, fun y hy => ?_⟩, ⟨hg.os, hg.tape, hg.output, by have := hg.size; simp [World.setCell]; omega, fun k hk hn => (hoth k (fun e => hn (by rw [e]))).trans (hg.block k hk (by simp))⟩⟩
  · rw [List.map_set] at hu
    rw [Array.getElem?_setIfInBounds]
    by_cases hki : i = k
    · subst hki
      rw [if_pos rfl, if_pos (by omega)]
      rw [List.getElem?_set_self (by simp; omega)] at hu
      exact hu
    · rw [if_neg (by omega)]
      rw [List.getElem?_set_ne hki] at hu
      exact h7 k u hu
  · have hpg : ∀ z, w1.heap[p]? = some (.cells (row z) 56 (0, 0)) → (w1.setCell ⟨g, off + i, none⟩ (Ptr q)).heap[p]? = some (.cells (row z) 56 (0, 0)) := fun z hz => (hoth p (tyne hz hb (by decide))).trans hz
    by_cases hki : i = k
    · subst hki
      rw [List.getElem?_set_self (by omega)] at hp hy
      cases hp; cases hy
      exact hpg _ hq
    · rw [List.getElem?_set_ne hki] at hp hy
      exact hpg _ (h3 k p y hp hy)
  · rcases List.mem_or_eq_of_mem_set hy with hy | rfl
    · exact h.len y hy
    · exact hx

theorem all_range_eqU : ∀ (xs ys : List Int), xs.length = ys.length → ((List.range xs.length).all fun i => xs.getD i 0 == ys.getD i 0) = (xs == ys)
  | [], [], _ => rfl
  | x :: xs, y :: ys, h => by
    have ih := all_range_eqU xs ys (by simpa using h)
    rw [List.length_cons, List.range_succ_eq_map, List.all_cons, List.all_map]
    simp only [List.getD_cons_zero, Function.comp_def, List.getD_cons_succ, ih]
    simp [List.cons_beq_cons]
  | [], _ :: _, h => by simp at h
  | _ :: _, [], h => by simp at h

theorem eq30 (w : World) (d : Nat) (xs ys : List Int) (hx : xs.length = 16) (hy : ys.length = 16) :
    (Op.equalIn (d + 2) 56 (.agg (row xs)) (.agg (row ys))).run Tryd.prog w = .ok (xs == ys) w := by
  rw [← all_range_eqU xs ys (hx.trans hy.symm), hx, List.range_eq_range', Op.equalIn]
  simp only [Sem.run_bind, run_underlying Tryd.underlying56, Result.andThen_ok, Tryd.sizeOf34, Std.Legacy.Range.forIn_eq_forIn_range', Std.Legacy.Range.size, Nat.sub_zero, Nat.add_sub_cancel, Nat.div_one]
  have hl : ∀ i ∈ List.range' 0 16 1, i < 16 := fun i hi => by simpa using (List.mem_range'_1.1 hi).2
  generalize List.range' 0 16 1 = l at hl ⊢
  induction l with
  | nil => simp
  | cons i l ih =>
    have hi : i < 16 := hl i (by simp)
    have px : (part 34 (row xs) (i * 1)).run Tryd.prog w = .ok (U (xs.getD i 0)) w := by
      simp [part, isAgg, run_underlying Tryd.underlying34, row, List.getD, List.getElem?_eq_getElem (show i < xs.length by omega)]
    have py : (part 34 (row ys) (i * 1)).run Tryd.prog w = .ok (U (ys.getD i 0)) w := by
      simp [part, isAgg, run_underlying Tryd.underlying34, row, List.getD, List.getElem?_eq_getElem (show i < ys.length by omega)]
    have pe : (Op.equalIn (d + 1) 34 (U (xs.getD i 0)) (U (ys.getD i 0))).run Tryd.prog w = .ok (xs.getD i 0 == ys.getD i 0) w := by
      rw [U, U, run_equalIn_int w d 34 .u32 .u32 _ _ Tryd.underlying34]
    simp only [List.forIn_cons, Sem.run_bind, px, py, pe, Result.andThen_ok, List.all_cons]
    cases hb : (xs.getD i 0 == ys.getD i 0)
    · simp
    · simp only [Bool.not_true, Bool.false_eq_true, if_false, Sem.run_pure, Result.andThen_ok, Bool.true_and]
      exact ih fun j hj => hl j (by simp [hj])

theorem q30 (w : World) (x y : List Int) (hx : x.length = 16) (hy : y.length = 16) : (binOp .neq 56 (.agg (row x)) (.agg (row y))).run Tryd.prog w = .ok (.bool (!(x == y))) w := by
  rw [run_neq_struct, eq30 w 9998 x y hx hy]
  rfl
theorem q30e (w : World) (x y : List Int) (hx : x.length = 16) (hy : y.length = 16) : (binOp .eql 56 (.agg (row x)) (.agg (row y))).run Tryd.prog w = .ok (.bool (x == y)) w := by
  rw [run_eql_struct, eq30 w 9998 x y hx hy]
  rfl

section
variable {w : World} {ops : Array Oper} {rest : List Oper} {a : Act} {Q : Exit → Act → World → Prop} {dst : Option Tmp} {ty : TypeId} {pos : String} {after : Array Edge}

/-- A block into the variable that was made last. -/
theorem store_new (c : List Int) (x y : Tmp) (hx : a.eval (.tmp x) = .pointer (some ⟨w.heap.size, 0, none⟩)) (hy : a.eval (.tmp y) = .agg (row c)) (hc : c.length = 16)
    (h : wpList Tryd.prog ops Q rest (a.put dst undef) (w.alloc (.cells (row c) 56))) : wpList Tryd.prog ops Q (⟨dst, .store 56 (.tmp x) (.tmp y), ty, pos, after, none⟩ :: rest) a (w.alloc (.cells (row zero) 56)) := by
  refine wpList_store_row rfl 56 (.tmp x) (.tmp y) rfl w.heap.size (row c) hx hy 56 _ (heap_alloc_new _ _) (info30' _ hc) (by rw [row_size, row_size, hc]; rfl) (row_one c) ?_
  rw [World.setRow_alloc_new]; exact h
theorem store_new' (c : List Int) (x y : Tmp) (hx : a.eval (.tmp x) = .pointer (some ⟨w.heap.size, 0, none⟩)) (hy : a.eval (.tmp y) = .agg (row c)) (hc : c.length = 16)
    (h : wpList Tryd.prog ops Q rest (a.put dst undef) (w.alloc (.cells (row c) 56))) : wpList Tryd.prog ops Q (⟨dst, .store 56 (.tmp x) (.tmp y), ty, pos, after, none⟩ :: rest) a (w.alloc (.cells #[.int .u32 0, .int .u32 0, .int .u32 0, .int .u32 0, .int .u32 0, .int .u32 0, .int .u32 0, .int .u32 0, .int .u32 0, .int .u32 0, .int .u32 0, .int .u32 0, .int .u32 0, .int .u32 0, .int .u32 0, .int .u32 0] 56)) :=
  store_new c x y hx hy hc h
/-- A block into any variable. -/
theorem store_any (c c' : List Int) (x y : Tmp) (g : Nat) (hx : a.eval (.tmp x) = .pointer (some ⟨g, 0, none⟩)) (hy : a.eval (.tmp y) = .agg (row c)) (hc : c.length = 16)
    (hg : w.heap[g]? = some (.cells (row c') 56 (0, 0))) (hc' : c'.length = 16)
    (h : wpList Tryd.prog ops Q rest (a.put dst undef) (w.setRow g (row c))) : wpList Tryd.prog ops Q (⟨dst, .store 56 (.tmp x) (.tmp y), ty, pos, after, none⟩ :: rest) a w :=
  wpList_store_row rfl 56 (.tmp x) (.tmp y) rfl g (row c) hx hy 56 _ hg (info30' _ hc) (by rw [row_size, row_size, hc, hc']) (row_one c) h
/-- A block out of a variable. -/
theorem load_any (c : List Int) (x : Tmp) (g : Nat) (hx : a.eval (.tmp x) = .pointer (some ⟨g, 0, none⟩)) (hg : w.heap[g]? = some (.cells (row c) 56 (0, 0))) (hc : c.length = 16)
    (h : wpList Tryd.prog ops Q rest (a.put dst (.agg (row c))) w) : wpList Tryd.prog ops Q (⟨dst, .load 56 (.tmp x), ty, pos, after, none⟩ :: rest) a w :=
  wpList_load_row rfl 56 (.tmp x) rfl g hx 56 (row c) (0, 0) _ hg Tryd.underlying56 rfl (info30' _ hc) h
/-- The same in a region that draws its order. -/
theorem step_load {K : Act → World → Prop} {E : Prop} (c : List Int) (x : Tmp) (g : Nat) (hx : a.eval (.tmp x) = .pointer (some ⟨g, 0, none⟩)) (hg : w.heap[g]? = some (.cells (row c) 56 (0, 0))) (hc : c.length = 16)
    (h : K (a.put dst (.agg (row c))) w) : if Region.wanted ⟨dst, .load 56 (.tmp x), ty, pos, after, none⟩ (yielded ops a.tmps) = true then Oper.wp Tryd.prog ⟨dst, .load 56 (.tmp x), ty, pos, after, none⟩ a w K Q else E := by
  have hw : Region.wanted ⟨dst, .load 56 (.tmp x), ty, pos, after, none⟩ (yielded ops a.tmps) = true := by simp [Region.wanted]
  rw [if_pos hw]
  exact wp_load_row 56 (.tmp x) rfl g hx 56 (row c) (0, 0) _ hg Tryd.underlying56 rfl (info30' _ hc) h
end

/-- A block's cells one by one. -/
theorem row16 (x : List Int) (hx : x.length = 16) : ∃ x0 x1 x2 x3 x4 x5 x6 x7 x8 x9 x10 x11 x12 x13 x14 x15 : Int, row x = #[.int .u32 x0, .int .u32 x1, .int .u32 x2, .int .u32 x3, .int .u32 x4, .int .u32 x5, .int .u32 x6, .int .u32 x7, .int .u32 x8, .int .u32 x9, .int .u32 x10, .int .u32 x11, .int .u32 x12, .int .u32 x13, .int .u32 x14, .int .u32 x15] :=
  match x, hx with
  | [x0, x1, x2, x3, x4, x5, x6, x7, x8, x9, x10, x11, x12, x13, x14, x15], _ => ⟨x0, x1, x2, x3, x4, x5, x6, x7, x8, x9, x10, x11, x12, x13, x14, x15, rfl⟩

theorem set_block_err (b : Nat) (v : Value) (bs : List (List Int)) (i : Int) (x : List Int) (hx : x.length = 16) (w : World) (hM : Mem w b v bs) (h : i < 0 ∨ (bs.length : Int) ≤ i) :
    Calls Tryd.prog 41 #[.pointer (some ⟨b, 0, none⟩), .int .i64 i, .agg (row x)] w fun e w' => e = .returned (.int .i64 5) ∧ w.grownBy w' none := by
  have hg : w.grownBy (w.alloc (.cells (row x) 56)) none := grown_alloc (grown_refl _ _) _
  have HB := Lib.hid (block_out b v bs i _ (hM.kept hg) h)
  clear hM h hg hx
  go_enter Tryd.func41, Tryd.ntmps41
  go_wp2_with (first
    | (go_at_call 26; ((with_reducible refine HB.out.mono ?_); rintro e w1 ⟨rfl, hw1⟩; have HW := Lib.hid hw1; clear hw1))
    | ((with_reducible refine store_new' zero 7 13 ?_ ?_ zero_size ?_); (rfl); (rfl)))
  go_ret
  refine ⟨rfl, ?_⟩
  rw [HW.out]
  exact grown_alloc (grown_alloc (grown_alloc (grown_refl _ _) _) _) _

theorem set_block_nil (i : Int) (x : List Int) (hx : x.length = 16) (w : World) :
    Calls Tryd.prog 41 #[.pointer none, .int .i64 i, .agg (row x)] w fun e w' => e = .returned (.int .i64 1) ∧ w.grownBy w' none := by
  have HB := Lib.hid (block_nil i (w.alloc (.cells (row x) 56)))
  clear hx
  go_enter Tryd.func41, Tryd.ntmps41
  go_wp2_with (first
    | (go_at_call 26; ((with_reducible refine HB.out.mono ?_); rintro e w1 ⟨rfl, hw1⟩; have HW := Lib.hid hw1; clear hw1))
    | ((with_reducible refine store_new' zero 7 13 ?_ ?_ zero_size ?_); (rfl); (rfl)))
  go_ret
  refine ⟨rfl, ?_⟩
  rw [HW.out]
  exact grown_alloc (grown_alloc (grown_alloc (grown_refl _ _) _) _) _

set_option maxRecDepth 1000000 in
set_option maxHeartbeats 2000000 in
theorem set_block_in (b : Nat) (v : Value) (bs : List (List Int)) (i : Nat) (x : List Int) (hx : x.length = 16) (w : World) (hM : Mem w b v bs) (hi : i < bs.length) :
    Calls Tryd.prog 41 #[.pointer (some ⟨b, 0, none⟩), .int .i64 (i : Int), .agg (row x)] w fun e w' => e = .returned (.int .i64 0) ∧ Mem w' b v (bs.set i x) ∧ w.grownBy w' v.ownBlock := by
  obtain ⟨old, hold⟩ : ∃ old, bs[i]? = some old := ⟨_, List.getElem?_eq_getElem hi⟩
  have hg : w.grownBy (w.alloc (.cells (row x) 56)) none := grown_alloc (grown_refl _ _) _
  obtain ⟨g, off, cap, q, rfl, hcell, hq, hl⟩ := hM.at hold
  have HB := Lib.hid (block_in b _ bs i old _ (hM.kept hg) hold)
  have HX := Lib.hid hx
  have HL := Lib.hid hl
  have HM := Lib.hid hM
  have HO := Lib.hid hold
  have HI := Lib.hid hi
  by_cases he : old = x
  · have HE := Lib.hid he
    have h30 : ∀ w, (binOp .neq 56 (.agg (row old)) (.agg (row x))).run Tryd.prog w = .ok (.bool false) w := fun w => by rw [q30 w old x hl hx, he]; simp
    clear hM hi hold hq hx hl hg he hcell
    go_enter Tryd.func41, Tryd.ntmps41
    go_wp2_with (first
      | (go_at_call 26; ((with_reducible refine HB.out.mono ?_); rintro e w1 ⟨rfl, hw1⟩; have HW := Lib.hid hw1; clear hw1))
      | ((with_reducible refine store_new' old 7 13 ?_ ?_ HL.out ?_); (rfl); (rfl))
      | ((with_reducible refine load_any old 7 w1.heap.size ?_ ?_ HL.out ?_); (rfl); (exact heap_alloc_new _ _))
      | ((with_reducible refine load_any x 5 w.heap.size ?_ ?_ HX.out ?_); (rfl); (exact (Below.heap_alloc _ _ _ (by rw [HW.out]; simp; omega)).trans (by rw [HW.out]; exact (Below.heap_alloc _ _ _ (by simp)).trans (heap_alloc_new _ _)))))
    go_ret
    have hG : w.grownBy (w1.alloc (.cells (row old) 56)) none := by rw [HW.out]; exact grown_alloc (grown_alloc (grown_alloc (grown_refl _ _) _) _) _
    have hset : bs.set i x = bs := by
      obtain ⟨h1, h2⟩ := List.getElem?_eq_some_iff.1 HO.out
      rw [← HE.out, ← h2]; exact List.set_getElem_self h1
    refine ⟨rfl, by rw [hset]; exact HM.out.kept hG, grown_some hG _⟩
  · have h30 : ∀ w, (binOp .neq 56 (.agg (row old)) (.agg (row x))).run Tryd.prog w = .ok (.bool true) w := fun w => by rw [q30 w old x hl hx]; simp [he]
    have hc := hM.cell0
    have hgl : g < w.heap.size := block_lt_of_cell hcell
    have hbl : b < w.heap.size := block_lt_of_cell hc
    obtain ⟨n, hn⟩ : ∃ n, n = bs.length := ⟨_, rfl⟩
    rw [← hn] at hc hi
    have HB' : Hid (Calls Tryd.prog 26 #[.pointer (some ⟨b, 0, none⟩), .int .i64 (i : Int)] (w.alloc (.cells (row x) 56)) fun e w1 => e = .returned (.tuple #[.agg (row old), .int .i64 0]) ∧ Hid (w1 = (w.alloc (.cells (row x) 56)).alloc (.cells (row old) 56)) ∧ w1.cell? ⟨b, 0, none⟩ = some (.slice (some ⟨g, off, none⟩) n cap) ∧ g < w1.heap.size ∧ b < w1.heap.size) := Lib.hid (HB.out.mono fun e w1 ⟨h1, h2⟩ => by
      have hsz : w1.heap.size = w.heap.size + 2 := by rw [h2]; simp
      refine ⟨h1, Lib.hid h2, ?_, by omega, by omega⟩
      rw [h2, World.cell?_alloc_lt _ _ _ (by simp; omega), World.cell?_alloc_lt _ _ _ hbl]; exact hc)
    have HN := Lib.hid hn
    clear hM hold hq hx hl hg he hcell hn hc hgl hbl HB
    go_enter Tryd.func41, Tryd.ntmps41
    go_wp2_with (first
      | (go_at_call 26; ((with_reducible refine HB'.out.mono ?_); rintro e w1 ⟨rfl, HW, hc1, hgl1, hbl1⟩))
      | ((with_reducible refine store_new' old 7 13 ?_ ?_ HL.out ?_); (rfl); (rfl))
      | ((with_reducible refine load_any old 7 w1.heap.size ?_ ?_ HL.out ?_); (rfl); (exact heap_alloc_new _ _))
      | ((with_reducible refine load_any x 5 w.heap.size ?_ ?_ HX.out ?_); (rfl); (exact (Below.heap_alloc _ _ _ (by rw [HW.out]; simp; omega)).trans (by rw [HW.out]; exact (Below.heap_alloc _ _ _ (by simp)).trans (heap_alloc_new _ _)))))
    have hB1 : w1.heap[w.heap.size]? = some (.cells (row x) 56 (0, 0)) := by rw [HW.out]; exact (Below.heap_alloc _ _ _ (by simp)).trans (heap_alloc_new _ _)
    have hlt : w.heap.size < w1.heap.size := (Array.getElem?_eq_some_iff.1 hB1).1
    have hM1 : Mem (w1.alloc (.cells (row old) 56)) b (.slice (some ⟨g, off, none⟩) bs.length cap) bs := HM.out.kept (by rw [HW.out]; exact grown_alloc (grown_alloc (grown_alloc (grown_refl _ _) _) _) _)
    obtain ⟨w3, hw3⟩ : ∃ w3, w3 = w1.alloc (.cells (row old) 56) := ⟨_, rfl⟩
    have hc3 := hM1.cell0
    rw [← hw3] at hc3 hM1 ⊢
    rw [← HN.out] at hc3
    have hB3 : w3.heap[w.heap.size]? = some (.cells (row x) 56 (0, 0)) := by rw [hw3]; exact (Below.heap_alloc _ _ _ hlt).trans hB1
    have hgl3 : g < w3.heap.size := by rw [hw3]; simp; omega
    have hbl3 : b < w3.heap.size := by rw [hw3]; simp; omega
    have HM3 := Lib.hid hM1
    obtain ⟨g', off', cap', q', hv', hcell3, hq3, _⟩ := hM1.at HO.out
    cases hv'
    have hf3 : w3.frozen? ⟨g, off + i, none⟩ = false := (hM1.put (grown_refl _ _) HI.out HX.out hB3).1
    clear hq3
    obtain ⟨x0, x1, x2, x3, x4, x5, x6, x7, x8, x9, x10, x11, x12, x13, x14, x15, hrow⟩ := row16 x HX.out
    have hcj : ∀ j, w3.cell? ⟨w.heap.size, j, none⟩ = (row x)[j]? := fun j => cell_of_row _ _ j _ _ _ hB3
    rw [hrow] at hcj
    have c0 : w3.cell? ⟨w.heap.size, 0, none⟩ = some (.int .u32 x0) := hcj 0
    have c1 : w3.cell? ⟨w.heap.size, 1, none⟩ = some (.int .u32 x1) := hcj 1
    have c2 : w3.cell? ⟨w.heap.size, 2, none⟩ = some (.int .u32 x2) := hcj 2
    have c3 : w3.cell? ⟨w.heap.size, 3, none⟩ = some (.int .u32 x3) := hcj 3
    have c4 : w3.cell? ⟨w.heap.size, 4, none⟩ = some (.int .u32 x4) := hcj 4
    have c5 : w3.cell? ⟨w.heap.size, 5, none⟩ = some (.int .u32 x5) := hcj 5
    have c6 : w3.cell? ⟨w.heap.size, 6, none⟩ = some (.int .u32 x6) := hcj 6
    have c7 : w3.cell? ⟨w.heap.size, 7, none⟩ = some (.int .u32 x7) := hcj 7
    have c8 : w3.cell? ⟨w.heap.size, 8, none⟩ = some (.int .u32 x8) := hcj 8
    have c9 : w3.cell? ⟨w.heap.size, 9, none⟩ = some (.int .u32 x9) := hcj 9
    have c10 : w3.cell? ⟨w.heap.size, 10, none⟩ = some (.int .u32 x10) := hcj 10
    have c11 : w3.cell? ⟨w.heap.size, 11, none⟩ = some (.int .u32 x11) := hcj 11
    have c12 : w3.cell? ⟨w.heap.size, 12, none⟩ = some (.int .u32 x12) := hcj 12
    have c13 : w3.cell? ⟨w.heap.size, 13, none⟩ = some (.int .u32 x13) := hcj 13
    have c14 : w3.cell? ⟨w.heap.size, 14, none⟩ = some (.int .u32 x14) := hcj 14
    have c15 : w3.cell? ⟨w.heap.size, 15, none⟩ = some (.int .u32 x15) := hcj 15
    have HR := Lib.hid hrow
    have HW3 := Lib.hid hw3
    clear hw3 hM1 hB1 hlt hc1 hgl1 hbl1 hB3 hcj hrow
    go_region_with (go_at_call 48; ((with_reducible refine (laid_any _ _).mono ?_); rintro e w4 ⟨rfl, rfl⟩))
    all_goals
      go_wp2_with fail
      go_ret
      rw [← HR.out]
      have hG : w.grownBy (w3.alloc (.cells (row x) 56)) none := by rw [HW3.out, HW.out]; exact grown_alloc (grown_alloc (grown_alloc (grown_alloc (grown_refl _ _) _) _) _) _
      obtain ⟨_, hP, hQ⟩ := HM.out.put hG (i := i) HI.out HX.out (heap_alloc_new _ _)
      rw [← World.setCell_alloc_past _ _ _ _ hgl3]
      refine ⟨rfl, hP.kept ⟨rfl, rfl, rfl, Nat.le_refl _, fun _ _ _ => rfl⟩, ⟨hQ.os, hQ.tape, hQ.output, hQ.size, hQ.block⟩⟩
end Go.Proofs.YtfjjmlmkpdpdfaaDoor.pp
