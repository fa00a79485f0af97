/-
  What Put, Goes answer, and what the cache is behind them: contracts. Condition: the table of bounds lies in its variable as the program's text has it; the bounds that each theorem names.
-/
import Derived.Test.YtjbapfjeildfoaaDoorC6
namespace Go.Proofs.YtjbapfjeildfoaaDoor.kk
open Go Go.ChangeShapes Go.WideShapes Go.ChangeAt Go.RowKit Go.Shelf
set_option linter.unusedVariables false

/-- May a line be? -/
def Ln.may (l : Ln) : Prop := (0 ≤ l.b ∧ l.b < 256) ∧ 1 ≤ l.s ∧ l.s ≤ 3
instance (l : Ln) : Decidable l.may := by unfold Ln.may; infer_instance
theorem box_grown {w w1 : World} {l : Ln} (hg : (w.alloc (.cells (la l) 36)).grownBy w1 none) : w1.heap[w.heap.size]? = some (.cells (la l) 36 (0, 0)) := (hg.block _ (by simp) (by simp)).trans (heap_alloc_new _ _)

theorem named2 : ∃ (t : TypeId) (n : Nat), Hid (Op.load 36 = Op.load t ∧ Op.store 36 = Op.store t) ∧ (∀ w, (isAgg t).run Tryd.prog w = .ok true w) ∧ (∀ w, (sizeOf t).run Tryd.prog w = .ok n w) ∧
    (∀ (g o : Nat) (l : Ln) (w : World), w.rangeAt g o (ln l) → (loadCellsFrom ⟨g, o, none⟩ 0 n #[]).run Tryd.prog w = .ok (la l) w) ∧ (∀ l : Ln, (la l).size = n) ∧
    (∀ (g o : Nat) (l : Ln) (w : World), w.there g o 18 → (storeCells ⟨g, o, none⟩ (la l).toList 0).run Tryd.prog w = .ok () (w.setCells g o (ln l))) :=
  ⟨36, 18, Lib.hid ⟨rfl, rfl⟩, Tryd.isAgg36, Tryd.sizeOf36, fun g o l w h => by
    have := run_loadCells_list (P := Tryd.prog) w ⟨g, o, none⟩ (ln l) (fun j v hv => by rw [add_lit]; exact h j v hv)
    simpa [loadCells, ln_len, la] using this, la_size, fun g o l w h => by
    have := run_storeCells_cells (P := Tryd.prog) g o (ln l) 0 w (fun j hj => by simpa using (h j (by rw [ln_len] at hj; exact hj)).1) (fun j hj => by simpa using (h j (by rw [ln_len] at hj; exact hj)).2) (ln_one l)
    simpa [la] using this⟩
theorem kept3 {w1 : World} {gs o g B o2 : Nat} {v : Value} {l : Ln} (c1 : w1.cell? ⟨gs, o, none⟩ = some v) (hr : w1.rangeAt B 0 (ln l)) (ht : w1.there g o2 18) (h1 : gs ≠ g) (h2 : B ≠ g) :
    (w1.drew.setCells g o2 (ln l)).cell? ⟨gs, o, none⟩ = some v ∧ (w1.drew.setCells g o2 (ln l)).rangeAt B 0 (ln l) ∧ (w1.drew.setCells g o2 (ln l)).there g o2 18 :=
  ⟨(World.cell?_of_block (w := w1) (heap_setCells_other g gs h1 _ _ _)).trans c1, range_same hr (heap_setCells_other g B h2 _ _ _), World.there_setCells (w := w1.drew) (show w1.drew.there g o2 18 from ht) _ _ _⟩
theorem put_nil (l : Ln) (w : World) : Calls Tryd.prog 11 #[.pointer none, .agg (la l)] w fun e w' => e = .returned (.int .i64 1) ∧ w.grownBy w' none := by
  go_enter Tryd.func11, Tryd.ntmps11
  go_wp2
  go_ret
  exact ⟨rfl, grown_alloc (grown_refl _ _) _⟩
theorem put_bad (kb : Nat) (l : Ln) (w : World) (hl : ¬ l.may) : Calls Tryd.prog 11 #[.pointer (some ⟨kb, 0, none⟩), .agg (la l)] w fun e w' => e = .returned (.int .i64 2) ∧ w.grownBy w' none := by
  have HB := Lib.hid (isBlock_any l.b)
  have HS := Lib.hid (isState_any l.s)
  obtain ⟨h0, h1⟩ := box_ln w l
  have HG : Hid (w.grownBy (w.alloc (.cells (la l) 36)) none) := Lib.hid (grown_alloc (grown_refl _ _) _)
  unfold Ln.may at hl
  by_cases hb : 0 ≤ l.b ∧ l.b < 256
  · have hs : ¬ (1 ≤ l.s ∧ l.s ≤ 3) := fun h => hl ⟨hb, h⟩
    rw [decide_eq_true hb] at HB
    rw [decide_eq_false hs] at HS
    clear hl hb hs
    go_enter Tryd.func11, Tryd.ntmps11
    go_wp2_with (first
      | (go_at_call 29; ((with_reducible refine (HB.out _).mono ?_); rintro e w1 ⟨rfl, rfl⟩))
      | (go_at_call 30; ((with_reducible refine (HS.out _).mono ?_); rintro e w2 ⟨rfl, rfl⟩)))
    go_ret
    exact ⟨rfl, HG.out⟩
  · rw [decide_eq_false hb] at HB
    clear hl hb HS
    go_enter Tryd.func11, Tryd.ntmps11
    go_wp2_with (first
      | (go_at_call 29; ((with_reducible refine (HB.out _).mono ?_); rintro e w1 ⟨rfl, rfl⟩)))
    go_ret
    exact ⟨rfl, HG.out⟩

section
variable (K : Loc) (c : Cfg) (ss : List St) (l : Ln) (p : St) (w : World) (hC : Cac w K c ss) (hT : Tab w) (hp : ss[setOf c l.b]? = some p) (hl : l.may)
include hC hT hp hl
theorem put_full (hn : p.1.findIdx? (isOf l.b) = none) (hf : p.1.findIdx? isFree = none) : Calls Tryd.prog 11 #[.pointer (some ⟨K.b, 0, none⟩), .agg (la l)] w fun e w' => e = .returned (.int .i64 7) ∧ w.grownBy w' none := by
  have HB := Lib.hid (isBlock_any l.b)
  have HS := Lib.hid (isState_any l.s)
  rw [decide_eq_true hl.1] at HB
  rw [decide_eq_true hl.2] at HS
  have hg0 : w.grownBy (w.alloc (.cells (la l) 36)) none := grown_alloc (grown_refl _ _) _
  obtain ⟨h0, h1⟩ := box_ln w l
  have HN := Lib.hid (where_any K c ss l.b p (w.alloc (.cells (la l) 36)) (hC.grown hg0) (hT.grown hg0) hp)
  rw [way_none hn] at HN
  obtain ⟨q, hq, hS⟩ := hC.seen hp
  have HF : Hid (∀ w1, (w.alloc (.cells (la l) 36)).grownBy w1 none → _) := Lib.hid fun w1 hg =>
    have hg' := grown_trans hg0 hg
    free_any K.gs (setOf c l.b * 2) q.1 q.2 p.1.length p.1 w1 rfl (hg'.cell hS.sl (by simp)) (hS.row.grown hg' (by simp)) (hC.wid4 (List.mem_of_getElem? hp)).1
  rw [show ix isFree p.1 = -1 by rw [ix, hf]] at HF
  have HG := Lib.hid hg0
  clear hC hT hp hn hf hl hS hq hg0
  go_enter Tryd.func11, Tryd.ntmps11
  go_wp2_with (first
    | (go_at_call 29; ((with_reducible refine (HB.out _).mono ?_); rintro e w1 ⟨rfl, rfl⟩))
    | (go_at_call 30; ((with_reducible refine (HS.out _).mono ?_); rintro e w2 ⟨rfl, rfl⟩))
    | (go_at_call 31; ((with_reducible refine HN.out.mono ?_); rintro e w1 ⟨rfl, hg1⟩; have HG1 := Lib.hid hg1; clear hg1))
    | (go_at_call 32; ((with_reducible refine (HF.out _ HG1.out).mono ?_); rintro e w2 ⟨rfl, hg2⟩; have HG2 := Lib.hid hg2; clear hg2)))
  go_ret
  exact ⟨rfl, grown_trans (grown_trans HG.out HG1.out) HG2.out⟩

omit hT hl in
/-- The row's store in a region that draws its order, and what follows it. -/
theorem Put_store (i : Nat) (hi : i < p.1.length) (w1 : World) (hg : w.grownBy w1 none) : ∃ q : Nat × Nat, (w1.cell? ⟨K.gs, setOf c l.b * 2, none⟩ = some (.slice (some ⟨q.1, 0, none⟩) p.1.length q.2)) ∧ w1.there q.1 (i * 18) 18 ∧ q.1 ≠ K.gs ∧ q.1 < w.heap.size ∧
    ∀ w2, w1.grownBy w2 none → Calls Tryd.prog 33 #[.pointer (some ⟨K.gs, setOf c l.b * 2, none⟩), .int .i64 (i : Int)] (w2.setCells q.1 (i * 18) (ln l)) fun e w' => (∃ v, e = .returned v) ∧ Cac w' K c (ss.set (setOf c l.b) (p.1.set i l, us p.2 p.1.length i)) ∧ Kept K.own w w' := by
  obtain ⟨q, hq, hS⟩ := hC.seen hp
  have hsl : setOf c l.b < ss.length := (List.getElem?_eq_some_iff.1 hp).1
  refine ⟨q, hg.cell hS.sl (by simp), (hS.row.grown hg (by simp)).there hi, (hC.ne1 (List.mem_of_getElem? hq)).2, hS.row.lt, fun w2 h2 => ?_⟩
  have hg2 := grown_trans hg h2
  have hr := hS.row.grown hg2 (by simp)
  have hC1 := (hC.grown hg2).setRow hp hq (grown_setCells _ _ (i * 18) (ln l)) (by simp) (hr.store i hi l)
  have hu := use_any K c _ (setOf c l.b) (p.1.set i l, p.2) i _ hC1 (List.getElem?_set_self hsl) (by simpa using hi)
  simp only [set_set_row, List.length_set] at hu
  refine hu.mono ?_
  rintro e w' ⟨hv, hc, hk'⟩
  exact ⟨hv, hc, ((Kept.of hg2).trans (Kept.one (grown_setCells _ _ _ _) (.inr ⟨q, List.mem_of_getElem? hq, rfl⟩))).trans hk'⟩

set_option maxRecDepth 1000000 in
set_option maxHeartbeats 1000000 in
theorem put_old (i : Nat) (hn : p.1.findIdx? (isOf l.b) = some i) : Calls Tryd.prog 11 #[.pointer (some ⟨K.b, 0, none⟩), .agg (la l)] w fun e w' => e = .returned (.int .i64 0) ∧ Cac w' K c (ss.set (setOf c l.b) (p.1.set i l, us p.2 p.1.length i)) ∧ Kept K.own w w' := by
  have HB := Lib.hid (isBlock_any l.b)
  have HS := Lib.hid (isState_any l.s)
  rw [decide_eq_true hl.1] at HB
  rw [decide_eq_true hl.2] at HS
  have hg0 : w.grownBy (w.alloc (.cells (la l) 36)) none := grown_alloc (grown_refl _ _) _
  obtain ⟨h0, h1⟩ := box_ln w l
  have HN := Lib.hid (where_any K c ss l.b p (w.alloc (.cells (la l) 36)) (hC.grown hg0) (hT.grown hg0) hp)
  rw [way_some hn] at HN
  have hi := idx_lt hn
  have HR : Hid (∀ w1, (w.alloc (.cells (la l) 36)).grownBy w1 none → w1.rangeAt w.heap.size 0 (ln l)) := Lib.hid fun w1 hg => range_of (box_grown hg)
  have HX := Lib.hid (fun w1 hg => Put_store K c ss l p w hC hp i hi w1 (grown_trans hg0 hg))
  generalize ss.set (setOf c l.b) (p.1.set i l, us p.2 p.1.length i) = ss' at *
  generalize p.1.length = n at *
  generalize setOf c l.b = s at *
  have hlen := ln_len l
  have hone := ln_one l
  have hinf := info36' l
  have hu36 := Tryd.underlying36
  clear hC hT hp hn hl hg0
  go_enter Tryd.func11, Tryd.ntmps11
  go_wp2_with (first
    | (go_at_call 29; ((with_reducible refine (HB.out _).mono ?_); rintro e w1 ⟨rfl, rfl⟩))
    | (go_at_call 30; ((with_reducible refine (HS.out _).mono ?_); rintro e w2 ⟨rfl, rfl⟩))
    | (go_at_call 31; ((with_reducible refine HN.out.mono ?_); rintro e w1 ⟨rfl, hg1⟩; have HG1 := Lib.hid hg1; clear hg1)))
  obtain ⟨q, c1, ht, hne, hlt, hu⟩ := HX.out w1 HG1.out
  have hr := HR.out w1 HG1.out
  have HK := Lib.hid (kept3 c1 hr ht (fun e => hne e.symm) (by omega))
  have HG2 : Hid (w1.grownBy w1.drew none) := Lib.hid (grown_drew (grown_refl _ _))
  have HU := Lib.hid hu
  clear hu
  obtain ⟨t, nn, HT, hagg, hsize, hld, hsz, hst⟩ := named2
  have hsz := hsz l
  have hst := hst q.1 (i * 18) l
  have hld := hld w.heap.size 0 l
  rw [HT.out.1, HT.out.2]
  go_region_held (fun w' => w'.cell? ⟨K.gs, s * 2, none⟩ = some (.slice (some ⟨q.1, 0, none⟩) n q.2) ∧ w'.rangeAt w.heap.size 0 (ln l) ∧ w'.there q.1 (i * 18) 18) (first | exact ⟨c1, hr, ht⟩ | exact HK.out) (fail)
  go_wp2_with (first
    | (go_at_call 33; ((with_reducible refine (HU.out _ HG2.out).mono ?_); rintro e w2 ⟨⟨v, rfl⟩, hc2⟩; have HC2 := Lib.hid hc2; clear hc2)))
  go_ret
  exact ⟨rfl, HC2.out⟩
set_option maxRecDepth 1000000 in
set_option maxHeartbeats 1000000 in
theorem put_free (i : Nat) (hn : p.1.findIdx? (isOf l.b) = none) (hf : p.1.findIdx? isFree = some i) : Calls Tryd.prog 11 #[.pointer (some ⟨K.b, 0, none⟩), .agg (la l)] w fun e w' => e = .returned (.int .i64 0) ∧ Cac w' K c (ss.set (setOf c l.b) (p.1.set i l, us p.2 p.1.length i)) ∧ Kept K.own w w' := by
  have HB := Lib.hid (isBlock_any l.b)
  have HS := Lib.hid (isState_any l.s)
  rw [decide_eq_true hl.1] at HB
  rw [decide_eq_true hl.2] at HS
  have hg0 : w.grownBy (w.alloc (.cells (la l) 36)) none := grown_alloc (grown_refl _ _) _
  obtain ⟨h0, h1⟩ := box_ln w l
  have HN := Lib.hid (where_any K c ss l.b p (w.alloc (.cells (la l) 36)) (hC.grown hg0) (hT.grown hg0) hp)
  rw [way_none hn] at HN
  have hi := idx_lt hf
  obtain ⟨q, hq, hS⟩ := hC.seen hp
  have HF : Hid (∀ w1, (w.alloc (.cells (la l) 36)).grownBy w1 none → _) := Lib.hid fun w1 hg =>
    have hg' := grown_trans hg0 hg
    free_any K.gs (setOf c l.b * 2) q.1 q.2 p.1.length p.1 w1 rfl (hg'.cell hS.sl (by simp)) (hS.row.grown hg' (by simp)) (hC.wid4 (List.mem_of_getElem? hp)).1
  rw [show ix isFree p.1 = (i : Int) by rw [ix, hf]] at HF
  have HR : Hid (∀ w1, (w.alloc (.cells (la l) 36)).grownBy w1 none → w1.rangeAt w.heap.size 0 (ln l)) := Lib.hid fun w1 hg => range_of (box_grown hg)
  have HX := Lib.hid (fun w1 hg => Put_store K c ss l p w hC hp i hi w1 (grown_trans hg0 hg))
  generalize ss.set (setOf c l.b) (p.1.set i l, us p.2 p.1.length i) = ss' at *
  clear hS hq q
  generalize p.1.length = n at *
  generalize setOf c l.b = s at *
  have hlen := ln_len l
  have hone := ln_one l
  have hinf := info36' l
  have hu36 := Tryd.underlying36
  clear hC hT hp hn hl hg0 hf
  go_enter Tryd.func11, Tryd.ntmps11
  go_wp2_with (first
    | (go_at_call 29; ((with_reducible refine (HB.out _).mono ?_); rintro e w1 ⟨rfl, rfl⟩))
    | (go_at_call 30; ((with_reducible refine (HS.out _).mono ?_); rintro e w2 ⟨rfl, rfl⟩))
    | (go_at_call 31; ((with_reducible refine HN.out.mono ?_); rintro e w1 ⟨rfl, hg1⟩; have HG0 := Lib.hid hg1; clear hg1))
    | (go_at_call 32; ((with_reducible refine (HF.out _ HG0.out).mono ?_); rintro e w2 ⟨rfl, hg2⟩; have HG1 := Lib.hid (grown_trans HG0.out hg2); clear hg2)))
  obtain ⟨q, c1, ht, hne, hlt, hu⟩ := HX.out w2 HG1.out
  have hr := HR.out w2 HG1.out
  have HK := Lib.hid (kept3 c1 hr ht (fun e => hne e.symm) (by omega))
  have HG2 : Hid (w2.grownBy w2.drew none) := Lib.hid (grown_drew (grown_refl _ _))
  have HU := Lib.hid hu
  clear hu
  obtain ⟨t, nn, HT, hagg, hsize, hld, hsz, hst⟩ := named2
  have hsz := hsz l
  have hst := hst q.1 (i * 18) l
  have hld := hld w.heap.size 0 l
  rw [HT.out.1, HT.out.2]
  go_region_held (fun w' => w'.cell? ⟨K.gs, s * 2, none⟩ = some (.slice (some ⟨q.1, 0, none⟩) n q.2) ∧ w'.rangeAt w.heap.size 0 (ln l) ∧ w'.there q.1 (i * 18) 18) (first | exact ⟨c1, hr, ht⟩ | exact HK.out) (fail)
  go_wp2_with (first
    | (go_at_call 33; ((with_reducible refine (HU.out _ HG2.out).mono ?_); rintro e w3 ⟨⟨v, rfl⟩, hc2⟩; have HC2 := Lib.hid hc2; clear hc2)))
  go_ret
  exact ⟨rfl, HC2.out⟩
end
end Go.Proofs.YtjbapfjeildfoaaDoor.kk
