/-
  What Goes answers: contracts. Condition: the table of bounds lies in its variable as the program's text has it; the bounds that each theorem names.
-/
import Derived.Test.YtjbapfjeildfoaaDoorC7
namespace Go.Proofs.YtjbapfjeildfoaaDoor.kk
open Go Go.ChangeShapes Go.WideShapes Go.ChangeAt Go.RowKit Go.Shelf
set_option linter.unusedVariables false

theorem kept4 {w1 : World} {gs o g B o2 k : Nat} {v : Value} {l l' : Ln} (c1 : w1.cell? ⟨gs, o, none⟩ = some v) (hr : w1.rangeAt g o2 (ln l)) (ht : w1.there B 0 18) (h1 : gs ≠ B) (h2 : g ≠ B) :
    ((w1.drewN k).setCells B 0 (ln l')).cell? ⟨gs, o, none⟩ = some v ∧ ((w1.drewN k).setCells B 0 (ln l')).rangeAt g o2 (ln l) ∧ ((w1.drewN k).setCells B 0 (ln l')).there B 0 18 :=
  ⟨(World.cell?_of_block (w := w1) (heap_setCells_other B gs h1 _ _ _)).trans c1, range_same hr (heap_setCells_other B g h2 _ _ _), World.there_setCells (w := w1.drewN k) (show (w1.drewN k).there B 0 18 from ht) _ _ _⟩
theorem there_of {w : World} {g : Nat} {l : Ln} (h : w.heap[g]? = some (.cells (la l) 36 (0, 0))) : w.there g 0 18 := fun j hj => by
  rw [Nat.zero_add, cell_of_row _ _ j _ _ _ h, Array.getElem?_eq_getElem (by rw [la_size]; exact hj)]
  exact ⟨rfl, frozen_of_row _ _ _ _ _ h⟩


section
variable (b : Int) (w : World)
theorem goes_bad (v : Value) (hb : ¬ (0 ≤ b ∧ b < 256)) : Calls Tryd.prog 14 #[v, .int .i64 b] w fun e w' => e = .returned (.tuple #[.agg (la zl), .bool false]) ∧ w.grownBy w' none := by
  have HB := Lib.hid (isBlock_any b)
  rw [decide_eq_false hb] at HB
  have HZ : Hid (la zl = _) := Lib.hid zl_la
  have HH : Hid ((w.alloc (.cells (la zl) 36)).heap[w.heap.size]? = some (.cells (la zl) 36 (0, 0))) := Lib.hid (heap_alloc_new _ _)
  have HG : Hid (w.grownBy (w.alloc (.cells (la zl) 36)) none) := Lib.hid (grown_alloc (grown_refl _ _) _)
  rw [HZ.out] at HH HG
  clear hb
  go_enter Tryd.func14, Tryd.ntmps14
  go_wp2_with (first
    | (go_at_call 29; ((with_reducible refine (HB.out _).mono ?_); rintro e w1 ⟨rfl, rfl⟩))
    | ((with_reducible refine store_any zl zl 4 11 w.heap.size ?_ ?_ ?_ ?_); (rfl); (rfl); (exact HH.out)))
  exact ret_ln rfl _ zl _ w.heap.size _ _ (by rfl) (by rfl) (range_of (setRow_heap _ _ _ _ _ _ HH.out)) (by exact ⟨rfl, grown_setRow HG.out _ (Nat.le_refl _) _⟩)

theorem own_after {w w1 : World} (hg : (w.alloc (.cells (la zl) 36)).grownBy w1 none) : w1.heap[w.heap.size]? = some (.cells (la zl) 36 (0, 0)) ∧ w.grownBy w1 none :=
  ⟨box_grown hg, grown_trans (grown_alloc (grown_refl _ _) _) hg⟩
theorem goes_nil (hb : 0 ≤ b ∧ b < 256) : Calls Tryd.prog 14 #[.pointer none, .int .i64 b] w fun e w' => e = .returned (.tuple #[.agg (la zl), .bool false]) ∧ w.grownBy w' none := by
  have HB := Lib.hid (isBlock_any b)
  rw [decide_eq_true hb] at HB
  have HN := Lib.hid (where_nil b)
  have HZ : Hid (la zl = _) := Lib.hid zl_la
  have HO : Hid (∀ w1, (w.alloc (.cells (la zl) 36)).grownBy w1 none → _) := Lib.hid fun w1 hg => own_after hg
  rw [HZ.out] at HO
  clear hb
  go_enter Tryd.func14, Tryd.ntmps14
  go_wp2_with (first
    | (go_at_call 29; ((with_reducible refine (HB.out _).mono ?_); rintro e w1 ⟨rfl, rfl⟩))
    | (go_at_call 31; ((with_reducible refine (HN.out _).mono ?_); rintro e w1 ⟨rfl, hg1⟩; have HG1 := Lib.hid (HO.out _ hg1); clear hg1))
    | ((with_reducible refine store_any zl zl 4 29 w.heap.size ?_ ?_ ?_ ?_); (rfl); (rfl); (exact HG1.out.1)))
  exact ret_ln rfl _ zl _ w.heap.size _ _ (by rfl) (by rfl) (range_of (setRow_heap _ _ _ _ _ _ HG1.out.1)) (by exact ⟨rfl, grown_setRow HG1.out.2 _ (Nat.le_refl _) _⟩)

variable (K : Loc) (c : Cfg) (ss : List St) (p : St) (hC : Cac w K c ss) (hT : Tab w) (hp : ss[setOf c b]? = some p) (hb : 0 ≤ b ∧ b < 256)
include hC hT hp hb
theorem goes_old (i : Nat) (hn : p.1.findIdx? (isOf b) = some i) : Calls Tryd.prog 14 #[.pointer (some ⟨K.b, 0, none⟩), .int .i64 b] w fun e w' => e = .returned (.tuple #[.agg (la zl), .bool false]) ∧ w.grownBy w' none := by
  have HB := Lib.hid (isBlock_any b)
  rw [decide_eq_true hb] at HB
  have hg0 : w.grownBy (w.alloc (.cells (la zl) 36)) none := grown_alloc (grown_refl _ _) _
  have HN := Lib.hid (where_any K c ss b p (w.alloc (.cells (la zl) 36)) (hC.grown hg0) (hT.grown hg0) hp)
  rw [way_some hn] at HN
  have HZ : Hid (la zl = _) := Lib.hid zl_la
  have HO : Hid (∀ w1, (w.alloc (.cells (la zl) 36)).grownBy w1 none → _) := Lib.hid fun w1 hg => own_after hg
  rw [HZ.out] at HO HN
  generalize setOf c b = s at *
  clear hb hC hT hp hn hg0
  go_enter Tryd.func14, Tryd.ntmps14
  go_wp2_with (first
    | (go_at_call 29; ((with_reducible refine (HB.out _).mono ?_); rintro e w1 ⟨rfl, rfl⟩))
    | (go_at_call 31; ((with_reducible refine HN.out.mono ?_); rintro e w1 ⟨rfl, hg1⟩; have HG1 := Lib.hid (HO.out _ hg1); clear hg1))
    | ((with_reducible refine store_any zl zl 4 29 w.heap.size ?_ ?_ ?_ ?_); (rfl); (rfl); (exact HG1.out.1)))
  exact ret_ln rfl _ zl _ w.heap.size _ _ (by rfl) (by rfl) (range_of (setRow_heap _ _ _ _ _ _ HG1.out.1)) (by exact ⟨rfl, grown_setRow HG1.out.2 _ (Nat.le_refl _) _⟩)
theorem goes_free (i : Nat) (hn : p.1.findIdx? (isOf b) = none) (hf : p.1.findIdx? isFree = some i) : Calls Tryd.prog 14 #[.pointer (some ⟨K.b, 0, none⟩), .int .i64 b] w fun e w' => e = .returned (.tuple #[.agg (la zl), .bool false]) ∧ w.grownBy w' none := by
  have HB := Lib.hid (isBlock_any b)
  rw [decide_eq_true hb] at HB
  have hg0 : w.grownBy (w.alloc (.cells (la zl) 36)) none := grown_alloc (grown_refl _ _) _
  have HN := Lib.hid (where_any K c ss b p (w.alloc (.cells (la zl) 36)) (hC.grown hg0) (hT.grown hg0) hp)
  rw [way_none hn] at HN
  obtain ⟨q, hq, hS⟩ := hC.seen hp
  have HF : Hid (∀ w1, (w.alloc (.cells (la zl) 36)).grownBy w1 none → _) := Lib.hid fun w1 hg =>
    have hg' := grown_trans hg0 hg
    free_any K.gs (setOf c b * 2) q.1 q.2 p.1.length p.1 w1 rfl (hg'.cell hS.sl (by simp)) (hS.row.grown hg' (by simp)) (hC.wid4 (List.mem_of_getElem? hp)).1
  rw [show ix isFree p.1 = (i : Int) by rw [ix, hf]] at HF
  have HZ : Hid (la zl = _) := Lib.hid zl_la
  have HO : Hid (∀ w1, (w.alloc (.cells (la zl) 36)).grownBy w1 none → _) := Lib.hid fun w1 hg => own_after hg
  rw [HZ.out] at HO HN HF
  clear hS hq q
  generalize setOf c b = s at *
  clear hb hC hT hp hn hg0 hf
  go_enter Tryd.func14, Tryd.ntmps14
  go_wp2_with (first
    | (go_at_call 29; ((with_reducible refine (HB.out _).mono ?_); rintro e w1 ⟨rfl, rfl⟩))
    | (go_at_call 31; ((with_reducible refine HN.out.mono ?_); rintro e w1 ⟨rfl, hg1⟩; have HG0 := Lib.hid hg1; clear hg1))
    | (go_at_call 32; ((with_reducible refine (HF.out _ HG0.out).mono ?_); rintro e w2 ⟨rfl, hg2⟩; have HG1 := Lib.hid (HO.out _ (grown_trans HG0.out hg2)); clear hg2))
    | ((with_reducible refine store_any zl zl 4 29 w.heap.size ?_ ?_ ?_ ?_); (rfl); (rfl); (exact HG1.out.1)))
  exact ret_ln rfl _ zl _ w.heap.size _ _ (by rfl) (by rfl) (range_of (setRow_heap _ _ _ _ _ _ HG1.out.1)) (by exact ⟨rfl, grown_setRow HG1.out.2 _ (Nat.le_refl _) _⟩)

set_option maxRecDepth 1000000 in
set_option maxHeartbeats 1000000 in
theorem goes_some (l : Ln) (hn : p.1.findIdx? (isOf b) = none) (hf : p.1.findIdx? isFree = none) (hl : p.1[vc p.2 p.1.length]? = some l) : Calls Tryd.prog 14 #[.pointer (some ⟨K.b, 0, none⟩), .int .i64 b] w fun e w' => e = .returned (.tuple #[.agg (la l), .bool true]) ∧ w.grownBy w' none := by
  have HB := Lib.hid (isBlock_any b)
  rw [decide_eq_true hb] at HB
  have hg0 : w.grownBy (w.alloc (.cells (la zl) 36)) none := grown_alloc (grown_refl _ _) _
  have HN := Lib.hid (where_any K c ss b p (w.alloc (.cells (la zl) 36)) (hC.grown hg0) (hT.grown hg0) hp)
  rw [way_none hn] at HN
  obtain ⟨q, hq, hS⟩ := hC.seen hp
  have HF : Hid (∀ w1, (w.alloc (.cells (la zl) 36)).grownBy w1 none → _) := Lib.hid fun w1 hg =>
    have hg' := grown_trans hg0 hg
    free_any K.gs (setOf c b * 2) q.1 q.2 p.1.length p.1 w1 rfl (hg'.cell hS.sl (by simp)) (hS.row.grown hg' (by simp)) (hC.wid4 (List.mem_of_getElem? hp)).1
  rw [show ix isFree p.1 = -1 by rw [ix, hf]] at HF
  have HV : Hid (∀ w1, (w.alloc (.cells (la zl) 36)).grownBy w1 none → _) := Lib.hid fun w1 hg => victim_any K c ss (setOf c b) p w1 (hC.grown (grown_trans hg0 hg)) hp
  have HX : Hid (∀ w1, (w.alloc (.cells (la zl) 36)).grownBy w1 none → w1.cell? ⟨K.gs, setOf c b * 2, none⟩ = some (.slice (some ⟨q.1, 0, none⟩) p.1.length q.2) ∧ w1.rangeAt q.1 (vc p.2 p.1.length * 18) (ln l) ∧ w1.there w.heap.size 0 18) := Lib.hid fun w1 hg =>
    have hg' := grown_trans hg0 hg
    ⟨hg'.cell hS.sl (by simp), (hS.row.grown hg' (by simp)).at_ _ l hl, there_of (box_grown hg)⟩
  have hN1 : K.gs ≠ w.heap.size := by have := hC.ltg; omega
  have hN2 : q.1 ≠ w.heap.size := by have := hS.row.lt; omega
  have hv : vc p.2 p.1.length < p.1.length := (List.getElem?_eq_some_iff.1 hl).1
  have HZ : Hid (la zl = _) := Lib.hid zl_la
  have HO : Hid (∀ w1, (w.alloc (.cells (la zl) 36)).grownBy w1 none → _) := Lib.hid fun w1 hg => own_after hg
  rw [HZ.out] at HO HN HF HV HX
  clear hS hq
  generalize vc p.2 p.1.length = v at *
  generalize p.1.length = n at *
  generalize setOf c b = s at *
  have hlen := ln_len l
  have hone := ln_one l
  clear hb hC hT hp hn hg0 hf hl
  go_enter Tryd.func14, Tryd.ntmps14
  go_wp2_with (first
    | (go_at_call 29; ((with_reducible refine (HB.out _).mono ?_); rintro e w1 ⟨rfl, rfl⟩))
    | (go_at_call 31; ((with_reducible refine HN.out.mono ?_); rintro e w1 ⟨rfl, hg1⟩; have HG0 := Lib.hid hg1; clear hg1))
    | (go_at_call 32; ((with_reducible refine (HF.out _ HG0.out).mono ?_); rintro e w2 ⟨rfl, hg2⟩; have HG2 := Lib.hid (grown_trans HG0.out hg2); clear hg2)))
  obtain ⟨c1, hr, ht⟩ := HX.out w2 HG2.out
  have HG1 := Lib.hid (HO.out w2 HG2.out)
  have HK : Hid (∀ k, _) := Lib.hid (fun k => kept4 (k := k) (l' := l) c1 hr ht hN1 hN2)
  have HD : Hid (∀ w', w'= w2.drew → _) := Lib.hid (fun w' (hw : w' = w2.drew) => HV.out w' (hw ▸ grown_drew HG2.out))
  obtain ⟨t, nn, HT, hagg, hsize, hld, hsz, hst⟩ := named2
  have hsz := hsz l
  have hst := hst w.heap.size 0 l
  have hld := hld q.1 (v * 18) l
  rw [HT.out.1, HT.out.2]
  go_region_held (fun w' => w'.cell? ⟨K.gs, s * 2, none⟩ = some (.slice (some ⟨q.1, 0, none⟩) n q.2) ∧ w'.rangeAt q.1 (v * 18) (ln l) ∧ w'.there w.heap.size 0 18) (first | exact ⟨c1, hr, ht⟩ | exact HK.out _) (first | (go_at_call 34; refine (HD.out _ rfl).mono ?_; rintro e w5 ⟨rfl, n5, rfl⟩))
  go_wp2_with fail
  have HR : Hid (((w2.drewN (1 + n5)).setCells w.heap.size 0 (ln l)).rangeAt w.heap.size 0 (ln l)) := Lib.hid (World.rangeAt_setCells_same _ _ _ _ (by rw [ln_len]; exact ht))
  have HE : Hid (w.grownBy ((w2.drewN (1 + n5)).setCells w.heap.size 0 (ln l)) none) := Lib.hid (by
    have h1 := grown_trans HG1.out.2 (grown_drewN w2 (1 + n5) none)
    have h2 := grown_setCells (w2.drewN (1 + n5)) w.heap.size 0 (ln l)
    exact ⟨h2.os.trans h1.os, h2.tape.trans h1.tape, h2.output.trans h1.output, Nat.le_trans h1.size h2.size, fun k hk hn => (h2.block k (Nat.lt_of_lt_of_le hk h1.size) (by simp; omega)).trans (h1.block k hk hn)⟩)
  exact ret_ln rfl _ l _ w.heap.size _ _ (by rfl) (by rfl) HR.out (by exact ⟨rfl, HE.out⟩)
end
end Go.Proofs.YtjbapfjeildfoaaDoor.kk
