/-
  The law NoteOnce returns true: the walk. Condition: the table of kinds lies in its variable as the program's text has it.
-/
import Derived.Test.YthmnjoanehepcaaDoorC1
namespace Go.Proofs.YthmnjoanehepcaaDoor.nn
open Go Go.ChangeShapes Go.WideShapes Go.ChangeAt Go.RowKit
set_option linter.unusedVariables false

/-- The same note, its ends turned. -/
def turnd (n : Nt) : Nt := ⟨n.k, n.t, n.f, n.b, n.st, n.s, n.h, n.q, n.d, n.hd⟩
theorem ends {n : Nt} (h : n.ok) : (n.f = -1 ∧ 0 ≤ n.t) ∨ (n.t = -1 ∧ 0 ≤ n.f) := by
  have hr := (rule_ok n h.1 h.2.1).1 h
  have ha := hr.at_
  have hc := hr.core
  cases hT : tH n.k <;> rw [hT] at ha hc <;> simp at ha hc <;> omega
theorem turnd_no {n : Nt} (h : n.ok) : ¬ (turnd n).ok := fun h' => by
  have hr := (rule_ok n h.1 h.2.1).1 h
  have hr' := (rule_ok (turnd n) h'.1 h'.2.1).1 h'
  have ha := hr.at_
  have hc := hr'.core
  have : tH (turnd n).k = tH n.k := rfl
  rw [this] at hc
  cases hT : tH n.k <;> rw [hT] at ha hc <;> simp [turnd] at ha hc <;> omega
theorem net_bd {k : Int} (h : 1 ≤ k ∧ k ≤ 11) : 0 ≤ net k ∧ net k < 3 := by
  unfold net; rw [if_pos h]; split; · omega
  split <;> omega
theorem blk_cell {w : World} {b o : Nat} {t : TypeId} {cur : Array Value} (v : Value) (h : w.heap[b]? = some (.cells cur t (0, 0))) : (w.setCell ⟨b, o, none⟩ v).heap[b]? = some (.cells (cur.set! o v) t (0, 0)) := blk_setCell v h
/-- What the exchange of a note's ends is told. -/
theorem turn_at {w wb w2 : World} {n : Nt} (hg : wb.grownBy w2 none) (hr : w2.rangeAt w.heap.size 0 (nt n)) : ∃ w3, w2.alloc (.cells (na n) 31) = w3 ∧
    w3.cell? ⟨w.heap.size, 1, none⟩ = some (.int .i64 n.f) ∧ w3.cell? ⟨w.heap.size, 2, none⟩ = some (.int .i64 n.t) ∧
    w3.cell? ⟨w2.heap.size, 1, none⟩ = some (.int .i64 n.f) ∧ w3.cell? ⟨w2.heap.size, 2, none⟩ = some (.int .i64 n.t) ∧ w3.frozen? ⟨w2.heap.size, 1, none⟩ = false ∧ w3.frozen? ⟨w2.heap.size, 2, none⟩ = false ∧
    (w3.heap[w2.heap.size]? = some (.cells (na n) 31 (0, 0)) ∧ wb.grownBy w3 none ∧ w3.rangeAt w.heap.size 0 (nt n) ∧ w.heap.size < w2.heap.size) := by
  have hb := heap_alloc_new w2 (.cells (na n) 31)
  have hr3 := range_grown hr (grown_alloc (grown_refl w2 none) (.cells (na n) 31)) (by simp)
  have hm := range_of hb
  refine ⟨_, rfl, cell_at hr3 1 _ rfl, cell_at hr3 2 _ rfl, cell_at hm 1 _ rfl, cell_at hm 2 _ rfl, frozen_of_row _ _ _ _ _ hb, frozen_of_row _ _ _ _ _ hb, hb, grown_alloc hg _, hr3, ?_⟩
  have h0 := cell_at hr 0 _ rfl
  unfold World.cell? at h0
  cases hq : w2.heap[w.heap.size]? with
  | none => rw [hq] at h0; cases h0
  | some o => exact lt_of hq

theorem turn_end {wb w2 w3 : World} {n : Nt} {B : Nat} (h : w3.heap[w2.heap.size]? = some (.cells (na n) 31 (0, 0)) ∧ wb.grownBy w3 none ∧ w3.rangeAt B 0 (nt n) ∧ B < w2.heap.size) (hs : wb.heap.size ≤ w2.heap.size) :
    ((w3.setCell ⟨w2.heap.size, 1, none⟩ (.int .i64 n.t)).setCell ⟨w2.heap.size, 2, none⟩ (.int .i64 n.f)).drew.rangeAt w2.heap.size 0 (nt (turnd n)) ∧ ((w3.setCell ⟨w2.heap.size, 1, none⟩ (.int .i64 n.t)).setCell ⟨w2.heap.size, 2, none⟩ (.int .i64 n.f)).drew.rangeAt B 0 (nt n) ∧ wb.grownBy ((w3.setCell ⟨w2.heap.size, 1, none⟩ (.int .i64 n.t)).setCell ⟨w2.heap.size, 2, none⟩ (.int .i64 n.f)).drew none := by
  obtain ⟨h1, h2, h3, h4⟩ := h
  have b2 := blk_setCell (o := 2) (.int .i64 n.f) (blk_setCell (o := 1) (.int .i64 n.t) h1)
  have hg : w3.grownBy ((w3.setCell ⟨w2.heap.size, 1, none⟩ (.int .i64 n.t)).setCell ⟨w2.heap.size, 2, none⟩ (.int .i64 n.f)) (some w2.heap.size) := grown_trans (grown_setCells _ _ 1 [_]) (grown_setCells _ _ 2 [_])
  have he : ((na n).set! 1 (.int .i64 n.t)).set! 2 (.int .i64 n.f) = na (turnd n) := by
    simp [na, nt, turnd, Array.set!_eq_setIfInBounds]
  rw [he] at b2
  exact ⟨range_of (n := turnd n) b2, range_grown (w := w3) h3 (grown_drew hg) (by simp; omega), grown_drew (grown_new h2 hs hg)⟩
set_option maxRecDepth 100000 in
set_option maxHeartbeats 1000000 in
theorem once_true (n : Nt) (w : World) (hT : Tab w) : Calls Tryd.prog 7 #[.agg (na n)] w fun e w' => e = .returned (.bool true) ∧ w.grownBy w' none := by
  have HT := Lib.hid (fun w' (h : w.grownBy w' none) => hT.grown h)
  have HM : Hid (∀ w', Tab w' → _) := Lib.hid fun w' h => may_any n w' h
  have HWK : Hid (∀ w', Tab w' → _) := Lib.hid fun w' h => works_any w' h
  obtain ⟨wb, hwb⟩ : ∃ wb, w.alloc (.cells (na n) 31) = wb := ⟨_, rfl⟩
  have HG : Hid (w.grownBy wb none) := Lib.hid (hwb ▸ grown_alloc (grown_refl w none) (.cells (na n) 31))
  have HR : Hid (wb.rangeAt w.heap.size 0 (nt n)) := Lib.hid (hwb ▸ range_of (heap_alloc_new w (.cells (na n) 31)))
  have HWB := Lib.hid hwb
  clear hT hwb
  by_cases h : n.ok
  · rw [yes_of h] at HM
    have HM2 : Hid (∀ w', Tab w' → _) := Lib.hid fun w' hh => may_any (turnd n) w' hh
    rw [yes_not (turnd_no h)] at HM2
    have HN := Lib.hid (net_any n.k)
    obtain ⟨q1, q2⟩ := net_bd h.1
    generalize net n.k = q at *
    have he := ends h
    rcases he with ⟨h1, h2⟩ | ⟨h1, h2⟩
    all_goals
      have HE := Lib.hid h1
      first
      | have hb : (n.t == -1) = false := (by simp; omega)
      | have hb : (n.f == -1) = false := (by simp; omega)
      clear h h1
      go_enter Tryd.func7, Tryd.ntmps7
      go_wp2_with (first
        | ((with_reducible refine load_nt n 1 w.heap.size ?_ (by rw [HWB.out]; exact HR.out) ?_); (rfl))
        | (go_at_call 14; (rw [HWB.out]; (with_reducible refine (HM.out _ (HT.out _ HG.out)).mono ?_); rintro e w2 ⟨rfl, hg2⟩; have H2 := Lib.hid hg2; clear hg2; have hr2 := range_grown HR.out H2.out (by simp)))
        | ((with_reducible refine load_nt n 1 w.heap.size ?_ hr2 ?_); (rfl))
        | ((with_reducible refine store_new n _ 3 9 ?_ ?_ ?_ ?_); (rfl); (rfl); (rfl)))
      obtain ⟨w3, hw3, h3⟩ := turn_at H2.out hr2
      rw [hw3]
      obtain ⟨x1, x2, z1, z2, f1, f2, hk⟩ := h3
      have HK := Lib.hid hk
      have HSZ := Lib.hid H2.out.size
      have hlt := hk.2.2.2
      have hne : ¬ w.heap.size = w2.heap.size := by omega
      have hne2 : ¬ w2.heap.size = w.heap.size := by omega
      clear hk hw3 hr2
      go_region
      all_goals
        have HW4 := Lib.hid (turn_end HK.out HSZ.out)
        clear HK x1 x2 z1 z2 f1 f2
        obtain ⟨w4, hw4⟩ : ∃ w4, ((w3.setCell ⟨w2.heap.size, 1, none⟩ (.int .i64 n.t)).setCell ⟨w2.heap.size, 2, none⟩ (.int .i64 n.f)).drew = w4 := ⟨_, rfl⟩
        rw [hw4] at HW4 ⊢
        clear hw4
        have c0 := cell_at HW4.out.2.1 0 _ rfl
        have hr4 := HW4.out.1
        go_wp2_with (first
          | (go_at_call 12; ((with_reducible refine (HN.out _).mono ?_); rintro e w5 ⟨rfl, rfl⟩))
          | ((with_reducible refine load_nt (turnd n) 3 w2.heap.size ?_ hr4 ?_); (rfl))
          | (go_at_call 14; ((with_reducible refine (HM2.out _ (HT.out _ (grown_trans HG.out HW4.out.2.2))).mono ?_); rintro e w6 ⟨rfl, hg6⟩; have H6 := Lib.hid (grown_trans HG.out (grown_trans HW4.out.2.2 hg6)); have hr6 := range_grown HW4.out.2.1 hg6 (by simp); have d1 := cell_at hr6 1 _ rfl; have d2 := cell_at hr6 2 _ rfl; (first | rw [HE.out] at d1 | rw [HE.out] at d2); clear hg6 hr6 c0 hr4))
          | (go_at_call 11; ((with_reducible refine (HWK.out _ (HT.out _ H6.out)).mono ?_); rintro e w7 ⟨rfl, hg7⟩; have H7 := Lib.hid (grown_trans H6.out hg7); clear hg7 H6)))
        go_ret
        exact ⟨rfl, H7.out⟩
  · rw [yes_not h] at HM
    clear h
    go_enter Tryd.func7, Tryd.ntmps7
    go_wp2_with (first
      | ((with_reducible refine load_nt n 1 w.heap.size ?_ (by rw [HWB.out]; exact HR.out) ?_); (rfl))
      | (go_at_call 14; (rw [HWB.out]; (with_reducible refine (HM.out _ (HT.out _ HG.out)).mono ?_); rintro e w2 ⟨rfl, hg2⟩; have H2 := Lib.hid (grown_trans HG.out hg2); clear hg2))
      | (go_at_call 11; ((with_reducible refine (HWK.out _ (HT.out _ H2.out)).mono ?_); rintro e w3 ⟨rfl, hg3⟩; have H3 := Lib.hid (grown_trans H2.out hg3); clear hg3 H2)))
    go_ret
    exact ⟨rfl, H3.out⟩
end Go.Proofs.YthmnjoanehepcaaDoor.nn
