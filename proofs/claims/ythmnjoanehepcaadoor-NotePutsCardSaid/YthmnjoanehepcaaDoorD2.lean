/-
  The law NotePuts returns true: the walk. Condition: the table of kinds lies in its variable as the program's text has it.
-/
import Derived.Test.YthmnjoanehepcaaDoorC1
import Derived.Test.YthmnjoanehepcaaDoorB7
namespace Go.Proofs.YthmnjoanehepcaaDoor.nn
open Go Go.ChangeShapes Go.WideShapes Go.ChangeAt Go.RowKit
set_option linter.unusedVariables false

theorem rput_any (n : Nt) (hF : n.Fit) (w : World) : Calls Tryd.prog 13 #[.agg (na n)] w fun e w' => e = .returned (.tuple #[S (if n.ok then putb n else []), .int .i64 (yes n.ok)]) ∧ w.grownBy w' none := by
  by_cases h : n.ok
  · rw [if_pos h, yes_of h]; exact rput_yes n w h hF
  · rw [if_neg h, yes_not h]; exact rput_no n w h

set_option maxRecDepth 100000 in
set_option maxHeartbeats 1000000 in
theorem puts_true (n : Nt) (hF : n.Fit) (w : World) (hT : Tab w) : Calls Tryd.prog 4 #[.agg (na n)] w fun e w' => e = .returned (.bool true) ∧ w.grownBy w' none := by
  have HT := Lib.hid (fun w' (h : w.grownBy w' none) => hT.grown h)
  have HP : Hid (∀ w', Tab w' → _) := Lib.hid fun w' h => put_any n hF w' h
  have HRP := Lib.hid (rput_any n hF)
  have HM : Hid (∀ w', Tab w' → _) := Lib.hid fun w' h => may_any n w' h
  have HRM := Lib.hid (rmay_any n)
  have HN := Lib.hid (net_any n.k)
  have HRN := Lib.hid (rnet_any n.k)
  have HWK : Hid (∀ w', Tab w' → _) := Lib.hid fun w' h => works_any w' h
  obtain ⟨wb, hwb⟩ : ∃ wb, w.alloc (.cells (na n) 31) = wb := ⟨_, rfl⟩
  have HG : Hid (w.grownBy wb none) := Lib.hid (hwb ▸ grown_alloc (grown_refl w none) (.cells (na n) 31))
  have HR : Hid (wb.rangeAt w.heap.size 0 (nt n)) := Lib.hid (hwb ▸ range_of (heap_alloc_new w (.cells (na n) 31)))
  have HWB := Lib.hid hwb
  clear hT hwb
  generalize (if n.ok then putb n else []) = l at *
  obtain ⟨b, y, hb⟩ : ∃ (b : Bool) (y : Int), yes n.ok = y ∧ decide n.ok = b ∧ (y = if b then 0 else 2) := by
    by_cases h : n.ok
    · exact ⟨true, 0, yes_of h, decide_eq_true h, rfl⟩
    · exact ⟨false, 2, yes_not h, decide_eq_false h, rfl⟩
  rw [hb.1] at HP HRP HM
  rw [hb.2.1] at HRM
  have hy := hb.2.2
  clear hb
  obtain ⟨t, mm, HTT, hagg, hsize, hld⟩ := named
  have HL : Hid (∀ w', wb.grownBy w' none → (loadCellsFrom ⟨w.heap.size, 0, none⟩ 0 mm #[]).run Tryd.prog w' = .ok (na n) w' ∧ w'.cell? ⟨w.heap.size, 0, none⟩ = some (.int .u8 n.k)) := Lib.hid fun w' h => ⟨hld _ _ _ (range_grown HR.out h (by simp)), cell_at (range_grown HR.out h (by simp)) 0 _ rfl⟩
  have HG0 : Hid (wb.grownBy wb none) := Lib.hid (grown_refl _ _)
  clear hld
  cases b
  all_goals
    simp at hy
    subst hy
    go_enter Tryd.func4, Tryd.ntmps4
    go_wp2_with (first
      | ((with_reducible refine load_nt n 1 w.heap.size ?_ (by rw [HWB.out]; exact HR.out) ?_); (rfl))
      | (go_at_call 9; (rw [HWB.out]; (with_reducible refine (HP.out _ (HT.out _ HG.out)).mono ?_); rintro e w2 ⟨rfl, hg2⟩; have H2 := Lib.hid hg2; clear hg2; have hr2 := range_grown HR.out H2.out (by simp)))
      | ((with_reducible refine load_nt n 1 w.heap.size ?_ hr2 ?_); (rfl))
      | (go_at_call 13; ((with_reducible refine (HRP.out _).mono ?_); rintro e w3 ⟨rfl, hg3⟩; have H3 := Lib.hid (grown_trans H2.out hg3); clear hg3 H2 hr2)))
    rw [HTT.out]
    first
    | (go_region_held3 (fun w' => ((loadCellsFrom ⟨w.heap.size, 0, none⟩ 0 mm #[]).run Tryd.prog w' = .ok (na n) w' ∧ w'.cell? ⟨w.heap.size, 0, none⟩ = some (.int .u8 n.k)) ∧ wb.grownBy w' none) (first | exact ⟨HL.out _ H3.out, H3.out⟩ | exact ⟨HL.out _ (grown_drew H3.out), grown_drew H3.out⟩ | assumption | exact keep2 HL (by assumption) (by assumption) | exact keep2 HL (by assumption) (grown_drew (grown_refl _ _))) (first
        | (go_at_call 14; ((refine (HM.out _ (HT.out _ (grown_trans HG.out (And.right (by assumption : _ ∧ wb.grownBy _ none))))).mono ?_); rintro e w9 ⟨rfl, hg9⟩))
        | (go_at_call 15; ((refine (HRM.out _).mono ?_); rintro e w10 ⟨rfl, hg10⟩))
        | (go_at_call 12; ((refine (HN.out _).mono ?_); rintro e w10 ⟨rfl, rfl⟩))
        | (go_at_call 16; ((refine (HRN.out _).mono ?_); rintro e w10 ⟨rfl, rfl⟩))
        | (go_at_call 11; ((refine (HWK.out _ (HT.out _ (grown_trans HG.out (And.right (by assumption : _ ∧ wb.grownBy _ none))))).mono ?_); rintro e w9 ⟨rfl, hg9⟩))))
    | fail
    all_goals (go_wp2; go_ret; exact ⟨rfl, grown_trans HG.out (And.right (by assumption))⟩)
end Go.Proofs.YthmnjoanehepcaaDoor.nn
