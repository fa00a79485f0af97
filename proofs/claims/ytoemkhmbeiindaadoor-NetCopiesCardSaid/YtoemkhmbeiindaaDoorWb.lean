/-
  works returns true: the walk. Condition: the tables of bounds and of kinds lie in their variables as the program's text has them.
-/
import Derived.Test.YtoemkhmbeiindaaDoorWa
namespace Go.Proofs.YtoemkhmbeiindaaDoor.tt
open Go Go.ChangeShapes Go.WideShapes Go.ChangeAt Go.RowKit Go.Shelf
set_option linter.unusedVariables false

theorem keepF {wb w1 w2 : World} {F : World → Prop} (H : Hid (∀ w', wb.grownBy w' none → F w')) (h : F w1 ∧ wb.grownBy w1 none) (k : w1.grownBy w2 none) : F w2 ∧ wb.grownBy w2 none :=
  ⟨H.out _ (grown_trans h.2 k), grown_trans h.2 k⟩
theorem own_new1 (w : World) (hT : Tab w) : Calls Tryd.prog 9 #[.agg c2.cells, .int .i64 1] w fun e w' => ∃ t p, e = .returned (.tuple #[.pointer (some ⟨t, 0, none⟩), .int .i64 0]) ∧ Own w w' t p c2 1 (.slice none 0 0) [] 0 := own_new c2 1 w hT c2_may (Nat.le_refl _) (by omega)
set_option maxRecDepth 1000000 in
set_option maxHeartbeats 2000000 in
theorem works_any (w : World) (hT : Tab w) (hK : TabK w) : Calls Tryd.prog 11 #[] w fun e w' => e = .returned (.bool true) ∧ w.grownBy w' none := by
  have HT := Lib.hid hT
  have HK := Lib.hid hK
  have HP := Lib.hid (two_any w)
  have HN : Hid (∀ w', w.grownBy w' none → _) := Lib.hid (fun w' h => own_new1 w' (hT.grown h))
  clear hT hK
  go_enter Tryd.func11, Tryd.ntmps11
  go_wp2_with (first
    | (go_at_call 10; ((with_reducible refine HP.out.mono ?_); rintro e w0 ⟨rfl, hg0⟩; have HG0 := Lib.hid hg0; clear hg0))
    | (go_at_call 9; ((with_reducible refine (HN.out _ HG0.out).mono ?_); rintro e w1 ⟨t, p, rfl, ho1⟩; have H1 := Lib.hid (ho1.from HG0.out); clear ho1))
    | (go_at_call 13; ((with_reducible refine (up_any 1 1 5 _).mono ?_); rintro e w2 ⟨rfl, hg2⟩; have H2 := Lib.hid (H1.out.grown hg2); clear hg2 H1))
    | (go_at_call 12; ((with_reducible refine (own_send HT.out HK.out H2.out _).mono ?_); rintro e w3 ⟨he, v3, ho3, _⟩; (rw [k1.1] at he); (rw [k1.2] at ho3); subst he; have H3 := Lib.hid ho3; clear ho3 H2))
    | (go_at_call 13; ((with_reducible refine (up_any 2 0 6 _).mono ?_); rintro e w4 ⟨rfl, hg4⟩; have H4 := Lib.hid (H3.out.grown hg4); clear hg4 H3))
    | (go_at_call 12; ((with_reducible refine (own_send HT.out HK.out H4.out _).mono ?_); rintro e w5 ⟨he, v5, ho5, _⟩; (rw [k2.1] at he); (rw [k2.2] at ho5); subst he; have H5 := Lib.hid ho5; clear ho5 H4))
    | (go_at_call 13; ((with_reducible refine (up_any 11 0 6 _).mono ?_); rintro e w6 ⟨rfl, hg6⟩; have H6 := Lib.hid (H5.out.grown hg6); clear hg6 H5))
    | (go_at_call 12; ((with_reducible refine (own_send HT.out HK.out H6.out _).mono ?_); rintro e w7 ⟨he, v7, ho7, _⟩; (rw [k3.1] at he); (rw [k3.2] at ho7); subst he; have H7 := Lib.hid ho7; clear ho7 H6))
    | (go_at_call 17; ((with_reducible refine (own_len H7.out).mono ?_); rintro e w8 ⟨rfl, rfl⟩))
    | (go_at_call 14; ((with_reducible refine (own_takeI H7.out 1 1 rfl (upn 11 0 6) rfl (by omega) (by omega)).mono ?_); rintro e w9 ⟨rfl, v9, ho9, _⟩; have H9 := Lib.hid ho9; clear ho9 H7))
    | ((with_reducible refine store_new (upn 11 0 6) _ _ _ ?_ ?_ ?_ ?_); (rfl); (rfl); (rfl)))
  have hr : (w9.alloc (.cells (na (upn 11 0 6)) 37)).rangeAt w9.heap.size 0 (nt (upn 11 0 6)) := range_of (heap_alloc_new _ _)
  obtain ⟨wb, hwb⟩ : ∃ wb, w9.alloc (.cells (na (upn 11 0 6)) 37) = wb := ⟨_, rfl⟩
  have HG0 : Hid (wb.grownBy wb none) := Lib.hid (grown_refl _ _)
  have HWB := Lib.hid (H9.out.grown (w' := wb) (hwb ▸ grown_alloc (grown_refl _ _) _))
  rw [hwb] at hr ⊢
  obtain ⟨t', mm, HTT, hagg, hsize, hld⟩ := named
  have HL : Hid (∀ w', wb.grownBy w' none → (loadCellsFrom ⟨w9.heap.size, 0, none⟩ 0 mm #[]).run Tryd.prog w' = .ok (na (upn 11 0 6)) w') := Lib.hid fun w' h => hld _ _ _ (range_grown hr h (by simp))
  have hq : ∀ w, (binOp .eql 37 (.agg (na (upn 11 0 6))) (.agg (na (upn 11 0 6)))).run Tryd.prog w = .ok (.bool true) w := fun w => by rw [q31e, decide_eq_true rfl]
  clear hld hwb hr H9
  rw [HTT.out]
  first
  | (go_region_held3 (fun w' => (loadCellsFrom ⟨w9.heap.size, 0, none⟩ 0 mm #[]).run Tryd.prog w' = .ok (na (upn 11 0 6)) w' ∧ wb.grownBy w' none) (first | exact ⟨HL.out _ HG0.out, HG0.out⟩ | exact ⟨HL.out _ (grown_drew HG0.out), grown_drew HG0.out⟩ | assumption | exact keepF HL (by assumption) (by assumption) | exact keepF HL (by assumption) (grown_drew (grown_refl _ _))) (first
      | (go_at_call 13; ((refine (up_any 11 0 6 _).mono ?_); rintro e w10 ⟨rfl, hg10⟩))
      | (go_at_call 17; ((refine (own_len (HWB.out.grown (And.right (by assumption : _ ∧ wb.grownBy _ none)))).mono ?_); rintro e w11 ⟨rfl, rfl⟩))))
  | fail
  all_goals (go_wp2; go_ret; exact ⟨rfl, (HWB.out.grown (And.right (by assumption : _ ∧ wb.grownBy _ none))).old⟩)
end Go.Proofs.YtoemkhmbeiindaaDoor.tt
