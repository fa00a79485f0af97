/-
  works returns true; so do the laws PlanKnown, PlanMay and PlanAddrs: the walks. Condition: the table of bounds lies in its variable as the program's text has it; what each theorem names besides.
-/
import Derived.Test.YtkeeajiikfddgaaDoorC6
namespace Go.Proofs.YtkeeajiikfddgaaDoor.qq
open Go Go.ChangeShapes Go.WideShapes Go.ChangeAt Go.RowKit
set_option linter.unusedVariables false

/-- The plan of the examples. -/
def pl : Cfg := ⟨2, 2, 2, 10, 1, 1, 1, 1⟩
theorem pl_may : pl.may := by decide +kernel
theorem info26 : (Tryd.prog.info? 26).map (·.size) = some 8 := by kernel_rfl
theorem two_any (w : World) : Calls Tryd.prog 11 #[] w fun e w' => e = .returned (.agg pl.cells) ∧ w.grownBy w' none := by
  go_enter Tryd.func11, Tryd.ntmps11
  go_wp2
  refine bodyPost_ret (v := .agg pl.cells) (results_cell_row rfl _ _ w.heap.size 26 pl.cells (0, 0) _ rfl (heap_alloc_new _ _) Tryd.underlying26 rfl info26) rfl ?_
  exact ⟨rfl, grown_alloc (grown_refl _ _) _⟩

def zc : Cfg := ⟨0, 0, 0, 0, 0, 0, 0, 0⟩
theorem zc_may : ¬ zc.may := by decide +kernel

theorem works_any (w : World) (hT : Tab w) : Calls Tryd.prog 13 #[] w fun e w' => e = .returned (.bool true) ∧ w.grownBy w' none := by
  have HT := Lib.hid hT
  have H2 : Hid (∀ w, _) := Lib.hid two_any
  have HW : Hid (∀ w, Tab w → Calls Tryd.prog 12 #[.agg pl.cells, .int .u32 68] w fun e w' => e = .returned (.tuple #[.int .i64 1, .int .i64 1, .int .i64 0]) ∧ w.grownBy w' none) := Lib.hid (fun w h => where_in pl 68 w h pl_may (by decide) (by decide) (by decide) (by decide) (by decide))
  have HD : Hid (∀ w, Tab w → Calls Tryd.prog 18 #[.agg pl.cells] w fun e w' => e = .returned (.int .i64 8) ∧ w.grownBy w' none) := Lib.hid (fun w h => data_yes pl w h pl_may)
  have HZ : Hid (∀ w, Tab w → Calls Tryd.prog 14 #[.agg #[.int .i64 0, .int .i64 0, .int .i64 0, .int .i64 0, .int .i64 0, .int .i64 0, .int .i64 0, .int .i64 0]] w fun e w' => e = .returned (.int .i64 2) ∧ w.grownBy w' none) := Lib.hid (fun w h => by
    have := may_any zc w h
    rw [yes_not zc_may] at this
    exact this)
  clear hT
  go_enter Tryd.func13, Tryd.ntmps13
  go_wp2_with (first
    | (go_at_call 12; ((with_reducible refine (HW.out _ (HT.out.grown HG1.out)).mono ?_); rintro e w2 ⟨rfl, hg2⟩; have HG2 := Lib.hid (grown_trans HG1.out hg2); clear hg2))
    | (go_at_call 18; ((with_reducible refine (HD.out _ (HT.out.grown HG3.out)).mono ?_); rintro e w4 ⟨rfl, hg4⟩; have HG4 := Lib.hid (grown_trans HG3.out hg4); clear hg4))
    | (go_at_call 14; ((with_reducible refine (HZ.out _ (HT.out.grown HG4.out)).mono ?_); rintro e w5 ⟨rfl, hg5⟩; have HG5 := Lib.hid (grown_trans HG4.out hg5); clear hg5))
    | (go_at_call 11; ((with_reducible refine (H2.out _).mono ?_); rintro e w3 ⟨rfl, hg3⟩; have HG3 := Lib.hid (grown_trans HG2.out hg3); clear hg3))
    | (go_at_call 11; ((with_reducible refine (H2.out _).mono ?_); rintro e w1 ⟨rfl, hg1⟩; have HG1 := Lib.hid hg1; clear hg1)))
  go_ret
  exact ⟨rfl, HG5.out⟩

def p3 : Cfg := ⟨2, 3, 2, 10, 1, 1, 1, 1⟩
def p2 : Cfg := ⟨2, 2, 2, 2, 1, 1, 1, 1⟩
theorem p3_may : ¬ p3.may := by decide +kernel
theorem p2_may : ¬ p2.may := by decide +kernel

/-- Two plans in the two blocks that were made last. -/
theorem cfg_two (w : World) (c d : Cfg) : CfgAt ((w.alloc (.cells c.cells 26)).alloc (.cells d.cells 26)) w.heap.size c ∧ CfgAt ((w.alloc (.cells c.cells 26)).alloc (.cells d.cells 26)) (w.heap.size + 1) d := by
  refine ⟨(cfg_at w c).grown (grown_alloc (grown_refl _ _) _), ?_⟩
  have h := cfg_at (w.alloc (.cells c.cells 26)) d
  rwa [show (w.alloc (.cells c.cells 26)).heap.size = w.heap.size + 1 by simp] at h

set_option maxHeartbeats 1000000 in
theorem known_true (w : World) (hT : Tab w) : Calls Tryd.prog 3 #[] w fun e w' => e = .returned (.bool true) ∧ w.grownBy w' none := by
  have HT := Lib.hid hT
  have H2 : Hid (∀ w, Calls Tryd.prog 11 #[] w fun e w' => e = .returned (.agg #[.int .i64 2, .int .i64 2, .int .i64 2, .int .i64 10, .int .i64 1, .int .i64 1, .int .i64 1, .int .i64 1]) ∧ w.grownBy w' none) := Lib.hid two_any
  have HL : Hid (∀ w, Tab w → Calls Tryd.prog 10 #[.agg #[.int .i64 2, .int .i64 2, .int .i64 2, .int .i64 10, .int .i64 1, .int .i64 1, .int .i64 1, .int .i64 1], .int .i64 1] w fun e w' => e = .returned (.tuple #[.int .i64 9, .int .i64 1, .int .i64 0]) ∧ w.grownBy w' none) := Lib.hid (fun w h => log_in pl 1 w h pl_may (by decide) (by decide))
  have HW1 : Hid (∀ w, Tab w → Calls Tryd.prog 12 #[.agg #[.int .i64 2, .int .i64 2, .int .i64 2, .int .i64 10, .int .i64 1, .int .i64 1, .int .i64 1, .int .i64 1], .int .u32 70] w fun e w' => e = .returned (.tuple #[.int .i64 0, .int .i64 0, .int .i64 50]) ∧ w.grownBy w' none) := Lib.hid (fun w h => where_align pl 70 w h pl_may (by decide) (by decide) (by decide))
  have HW2 : Hid (∀ w, Tab w → Calls Tryd.prog 12 #[.agg #[.int .i64 2, .int .i64 2, .int .i64 2, .int .i64 10, .int .i64 1, .int .i64 1, .int .i64 1, .int .i64 1], .int .u32 512] w fun e w' => e = .returned (.tuple #[.int .i64 0, .int .i64 0, .int .i64 51]) ∧ w.grownBy w' none) := Lib.hid (fun w h => where_log pl 512 w h pl_may (by decide) (by decide) (by decide) (by decide) (by decide))
  have HW3 : Hid (∀ w, Tab w → Calls Tryd.prog 12 #[.agg #[.int .i64 2, .int .i64 2, .int .i64 2, .int .i64 10, .int .i64 1, .int .i64 1, .int .i64 1, .int .i64 1], .int .u32 640] w fun e w' => e = .returned (.tuple #[.int .i64 0, .int .i64 0, .int .i64 5]) ∧ w.grownBy w' none) := Lib.hid (fun w h => where_range pl 640 w h pl_may (by decide) (by decide) (by decide) (by decide))
  have HM3 : Hid (∀ w, Tab w → Calls Tryd.prog 14 #[.agg #[.int .i64 2, .int .i64 3, .int .i64 2, .int .i64 10, .int .i64 1, .int .i64 1, .int .i64 1, .int .i64 1]] w fun e w' => e = .returned (.int .i64 2) ∧ w.grownBy w' none) := Lib.hid (fun w h => by
    have := may_any p3 w h
    rw [yes_not p3_may] at this
    exact this)
  have HM2 : Hid (∀ w, Tab w → Calls Tryd.prog 14 #[.agg #[.int .i64 2, .int .i64 2, .int .i64 2, .int .i64 2, .int .i64 1, .int .i64 1, .int .i64 1, .int .i64 1]] w fun e w' => e = .returned (.int .i64 2) ∧ w.grownBy w' none) := Lib.hid (fun w h => by
    have := may_any p2 w h
    rw [yes_not p2_may] at this
    exact this)
  clear hT
  go_enter Tryd.func3, Tryd.ntmps3
  go_wp2_with (first
    | (go_at_call 10; ((with_reducible refine (HL.out _ (HT.out.grown HG1.out)).mono ?_); rintro e w2 ⟨rfl, hg2⟩; have HG2 := Lib.hid (grown_trans HG1.out hg2); clear hg2))
    | (go_at_call 12; ((with_reducible refine (HW1.out _ (HT.out.grown HG3.out)).mono ?_); rintro e w4 ⟨rfl, hg4⟩; have HG4 := Lib.hid (grown_trans HG3.out hg4); clear hg4))
    | (go_at_call 12; ((with_reducible refine (HW2.out _ (HT.out.grown HG5.out)).mono ?_); rintro e w6 ⟨rfl, hg6⟩; have HG6 := Lib.hid (grown_trans HG5.out hg6); clear hg6))
    | (go_at_call 12; ((with_reducible refine (HW3.out _ (HT.out.grown HG7.out)).mono ?_); rintro e w8 ⟨rfl, hg8⟩; have HG8 := Lib.hid (grown_trans HG7.out hg8); clear hg8))
    | (go_at_call 13; ((with_reducible refine (works_any _ (HT.out.grown (grown_alloc (grown_alloc HG10.out _) _))).mono ?_); rintro e w11 ⟨rfl, hg11⟩; have HC11 := Lib.hid ((cfg_two w10 p3 p2).2.grown hg11); obtain ⟨c0, c1, c2, c3, c4, c5, c6, c7⟩ := (cfg_two w10 p3 p2).1.grown hg11; dsimp only [p3] at c0 c1 c2 c3 c4 c5 c6 c7; have HG11 := Lib.hid (grown_trans (grown_alloc (grown_alloc HG10.out _) _) hg11); clear hg11))
    | (go_at_call 14; ((with_reducible refine (HM3.out _ (HT.out.grown HG11.out)).mono ?_); rintro e w12 ⟨rfl, hg12⟩; clear c0 c1 c2 c3 c4 c5 c6 c7; obtain ⟨c0, c1, c2, c3, c4, c5, c6, c7⟩ := HC11.out.grown hg12; dsimp only [p2] at c0 c1 c2 c3 c4 c5 c6 c7; have HG12 := Lib.hid (grown_trans HG11.out hg12); clear hg12))
    | (go_at_call 14; ((with_reducible refine (HM2.out _ (HT.out.grown HG12.out)).mono ?_); rintro e w13 ⟨rfl, hg13⟩; have HG13 := Lib.hid (grown_trans HG12.out hg13); clear hg13))
    | (go_at_call 11; ((with_reducible refine (H2.out w9).mono ?_); rintro e w10 ⟨rfl, hg10⟩; have HG10 := Lib.hid (grown_trans HG9.out hg10); clear hg10))
    | (go_at_call 11; ((with_reducible refine (H2.out w8).mono ?_); rintro e w9 ⟨rfl, hg9⟩; have HG9 := Lib.hid (grown_trans HG8.out hg9); clear hg9))
    | (go_at_call 11; ((with_reducible refine (H2.out w6).mono ?_); rintro e w7 ⟨rfl, hg7⟩; have HG7 := Lib.hid (grown_trans HG6.out hg7); clear hg7))
    | (go_at_call 11; ((with_reducible refine (H2.out w4).mono ?_); rintro e w5 ⟨rfl, hg5⟩; have HG5 := Lib.hid (grown_trans HG4.out hg5); clear hg5))
    | (go_at_call 11; ((with_reducible refine (H2.out w2).mono ?_); rintro e w3 ⟨rfl, hg3⟩; have HG3 := Lib.hid (grown_trans HG2.out hg3); clear hg3))
    | (go_at_call 11; ((with_reducible refine (H2.out w).mono ?_); rintro e w1 ⟨rfl, hg1⟩; have HG1 := Lib.hid hg1; clear hg1)))
  go_ret
  exact ⟨rfl, HG13.out⟩
end Go.Proofs.YtkeeajiikfddgaaDoor.qq
