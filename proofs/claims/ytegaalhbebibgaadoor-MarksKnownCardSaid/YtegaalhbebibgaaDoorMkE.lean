/-
  The law MarksKnown returns true: the walk. Condition: the table of bounds lies in its variable as the program's text has it.
-/
import Derived.Test.YtegaalhbebibgaaDoorMkD
namespace Go.Proofs.YtegaalhbebibgaaDoor.mrk
open Go Go.ChangeShapes Go.WideShapes Go.ChangeAt Go.RowKit Go.Maps Go.Sort
open Go.Proofs.YtegaalhbebibgaaDoor.tt (Cfg Tab CfgAt cfg_at grown_refl grown_alloc grown_trans grown_drew grown_drewN lt_of)
set_option linter.unusedVariables false
set_option maxRecDepth 1000000

theorem meets43 {w w1 : World} {t b : Nat} (h : Own w w1 t b 8 s35) : Calls Tryd.prog 13 #[.pointer (some ⟨t, 0, none⟩), .int .u8 4, .int .i64 3] w1 fun e w2 => e = .returned (.bool false) ∧ w1 = w2 := by
  have := meets_any h.mq 4 3
  rwa [show meets s35 4 3 = false by decide +kernel] at this
theorem meets53 {w w1 : World} {t b : Nat} (h : Own w w1 t b 8 s35) : Calls Tryd.prog 13 #[.pointer (some ⟨t, 0, none⟩), .int .u8 5, .int .i64 3] w1 fun e w2 => e = .returned (.bool true) ∧ w1 = w2 := by
  have := meets_any h.mq 5 3
  rwa [show meets s35 5 3 = true by decide +kernel] at this
theorem meets45 {w w1 : World} {t b : Nat} (h : Own w w1 t b 8 s35) : Calls Tryd.prog 13 #[.pointer (some ⟨t, 0, none⟩), .int .u8 4, .int .i64 5] w1 fun e w2 => e = .returned (.bool true) ∧ w1 = w2 := by
  have := meets_any h.mq 4 5
  rwa [show meets s35 4 5 = true by decide +kernel] at this
theorem meets95 {w w1 : World} {t b : Nat} (h : Own w w1 t b 8 s35) : Calls Tryd.prog 13 #[.pointer (some ⟨t, 0, none⟩), .int .u8 9, .int .i64 5] w1 fun e w2 => e = .returned (.bool false) ∧ w1 = w2 := by
  have := meets_any h.mq 9 5
  rwa [show meets s35 9 5 = false by decide +kernel] at this
theorem new0 (w : World) (hT : Tab w) : Calls Tryd.prog 8 #[.agg #[.int .i64 0, .int .i64 0, .int .i64 0, .int .i64 0, .int .i64 0, .int .i64 0, .int .i64 0, .int .i64 0]] w fun e w' => e = .returned (.tuple #[.pointer none, .int .i64 2]) ∧ w.grownBy w' none := new_no c0 w hT c0_not
set_option maxHeartbeats 4000000 in
theorem known_true (w : World) (hT : Tab w) : Calls Tryd.prog 3 #[] w fun e w' => e = .returned (.bool true) ∧ w.grownBy w' none := by
  have HE := Lib.hid (eight_any w)
  have HN : Hid (∀ w', w.grownBy w' none → _) := Lib.hid (fun w' h => new8 w' (hT.grown h))
  have HW : Hid (∀ w', w.grownBy w' none → _) := Lib.hid (fun w' h => works_any w' (hT.grown h))
  have HZ : Hid (∀ w', w.grownBy w' none → _) := Lib.hid (fun w' h => new0 w' (hT.grown h))
  clear hT
  go_enter Tryd.func3, Tryd.ntmps3
  go_wp2_with (first
    | (go_at_call 9; ((with_reducible refine HE.out.mono ?_); rintro e w0 ⟨rfl, hg0⟩; have HG0 := Lib.hid hg0; clear hg0))
    | (go_at_call 8; ((with_reducible refine (HN.out _ HG0.out).mono ?_); rintro e w1 ⟨t, b, rfl, ho1⟩; have H1 := Lib.hid (ho1.from HG0.out); clear ho1))
    | (go_at_call 10; ((with_reducible refine (HW.out _ H1.out.old).mono ?_); rintro e wa ⟨rfl, hga⟩; have Ha := Lib.hid (H1.out.grown hga); clear hga H1))
    | (go_at_call 11; ((with_reducible refine (read3 Ha.out).mono ?_); rintro e w2 ⟨rfl, ho2⟩; have H2 := Lib.hid ho2; clear ho2 Ha))
    | (go_at_call 12; ((with_reducible refine (write5 H2.out).mono ?_); rintro e w3 ⟨rfl, ho3⟩; have H3 := Lib.hid ho3; have HG3 := Lib.hid ho3.old; clear ho3 H2))
    | (go_at_call 13; ((with_reducible refine (meets43 H3.out).mono ?_); rintro e wm ⟨rfl, rfl⟩))
    | (go_at_call 13; ((with_reducible refine (meets53 H3.out).mono ?_); rintro e wm ⟨rfl, rfl⟩))
    | (go_at_call 13; ((with_reducible refine (meets45 H3.out).mono ?_); rintro e wm ⟨rfl, rfl⟩))
    | (go_at_call 13; ((with_reducible refine (meets95 H3.out).mono ?_); rintro e wm ⟨rfl, rfl⟩; clear H3))
    | (go_at_call 14; ((with_reducible refine (clear_nil _).mono ?_); rintro e we ⟨rfl, rfl⟩))
    | (go_at_call 15; ((with_reducible refine (has_nil 0 _).mono ?_); rintro e we ⟨rfl, rfl⟩))
    | (go_at_call 8; ((with_reducible refine (HZ.out _ HG3.out).mono ?_); rintro e w9 ⟨rfl, hg9⟩; have H9 := Lib.hid (grown_trans HG3.out hg9); clear hg9))
    | (go_at_call 11; ((with_reducible refine (read_nil 0 _).mono ?_); rintro e we ⟨rfl, rfl⟩))
    | (go_at_call 12; ((with_reducible refine (write_nil 0 _).mono ?_); rintro e we ⟨rfl, rfl⟩))
    | (go_at_call 13; ((with_reducible refine (meets_nil5 0 _).mono ?_); rintro e we ⟨rfl, rfl⟩))
    | (go_at_call 16; ((with_reducible refine (all_nil _).mono ?_); rintro e we ⟨rfl, rfl⟩))
    | (go_at_call 17; ((with_reducible refine (copy_nil _).mono ?_); rintro e we ⟨rfl, rfl⟩)))
  go_ret
  exact ⟨rfl, H9.out⟩
end Go.Proofs.YtegaalhbebibgaaDoor.mrk
