/-
  The laws of stage 18: each answers true. The tables are as the program's text lays them (Tab).
-/
import Derived.Test.YtncohgcklmogpaaDoorCdK
import Derived.Test.YtncohgcklmogpaaDoorCdL
namespace Go.Proofs.YtncohgcklmogpaaDoor.cd
open Go Go.ChangeShapes Go.WideShapes Go.ChangeAt Go.RowKit
set_option linter.unusedVariables false
set_option maxRecDepth 1000000

set_option maxHeartbeats 1000000 in
theorem known_true (w : World) (hT : Tab w) : Calls Tryd.prog 3 #[] w fun e w' => e = .returned (.bool true) ∧ w.grownBy w' none := by
  have HW : Hid (∀ w', w.grownBy w' none → _) := Lib.hid fun w' h => works_any w' (hT.grown h)
  have HP : Hid (Calls Tryd.prog 8 #[.agg #[.int .u8 0, .int .i64 0, .int .i64 0, .int .i64 0, .int .i64 0]] w fun e w'' => e = .returned (.tuple #[.int .u32 0, .int .i64 0]) ∧ w.grownBy w'' none) := Lib.hid (by
    have := put_any ⟨0, 0, 0, 0, 0⟩ w hT (by decide)
    rw [show putw ⟨0, 0, 0, 0, 0⟩ = 0 by decide +kernel, show err (may ⟨0, 0, 0, 0, 0⟩) = 0 by decide +kernel] at this
    exact this)
  have HQ : Hid (∀ w', w.grownBy w' none → Calls Tryd.prog 8 #[.agg #[.int .u8 12, .int .i64 2, .int .i64 0, .int .i64 0, .int .i64 (-1)]] w' fun e w'' => e = .returned (.tuple #[.int .u32 817889279, .int .i64 0]) ∧ w'.grownBy w'' none) := Lib.hid fun w' h => by
    have := put_any ⟨12, 2, 0, 0, -1⟩ w' (hT.grown h) (by decide)
    rw [show putw ⟨12, 2, 0, 0, -1⟩ = 817889279 by decide +kernel, show err (may ⟨12, 2, 0, 0, -1⟩) = 0 by decide +kernel] at this
    exact this
  have HK : Hid (∀ w', w.grownBy w' none → Calls Tryd.prog 9 #[.int .u32 1476395008] w' fun e w'' => e = .returned (.tuple #[.agg #[.int .u8 0, .int .i64 0, .int .i64 0, .int .i64 0, .int .i64 0], .int .i64 6]) ∧ w'.grownBy w'' none) := Lib.hid fun w' h => by
    have := take_any 1476395008 w' (hT.grown h) (by decide)
    rw [show tk 1476395008 = ⟨0, 0, 0, 0, 0⟩ by decide +kernel, show terr (tok 1476395008) = 6 by decide +kernel] at this
    exact this
  have HL : Hid (∀ w', w.grownBy w' none → Calls Tryd.prog 9 #[.int .u32 1] w' fun e w'' => e = .returned (.tuple #[.agg #[.int .u8 0, .int .i64 0, .int .i64 0, .int .i64 0, .int .i64 0], .int .i64 6]) ∧ w'.grownBy w'' none) := Lib.hid fun w' h => by
    have := take_any 1 w' (hT.grown h) (by decide)
    rw [show tk 1 = ⟨0, 0, 0, 0, 0⟩ by decide +kernel, show terr (tok 1) = 6 by decide +kernel] at this
    exact this
  clear hT
  go_enter Tryd.func3, Tryd.ntmps3
  go_wp2_with (first
    | (go_at_call 8; ((with_reducible refine HP.out.mono ?_); rintro e w1 ⟨rfl, hg1⟩; have HG1 := Lib.hid hg1; clear hg1))
    | (go_at_call 8; ((with_reducible refine (HQ.out _ HG1.out).mono ?_); rintro e w2 ⟨rfl, hg2⟩; have HG2 := Lib.hid (grown_trans HG1.out hg2); clear hg2))
    | (go_at_call 9; ((with_reducible refine (HK.out _ HG2.out).mono ?_); rintro e w3 ⟨rfl, hg3⟩; have HG3 := Lib.hid (grown_alloc (grown_trans HG2.out hg3) (.cells #[.int .u8 0, .int .i64 0, .int .i64 0, .int .i64 0, .int .i64 0] 27)); clear hg3))
    | (go_at_call 9; ((with_reducible refine (HL.out _ HG3.out).mono ?_); rintro e w4 ⟨rfl, hg4⟩; have HG4 := Lib.hid (grown_alloc (grown_trans HG3.out hg4) (.cells #[.int .u8 0, .int .i64 0, .int .i64 0, .int .i64 0, .int .i64 0] 27)); clear hg4))
    | (go_at_call 10; ((with_reducible refine (HW.out _ HG4.out).mono ?_); rintro e w5 ⟨rfl, hg5⟩; have HG5 := Lib.hid (grown_trans HG4.out hg5); clear hg5)))
  go_ret
  exact ⟨rfl, HG5.out⟩
set_option maxHeartbeats 2000000 in
theorem takes_true (x : Nat) (w : World) (hT : Tab w) (hx : x < 4294967296) : Calls Tryd.prog 5 #[.int .u32 (x : Int)] w fun e w' => e = .returned (.bool true) ∧ w.grownBy w' none := by
  have HW : Hid (∀ w', w.grownBy w' none → _) := Lib.hid fun w' h => works_any w' (hT.grown h)
  have HK := Lib.hid (take_any x w hT hx)
  have HR : Hid (∀ w, _) := Lib.hid fun w => rtake_any x w hx
  have HE : ∀ w, (binOp .eql 27 (.agg (ca (tk x))) (.agg (ca (tk x)))).run Tryd.prog w = .ok (.bool true) w := fun w => by rw [eqC]; simp
  generalize terr (tok x) = E at HK HR
  generalize tk x = k at HK HR HE
  obtain ⟨op, a, b, c, n⟩ := k
  clear hT hx
  unfold ca at *
  go_enter Tryd.func5, Tryd.ntmps5
  go_wp2_with (first
    | (go_at_call 9; ((with_reducible refine HK.out.mono ?_); rintro e w1 ⟨rfl, hg1⟩; have HG1 := Lib.hid (grown_alloc hg1 (.cells #[.int .u8 (op : Int), .int .i64 a, .int .i64 b, .int .i64 c, .int .i64 n] 27)); have HB1 := Lib.hid (heap_alloc_new w1 (.cells #[.int .u8 (op : Int), .int .i64 a, .int .i64 b, .int .i64 c, .int .i64 n] 27)); clear hg1))
    | (go_at_call 14; ((with_reducible refine (HR.out _).mono ?_); rintro e w2 ⟨rfl, hg2⟩; have HG2 := Lib.hid (grown_alloc (grown_trans HG1.out hg2) (.cells #[.int .u8 (op : Int), .int .i64 a, .int .i64 b, .int .i64 c, .int .i64 n] 27)); have HB2 := Lib.hid (row_grown HB1.out hg2); obtain ⟨c0, c1, c2, c3, c4⟩ := cells5 HB2.out; have hlt := (Array.getElem?_eq_some_iff.1 HB2.out).1; clear hg2))
    | (go_at_call 10; ((with_reducible refine (HW.out _ HG2.out).mono ?_); rintro e w5 ⟨rfl, hg5⟩; have HG5 := Lib.hid (grown_trans HG2.out hg5); clear hg5)))
  go_ret
  exact ⟨rfl, HG5.out⟩
end Go.Proofs.YtncohgcklmogpaaDoor.cd
