/-
  What works answers. The tables are as the program's text lays them (Tab).
-/
import Derived.Test.YtncohgcklmogpaaDoorCdF
namespace Go.Proofs.YtncohgcklmogpaaDoor.cd
open Go Go.ChangeShapes Go.WideShapes Go.ChangeAt Go.RowKit
set_option linter.unusedVariables false
set_option maxRecDepth 1000000

/-- An instruction's variable, made anew. -/
theorem add_any (w : World) : Calls Tryd.prog 17 #[] w fun e w' => e = .returned (.agg #[.int .u8 1, .int .i64 1, .int .i64 2, .int .i64 3, .int .i64 0]) ∧ w.grownBy w' none := by
  go_enter Tryd.func17, Tryd.ntmps17
  go_wp2
  refine ret1 (c := ⟨1, 1, 2, 3, 0⟩) rfl (by rfl) (heap_alloc_new _ _) ?_
  exact ⟨rfl, grown_alloc (grown_refl _ _) _⟩
set_option maxHeartbeats 1000000 in
theorem works_any (w : World) (hT : Tab w) : Calls Tryd.prog 10 #[] w fun e w' => e = .returned (.bool true) ∧ w.grownBy w' none := by
  have HA : Hid (∀ w, _) := Lib.hid fun w => add_any w
  have HP : Hid (∀ w', w.grownBy w' none → Calls Tryd.prog 8 #[.agg #[.int .u8 1, .int .i64 1, .int .i64 2, .int .i64 3, .int .i64 0]] w' fun e w'' => e = .returned (.tuple #[.int .u32 71876608, .int .i64 0]) ∧ w'.grownBy w'' none) := Lib.hid fun w' h => by
    have := put_any ⟨1, 1, 2, 3, 0⟩ w' (hT.grown h) (by decide)
    rw [show putw ⟨1, 1, 2, 3, 0⟩ = 71876608 by decide +kernel, show err (may ⟨1, 1, 2, 3, 0⟩) = 0 by decide +kernel] at this
    exact this
  have HK : Hid (∀ w', w.grownBy w' none → Calls Tryd.prog 9 #[.int .u32 71876608] w' fun e w'' => e = .returned (.tuple #[.agg #[.int .u8 1, .int .i64 1, .int .i64 2, .int .i64 3, .int .i64 0], .int .i64 0]) ∧ w'.grownBy w'' none) := Lib.hid fun w' h => by
    have := take_any 71876608 w' (hT.grown h) (by decide)
    rw [show tk 71876608 = ⟨1, 1, 2, 3, 0⟩ by decide +kernel, show terr (tok 71876608) = 0 by decide +kernel] at this
    exact this
  have HE : ∀ w, (binOp .eql 27 (.agg #[.int .u8 1, .int .i64 1, .int .i64 2, .int .i64 3, .int .i64 0]) (.agg #[.int .u8 1, .int .i64 1, .int .i64 2, .int .i64 3, .int .i64 0])).run Tryd.prog w = .ok (.bool true) w := fun w => eqC w ⟨1, 1, 2, 3, 0⟩ ⟨1, 1, 2, 3, 0⟩
  clear hT
  unfold ca at *
  go_enter Tryd.func10, Tryd.ntmps10
  go_upto_region 3 with (first
    | (go_at_call 17; ((with_reducible refine (HA.out _).mono ?_); rintro e w1 ⟨rfl, hg1⟩; have HG1 := Lib.hid hg1; clear hg1))
    | (go_at_call 8; ((with_reducible refine (HP.out _ HG1.out).mono ?_); rintro e w2 ⟨rfl, hg2⟩; have HG2 := Lib.hid (grown_trans HG1.out hg2); clear hg2))
    | (go_at_call 9; ((with_reducible refine (HK.out _ HG2.out).mono ?_); rintro e w3 ⟨rfl, hg3⟩; have HG3 := Lib.hid (grown_trans HG2.out hg3); clear hg3)))
  have HB := Lib.hid (heap_alloc_new w3 (.cells #[.int .u8 1, .int .i64 1, .int .i64 2, .int .i64 3, .int .i64 0] 27))
  have HG4 := Lib.hid (grown_drew (grown_alloc HG3.out (.cells #[.int .u8 1, .int .i64 1, .int .i64 2, .int .i64 3, .int .i64 0] 27)))
  have HC := Lib.hid (fun w' (h : (w3.alloc (.cells #[.int .u8 1, .int .i64 1, .int .i64 2, .int .i64 3, .int .i64 0] 27)).drew.grownBy w' none) => cells5 (row_grown HB.out (grown_trans (grown_drew (grown_refl _ none)) h)))
  go_region_held3 (fun w' => (w'.cell? ⟨w3.heap.size, 0, none⟩ = some (.int .u8 1) ∧ w'.cell? ⟨w3.heap.size, 1, none⟩ = some (.int .i64 1) ∧ w'.cell? ⟨w3.heap.size, 2, none⟩ = some (.int .i64 2) ∧ w'.cell? ⟨w3.heap.size, 3, none⟩ = some (.int .i64 3) ∧ w'.cell? ⟨w3.heap.size, 4, none⟩ = some (.int .i64 0)))
    (first | (with_reducible exact HC.out _ (grown_refl _ _)) | (with_reducible exact HC.out _ HG5.out))
    (first | (go_at_call 17; ((with_reducible refine (HA.out _).mono ?_); rintro e w5 ⟨rfl, hg5⟩; have HG5 := Lib.hid hg5; clear hg5)))
  go_wp2_with fail
  go_ret
  exact ⟨rfl, grown_trans HG4.out HG5.out⟩
end Go.Proofs.YtncohgcklmogpaaDoor.cd
