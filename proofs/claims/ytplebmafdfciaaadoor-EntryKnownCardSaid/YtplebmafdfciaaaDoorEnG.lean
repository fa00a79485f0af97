/-
  The law's own 'works'; what a block that goes back makes of an entry by the document's own text; the law EntryBacks returns true: contracts. No condition but the bounds that each theorem names.
-/
import Derived.Test.YtplebmafdfciaaaDoorEnF
namespace Go.Proofs.YtplebmafdfciaaaDoor.en
open Go Go.ChangeShapes Go.WideShapes Go.ChangeAt Go.RowKit
open Go.Proofs.YtplebmafdfciaaaDoor.mm (wi wo ha pop wi_lt wo_lt with_any count_any)
set_option linter.unusedVariables false

theorem gets_free : gets ⟨-1, 0⟩ 1 1 = (⟨1, 0⟩, 2, 0) := by decide +kernel
theorem eq_same (a b : Int) (w : World) : (binOp .eql 25 (.agg #[.int .i64 a, .int .u32 b]) (.agg #[.int .i64 a, .int .u32 b])).run Tryd.prog w = .ok (.bool true) w := by
  rw [eqE]; simp
theorem ne_same (a b : Int) (w : World) : (binOp .neq 25 (.agg #[.int .i64 a, .int .u32 b]) (.agg #[.int .i64 a, .int .u32 b])).run Tryd.prog w = .ok (.bool false) w := by
  rw [neE]; simp

set_option maxRecDepth 1000000 in
set_option maxHeartbeats 1000000 in
theorem works_any (w : World) : Calls Tryd.prog 8 #[] w fun e w' => e = .returned (.bool true) ∧ w.grownBy w' none := by
  have HF : Hid (∀ w, _) := Lib.hid fun w => free_any w
  have HG : Hid (∀ w, Calls Tryd.prog 9 #[.agg #[.int .i64 (-1), .int .u32 0], .int .u8 1, .int .i64 1] w fun e w' => e = .returned (.tuple #[.agg #[.int .i64 1, .int .u32 0], .int .u8 2, .int .i64 0]) ∧ w.grownBy w' none) := Lib.hid fun w => by
    have := gets_any (-1) 0 1 1 w (by decide)
    rw [gets_free] at this
    exact this
  have he := eq_same
  go_enter Tryd.func8, Tryd.ntmps8
  go_wp2_with (first
    | (go_at_call 11; ((with_reducible refine (HF.out _).mono ?_); rintro e w5 ⟨rfl, hg5⟩; have HG5 := Lib.hid hg5; clear hg5))
    | (go_at_call 9; ((with_reducible refine (HG.out _).mono ?_); rintro e w6 ⟨rfl, hg6⟩; have HG6 := Lib.hid (grown_trans HG5.out hg6); clear hg6))
    | ((with_reducible refine store_enN 1 0 _ _ _ _ ?_ ?_ ?_ ?_); (rfl); (rfl); (rfl)))
  go_ret
  exact ⟨rfl, grown_trans (grown_alloc HG6.out _) HG5.out⟩

end Go.Proofs.YtplebmafdfciaaaDoor.en
