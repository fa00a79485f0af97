/-
  The landed deal: what Asked and Over answer and make of it; what no deal answers: contracts. No condition but the bounds that each theorem names.
-/
import Derived.Test.YtkpgajegmomihaaDeE
namespace Go.Proofs.Ytkpgajegmomihaa.de
open Go Go.ChangeShapes Go.WideShapes Go.ChangeAt Go.RowKit
open Go.Proofs.Ytkpgajegmomihaa.tt (U zd row tyne add_lit lt_of range_grown setCells_rest heap_setCells heap_setCells_other grown_setCells grown_setRow grown_new grown_drewN below_of grown_alloc grown_refl grown_trans grown_drew)
open Go.Proofs.Ytkpgajegmomihaa.oo (ref flag' gives older ret_bool jump_ret)
set_option linter.unusedVariables false
set_option maxRecDepth 1000000

section
variable {w : World} {g : Nat} {d : Dl}
theorem asked_any (h : LAt w g d) (m : Bool) (x : Int) : Calls Try.prog 16 #[.pointer (some ⟨g, 0, none⟩), .bool m, .int .u64 x] w fun e w' => e = .returned (.bool (ref (sT d) m)) ∧ LAt w' g (aD d m x) ∧ w.grownBy w' (some g) := by
  have HS := Lib.hid (stamp_any (h.same (w' := w.drew) rfl))
  have HA : Hid (∀ w, _) := Lib.hid fun w => oo.asked_any (sT d) d.fl m x w
  have H := Lib.hid h
  obtain ⟨c0, c1, c19, c20, c21, c22⟩ := h.cells
  have f20 := h.free 20
  have k20 : w.drew.cell? ⟨g, 20, none⟩ = some (.bool d.fl) := c20
  have kf20 : w.drew.frozen? ⟨g, 20, none⟩ = false := f20
  clear h c0 c1 c19 c21 c22
  go_enter Try.func16, Try.ntmps16
  go_wp2_with fail
  go_region_with (first
    | (go_at_call 13; ((with_reducible refine HS.out.mono ?_); rintro e w2 ⟨rfl, rfl⟩))
    | (go_at_call 32; ((with_reducible refine (HA.out _).mono ?_); rintro e w2 ⟨rfl, rfl⟩)))
  all_goals go_wp2_with fail
  all_goals go_ret
  all_goals exact ⟨rfl, (H.out.same (w' := w.drew) rfl).put_fl _, grown_trans (grown_drewN (grown_refl _ _) 1) (grown_setCell _ _ _ _)⟩
end
end Go.Proofs.Ytkpgajegmomihaa.de
