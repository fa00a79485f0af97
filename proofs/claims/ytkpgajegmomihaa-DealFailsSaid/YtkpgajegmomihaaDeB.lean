/-
  The landed deal: what New, Depth, Failing, Stamp, Flag, Copy, goes, close, open answer and make of it: definitions and contracts. No condition but the bounds that each theorem names.
-/
import Derived.Test.YtkpgajegmomihaaDeA
namespace Go.Proofs.Ytkpgajegmomihaa.de
open Go Go.ChangeShapes Go.WideShapes Go.ChangeAt Go.RowKit
open Go.Proofs.Ytkpgajegmomihaa.tt (U zd row tyne add_lit lt_of range_grown setCells_rest heap_setCells heap_setCells_other grown_setCells grown_setRow grown_new grown_drewN below_of grown_alloc grown_refl grown_trans grown_drew)
open Go.Proofs.Ytkpgajegmomihaa.oo (ref flag' gives older ret_bool jump_ret)
set_option linter.unusedVariables false
set_option maxRecDepth 1000000

/-- The landed deal d lies in block g. -/
abbrev LAt (w : World) (g : Nat) (d : Dl) : Prop := DAt 53 w g d
/-- Whether it may be changed: 8 where not. -/
def gE (d : Dl) : Int := if d.de = 0 ∨ d.fa = true then 8 else 0
/-- Closed, with a stamp that is kept. -/
def cl (d : Dl) (k : Int) : Dl := ⟨d.ne, 0, zs, k, false, false, 0⟩
/-- The stamp of the open one. -/
def sT (d : Dl) : Int := if d.de = 0 then 0 else d.st
theorem ret_i {k : IntKind} {a b : Int} (h : a = b) : Ending.returned (.int k a) = Ending.returned (.int k b) := by rw [h]
theorem info53 (d : Dl) : (Try.prog.info? 53).map (·.size) = some (da d).size := by rw [da_size]; kernel_rfl
theorem info53l (d : Dl) : (Try.prog.info? 53).map (·.size) = some (dl d).length := by rw [dl_len]; kernel_rfl

section
variable {w : World} {g : Nat} {d : Dl}
theorem depth_any (h : LAt w g d) : Calls Try.prog 18 #[.pointer (some ⟨g, 0, none⟩)] w fun e w' => e = .returned (.int .i64 d.de) ∧ w = w' := by
  obtain ⟨c0, c1, c19, c20, c21, c22⟩ := h.cells
  clear h
  go_enter Try.func18, Try.ntmps18
  go_wp2
  go_ret
  exact ⟨rfl, rfl⟩
theorem failing_any (h : LAt w g d) : Calls Try.prog 19 #[.pointer (some ⟨g, 0, none⟩)] w fun e w' => e = .returned (.bool d.fa) ∧ w = w' := by
  obtain ⟨c0, c1, c19, c20, c21, c22⟩ := h.cells
  clear h
  go_enter Try.func19, Try.ntmps19
  go_wp2
  go_ret
  exact ⟨rfl, rfl⟩
theorem flag_any (h : LAt w g d) : Calls Try.prog 20 #[.pointer (some ⟨g, 0, none⟩)] w fun e w' => e = .returned (.bool d.fl) ∧ w = w' := by
  obtain ⟨c0, c1, c19, c20, c21, c22⟩ := h.cells
  clear h
  go_enter Try.func20, Try.ntmps20
  go_wp2
  go_ret
  exact ⟨rfl, rfl⟩
theorem stamp_any (h : LAt w g d) : Calls Try.prog 13 #[.pointer (some ⟨g, 0, none⟩)] w fun e w' => e = .returned (.int .u64 (sT d)) ∧ w = w' := by
  have HD := Lib.hid (depth_any h)
  obtain ⟨c0, c1, c19, c20, c21, c22⟩ := h.cells
  clear h
  by_cases h0 : d.de = 0
  · go_enter Try.func13, Try.ntmps13
    go_wp2_with (go_at_call 18; refine HD.out.mono ?_; rintro e w' ⟨rfl, rfl⟩)
    go_ret
    exact ⟨ret_i (by simp [sT, h0]), rfl⟩
  · go_enter Try.func13, Try.ntmps13
    go_wp2_with (go_at_call 18; refine HD.out.mono ?_; rintro e w' ⟨rfl, rfl⟩)
    go_ret
    exact ⟨ret_i (by simp [sT, h0]), rfl⟩
theorem goes_any (h : LAt w g d) : Calls Try.prog 30 #[.pointer (some ⟨g, 0, none⟩)] w fun e w' => e = .returned (.int .i64 (gE d)) ∧ w = w' := by
  obtain ⟨c0, c1, c19, c20, c21, c22⟩ := h.cells
  clear h
  go_enter Try.func30, Try.ntmps30
  go_wp2
  refine wp_scope_tail 0 rfl ?_
  by_cases h0 : d.de = 0
  · go_wp2
    go_step3
    refine ⟨rfl, ?_⟩
    go_wp2
    rw [jump_ret]
    go_ret
    exact ⟨ret_i (by simp [gE, h0]), rfl⟩
  · cases hf : d.fa
    · rw [hf] at c21
      go_wp2
      go_step3
      go_wp2
      rw [jump_ret]
      go_ret
      exact ⟨ret_i (by simp [gE, h0, hf]), rfl⟩
    · rw [hf] at c21
      go_wp2
      go_step3
      refine ⟨rfl, ?_⟩
      go_wp2
      rw [jump_ret]
      go_ret
      exact ⟨ret_i (by simp [gE, h0, hf]), rfl⟩
theorem close_any (h : LAt w g d) (k : Int) : Calls Try.prog 31 #[.pointer (some ⟨g, 0, none⟩), .int .u64 k] w fun e w' => e = .returned (.tuple #[]) ∧ LAt w' g (cl d k) ∧ w.grownBy w' (some g) := by
  obtain ⟨c0, c1, c19, c20, c21, c22⟩ := h.cells
  have HC := Lib.hid h.blk
  have hl := h.lt
  have HA : Hid (da (cl d k) = #[.int .i64 d.ne, .int .i64 0, .int .u32 0, .int .u32 0, .int .u32 0, .int .u32 0, .int .u32 0, .int .u32 0, .int .u32 0, .int .u32 0, .int .u32 0, .int .u32 0, .int .u32 0, .int .u32 0, .int .u32 0, .int .u32 0, .int .u32 0, .int .u32 0, .int .i64 0, .int .u64 k, .bool false, .bool false, .int .u32 0]) := Lib.hid rfl
  clear h
  go_enter Try.func31, Try.ntmps31
  go_wp2_with (first
    | ((with_reducible refine wpList_store_row rfl 53 _ _ rfl g (da (cl d k)) ?_ ?_ 53 _ HC.out (info53 _) ?_ (da_one _) ?_); ((rfl)); ((rfl)); ((rw [da_size, da_size]))))
  refine bodyPost_end (results_none rfl _ _ _) rfl ?_
  exact ⟨rfl, ⟨setRow_heap _ _ _ _ _ _ HC.out⟩, grown_row _ _⟩
end
end Go.Proofs.Ytkpgajegmomihaa.de
