/-
  What victim's functions answer: contracts (as in stage 6, at this seat's numbers). No condition but the bounds that each theorem names.
-/
import Derived.Test.YtjbapfjeildfoaaDoorV2
namespace Go.Proofs.YtjbapfjeildfoaaDoor.kk
open Go Go.ChangeShapes Go.WideShapes Go.ChangeAt Go.RowKit
set_option linter.unusedVariables false

/-- The three bits. -/
def three (m : Nat) : Array Value := #[.int .i64 (bt m 0 : Nat), .int .i64 (bt m 1 : Nat), .int .i64 (bt m 2 : Nat)]
theorem info102 : (Tryd.prog.info? 102).map (·.size) = some 3 := by kernel_rfl
theorem three_eq (m : Nat) : #[Value.int .i64 ((m : Int) % 2), .int .i64 ((m : Int) / 2 % 2), .int .i64 ((m : Int) / 4 % 2)] = three m := by
  unfold three bt; simp
theorem bits_any (m : Nat) (w : World) (hm : m < 256) : Calls Tryd.prog 67 #[.int .u8 (m : Int)] w fun e w' => e = .returned (.agg (three m)) ∧ w.grownBy w' none := by
  go_enter Tryd.func67, Tryd.ntmps67
  go_wp2
  refine bodyPost_ret (v := .agg (three m)) (results_cell_row rfl _ _ w.heap.size 102 (three m) (0, 0) _ rfl ?_ Tryd.underlying102 rfl info102) rfl ?_
  · rw [three_eq]; exact heap_alloc_new _ _
  · exact ⟨rfl, grown_alloc (grown_refl _ _) _⟩

theorem us_form : ∀ (m : Fin 256) (k : Fin 4), us m.val 4 k.val = m.val / 8 * 8 + (1 - k.val / 2) + 2 * (if k.val / 2 = 0 then 1 - k.val % 2 else bt m.val 1) + 4 * (if k.val / 2 = 1 then 1 - k.val % 2 else bt m.val 2) := by decide +kernel
theorem us_form2 : ∀ (m : Fin 256) (k : Fin 2), us m.val 2 k.val = m.val / 8 * 8 + (1 - k.val) + 2 * bt m.val 1 + 4 * bt m.val 2 := by decide +kernel
theorem us_form1 : ∀ (m : Fin 256), us m.val 1 0 = m.val / 8 * 8 + bt m.val 0 + 2 * bt m.val 1 + 4 * bt m.val 2 := by decide +kernel
theorem ret_use {a b x : Int} (h : a = b) : Ending.returned (.tuple #[.int .u8 a, .int .i64 x]) = Ending.returned (.tuple #[.int .u8 b, .int .i64 x]) := by rw [h]

theorem ruse_bad (m ways way : Int) (w : World) (h : ¬ good ways) : Calls Tryd.prog 66 #[.int .u8 m, .int .i64 ways, .int .i64 way] w fun e w' => e = .returned (.tuple #[.int .u8 0, .int .i64 2]) ∧ w.grownBy w' none := by
  have h1 : (ways != 1) = true := by unfold good at h; simp; omega
  have h2 : (ways != 2) = true := by unfold good at h; simp; omega
  have h4 : (ways != 4) = true := by unfold good at h; simp; omega
  clear h
  go_enter Tryd.func66, Tryd.ntmps66
  go_wp2
  go_ret2
  exact ⟨rfl, grown_refl _ _⟩
theorem ruse_out (m ways way : Int) (w : World) (h : good ways) (ho : way < 0 ∨ ways ≤ way) : Calls Tryd.prog 66 #[.int .u8 m, .int .i64 ways, .int .i64 way] w fun e w' => e = .returned (.tuple #[.int .u8 0, .int .i64 5]) ∧ w.grownBy w' none := by
  by_cases h0 : way < 0
  · clear ho
    rcases h with rfl | rfl | rfl <;> (go_enter Tryd.func66, Tryd.ntmps66; go_wp2; go_ret2; exact ⟨rfl, grown_refl _ _⟩)
  · obtain ho : ways ≤ way := by omega
    have h1 : decide (way < 0) = false := by simp; omega
    have h2 : decide (ways ≤ way) = true := by simp; omega
    rcases h with rfl | rfl | rfl <;> (clear h0 ho; go_enter Tryd.func66, Tryd.ntmps66; go_wp2; go_ret2; exact ⟨rfl, grown_refl _ _⟩)
theorem ruse10 (m : Nat) (w : World) (hm : m < 256) : Calls Tryd.prog 66 #[.int .u8 (m : Int), .int .i64 1, .int .i64 0] w fun e w' => e = .returned (.tuple #[.int .u8 (us m 1 0 : Nat), .int .i64 0]) ∧ w.grownBy w' none := by
  have HF := Lib.hid (us_form1 ⟨m, hm⟩)
  have hq := Lib.hid (bits_any m w hm)
  unfold three at hq
  have h0 := bt_lt m 0
  have h1 := bt_lt m 1
  have h2 := bt_lt m 2
  generalize bt m 0 = b0 at *
  generalize bt m 1 = b1 at *
  generalize bt m 2 = b2 at *
  go_enter Tryd.func66, Tryd.ntmps66
  go_wp2_with (go_at_call 67; ((with_reducible refine hq.out.mono ?_); rintro e w1 ⟨rfl, hg1⟩; have HG1 := Lib.hid hg1; clear hg1))
  go_ret2
  refine ⟨ret_use ?_, ?_⟩
  · rw [HF.out]
    simp <;> omega
  · exact grown_alloc HG1.out _
theorem ruse20 (m : Nat) (w : World) (hm : m < 256) : Calls Tryd.prog 66 #[.int .u8 (m : Int), .int .i64 2, .int .i64 0] w fun e w' => e = .returned (.tuple #[.int .u8 (us m 2 0 : Nat), .int .i64 0]) ∧ w.grownBy w' none := by
  have HF := Lib.hid (us_form2 ⟨m, hm⟩ ⟨0, by decide⟩)
  have hq := Lib.hid (bits_any m w hm)
  unfold three at hq
  have h0 := bt_lt m 0
  have h1 := bt_lt m 1
  have h2 := bt_lt m 2
  generalize bt m 0 = b0 at *
  generalize bt m 1 = b1 at *
  generalize bt m 2 = b2 at *
  go_enter Tryd.func66, Tryd.ntmps66
  go_wp2_with (go_at_call 67; ((with_reducible refine hq.out.mono ?_); rintro e w1 ⟨rfl, hg1⟩; have HG1 := Lib.hid hg1; clear hg1))
  go_ret2
  refine ⟨ret_use ?_, ?_⟩
  · rw [HF.out]
    simp <;> omega
  · exact grown_alloc HG1.out _
theorem ruse21 (m : Nat) (w : World) (hm : m < 256) : Calls Tryd.prog 66 #[.int .u8 (m : Int), .int .i64 2, .int .i64 1] w fun e w' => e = .returned (.tuple #[.int .u8 (us m 2 1 : Nat), .int .i64 0]) ∧ w.grownBy w' none := by
  have HF := Lib.hid (us_form2 ⟨m, hm⟩ ⟨1, by decide⟩)
  have hq := Lib.hid (bits_any m w hm)
  unfold three at hq
  have h0 := bt_lt m 0
  have h1 := bt_lt m 1
  have h2 := bt_lt m 2
  generalize bt m 0 = b0 at *
  generalize bt m 1 = b1 at *
  generalize bt m 2 = b2 at *
  go_enter Tryd.func66, Tryd.ntmps66
  go_wp2_with (go_at_call 67; ((with_reducible refine hq.out.mono ?_); rintro e w1 ⟨rfl, hg1⟩; have HG1 := Lib.hid hg1; clear hg1))
  go_ret2
  refine ⟨ret_use ?_, ?_⟩
  · rw [HF.out]
    simp <;> omega
  · exact grown_alloc HG1.out _
theorem ruse40 (m : Nat) (w : World) (hm : m < 256) : Calls Tryd.prog 66 #[.int .u8 (m : Int), .int .i64 4, .int .i64 0] w fun e w' => e = .returned (.tuple #[.int .u8 (us m 4 0 : Nat), .int .i64 0]) ∧ w.grownBy w' none := by
  have HF := Lib.hid (us_form ⟨m, hm⟩ ⟨0, by decide⟩)
  have hq := Lib.hid (bits_any m w hm)
  unfold three at hq
  have h0 := bt_lt m 0
  have h1 := bt_lt m 1
  have h2 := bt_lt m 2
  generalize bt m 0 = b0 at *
  generalize bt m 1 = b1 at *
  generalize bt m 2 = b2 at *
  go_enter Tryd.func66, Tryd.ntmps66
  go_wp2_with (go_at_call 67; ((with_reducible refine hq.out.mono ?_); rintro e w1 ⟨rfl, hg1⟩; have HG1 := Lib.hid hg1; clear hg1))
  go_ret2
  refine ⟨ret_use ?_, ?_⟩
  · rw [HF.out]
    simp <;> omega
  · exact grown_alloc HG1.out _
theorem ruse41 (m : Nat) (w : World) (hm : m < 256) : Calls Tryd.prog 66 #[.int .u8 (m : Int), .int .i64 4, .int .i64 1] w fun e w' => e = .returned (.tuple #[.int .u8 (us m 4 1 : Nat), .int .i64 0]) ∧ w.grownBy w' none := by
  have HF := Lib.hid (us_form ⟨m, hm⟩ ⟨1, by decide⟩)
  have hq := Lib.hid (bits_any m w hm)
  unfold three at hq
  have h0 := bt_lt m 0
  have h1 := bt_lt m 1
  have h2 := bt_lt m 2
  generalize bt m 0 = b0 at *
  generalize bt m 1 = b1 at *
  generalize bt m 2 = b2 at *
  go_enter Tryd.func66, Tryd.ntmps66
  go_wp2_with (go_at_call 67; ((with_reducible refine hq.out.mono ?_); rintro e w1 ⟨rfl, hg1⟩; have HG1 := Lib.hid hg1; clear hg1))
  go_ret2
  refine ⟨ret_use ?_, ?_⟩
  · rw [HF.out]
    simp <;> omega
  · exact grown_alloc HG1.out _
theorem ruse42 (m : Nat) (w : World) (hm : m < 256) : Calls Tryd.prog 66 #[.int .u8 (m : Int), .int .i64 4, .int .i64 2] w fun e w' => e = .returned (.tuple #[.int .u8 (us m 4 2 : Nat), .int .i64 0]) ∧ w.grownBy w' none := by
  have HF := Lib.hid (us_form ⟨m, hm⟩ ⟨2, by decide⟩)
  have hq := Lib.hid (bits_any m w hm)
  unfold three at hq
  have h0 := bt_lt m 0
  have h1 := bt_lt m 1
  have h2 := bt_lt m 2
  generalize bt m 0 = b0 at *
  generalize bt m 1 = b1 at *
  generalize bt m 2 = b2 at *
  go_enter Tryd.func66, Tryd.ntmps66
  go_wp2_with (go_at_call 67; ((with_reducible refine hq.out.mono ?_); rintro e w1 ⟨rfl, hg1⟩; have HG1 := Lib.hid hg1; clear hg1))
  go_ret2
  refine ⟨ret_use ?_, ?_⟩
  · rw [HF.out]
    simp <;> omega
  · exact grown_alloc HG1.out _
theorem ruse43 (m : Nat) (w : World) (hm : m < 256) : Calls Tryd.prog 66 #[.int .u8 (m : Int), .int .i64 4, .int .i64 3] w fun e w' => e = .returned (.tuple #[.int .u8 (us m 4 3 : Nat), .int .i64 0]) ∧ w.grownBy w' none := by
  have HF := Lib.hid (us_form ⟨m, hm⟩ ⟨3, by decide⟩)
  have hq := Lib.hid (bits_any m w hm)
  unfold three at hq
  have h0 := bt_lt m 0
  have h1 := bt_lt m 1
  have h2 := bt_lt m 2
  generalize bt m 0 = b0 at *
  generalize bt m 1 = b1 at *
  generalize bt m 2 = b2 at *
  go_enter Tryd.func66, Tryd.ntmps66
  go_wp2_with (go_at_call 67; ((with_reducible refine hq.out.mono ?_); rintro e w1 ⟨rfl, hg1⟩; have HG1 := Lib.hid hg1; clear hg1))
  go_ret2
  refine ⟨ret_use ?_, ?_⟩
  · rw [HF.out]
    simp <;> omega
  · exact grown_alloc HG1.out _
theorem ruse_in (m ways way : Nat) (w : World) (hm : m < 256) (hg : good ways) (hw : way < ways) : Calls Tryd.prog 66 #[.int .u8 (m : Int), .int .i64 (ways : Int), .int .i64 (way : Int)] w fun e w' => e = .returned (.tuple #[.int .u8 (us m ways way : Nat), .int .i64 0]) ∧ w.grownBy w' none := by
  have hg' : ways = 1 ∨ ways = 2 ∨ ways = 4 := by unfold good at hg; omega
  rcases hg' with rfl | rfl | rfl
  · obtain rfl : way = 0 := by omega
    exact ruse10 m w hm
  · obtain rfl | rfl : way = 0 ∨ way = 1 := by omega
    · exact ruse20 m w hm
    · exact ruse21 m w hm
  · obtain rfl | rfl | rfl | rfl : way = 0 ∨ way = 1 ∨ way = 2 ∨ way = 3 := by omega
    · exact ruse40 m w hm
    · exact ruse41 m w hm
    · exact ruse42 m w hm
    · exact ruse43 m w hm
theorem rvictim_bad (m : Nat) (ways : Int) (w : World) (hm : m < 256) (h : ¬ good ways) : Calls Tryd.prog 60 #[.int .u8 (m : Int), .int .i64 ways] w fun e w' => e = .returned (.tuple #[.int .i64 0, .int .i64 2]) ∧ w.grownBy w' none := by
  have e1 : (ways == 1) = false := by unfold good at h; simp; omega
  have e2 : (ways == 2) = false := by unfold good at h; simp; omega
  have e4 : (ways == 4) = false := by unfold good at h; simp; omega
  clear h
  have hq := Lib.hid (bits_any m w hm)
  unfold three at hq
  go_enter Tryd.func60, Tryd.ntmps60
  go_wp2_with (go_at_call 67; ((with_reducible refine hq.out.mono ?_); rintro e w1 ⟨rfl, hg1⟩; have HG1 := Lib.hid hg1; clear hg1))
  go_ret2
  exact ⟨rfl, grown_alloc HG1.out _⟩
theorem rvictim1 (m : Nat) (w : World) (hm : m < 256) : Calls Tryd.prog 60 #[.int .u8 (m : Int), .int .i64 1] w fun e w' => e = .returned (.tuple #[.int .i64 (vc m 1 : Nat), .int .i64 0]) ∧ w.grownBy w' none := by
  have hq := Lib.hid (bits_any m w hm)
  unfold three at hq
  go_enter Tryd.func60, Tryd.ntmps60
  go_wp2_with (go_at_call 67; ((with_reducible refine hq.out.mono ?_); rintro e w1 ⟨rfl, hg1⟩; have HG1 := Lib.hid hg1; clear hg1))
  go_ret2
  exact ⟨rfl, grown_alloc HG1.out _⟩
theorem rvictim2 (m : Nat) (w : World) (hm : m < 256) : Calls Tryd.prog 60 #[.int .u8 (m : Int), .int .i64 2] w fun e w' => e = .returned (.tuple #[.int .i64 (vc m 2 : Nat), .int .i64 0]) ∧ w.grownBy w' none := by
  have hq := Lib.hid (bits_any m w hm)
  unfold three at hq
  go_enter Tryd.func60, Tryd.ntmps60
  go_wp2_with (go_at_call 67; ((with_reducible refine hq.out.mono ?_); rintro e w1 ⟨rfl, hg1⟩; have HG1 := Lib.hid hg1; clear hg1))
  go_ret2
  exact ⟨rfl, grown_alloc HG1.out _⟩
theorem rvictim4 (m : Nat) (w : World) (hm : m < 256) : Calls Tryd.prog 60 #[.int .u8 (m : Int), .int .i64 4] w fun e w' => e = .returned (.tuple #[.int .i64 (vc m 4 : Nat), .int .i64 0]) ∧ w.grownBy w' none := by
  have hq := Lib.hid (bits_any m w hm)
  unfold three at hq
  have h0 := bt_lt m 0
  have h2 := bt_lt m 2
  obtain h | h : bt m 0 = 0 ∨ bt m 0 = 1 := by omega
  · have hv : Hid _ := Lib.hid (show vc m 4 = bt m 1 by unfold vc; rw [h]; simp)
    rw [h] at hq
    clear h h0
    go_enter Tryd.func60, Tryd.ntmps60
    go_wp2_with (go_at_call 67; ((with_reducible refine hq.out.mono ?_); rintro e w1 ⟨rfl, hg1⟩; have HG1 := Lib.hid hg1; clear hg1))
    go_ret2
    exact ⟨ret_pair (by rw [hv.out]), grown_alloc HG1.out _⟩
  · have hv : Hid _ := Lib.hid (show vc m 4 = 2 + bt m 2 by unfold vc; rw [h]; simp)
    rw [h] at hq
    clear h h0
    go_enter Tryd.func60, Tryd.ntmps60
    go_wp2_with (go_at_call 67; ((with_reducible refine hq.out.mono ?_); rintro e w1 ⟨rfl, hg1⟩; have HG1 := Lib.hid hg1; clear hg1))
    go_ret2
    refine ⟨ret_pair ?_, grown_alloc HG1.out _⟩
    rw [hv.out]
    simp
theorem rvictim_in (m ways : Nat) (w : World) (hm : m < 256) (hg : good ways) : Calls Tryd.prog 60 #[.int .u8 (m : Int), .int .i64 (ways : Int)] w fun e w' => e = .returned (.tuple #[.int .i64 (vc m ways : Nat), .int .i64 0]) ∧ w.grownBy w' none := by
  have hg' : ways = 1 ∨ ways = 2 ∨ ways = 4 := by unfold good at hg; omega
  rcases hg' with rfl | rfl | rfl
  · exact rvictim1 m w hm
  · exact rvictim2 m w hm
  · exact rvictim4 m w hm
end Go.Proofs.YtjbapfjeildfoaaDoor.kk
