/-
  What Where, Set, Addr answer: contracts. Condition: the table of bounds lies in its variable as the program's text has it; what each theorem names besides.
-/
import Derived.Test.YtkeeajiikfddgaaDoorC3
namespace Go.Proofs.YtkeeajiikfddgaaDoor.qq
open Go Go.ChangeShapes Go.WideShapes Go.ChangeAt Go.RowKit
set_option linter.unusedVariables false

theorem where_no (c : Cfg) (a : Int) (w : World) (hT : Tab w) (hm : ¬ c.may) : Calls Tryd.prog 12 #[.agg c.cells, .int .u32 a] w fun e w' => e = trip 0 0 2 ∧ w.grownBy w' none := by
  have HG0 : Hid (w.grownBy (w.alloc (.cells c.cells 26)) none) := Lib.hid (grown_alloc (grown_refl _ _) _)
  have HM := Lib.hid (may_any c (w.alloc (.cells c.cells 26)) (hT.grown HG0.out))
  rw [yes_not hm] at HM
  clear hT hm
  unfold Cfg.cells at *
  go_enter Tryd.func12, Tryd.ntmps12
  go_wp2_with (first
    | (go_at_call 14; ((with_reducible refine HM.out.mono ?_); rintro e w1 ⟨rfl, hg1⟩; have HG1 := Lib.hid hg1; clear hg1)))
  go_ret3
  exact ⟨rfl, grown_trans HG0.out HG1.out⟩

theorem where_align (c : Cfg) (a : Int) (w : World) (hT : Tab w) (hm : c.may) (h0 : 0 ≤ a) (h1 : a < 4294967296) (h : a % 4 ≠ 0) : Calls Tryd.prog 12 #[.agg c.cells, .int .u32 a] w fun e w' => e = trip 0 0 50 ∧ w.grownBy w' none := by
  have HG0 : Hid (w.grownBy (w.alloc (.cells c.cells 26)) none) := Lib.hid (grown_alloc (grown_refl _ _) _)
  have HM := Lib.hid (may_any c (w.alloc (.cells c.cells 26)) (hT.grown HG0.out))
  rw [yes_of hm] at HM
  have hq : (a % 4 != 0) = true := by simpa using h
  clear hT hm h
  unfold Cfg.cells at *
  go_enter Tryd.func12, Tryd.ntmps12
  go_wp2_with (first
    | (go_at_call 14; ((with_reducible refine HM.out.mono ?_); rintro e w1 ⟨rfl, hg1⟩; have HG1 := Lib.hid hg1; clear hg1)))
  go_ret3
  exact ⟨rfl, grown_trans HG0.out HG1.out⟩

theorem where_range (c : Cfg) (a : Int) (w : World) (hT : Tab w) (hm : c.may) (h0 : 0 ≤ a) (h1 : a < 4294967296) (h : a % 4 = 0) (h2 : c.bl ≤ a / 64) : Calls Tryd.prog 12 #[.agg c.cells, .int .u32 a] w fun e w' => e = trip 0 0 5 ∧ w.grownBy w' none := by
  have HG0 : Hid (w.grownBy (w.alloc (.cells c.cells 26)) none) := Lib.hid (grown_alloc (grown_refl _ _) _)
  have HM := Lib.hid (may_any c (w.alloc (.cells c.cells 26)) (hT.grown HG0.out))
  rw [yes_of hm] at HM
  have HA := Lib.hid (cfg_at w c)
  have hq : (a % 4 != 0) = false := by simpa using h
  clear hT hm h
  unfold Cfg.cells at *
  go_enter Tryd.func12, Tryd.ntmps12
  go_wp2_with (first
    | (go_at_call 14; ((with_reducible refine HM.out.mono ?_); rintro e w1 ⟨rfl, hg1⟩; obtain ⟨c0, c1, c2, c3, c4, c5, c6, c7⟩ := HA.out.grown hg1; have HG1 := Lib.hid hg1; clear hg1)))
  go_ret3
  exact ⟨rfl, grown_trans HG0.out HG1.out⟩

theorem where_log (c : Cfg) (a : Int) (w : World) (hT : Tab w) (hm : c.may) (h0 : 0 ≤ a) (h1 : a < 4294967296) (h : a % 4 = 0) (h2 : a / 64 < c.bl) (h3 : c.data ≤ a / 64) : Calls Tryd.prog 12 #[.agg c.cells, .int .u32 a] w fun e w' => e = trip 0 0 51 ∧ w.grownBy w' none := by
  have HG0 : Hid (w.grownBy (w.alloc (.cells c.cells 26)) none) := Lib.hid (grown_alloc (grown_refl _ _) _)
  have HM := Lib.hid (may_any c (w.alloc (.cells c.cells 26)) (hT.grown HG0.out))
  rw [yes_of hm] at HM
  have HA := Lib.hid (cfg_at w c)
  have HL : Hid (∀ w, _) := Lib.hid (fun w => logs_any c w hm.fits)
  have hq : (a % 4 != 0) = false := by simpa using h
  clear hT hm h
  unfold Cfg.cells at *
  go_enter Tryd.func12, Tryd.ntmps12
  go_wp2_with (first
    | (go_at_call 14; ((with_reducible refine HM.out.mono ?_); rintro e w1 ⟨rfl, hg1⟩; obtain ⟨c0, c1, c2, c3, c4, c5, c6, c7⟩ := HA.out.grown hg1; have HG1 := Lib.hid hg1; clear hg1))
    | (go_at_call 23; ((with_reducible refine (HL.out _).mono ?_); rintro e w5 ⟨rfl, hg5⟩; have HG5 := Lib.hid hg5; clear hg5)))
  go_ret3
  exact ⟨rfl, grown_trans (grown_trans HG0.out HG1.out) HG5.out⟩

theorem where_in (c : Cfg) (a : Int) (w : World) (hT : Tab w) (hm : c.may) (h0 : 0 ≤ a) (h1 : a < 4294967296) (h : a % 4 = 0) (h2 : a / 64 < c.bl) (h3 : a / 64 < c.data) : Calls Tryd.prog 12 #[.agg c.cells, .int .u32 a] w fun e w' => e = trip (a / 64) (a % 64 / 4) 0 ∧ w.grownBy w' none := by
  have HG0 : Hid (w.grownBy (w.alloc (.cells c.cells 26)) none) := Lib.hid (grown_alloc (grown_refl _ _) _)
  have HM := Lib.hid (may_any c (w.alloc (.cells c.cells 26)) (hT.grown HG0.out))
  rw [yes_of hm] at HM
  have HA := Lib.hid (cfg_at w c)
  have HL : Hid (∀ w, _) := Lib.hid (fun w => logs_any c w hm.fits)
  have hq : (a % 4 != 0) = false := by simpa using h
  clear hT hm h
  unfold Cfg.cells at *
  go_enter Tryd.func12, Tryd.ntmps12
  go_wp2_with (first
    | (go_at_call 14; ((with_reducible refine HM.out.mono ?_); rintro e w1 ⟨rfl, hg1⟩; obtain ⟨c0, c1, c2, c3, c4, c5, c6, c7⟩ := HA.out.grown hg1; have HG1 := Lib.hid hg1; clear hg1))
    | (go_at_call 23; ((with_reducible refine (HL.out _).mono ?_); rintro e w5 ⟨rfl, hg5⟩; have HG5 := Lib.hid hg5; clear hg5)))
  go_ret3
  exact ⟨rfl, grown_trans (grown_trans HG0.out HG1.out) HG5.out⟩

theorem set_no (c : Cfg) (b : Int) (w : World) (hT : Tab w) (hm : ¬ c.may) : Calls Tryd.prog 20 #[.agg c.cells, .int .i64 b] w fun e w' => e = .returned (.int .i64 0) ∧ w.grownBy w' none := by
  have HG0 : Hid (w.grownBy (w.alloc (.cells c.cells 26)) none) := Lib.hid (grown_alloc (grown_refl _ _) _)
  have HM := Lib.hid (may_any c (w.alloc (.cells c.cells 26)) (hT.grown HG0.out))
  rw [yes_not hm] at HM
  clear hT hm
  unfold Cfg.cells at *
  go_enter Tryd.func20, Tryd.ntmps20
  go_wp2_with (first
    | (go_at_call 14; ((with_reducible refine HM.out.mono ?_); rintro e w1 ⟨rfl, hg1⟩; have HG1 := Lib.hid hg1; clear hg1)))
  go_ret
  exact ⟨rfl, grown_trans HG0.out HG1.out⟩
theorem set_neg (c : Cfg) (b : Int) (w : World) (hT : Tab w) (hm : c.may) (h : b < 0) : Calls Tryd.prog 20 #[.agg c.cells, .int .i64 b] w fun e w' => e = .returned (.int .i64 0) ∧ w.grownBy w' none := by
  have HG0 : Hid (w.grownBy (w.alloc (.cells c.cells 26)) none) := Lib.hid (grown_alloc (grown_refl _ _) _)
  have HM := Lib.hid (may_any c (w.alloc (.cells c.cells 26)) (hT.grown HG0.out))
  rw [yes_of hm] at HM
  clear hT hm
  unfold Cfg.cells at *
  go_enter Tryd.func20, Tryd.ntmps20
  go_wp2_with (first
    | (go_at_call 14; ((with_reducible refine HM.out.mono ?_); rintro e w1 ⟨rfl, hg1⟩; have HG1 := Lib.hid hg1; clear hg1)))
  go_ret
  exact ⟨rfl, grown_trans HG0.out HG1.out⟩
theorem Cfg.may.sets {c : Cfg} (h : c.may) : 1 ≤ c.se ∧ c.se ≤ 16 := hb_bounds (h.1 1 (by omega))
theorem set_in (c : Cfg) (b : Int) (w : World) (hT : Tab w) (hm : c.may) (h : 0 ≤ b) : Calls Tryd.prog 20 #[.agg c.cells, .int .i64 b] w fun e w' => e = .returned (.int .i64 (b % c.se)) ∧ w.grownBy w' none := by
  have HG0 : Hid (w.grownBy (w.alloc (.cells c.cells 26)) none) := Lib.hid (grown_alloc (grown_refl _ _) _)
  have HM := Lib.hid (may_any c (w.alloc (.cells c.cells 26)) (hT.grown HG0.out))
  rw [yes_of hm] at HM
  have HA := Lib.hid (cfg_at w c)
  have hs := hm.sets
  clear hT hm
  unfold Cfg.cells at *
  go_enter Tryd.func20, Tryd.ntmps20
  go_wp2_with (first
    | (go_at_call 14; ((with_reducible refine HM.out.mono ?_); rintro e w1 ⟨rfl, hg1⟩; obtain ⟨c0, c1, c2, c3, c4, c5, c6, c7⟩ := HA.out.grown hg1; have HG1 := Lib.hid hg1; clear hg1)))
  go_ret
  exact ⟨rfl, grown_trans HG0.out HG1.out⟩

def pair (a b : Int) : Ending := .returned (.tuple #[.int .u32 a, .int .i64 b])
theorem addr_in (b k : Int) (w : World) (h0 : 0 ≤ b) (h1 : b < 256) (h2 : 0 ≤ k) (h3 : k < 16) : Calls Tryd.prog 22 #[.int .i64 b, .int .i64 k] w fun e w' => e = pair (b * 64 + k * 4) 0 ∧ w = w' := by
  go_enter Tryd.func22, Tryd.ntmps22
  go_wp2
  go_ret2
  exact ⟨rfl, rfl⟩
theorem addr_out (b k : Int) (w : World) (h : ¬ (0 ≤ b ∧ b < 256 ∧ 0 ≤ k ∧ k < 16)) : Calls Tryd.prog 22 #[.int .i64 b, .int .i64 k] w fun e w' => e = pair 0 5 ∧ w = w' := by
  by_cases h0 : 0 ≤ b
  · by_cases h1 : b < 256
    · by_cases h2 : 0 ≤ k
      · have h3 : 16 ≤ k := by omega
        clear h
        go_enter Tryd.func22, Tryd.ntmps22
        go_wp2
        go_ret2
        exact ⟨rfl, rfl⟩
      · clear h
        go_enter Tryd.func22, Tryd.ntmps22
        go_wp2
        go_ret2
        exact ⟨rfl, rfl⟩
    · clear h
      go_enter Tryd.func22, Tryd.ntmps22
      go_wp2
      go_ret2
      exact ⟨rfl, rfl⟩
  · clear h
    go_enter Tryd.func22, Tryd.ntmps22
    go_wp2
    go_ret2
    exact ⟨rfl, rfl⟩
end Go.Proofs.YtkeeajiikfddgaaDoor.qq
