/-
  What plan's Log, Where, Addr and the document's Log, Where answer: contracts. No condition but the table's words (Tab) and the bounds that each theorem names.
-/
import Derived.Test.YtfjjmlmkpdpdfaaDoorPr
import Derived.Deep.RegionHeld3
namespace Go.Proofs.YtfjjmlmkpdpdfaaDoor.tt
open Go Go.ChangeShapes Go.WideShapes Go.ChangeAt Go.RowKit
set_option linter.unusedVariables false
def trip (a b e : Int) : Ending := .returned (.tuple #[.int .i64 a, .int .i64 b, .int .i64 e])

theorem log_no (c : Cfg) (core : Int) (w : World) (hT : Tab w) (hm : ¬ c.may) : Calls Tryd.prog 33 #[.agg c.cells, .int .i64 core] w fun e w' => e = trip 0 0 2 ∧ w.grownBy w' none := by
  have HG0 : Hid (w.grownBy (w.alloc (.cells c.cells 30)) none) := Lib.hid (grown_alloc (grown_refl _ _) _)
  have HM := Lib.hid (may_any c (w.alloc (.cells c.cells 30)) (hT.grown HG0.out))
  rw [yes_not hm] at HM
  clear hT hm
  unfold Cfg.cells at *
  go_enter Tryd.func33, Tryd.ntmps33
  go_wp2_with (first
    | (go_at_call 43; ((with_reducible refine HM.out.mono ?_); rintro e w1 ⟨rfl, hg1⟩; have HG1 := Lib.hid hg1; clear hg1)))
  go_ret3
  exact ⟨rfl, grown_trans HG0.out HG1.out⟩
theorem log_out (c : Cfg) (core : Int) (w : World) (hT : Tab w) (hm : c.may) (h : core < 0 ∨ c.co ≤ core) : Calls Tryd.prog 33 #[.agg c.cells, .int .i64 core] w fun e w' => e = trip 0 0 5 ∧ w.grownBy w' none := by
  have HG0 : Hid (w.grownBy (w.alloc (.cells c.cells 30)) none) := Lib.hid (grown_alloc (grown_refl _ _) _)
  have HA := Lib.hid (cfg_at w c)
  have HM := Lib.hid (may_any c (w.alloc (.cells c.cells 30)) (hT.grown HG0.out))
  rw [yes_of hm] at HM
  clear hT hm
  unfold Cfg.cells at *
  by_cases h0 : core < 0
  · clear h
    go_enter Tryd.func33, Tryd.ntmps33
    go_wp2_with (first
      | (go_at_call 43; ((with_reducible refine HM.out.mono ?_); rintro e w1 ⟨rfl, hg1⟩; have HG1 := Lib.hid hg1; clear hg1)))
    go_ret3
    exact ⟨rfl, grown_trans HG0.out HG1.out⟩
  · have h1 : decide (core < 0) = false := by simp; omega
    have h2 : decide (c.co ≤ core) = true := by simp; omega
    clear h h0
    go_enter Tryd.func33, Tryd.ntmps33
    go_wp2_with (first
      | (go_at_call 43; ((with_reducible refine HM.out.mono ?_); rintro e w1 ⟨rfl, hg1⟩; obtain ⟨c0, c1, c2, c3, c4, c5, c6, c7⟩ := HA.out.grown hg1; have HG1 := Lib.hid hg1; clear hg1)))
    go_ret3
    exact ⟨rfl, grown_trans HG0.out HG1.out⟩
theorem core_mul {c : Cfg} (h : c.Fits) (core : Int) (h0 : 0 ≤ core) (h1 : core < c.co) : 0 ≤ core * c.lo ∧ core * c.lo + c.lo ≤ c.co * c.lo := by
  have hl := h.lo
  refine ⟨Int.mul_nonneg h0 (by omega), ?_⟩
  have := Int.mul_le_mul_of_nonneg_right (show core + 1 ≤ c.co by omega) (show (0 : Int) ≤ c.lo by omega)
  rw [Int.add_mul, Int.one_mul] at this
  exact this
theorem log_in (c : Cfg) (core : Int) (w : World) (hT : Tab w) (hm : c.may) (h0 : 0 ≤ core) (h1 : core < c.co) : Calls Tryd.prog 33 #[.agg c.cells, .int .i64 core] w fun e w' => e = trip (c.data + core * c.lo) c.lo 0 ∧ w.grownBy w' none := by
  have HG0 : Hid (w.grownBy (w.alloc (.cells c.cells 30)) none) := Lib.hid (grown_alloc (grown_refl _ _) _)
  have HA := Lib.hid (cfg_at w c)
  have HM := Lib.hid (may_any c (w.alloc (.cells c.cells 30)) (hT.grown HG0.out))
  rw [yes_of hm] at HM
  have HL : Hid (∀ w, _) := Lib.hid (fun w => logs_any c w hm.fits)
  have hmul := hm.fits.mul
  have hcm := core_mul hm.fits core h0 h1
  have hf := hm.fits.lo
  have hb := hm.fits.bl
  have hd : 1 ≤ c.data ∧ c.data ≤ 256 := ⟨hm.2, by unfold Cfg.data; omega⟩
  have w1 : IntKind.i64.wrap (core * c.lo) = core * c.lo := IntWalk.i64_in _ (by omega)
  have w2 : IntKind.i64.wrap (c.data + core * c.lo) = c.data + core * c.lo := IntWalk.i64_in _ (by omega)
  clear hT hm
  unfold Cfg.cells at *
  go_enter Tryd.func33, Tryd.ntmps33
  go_wp2_with (first
    | (go_at_call 43; ((with_reducible refine HM.out.mono ?_); rintro e w1 ⟨rfl, hg1⟩; obtain ⟨c0, c1, c2, c3, c4, c5, c6, c7⟩ := HA.out.grown hg1; have HG1 := Lib.hid hg1; clear hg1)))
  go_region_held3 (fun w' => w'.cell? ⟨w.heap.size, 0, none⟩ = some (.int .i64 c.co) ∧ w'.cell? ⟨w.heap.size, 1, none⟩ = some (.int .i64 c.se) ∧ w'.cell? ⟨w.heap.size, 2, none⟩ = some (.int .i64 c.wa) ∧ w'.cell? ⟨w.heap.size, 3, none⟩ = some (.int .i64 c.bl) ∧ w'.cell? ⟨w.heap.size, 4, none⟩ = some (.int .i64 c.lo) ∧ w'.cell? ⟨w.heap.size, 5, none⟩ = some (.int .i64 c.ba) ∧ w'.cell? ⟨w.heap.size, 6, none⟩ = some (.int .i64 c.ne) ∧ w'.cell? ⟨w.heap.size, 7, none⟩ = some (.int .i64 c.tr))
    (first | exact (HA.out.grown (grown_drew HG1.out)).limbs | exact limbs_next (by assumption) (by assumption))
    (first | (go_at_call 44; ((with_reducible refine (HL.out _).mono ?_); rintro e w5 ⟨rfl, hg5⟩; have HG5 := Lib.hid hg5; clear hg5)))
  go_wp2_with fail
  go_ret3
  exact ⟨rfl, grown_trans (grown_trans HG0.out (grown_drew HG1.out)) HG5.out⟩

theorem where_no (c : Cfg) (a : Int) (w : World) (hT : Tab w) (hm : ¬ c.may) : Calls Tryd.prog 31 #[.agg c.cells, .int .u32 a] w fun e w' => e = trip 0 0 2 ∧ w.grownBy w' none := by
  have HG0 : Hid (w.grownBy (w.alloc (.cells c.cells 30)) none) := Lib.hid (grown_alloc (grown_refl _ _) _)
  have HM := Lib.hid (may_any c (w.alloc (.cells c.cells 30)) (hT.grown HG0.out))
  rw [yes_not hm] at HM
  clear hT hm
  unfold Cfg.cells at *
  go_enter Tryd.func31, Tryd.ntmps31
  go_wp2_with (first
    | (go_at_call 43; ((with_reducible refine HM.out.mono ?_); rintro e w1 ⟨rfl, hg1⟩; have HG1 := Lib.hid hg1; clear hg1)))
  go_ret3
  exact ⟨rfl, grown_trans HG0.out HG1.out⟩

theorem where_align (c : Cfg) (a : Int) (w : World) (hT : Tab w) (hm : c.may) (h0 : 0 ≤ a) (h1 : a < 4294967296) (h : a % 4 ≠ 0) : Calls Tryd.prog 31 #[.agg c.cells, .int .u32 a] w fun e w' => e = trip 0 0 50 ∧ w.grownBy w' none := by
  have HG0 : Hid (w.grownBy (w.alloc (.cells c.cells 30)) none) := Lib.hid (grown_alloc (grown_refl _ _) _)
  have HM := Lib.hid (may_any c (w.alloc (.cells c.cells 30)) (hT.grown HG0.out))
  rw [yes_of hm] at HM
  have hq : (a % 4 != 0) = true := by simpa using h
  clear hT hm h
  unfold Cfg.cells at *
  go_enter Tryd.func31, Tryd.ntmps31
  go_wp2_with (first
    | (go_at_call 43; ((with_reducible refine HM.out.mono ?_); rintro e w1 ⟨rfl, hg1⟩; have HG1 := Lib.hid hg1; clear hg1)))
  go_ret3
  exact ⟨rfl, grown_trans HG0.out HG1.out⟩

theorem where_range (c : Cfg) (a : Int) (w : World) (hT : Tab w) (hm : c.may) (h0 : 0 ≤ a) (h1 : a < 4294967296) (h : a % 4 = 0) (h2 : c.bl ≤ a / 64) : Calls Tryd.prog 31 #[.agg c.cells, .int .u32 a] w fun e w' => e = trip 0 0 5 ∧ w.grownBy w' none := by
  have HG0 : Hid (w.grownBy (w.alloc (.cells c.cells 30)) none) := Lib.hid (grown_alloc (grown_refl _ _) _)
  have HM := Lib.hid (may_any c (w.alloc (.cells c.cells 30)) (hT.grown HG0.out))
  rw [yes_of hm] at HM
  have HA := Lib.hid (cfg_at w c)
  have hq : (a % 4 != 0) = false := by simpa using h
  clear hT hm h
  unfold Cfg.cells at *
  go_enter Tryd.func31, Tryd.ntmps31
  go_wp2_with (first
    | (go_at_call 43; ((with_reducible refine HM.out.mono ?_); rintro e w1 ⟨rfl, hg1⟩; obtain ⟨c0, c1, c2, c3, c4, c5, c6, c7⟩ := HA.out.grown hg1; have HG1 := Lib.hid hg1; clear hg1)))
  go_ret3
  exact ⟨rfl, grown_trans HG0.out HG1.out⟩

theorem where_log (c : Cfg) (a : Int) (w : World) (hT : Tab w) (hm : c.may) (h0 : 0 ≤ a) (h1 : a < 4294967296) (h : a % 4 = 0) (h2 : a / 64 < c.bl) (h3 : c.data ≤ a / 64) : Calls Tryd.prog 31 #[.agg c.cells, .int .u32 a] w fun e w' => e = trip 0 0 51 ∧ w.grownBy w' none := by
  have HG0 : Hid (w.grownBy (w.alloc (.cells c.cells 30)) none) := Lib.hid (grown_alloc (grown_refl _ _) _)
  have HM := Lib.hid (may_any c (w.alloc (.cells c.cells 30)) (hT.grown HG0.out))
  rw [yes_of hm] at HM
  have HA := Lib.hid (cfg_at w c)
  have HL : Hid (∀ w, _) := Lib.hid (fun w => logs_any c w hm.fits)
  have hq : (a % 4 != 0) = false := by simpa using h
  clear hT hm h
  unfold Cfg.cells at *
  go_enter Tryd.func31, Tryd.ntmps31
  go_wp2_with (first
    | (go_at_call 43; ((with_reducible refine HM.out.mono ?_); rintro e w1 ⟨rfl, hg1⟩; obtain ⟨c0, c1, c2, c3, c4, c5, c6, c7⟩ := HA.out.grown hg1; have HG1 := Lib.hid hg1; clear hg1))
    | (go_at_call 44; ((with_reducible refine (HL.out _).mono ?_); rintro e w5 ⟨rfl, hg5⟩; have HG5 := Lib.hid hg5; clear hg5)))
  go_ret3
  exact ⟨rfl, grown_trans (grown_trans HG0.out HG1.out) HG5.out⟩

theorem where_in (c : Cfg) (a : Int) (w : World) (hT : Tab w) (hm : c.may) (h0 : 0 ≤ a) (h1 : a < 4294967296) (h : a % 4 = 0) (h2 : a / 64 < c.bl) (h3 : a / 64 < c.data) : Calls Tryd.prog 31 #[.agg c.cells, .int .u32 a] w fun e w' => e = trip (a / 64) (a % 64 / 4) 0 ∧ w.grownBy w' none := by
  have HG0 : Hid (w.grownBy (w.alloc (.cells c.cells 30)) none) := Lib.hid (grown_alloc (grown_refl _ _) _)
  have HM := Lib.hid (may_any c (w.alloc (.cells c.cells 30)) (hT.grown HG0.out))
  rw [yes_of hm] at HM
  have HA := Lib.hid (cfg_at w c)
  have HL : Hid (∀ w, _) := Lib.hid (fun w => logs_any c w hm.fits)
  have hq : (a % 4 != 0) = false := by simpa using h
  clear hT hm h
  unfold Cfg.cells at *
  go_enter Tryd.func31, Tryd.ntmps31
  go_wp2_with (first
    | (go_at_call 43; ((with_reducible refine HM.out.mono ?_); rintro e w1 ⟨rfl, hg1⟩; obtain ⟨c0, c1, c2, c3, c4, c5, c6, c7⟩ := HA.out.grown hg1; have HG1 := Lib.hid hg1; clear hg1))
    | (go_at_call 44; ((with_reducible refine (HL.out _).mono ?_); rintro e w5 ⟨rfl, hg5⟩; have HG5 := Lib.hid hg5; clear hg5)))
  go_ret3
  exact ⟨rfl, grown_trans (grown_trans HG0.out HG1.out) HG5.out⟩

def pair (a b : Int) : Ending := .returned (.tuple #[.int .u32 a, .int .i64 b])
theorem addr_in (b k : Int) (w : World) (h0 : 0 ≤ b) (h1 : b < 256) (h2 : 0 ≤ k) (h3 : k < 16) : Calls Tryd.prog 30 #[.int .i64 b, .int .i64 k] w fun e w' => e = pair (b * 64 + k * 4) 0 ∧ w = w' := by
  go_enter Tryd.func30, Tryd.ntmps30
  go_wp2
  go_ret2
  exact ⟨rfl, rfl⟩
theorem addr_out (b k : Int) (w : World) (h : ¬ (0 ≤ b ∧ b < 256 ∧ 0 ≤ k ∧ k < 16)) : Calls Tryd.prog 30 #[.int .i64 b, .int .i64 k] w fun e w' => e = pair 0 5 ∧ w = w' := by
  by_cases h0 : 0 ≤ b
  · by_cases h1 : b < 256
    · by_cases h2 : 0 ≤ k
      · have h3 : 16 ≤ k := by omega
        clear h
        go_enter Tryd.func30, Tryd.ntmps30
        go_wp2
        go_ret2
        exact ⟨rfl, rfl⟩
      · clear h
        go_enter Tryd.func30, Tryd.ntmps30
        go_wp2
        go_ret2
        exact ⟨rfl, rfl⟩
    · clear h
      go_enter Tryd.func30, Tryd.ntmps30
      go_wp2
      go_ret2
      exact ⟨rfl, rfl⟩
  · clear h
    go_enter Tryd.func30, Tryd.ntmps30
    go_wp2
    go_ret2
    exact ⟨rfl, rfl⟩

theorem trip_eq {a b a' b' e : Int} (h : a = a') (k : b = b') : trip a b e = trip a' b' e := by rw [h, k]

theorem rlog_no (c : Cfg) (core : Int) (w : World) (hm : ¬ c.may) : Calls Tryd.prog 38 #[.agg c.cells, .int .i64 core] w fun e w' => e = trip 0 0 2 ∧ w.grownBy w' none := by
  have HG0 : Hid (w.grownBy (w.alloc (.cells c.cells 30)) none) := Lib.hid (grown_alloc (grown_refl _ _) _)
  have HM := Lib.hid (rmay_any c (w.alloc (.cells c.cells 30)))
  rw [decide_eq_false hm] at HM
  clear hm
  unfold Cfg.cells at *
  go_enter Tryd.func38, Tryd.ntmps38
  go_wp2_with (first
    | (go_at_call 46; ((with_reducible refine HM.out.mono ?_); rintro e w1 ⟨rfl, hg1⟩; have HG1 := Lib.hid hg1; clear hg1)))
  go_ret3
  exact ⟨rfl, grown_trans HG0.out HG1.out⟩
theorem rlog_out (c : Cfg) (core : Int) (w : World) (hm : c.may) (h : core < 0 ∨ c.co ≤ core) : Calls Tryd.prog 38 #[.agg c.cells, .int .i64 core] w fun e w' => e = trip 0 0 5 ∧ w.grownBy w' none := by
  have HG0 : Hid (w.grownBy (w.alloc (.cells c.cells 30)) none) := Lib.hid (grown_alloc (grown_refl _ _) _)
  have HA := Lib.hid (cfg_at w c)
  have HM := Lib.hid (rmay_any c (w.alloc (.cells c.cells 30)))
  rw [decide_eq_true hm] at HM
  clear hm
  unfold Cfg.cells at *
  by_cases h0 : core < 0
  · clear h
    go_enter Tryd.func38, Tryd.ntmps38
    go_wp2_with (first
      | (go_at_call 46; ((with_reducible refine HM.out.mono ?_); rintro e w1 ⟨rfl, hg1⟩; have HG1 := Lib.hid hg1; clear hg1)))
    go_ret3
    exact ⟨rfl, grown_trans HG0.out HG1.out⟩
  · have h1 : decide (core < 0) = false := by simp; omega
    have h2 : decide (c.co ≤ core) = true := by simp; omega
    clear h h0
    go_enter Tryd.func38, Tryd.ntmps38
    go_wp2_with (first
      | (go_at_call 46; ((with_reducible refine HM.out.mono ?_); rintro e w1 ⟨rfl, hg1⟩; obtain ⟨c0, c1, c2, c3, c4, c5, c6, c7⟩ := HA.out.grown hg1; have HG1 := Lib.hid hg1; clear hg1)))
    go_ret3
    exact ⟨rfl, grown_trans HG0.out HG1.out⟩
theorem rlog_in (c : Cfg) (core : Int) (w : World) (hm : c.may) (h0 : 0 ≤ core) (h1 : core < c.co) : Calls Tryd.prog 38 #[.agg c.cells, .int .i64 core] w fun e w' => e = trip (c.data + core * c.lo) c.lo 0 ∧ w.grownBy w' none := by
  have HG0 : Hid (w.grownBy (w.alloc (.cells c.cells 30)) none) := Lib.hid (grown_alloc (grown_refl _ _) _)
  have HA := Lib.hid (cfg_at w c)
  have HM := Lib.hid (rmay_any c (w.alloc (.cells c.cells 30)))
  rw [decide_eq_true hm] at HM
  have HL : Hid (∀ w, _) := Lib.hid (fun w => rdata_any c w hm.fits)
  have hmul := hm.fits.mul
  have hcm := core_mul hm.fits core h0 h1
  have hf := hm.fits.lo
  have hb := hm.fits.bl
  have hd : 1 ≤ c.data ∧ c.data ≤ 256 := ⟨hm.2, by unfold Cfg.data; omega⟩
  have w1 : IntKind.i64.wrap (core * c.lo) = core * c.lo := IntWalk.i64_in _ (by omega)
  have w2 : IntKind.i64.wrap (c.data + core * c.lo) = c.data + core * c.lo := IntWalk.i64_in _ (by omega)
  clear hm
  unfold Cfg.cells at *
  go_enter Tryd.func38, Tryd.ntmps38
  go_wp2_with (first
    | (go_at_call 46; ((with_reducible refine HM.out.mono ?_); rintro e w1 ⟨rfl, hg1⟩; obtain ⟨c0, c1, c2, c3, c4, c5, c6, c7⟩ := HA.out.grown hg1; have HG1 := Lib.hid hg1; clear hg1)))
  go_region_held3 (fun w' => w'.cell? ⟨w.heap.size, 0, none⟩ = some (.int .i64 c.co) ∧ w'.cell? ⟨w.heap.size, 1, none⟩ = some (.int .i64 c.se) ∧ w'.cell? ⟨w.heap.size, 2, none⟩ = some (.int .i64 c.wa) ∧ w'.cell? ⟨w.heap.size, 3, none⟩ = some (.int .i64 c.bl) ∧ w'.cell? ⟨w.heap.size, 4, none⟩ = some (.int .i64 c.lo) ∧ w'.cell? ⟨w.heap.size, 5, none⟩ = some (.int .i64 c.ba) ∧ w'.cell? ⟨w.heap.size, 6, none⟩ = some (.int .i64 c.ne) ∧ w'.cell? ⟨w.heap.size, 7, none⟩ = some (.int .i64 c.tr))
    (first | exact (HA.out.grown (grown_drew HG1.out)).limbs | exact limbs_next (by assumption) (by assumption))
    (first | (go_at_call 47; ((with_reducible refine (HL.out _).mono ?_); rintro e w5 ⟨rfl, hg5⟩; have HG5 := Lib.hid hg5; clear hg5)))
  go_wp2_with fail
  go_ret3
  exact ⟨rfl, grown_trans (grown_trans HG0.out (grown_drew HG1.out)) HG5.out⟩
theorem rwhere_no (c : Cfg) (a : Int) (w : World) (hm : ¬ c.may) : Calls Tryd.prog 39 #[.agg c.cells, .int .u32 a] w fun e w' => e = trip 0 0 2 ∧ w.grownBy w' none := by
  have HG0 : Hid (w.grownBy (w.alloc (.cells c.cells 30)) none) := Lib.hid (grown_alloc (grown_refl _ _) _)
  have HM := Lib.hid (rmay_any c (w.alloc (.cells c.cells 30)))
  rw [decide_eq_false hm] at HM
  clear hm
  unfold Cfg.cells at *
  go_enter Tryd.func39, Tryd.ntmps39
  go_wp2_with (first
    | (go_at_call 46; ((with_reducible refine HM.out.mono ?_); rintro e w1 ⟨rfl, hg1⟩; have HG1 := Lib.hid hg1; clear hg1)))
  go_ret3
  exact ⟨rfl, grown_trans HG0.out HG1.out⟩

theorem rwhere_align (c : Cfg) (a : Int) (w : World) (hm : c.may) (h0 : 0 ≤ a) (h1 : a < 4294967296) (h : a % 4 ≠ 0) : Calls Tryd.prog 39 #[.agg c.cells, .int .u32 a] w fun e w' => e = trip 0 0 50 ∧ w.grownBy w' none := by
  have HG0 : Hid (w.grownBy (w.alloc (.cells c.cells 30)) none) := Lib.hid (grown_alloc (grown_refl _ _) _)
  have HM := Lib.hid (rmay_any c (w.alloc (.cells c.cells 30)))
  rw [decide_eq_true hm] at HM
  have hq : (a % 4 != 0) = true := by simpa using h
  clear hm h
  unfold Cfg.cells at *
  go_enter Tryd.func39, Tryd.ntmps39
  go_wp2_with (first
    | (go_at_call 46; ((with_reducible refine HM.out.mono ?_); rintro e w1 ⟨rfl, hg1⟩; have HG1 := Lib.hid hg1; clear hg1)))
  go_ret3
  exact ⟨rfl, grown_trans HG0.out HG1.out⟩

theorem rwhere_range (c : Cfg) (a : Int) (w : World) (hm : c.may) (h0 : 0 ≤ a) (h1 : a < 4294967296) (h : a % 4 = 0) (h2 : c.bl ≤ a / 64) : Calls Tryd.prog 39 #[.agg c.cells, .int .u32 a] w fun e w' => e = trip 0 0 5 ∧ w.grownBy w' none := by
  have HG0 : Hid (w.grownBy (w.alloc (.cells c.cells 30)) none) := Lib.hid (grown_alloc (grown_refl _ _) _)
  have HM := Lib.hid (rmay_any c (w.alloc (.cells c.cells 30)))
  rw [decide_eq_true hm] at HM
  have HA := Lib.hid (cfg_at w c)
  have hq : (a % 4 != 0) = false := by simpa using h
  clear hm h
  unfold Cfg.cells at *
  go_enter Tryd.func39, Tryd.ntmps39
  go_wp2_with (first
    | (go_at_call 46; ((with_reducible refine HM.out.mono ?_); rintro e w1 ⟨rfl, hg1⟩; obtain ⟨c0, c1, c2, c3, c4, c5, c6, c7⟩ := HA.out.grown hg1; have HG1 := Lib.hid hg1; clear hg1)))
  go_ret3
  exact ⟨rfl, grown_trans HG0.out HG1.out⟩

theorem rwhere_log (c : Cfg) (a : Int) (w : World) (hm : c.may) (h0 : 0 ≤ a) (h1 : a < 4294967296) (h : a % 4 = 0) (h2 : a / 64 < c.bl) (h3 : c.data ≤ a / 64) : Calls Tryd.prog 39 #[.agg c.cells, .int .u32 a] w fun e w' => e = trip 0 0 51 ∧ w.grownBy w' none := by
  have HG0 : Hid (w.grownBy (w.alloc (.cells c.cells 30)) none) := Lib.hid (grown_alloc (grown_refl _ _) _)
  have HM := Lib.hid (rmay_any c (w.alloc (.cells c.cells 30)))
  rw [decide_eq_true hm] at HM
  have HA := Lib.hid (cfg_at w c)
  have HL : Hid (∀ w, _) := Lib.hid (fun w => rdata_any c w hm.fits)
  have hq : (a % 4 != 0) = false := by simpa using h
  clear hm h
  unfold Cfg.cells at *
  go_enter Tryd.func39, Tryd.ntmps39
  go_wp2_with (first
    | (go_at_call 46; ((with_reducible refine HM.out.mono ?_); rintro e w1 ⟨rfl, hg1⟩; obtain ⟨c0, c1, c2, c3, c4, c5, c6, c7⟩ := HA.out.grown hg1; have HG1 := Lib.hid hg1; clear hg1))
    | (go_at_call 47; ((with_reducible refine (HL.out _).mono ?_); rintro e w5 ⟨rfl, hg5⟩; have HG5 := Lib.hid hg5; clear hg5)))
  go_ret3
  exact ⟨rfl, grown_trans (grown_trans HG0.out HG1.out) HG5.out⟩

theorem rwhere_in (c : Cfg) (a : Int) (w : World) (hm : c.may) (h0 : 0 ≤ a) (h1 : a < 4294967296) (h : a % 4 = 0) (h2 : a / 64 < c.bl) (h3 : a / 64 < c.data) : Calls Tryd.prog 39 #[.agg c.cells, .int .u32 a] w fun e w' => e = trip (a / 64) (a % 64 / 4) 0 ∧ w.grownBy w' none := by
  have HG0 : Hid (w.grownBy (w.alloc (.cells c.cells 30)) none) := Lib.hid (grown_alloc (grown_refl _ _) _)
  have HM := Lib.hid (rmay_any c (w.alloc (.cells c.cells 30)))
  rw [decide_eq_true hm] at HM
  have HA := Lib.hid (cfg_at w c)
  have HL : Hid (∀ w, _) := Lib.hid (fun w => rdata_any c w hm.fits)
  have hq : (a % 4 != 0) = false := by simpa using h
  clear hm h
  unfold Cfg.cells at *
  go_enter Tryd.func39, Tryd.ntmps39
  go_wp2_with (first
    | (go_at_call 46; ((with_reducible refine HM.out.mono ?_); rintro e w1 ⟨rfl, hg1⟩; obtain ⟨c0, c1, c2, c3, c4, c5, c6, c7⟩ := HA.out.grown hg1; have HG1 := Lib.hid hg1; clear hg1))
    | (go_at_call 47; ((with_reducible refine (HL.out _).mono ?_); rintro e w5 ⟨rfl, hg5⟩; have HG5 := Lib.hid hg5; clear hg5)))
  go_ret3
  exact ⟨trip_eq (a := a / 4 / 16) (b := a / 4 % 16) (by omega) (by omega), grown_trans (grown_trans HG0.out HG1.out) HG5.out⟩

/-- Log, the program's and the document's. -/
theorem log_both (c : Cfg) (core : Int) : ∃ x y z, (∀ w, Tab w → Calls Tryd.prog 33 #[.agg c.cells, .int .i64 core] w fun e w' => e = trip x y z ∧ w.grownBy w' none) ∧ (∀ w, Calls Tryd.prog 38 #[.agg c.cells, .int .i64 core] w fun e w' => e = trip x y z ∧ w.grownBy w' none) := by
  by_cases hm : c.may
  · by_cases h : core < 0 ∨ c.co ≤ core
    · exact ⟨_, _, _, fun w hT => log_out c core w hT hm h, fun w => rlog_out c core w hm h⟩
    · exact ⟨_, _, _, fun w hT => log_in c core w hT hm (by omega) (by omega), fun w => rlog_in c core w hm (by omega) (by omega)⟩
  · exact ⟨_, _, _, fun w hT => log_no c core w hT hm, fun w => rlog_no c core w hm⟩
theorem where_both (c : Cfg) (a : Int) (h0 : 0 ≤ a) (h1 : a < 4294967296) : ∃ x y z, (∀ w, Tab w → Calls Tryd.prog 31 #[.agg c.cells, .int .u32 a] w fun e w' => e = trip x y z ∧ w.grownBy w' none) ∧ (∀ w, Calls Tryd.prog 39 #[.agg c.cells, .int .u32 a] w fun e w' => e = trip x y z ∧ w.grownBy w' none) := by
  by_cases hm : c.may
  · by_cases h : a % 4 = 0
    · by_cases h2 : c.bl ≤ a / 64
      · exact ⟨_, _, _, fun w hT => where_range c a w hT hm h0 h1 h h2, fun w => rwhere_range c a w hm h0 h1 h h2⟩
      · by_cases h3 : c.data ≤ a / 64
        · exact ⟨_, _, _, fun w hT => where_log c a w hT hm h0 h1 h (by omega) h3, fun w => rwhere_log c a w hm h0 h1 h (by omega) h3⟩
        · exact ⟨_, _, _, fun w hT => where_in c a w hT hm h0 h1 h (by omega) (by omega), fun w => rwhere_in c a w hm h0 h1 h (by omega) (by omega)⟩
    · exact ⟨_, _, _, fun w hT => where_align c a w hT hm h0 h1 h, fun w => rwhere_align c a w hm h0 h1 h⟩
  · exact ⟨_, _, _, fun w hT => where_no c a w hT hm, fun w => rwhere_no c a w hm⟩
end Go.Proofs.YtfjjmlmkpdpdfaaDoor.tt
