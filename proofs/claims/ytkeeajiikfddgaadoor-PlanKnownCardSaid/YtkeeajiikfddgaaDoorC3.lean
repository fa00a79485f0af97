/-
  What Data, Log, Where, Set, Addr answer: contracts. Condition: the table of bounds lies in its variable as the program's text has it; what each theorem names besides.
-/
import Derived.Test.YtkeeajiikfddgaaDoorC2
namespace Go.Proofs.YtkeeajiikfddgaaDoor.qq
open Go Go.ChangeShapes Go.WideShapes Go.ChangeAt Go.RowKit
set_option linter.unusedVariables false

theorem Cfg.may.fits {c : Cfg} (h : c.may) : c.Fits := Cfg.fits h.1

/-- Eight cells of a plan that lies in a block. -/
structure CfgAt (w : World) (b : Nat) (c : Cfg) : Prop where
  c0 : w.cell? ⟨b, 0, none⟩ = some (.int .i64 c.co)
  c1 : w.cell? ⟨b, 1, none⟩ = some (.int .i64 c.se)
  c2 : w.cell? ⟨b, 2, none⟩ = some (.int .i64 c.wa)
  c3 : w.cell? ⟨b, 3, none⟩ = some (.int .i64 c.bl)
  c4 : w.cell? ⟨b, 4, none⟩ = some (.int .i64 c.lo)
  c5 : w.cell? ⟨b, 5, none⟩ = some (.int .i64 c.ba)
  c6 : w.cell? ⟨b, 6, none⟩ = some (.int .i64 c.ne)
  c7 : w.cell? ⟨b, 7, none⟩ = some (.int .i64 c.tr)
theorem CfgAt.grown {w w' : World} {b : Nat} {c : Cfg} (h : CfgAt w b c) (hg : w.grownBy w' none) : CfgAt w' b c :=
  ⟨hg.cell h.c0 (by simp), hg.cell h.c1 (by simp), hg.cell h.c2 (by simp), hg.cell h.c3 (by simp), hg.cell h.c4 (by simp), hg.cell h.c5 (by simp), hg.cell h.c6 (by simp), hg.cell h.c7 (by simp)⟩
theorem cfg_at (w : World) (c : Cfg) : CfgAt (w.alloc (.cells c.cells 26)) w.heap.size c := by
  have h := heap_alloc_new w (.cells c.cells 26)
  constructor <;> exact (cell_of_row _ _ _ _ _ _ h).trans rfl
def put1 (c : Cfg) (w : World) : World := w.alloc (.cells c.cells 26)

theorem data_yes (c : Cfg) (w : World) (hT : Tab w) (hm : c.may) : Calls Tryd.prog 18 #[.agg c.cells] w fun e w' => e = .returned (.int .i64 c.data) ∧ w.grownBy w' none := by
  have HG0 : Hid (w.grownBy (w.alloc (.cells c.cells 26)) none) := Lib.hid (grown_alloc (grown_refl _ _) _)
  have HA := Lib.hid (cfg_at w c)
  have HM := Lib.hid (may_any c (w.alloc (.cells c.cells 26)) (hT.grown HG0.out))
  rw [yes_of hm] at HM
  have HL : Hid (∀ w, _) := Lib.hid (fun w => logs_any c w hm.fits)
  clear hT hm
  unfold Cfg.cells at *
  go_enter Tryd.func18, Tryd.ntmps18
  go_wp2_with (first
    | (go_at_call 14; ((with_reducible refine HM.out.mono ?_); rintro e w1 ⟨rfl, hg1⟩; obtain ⟨c0, c1, c2, c3, c4, c5, c6, c7⟩ := HA.out.grown hg1; have HG1 := Lib.hid hg1; clear hg1))
    | (go_at_call 23; ((with_reducible refine (HL.out _).mono ?_); rintro e w2 ⟨rfl, hg2⟩; have HG2 := Lib.hid hg2; clear hg2)))
  go_ret
  exact ⟨rfl, grown_trans (grown_trans HG0.out HG1.out) HG2.out⟩
theorem data_no (c : Cfg) (w : World) (hT : Tab w) (hm : ¬ c.may) : Calls Tryd.prog 18 #[.agg c.cells] w fun e w' => e = .returned (.int .i64 0) ∧ w.grownBy w' none := by
  have HG0 : Hid (w.grownBy (w.alloc (.cells c.cells 26)) none) := Lib.hid (grown_alloc (grown_refl _ _) _)
  have HM := Lib.hid (may_any c (w.alloc (.cells c.cells 26)) (hT.grown HG0.out))
  rw [yes_not hm] at HM
  clear hT hm
  unfold Cfg.cells at *
  go_enter Tryd.func18, Tryd.ntmps18
  go_wp2_with (first
    | (go_at_call 14; ((with_reducible refine HM.out.mono ?_); rintro e w1 ⟨rfl, hg1⟩; have HG1 := Lib.hid hg1; clear hg1)))
  go_ret
  exact ⟨rfl, grown_trans HG0.out HG1.out⟩

/-- Nine limbs of a region that reads a plan. -/
theorem CfgAt.limbs {w : World} {b : Nat} {c : Cfg} (h : CfgAt w b c) : w.cell? ⟨b, 0, none⟩ = some (.int .i64 c.co) ∧ w.cell? ⟨b, 1, none⟩ = some (.int .i64 c.se) ∧ w.cell? ⟨b, 2, none⟩ = some (.int .i64 c.wa) ∧ w.cell? ⟨b, 3, none⟩ = some (.int .i64 c.bl) ∧ w.cell? ⟨b, 4, none⟩ = some (.int .i64 c.lo) ∧ w.cell? ⟨b, 5, none⟩ = some (.int .i64 c.ba) ∧ w.cell? ⟨b, 6, none⟩ = some (.int .i64 c.ne) ∧ w.cell? ⟨b, 7, none⟩ = some (.int .i64 c.tr) :=
  ⟨h.c0, h.c1, h.c2, h.c3, h.c4, h.c5, h.c6, h.c7⟩
theorem limbs_next {w w' : World} {b : Nat} {c : Cfg} (h : w.cell? ⟨b, 0, none⟩ = some (.int .i64 c.co) ∧ w.cell? ⟨b, 1, none⟩ = some (.int .i64 c.se) ∧ w.cell? ⟨b, 2, none⟩ = some (.int .i64 c.wa) ∧ w.cell? ⟨b, 3, none⟩ = some (.int .i64 c.bl) ∧ w.cell? ⟨b, 4, none⟩ = some (.int .i64 c.lo) ∧ w.cell? ⟨b, 5, none⟩ = some (.int .i64 c.ba) ∧ w.cell? ⟨b, 6, none⟩ = some (.int .i64 c.ne) ∧ w.cell? ⟨b, 7, none⟩ = some (.int .i64 c.tr)) (hg : w.grownBy w' none) :
    w'.cell? ⟨b, 0, none⟩ = some (.int .i64 c.co) ∧ w'.cell? ⟨b, 1, none⟩ = some (.int .i64 c.se) ∧ w'.cell? ⟨b, 2, none⟩ = some (.int .i64 c.wa) ∧ w'.cell? ⟨b, 3, none⟩ = some (.int .i64 c.bl) ∧ w'.cell? ⟨b, 4, none⟩ = some (.int .i64 c.lo) ∧ w'.cell? ⟨b, 5, none⟩ = some (.int .i64 c.ba) ∧ w'.cell? ⟨b, 6, none⟩ = some (.int .i64 c.ne) ∧ w'.cell? ⟨b, 7, none⟩ = some (.int .i64 c.tr) := by
  obtain ⟨h0, h1, h2, h3, h4, h5, h6, h7⟩ := h
  exact (CfgAt.grown ⟨h0, h1, h2, h3, h4, h5, h6, h7⟩ hg).limbs

def trip (a b e : Int) : Ending := .returned (.tuple #[.int .i64 a, .int .i64 b, .int .i64 e])

theorem log_no (c : Cfg) (core : Int) (w : World) (hT : Tab w) (hm : ¬ c.may) : Calls Tryd.prog 10 #[.agg c.cells, .int .i64 core] w fun e w' => e = trip 0 0 2 ∧ w.grownBy w' none := by
  have HG0 : Hid (w.grownBy (w.alloc (.cells c.cells 26)) none) := Lib.hid (grown_alloc (grown_refl _ _) _)
  have HM := Lib.hid (may_any c (w.alloc (.cells c.cells 26)) (hT.grown HG0.out))
  rw [yes_not hm] at HM
  clear hT hm
  unfold Cfg.cells at *
  go_enter Tryd.func10, Tryd.ntmps10
  go_wp2_with (first
    | (go_at_call 14; ((with_reducible refine HM.out.mono ?_); rintro e w1 ⟨rfl, hg1⟩; have HG1 := Lib.hid hg1; clear hg1)))
  go_ret3
  exact ⟨rfl, grown_trans HG0.out HG1.out⟩
theorem log_out (c : Cfg) (core : Int) (w : World) (hT : Tab w) (hm : c.may) (h : core < 0 ∨ c.co ≤ core) : Calls Tryd.prog 10 #[.agg c.cells, .int .i64 core] w fun e w' => e = trip 0 0 5 ∧ w.grownBy w' none := by
  have HG0 : Hid (w.grownBy (w.alloc (.cells c.cells 26)) none) := Lib.hid (grown_alloc (grown_refl _ _) _)
  have HA := Lib.hid (cfg_at w c)
  have HM := Lib.hid (may_any c (w.alloc (.cells c.cells 26)) (hT.grown HG0.out))
  rw [yes_of hm] at HM
  clear hT hm
  unfold Cfg.cells at *
  by_cases h0 : core < 0
  · clear h
    go_enter Tryd.func10, Tryd.ntmps10
    go_wp2_with (first
      | (go_at_call 14; ((with_reducible refine HM.out.mono ?_); rintro e w1 ⟨rfl, hg1⟩; have HG1 := Lib.hid hg1; clear hg1)))
    go_ret3
    exact ⟨rfl, grown_trans HG0.out HG1.out⟩
  · have h1 : decide (core < 0) = false := by simp; omega
    have h2 : decide (c.co ≤ core) = true := by simp; omega
    clear h h0
    go_enter Tryd.func10, Tryd.ntmps10
    go_wp2_with (first
      | (go_at_call 14; ((with_reducible refine HM.out.mono ?_); rintro e w1 ⟨rfl, hg1⟩; obtain ⟨c0, c1, c2, c3, c4, c5, c6, c7⟩ := HA.out.grown hg1; have HG1 := Lib.hid hg1; clear hg1)))
    go_ret3
    exact ⟨rfl, grown_trans HG0.out HG1.out⟩
theorem core_mul {c : Cfg} (h : c.Fits) (core : Int) (h0 : 0 ≤ core) (h1 : core < c.co) : 0 ≤ core * c.lo ∧ core * c.lo + c.lo ≤ c.co * c.lo := by
  have hl := h.lo
  refine ⟨Int.mul_nonneg h0 (by omega), ?_⟩
  have := Int.mul_le_mul_of_nonneg_right (show core + 1 ≤ c.co by omega) (show (0 : Int) ≤ c.lo by omega)
  rw [Int.add_mul, Int.one_mul] at this
  exact this
theorem log_in (c : Cfg) (core : Int) (w : World) (hT : Tab w) (hm : c.may) (h0 : 0 ≤ core) (h1 : core < c.co) : Calls Tryd.prog 10 #[.agg c.cells, .int .i64 core] w fun e w' => e = trip (c.data + core * c.lo) c.lo 0 ∧ w.grownBy w' none := by
  have HG0 : Hid (w.grownBy (w.alloc (.cells c.cells 26)) none) := Lib.hid (grown_alloc (grown_refl _ _) _)
  have HA := Lib.hid (cfg_at w c)
  have HM := Lib.hid (may_any c (w.alloc (.cells c.cells 26)) (hT.grown HG0.out))
  rw [yes_of hm] at HM
  have HL : Hid (∀ w, _) := Lib.hid (fun w => logs_any c w hm.fits)
  have hmul := hm.fits.mul
  have hcm := core_mul hm.fits core h0 h1
  have hf := hm.fits.lo
  have hb := hm.fits.bl
  have hd : 1 ≤ c.data ∧ c.data ≤ 256 := ⟨hm.2, by unfold Cfg.data; omega⟩
  have w1 : IntKind.i64.wrap (core * c.lo) = core * c.lo := IntWalk.i64_in _ (by omega)
  have w2 : IntKind.i64.wrap (c.data + core * c.lo) = c.data + core * c.lo := IntWalk.i64_in _ (by omega)
  clear hT hm
  unfold Cfg.cells at *
  go_enter Tryd.func10, Tryd.ntmps10
  go_wp2_with (first
    | (go_at_call 14; ((with_reducible refine HM.out.mono ?_); rintro e w1 ⟨rfl, hg1⟩; obtain ⟨c0, c1, c2, c3, c4, c5, c6, c7⟩ := HA.out.grown hg1; have HG1 := Lib.hid hg1; clear hg1)))
  go_region_held3 (fun w' => w'.cell? ⟨w.heap.size, 0, none⟩ = some (.int .i64 c.co) ∧ w'.cell? ⟨w.heap.size, 1, none⟩ = some (.int .i64 c.se) ∧ w'.cell? ⟨w.heap.size, 2, none⟩ = some (.int .i64 c.wa) ∧ w'.cell? ⟨w.heap.size, 3, none⟩ = some (.int .i64 c.bl) ∧ w'.cell? ⟨w.heap.size, 4, none⟩ = some (.int .i64 c.lo) ∧ w'.cell? ⟨w.heap.size, 5, none⟩ = some (.int .i64 c.ba) ∧ w'.cell? ⟨w.heap.size, 6, none⟩ = some (.int .i64 c.ne) ∧ w'.cell? ⟨w.heap.size, 7, none⟩ = some (.int .i64 c.tr))
    (first | exact (HA.out.grown (grown_drew HG1.out)).limbs | exact limbs_next (by assumption) (by assumption))
    (first | (go_at_call 23; ((with_reducible refine (HL.out _).mono ?_); rintro e w5 ⟨rfl, hg5⟩; have HG5 := Lib.hid hg5; clear hg5)))
  go_wp2_with fail
  go_ret3
  exact ⟨rfl, grown_trans (grown_trans HG0.out (grown_drew HG1.out)) HG5.out⟩
end Go.Proofs.YtkeeajiikfddgaaDoor.qq
