/-
  The law PlanWhere returns true: the walk. Condition: the table of bounds lies in its variable as the program's text has it.
-/
import Derived.Test.YtkeeajiikfddgaaDoorC7
namespace Go.Proofs.YtkeeajiikfddgaaDoor.qq
open Go Go.ChangeShapes Go.WideShapes Go.ChangeAt Go.RowKit
set_option linter.unusedVariables false

set_option maxHeartbeats 4000000 in
theorem where_true (c : Cfg) (a b : Int) (w : World) (hT : Tab w) (h0 : 0 ≤ a) (h1 : a < 4294967296) : Calls Tryd.prog 5 #[.agg c.cells, .int .u32 a, .int .i64 b] w fun e w' => e = .returned (.bool true) ∧ w.grownBy w' none := by
  have HG0 : Hid (w.grownBy (w.alloc (.cells c.cells 26)) none) := Lib.hid (grown_alloc (grown_refl _ _) _)
  have HA := Lib.hid (cfg_at w c)
  have HT := Lib.hid hT
  obtain ⟨x, y, z, hl, hr⟩ := where_both c a h0 h1
  obtain ⟨s, hs, ht⟩ := set_both c b
  have HL := Lib.hid hl
  have HR := Lib.hid hr
  have HS := Lib.hid hs
  have HU := Lib.hid ht
  have qx : (x == x) = true := by simp
  have qy : (y == y) = true := by simp
  have qz : (z == z) = true := by simp
  have qs : (s == s) = true := by simp
  unfold trip at HL HR
  clear hT hl hr hs ht h0 h1
  unfold Cfg.cells at *
  go_enter Tryd.func5, Tryd.ntmps5
  go_wp2_with (first
    | (go_at_call 12; ((with_reducible refine (HL.out _ (HT.out.grown HG0.out)).mono ?_); rintro e w1 ⟨rfl, hg1⟩; have HA1 := Lib.hid (HA.out.grown hg1); obtain ⟨c0, c1, c2, c3, c4, c5, c6, c7⟩ := HA1.out; have HG1 := Lib.hid (grown_trans HG0.out hg1); clear hg1))
    | (go_at_call 19; ((with_reducible refine (HR.out _).mono ?_); rintro e w2 ⟨rfl, hg2⟩; have HA2 := Lib.hid (HA1.out.grown hg2); have HG2 := Lib.hid (grown_trans HG1.out hg2); clear hg2)))
  have HG2d := Lib.hid (grown_drew HG2.out)
  have HT2 := Lib.hid (HT.out.grown HG2d.out)
  go_region_held3 (fun w' => w'.cell? ⟨w.heap.size, 0, none⟩ = some (.int .i64 c.co) ∧ w'.cell? ⟨w.heap.size, 1, none⟩ = some (.int .i64 c.se) ∧ w'.cell? ⟨w.heap.size, 2, none⟩ = some (.int .i64 c.wa) ∧ w'.cell? ⟨w.heap.size, 3, none⟩ = some (.int .i64 c.bl) ∧ w'.cell? ⟨w.heap.size, 4, none⟩ = some (.int .i64 c.lo) ∧ w'.cell? ⟨w.heap.size, 5, none⟩ = some (.int .i64 c.ba) ∧ w'.cell? ⟨w.heap.size, 6, none⟩ = some (.int .i64 c.ne) ∧ w'.cell? ⟨w.heap.size, 7, none⟩ = some (.int .i64 c.tr))
    (first | exact (HA2.out.grown (grown_drew (grown_refl _ _))).limbs | exact limbs_next (by assumption) (by assumption))
    (first
      | (go_at_call 20; ((with_reducible refine (HS.out _ HT2.out).mono ?_); rintro e w5 ⟨rfl, hg5⟩))
      | (go_at_call 20; ((with_reducible refine (HS.out _ (HT2.out.grown (by assumption))).mono ?_); rintro e w5 ⟨rfl, hg5⟩))
      | (go_at_call 21; ((with_reducible refine (HU.out _).mono ?_); rintro e w6 ⟨rfl, hg6⟩))
      | (go_at_call 13; ((with_reducible refine (works_any _ (HT2.out.grown (grown_trans hg5 hg6))).mono ?_); rintro e w7 ⟨rfl, hg7⟩)))
  go_wp2_with fail
  go_ret
  exact ⟨rfl, grown_trans HG2d.out (grown_trans (grown_trans hg5 hg6) hg7)⟩

theorem back_out (c : Cfg) (b k : Int) (w : World) (hT : Tab w) (h : ¬ (0 ≤ b ∧ b < 256 ∧ 0 ≤ k ∧ k < 16)) : Calls Tryd.prog 8 #[.agg c.cells, .int .i64 b, .int .i64 k] w fun e w' => e = .returned (.bool true) ∧ w.grownBy w' none := by
  have HG0 : Hid (w.grownBy (w.alloc (.cells c.cells 26)) none) := Lib.hid (grown_alloc (grown_refl _ _) _)
  have HT := Lib.hid hT
  obtain ⟨x, y, z, hl, _⟩ := where_both c 0 (by decide) (by decide)
  have HL := Lib.hid hl
  have HAD : Hid (∀ w, _) := Lib.hid (fun w => addr_out b k w h)
  unfold trip at HL
  unfold pair at HAD
  clear hT hl h
  unfold Cfg.cells at *
  go_enter Tryd.func8, Tryd.ntmps8
  go_wp2_with (first
    | (go_at_call 22; ((with_reducible refine (HAD.out _).mono ?_); rintro e w' ⟨rfl, rfl⟩))
    | (go_at_call 12; ((with_reducible refine (HL.out _ (HT.out.grown HG0.out)).mono ?_); rintro e w1 ⟨rfl, hg1⟩; have HG1 := Lib.hid (grown_trans HG0.out hg1); clear hg1))
    | (go_at_call 13; ((with_reducible refine (works_any _ (HT.out.grown HG1.out)).mono ?_); rintro e w7 ⟨rfl, hg7⟩; have HG7 := Lib.hid (grown_trans HG1.out hg7); clear hg7)))
  go_ret
  exact ⟨rfl, HG7.out⟩

theorem back_no (c : Cfg) (b k : Int) (w : World) (hT : Tab w) (h0 : 0 ≤ b) (h1 : b < 256) (h2 : 0 ≤ k) (h3 : k < 16) (hm : ¬ c.may) : Calls Tryd.prog 8 #[.agg c.cells, .int .i64 b, .int .i64 k] w fun e w' => e = .returned (.bool true) ∧ w.grownBy w' none := by
  have HG0 : Hid (w.grownBy (w.alloc (.cells c.cells 26)) none) := Lib.hid (grown_alloc (grown_refl _ _) _)
  have HA := Lib.hid (cfg_at w c)
  have HT := Lib.hid hT
  have HL : Hid (∀ w, Tab w → _) := Lib.hid (fun w h => where_no c (b * 64 + k * 4) w h hm)
  have HM : Hid (∀ w, Tab w → _) := Lib.hid (may_any c)
  rw [yes_not hm] at HM
  have HAD : Hid (∀ w, _) := Lib.hid (fun w => addr_in b k w h0 h1 h2 h3)
  unfold trip at HL
  unfold pair at HAD
  clear hT hm
  unfold Cfg.cells at *
  go_enter Tryd.func8, Tryd.ntmps8
  go_wp2_with (first
    | (go_at_call 22; ((with_reducible refine (HAD.out _).mono ?_); rintro e w' ⟨rfl, rfl⟩))
    | (go_at_call 12; ((with_reducible refine (HL.out _ (HT.out.grown HG0.out)).mono ?_); rintro e w1 ⟨rfl, hg1⟩; have HA1 := Lib.hid (HA.out.grown hg1); obtain ⟨c0, c1, c2, c3, c4, c5, c6, c7⟩ := HA1.out; have HG1 := Lib.hid (grown_trans HG0.out hg1); clear hg1))
    | (go_at_call 14; ((with_reducible refine (HM.out _ (HT.out.grown HG1.out)).mono ?_); rintro e w5 ⟨rfl, hg5⟩; have HG5 := Lib.hid (grown_trans HG1.out hg5); clear hg5))
    | (go_at_call 13; ((with_reducible refine (works_any _ (HT.out.grown HG5.out)).mono ?_); rintro e w7 ⟨rfl, hg7⟩; have HG7 := Lib.hid (grown_trans HG5.out hg7); clear hg7)))
  go_ret
  exact ⟨rfl, HG7.out⟩

theorem back_far (c : Cfg) (b k : Int) (w : World) (hT : Tab w) (h0 : 0 ≤ b) (h1 : b < 256) (h2 : 0 ≤ k) (h3 : k < 16) (hm : c.may) (hb : c.data ≤ b) : Calls Tryd.prog 8 #[.agg c.cells, .int .i64 b, .int .i64 k] w fun e w' => e = .returned (.bool true) ∧ w.grownBy w' none := by
  have HG0 : Hid (w.grownBy (w.alloc (.cells c.cells 26)) none) := Lib.hid (grown_alloc (grown_refl _ _) _)
  have HA := Lib.hid (cfg_at w c)
  have HT := Lib.hid hT
  have HM : Hid (∀ w, Tab w → _) := Lib.hid (may_any c)
  rw [yes_of hm] at HM
  have HD : Hid (∀ w, Tab w → _) := Lib.hid (fun w h => data_yes c w h hm)
  have HAD : Hid (∀ w, _) := Lib.hid (fun w => addr_in b k w h0 h1 h2 h3)
  unfold pair at HAD
  by_cases hl : b < c.bl
  · have HL : Hid (∀ w, Tab w → _) := Lib.hid (fun w h => where_log c (b * 64 + k * 4) w h hm (by omega) (by omega) (by omega) (by omega) (by omega))
    have d1 : decide (b < c.bl) = true := decide_eq_true hl
    have d2 : decide (c.bl ≤ b) = false := decide_eq_false (by omega)
    unfold trip at HL
    clear hT hm
    unfold Cfg.cells at *
    go_enter Tryd.func8, Tryd.ntmps8
    go_wp2_with (first
      | (go_at_call 22; ((with_reducible refine (HAD.out _).mono ?_); rintro e w' ⟨rfl, rfl⟩))
      | (go_at_call 12; ((with_reducible refine (HL.out _ (HT.out.grown HG0.out)).mono ?_); rintro e w1 ⟨rfl, hg1⟩; have HA1 := Lib.hid (HA.out.grown hg1); obtain ⟨c0, c1, c2, c3, c4, c5, c6, c7⟩ := HA1.out; have HG1 := Lib.hid (grown_trans HG0.out hg1); clear hg1))
      | (go_at_call 14; ((with_reducible refine (HM.out _ (HT.out.grown HG1.out)).mono ?_); rintro e w5 ⟨rfl, hg5⟩; clear c0 c1 c2 c3 c4 c5 c6 c7; have HA5 := Lib.hid (HA1.out.grown hg5); obtain ⟨c0, c1, c2, c3, c4, c5, c6, c7⟩ := HA5.out; have HG5 := Lib.hid (grown_trans HG1.out hg5); clear hg5))
      | (go_at_call 18; ((with_reducible refine (HD.out _ (HT.out.grown HG5.out)).mono ?_); rintro e w6 ⟨rfl, hg6⟩; clear c0 c1 c2 c3 c4 c5 c6 c7; have HA6 := Lib.hid (HA5.out.grown hg6); obtain ⟨c0, c1, c2, c3, c4, c5, c6, c7⟩ := HA6.out; have HG6 := Lib.hid (grown_trans HG5.out hg6); clear hg6))
      | (go_at_call 13; ((with_reducible refine (works_any _ (HT.out.grown HG6.out)).mono ?_); rintro e w7 ⟨rfl, hg7⟩; have HG7 := Lib.hid (grown_trans HG6.out hg7); clear hg7)))
    go_ret
    exact ⟨rfl, HG7.out⟩
  · have HL : Hid (∀ w, Tab w → _) := Lib.hid (fun w h => where_range c (b * 64 + k * 4) w h hm (by omega) (by omega) (by omega) (by omega))
    have d1 : decide (b < c.bl) = false := decide_eq_false hl
    have d2 : decide (c.bl ≤ b) = true := decide_eq_true (by omega)
    unfold trip at HL
    clear hT hm
    unfold Cfg.cells at *
    go_enter Tryd.func8, Tryd.ntmps8
    go_wp2_with (first
      | (go_at_call 22; ((with_reducible refine (HAD.out _).mono ?_); rintro e w' ⟨rfl, rfl⟩))
      | (go_at_call 12; ((with_reducible refine (HL.out _ (HT.out.grown HG0.out)).mono ?_); rintro e w1 ⟨rfl, hg1⟩; have HA1 := Lib.hid (HA.out.grown hg1); obtain ⟨c0, c1, c2, c3, c4, c5, c6, c7⟩ := HA1.out; have HG1 := Lib.hid (grown_trans HG0.out hg1); clear hg1))
      | (go_at_call 14; ((with_reducible refine (HM.out _ (HT.out.grown HG1.out)).mono ?_); rintro e w5 ⟨rfl, hg5⟩; clear c0 c1 c2 c3 c4 c5 c6 c7; have HA5 := Lib.hid (HA1.out.grown hg5); obtain ⟨c0, c1, c2, c3, c4, c5, c6, c7⟩ := HA5.out; have HG5 := Lib.hid (grown_trans HG1.out hg5); clear hg5))
      | (go_at_call 18; ((with_reducible refine (HD.out _ (HT.out.grown HG5.out)).mono ?_); rintro e w6 ⟨rfl, hg6⟩; clear c0 c1 c2 c3 c4 c5 c6 c7; have HA6 := Lib.hid (HA5.out.grown hg6); obtain ⟨c0, c1, c2, c3, c4, c5, c6, c7⟩ := HA6.out; have HG6 := Lib.hid (grown_trans HG5.out hg6); clear hg6))
      | (go_at_call 13; ((with_reducible refine (works_any _ (HT.out.grown HG6.out)).mono ?_); rintro e w7 ⟨rfl, hg7⟩; have HG7 := Lib.hid (grown_trans HG6.out hg7); clear hg7)))
    go_ret
    exact ⟨rfl, HG7.out⟩

set_option maxHeartbeats 4000000 in
theorem back_in (c : Cfg) (b k : Int) (w : World) (hT : Tab w) (h0 : 0 ≤ b) (h1 : b < 256) (h2 : 0 ≤ k) (h3 : k < 16) (hm : c.may) (hb : b < c.data) : Calls Tryd.prog 8 #[.agg c.cells, .int .i64 b, .int .i64 k] w fun e w' => e = .returned (.bool true) ∧ w.grownBy w' none := by
  have HG0 : Hid (w.grownBy (w.alloc (.cells c.cells 26)) none) := Lib.hid (grown_alloc (grown_refl _ _) _)
  have HA := Lib.hid (cfg_at w c)
  have HT := Lib.hid hT
  have HM : Hid (∀ w, Tab w → _) := Lib.hid (may_any c)
  rw [yes_of hm] at HM
  have HD : Hid (∀ w, Tab w → _) := Lib.hid (fun w h => data_yes c w h hm)
  have HAD : Hid (∀ w, _) := Lib.hid (fun w => addr_in b k w h0 h1 h2 h3)
  unfold pair at HAD
  have hmul := hm.fits.mul
  have hdl : c.data < c.bl := by unfold Cfg.data; omega
  have HL : Hid (∀ w, Tab w → Calls Tryd.prog 12 #[.agg c.cells, .int .u32 (b * 64 + k * 4)] w fun e w' => e = trip b k 0 ∧ w.grownBy w' none) := Lib.hid (fun w h => by
    have := where_in c (b * 64 + k * 4) w h hm (by omega) (by omega) (by omega) (by omega) (by omega)
    rwa [show (b * 64 + k * 4) / 64 = b by omega, show (b * 64 + k * 4) % 64 / 4 = k by omega] at this)
  have HS : Hid (∀ w, Tab w → _) := Lib.hid (fun w h => set_in c b w h hm h0)
  have hse := hm.sets
  have qs : decide (b % c.se < c.se) = true := decide_eq_true (Int.emod_lt_of_pos _ (by omega))
  have qb : (b == b) = true := by simp
  have qk : (k == k) = true := by simp
  unfold trip at HL
  clear hT hm hse hmul hdl
  generalize b % c.se = s at HS qs
  unfold Cfg.cells at *
  go_enter Tryd.func8, Tryd.ntmps8
  go_wp2_with (first
    | (go_at_call 22; ((with_reducible refine (HAD.out _).mono ?_); rintro e w' ⟨rfl, rfl⟩))
    | (go_at_call 12; ((with_reducible refine (HL.out _ (HT.out.grown HG0.out)).mono ?_); rintro e w1 ⟨rfl, hg1⟩; have HA1 := Lib.hid (HA.out.grown hg1); obtain ⟨c0, c1, c2, c3, c4, c5, c6, c7⟩ := HA1.out; have HG1 := Lib.hid (grown_trans HG0.out hg1); clear hg1))
    | (go_at_call 14; ((with_reducible refine (HM.out _ (HT.out.grown HG1.out)).mono ?_); rintro e w5 ⟨rfl, hg5⟩; clear c0 c1 c2 c3 c4 c5 c6 c7; have HA5 := Lib.hid (HA1.out.grown hg5); obtain ⟨c0, c1, c2, c3, c4, c5, c6, c7⟩ := HA5.out; have HG5 := Lib.hid (grown_trans HG1.out hg5); clear hg5))
    | (go_at_call 18; ((with_reducible refine (HD.out _ (HT.out.grown HG5.out)).mono ?_); rintro e w6 ⟨rfl, hg6⟩; clear c0 c1 c2 c3 c4 c5 c6 c7; have HA6 := Lib.hid (HA5.out.grown hg6); have HG6 := Lib.hid (grown_trans HG5.out hg6); clear hg6)))
  have HG6d := Lib.hid (grown_drew HG6.out)
  have HT6 := Lib.hid (HT.out.grown HG6d.out)
  go_region_held3 (fun w' => w'.cell? ⟨w.heap.size, 0, none⟩ = some (.int .i64 c.co) ∧ w'.cell? ⟨w.heap.size, 1, none⟩ = some (.int .i64 c.se) ∧ w'.cell? ⟨w.heap.size, 2, none⟩ = some (.int .i64 c.wa) ∧ w'.cell? ⟨w.heap.size, 3, none⟩ = some (.int .i64 c.bl) ∧ w'.cell? ⟨w.heap.size, 4, none⟩ = some (.int .i64 c.lo) ∧ w'.cell? ⟨w.heap.size, 5, none⟩ = some (.int .i64 c.ba) ∧ w'.cell? ⟨w.heap.size, 6, none⟩ = some (.int .i64 c.ne) ∧ w'.cell? ⟨w.heap.size, 7, none⟩ = some (.int .i64 c.tr))
    (first | exact (HA6.out.grown (grown_drew (grown_refl _ _))).limbs | exact limbs_next (by assumption) (by assumption))
    (first
      | (go_at_call 20; ((with_reducible refine (HS.out _ HT6.out).mono ?_); rintro e w8 ⟨rfl, hg8⟩))
      | (go_at_call 13; ((with_reducible refine (works_any _ (HT6.out.grown hg8)).mono ?_); rintro e w9 ⟨rfl, hg9⟩)))
  go_wp2_with fail
  go_ret
  exact ⟨rfl, grown_trans HG6d.out (grown_trans hg8 hg9)⟩

theorem back_true (c : Cfg) (b k : Int) (w : World) (hT : Tab w) : Calls Tryd.prog 8 #[.agg c.cells, .int .i64 b, .int .i64 k] w fun e w' => e = .returned (.bool true) ∧ w.grownBy w' none := by
  by_cases h : 0 ≤ b ∧ b < 256 ∧ 0 ≤ k ∧ k < 16
  · obtain ⟨h0, h1, h2, h3⟩ := h
    by_cases hm : c.may
    · by_cases hb : b < c.data
      · exact back_in c b k w hT h0 h1 h2 h3 hm hb
      · exact back_far c b k w hT h0 h1 h2 h3 hm (by omega)
    · exact back_no c b k w hT h0 h1 h2 h3 hm
  · exact back_out c b k w hT h
end Go.Proofs.YtkeeajiikfddgaaDoor.qq
