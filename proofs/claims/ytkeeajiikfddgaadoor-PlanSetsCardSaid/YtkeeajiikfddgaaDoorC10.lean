/-
  The law PlanSets returns true: the walk. Condition: the table of bounds lies in its variable as the program's text has it.
-/
import Derived.Test.YtkeeajiikfddgaaDoorC7
namespace Go.Proofs.YtkeeajiikfddgaaDoor.qq
open Go Go.ChangeShapes Go.WideShapes Go.ChangeAt Go.RowKit
set_option linter.unusedVariables false

theorem next_mod (b m : Int) (hm : 2 ≤ m) : (b + 1) % m ≠ b % m := fun h => by
  have h2 := (Int.emod_eq_emod_iff_emod_sub_eq_zero).1 h
  rw [show b + 1 - b = 1 by omega, Int.emod_eq_of_lt (by decide) (by omega)] at h2
  cases h2

set_option maxHeartbeats 4000000 in
theorem sets_true (c : Cfg) (b : Int) (w : World) (hT : Tab w) (hlo : -9223372036854775808 ≤ b) (hhi : b ≤ 9223372036854775807) : Calls Tryd.prog 9 #[.agg c.cells, .int .i64 b] w fun e w' => e = .returned (.bool true) ∧ w.grownBy w' none := by
  have HG0 : Hid (w.grownBy (w.alloc (.cells c.cells 26)) none) := Lib.hid (grown_alloc (grown_refl _ _) _)
  have HA := Lib.hid (cfg_at w c)
  have HT := Lib.hid hT
  have HM : Hid (∀ w, Tab w → _) := Lib.hid (may_any c)
  clear hT
  by_cases hm : c.may
  · rw [yes_of hm] at HM
    by_cases hb : b < 0
    · have HS : Hid (∀ w, Tab w → _) := Lib.hid (fun w h => set_neg c b w h hm hb)
      clear hm
      unfold Cfg.cells at *
      go_enter Tryd.func9, Tryd.ntmps9
      go_wp2_with (first
        | (go_at_call 20; ((with_reducible refine (HS.out _ (HT.out.grown HG0.out)).mono ?_); rintro e w1 ⟨rfl, hg1⟩; have HA1 := Lib.hid (HA.out.grown hg1); obtain ⟨c0, c1, c2, c3, c4, c5, c6, c7⟩ := HA1.out; have HG1 := Lib.hid (grown_trans HG0.out hg1); clear hg1))
        | (go_at_call 14; ((with_reducible refine (HM.out _ (HT.out.grown HG1.out)).mono ?_); rintro e w5 ⟨rfl, hg5⟩; have HG5 := Lib.hid (grown_trans HG1.out hg5); clear hg5))
        | (go_at_call 13; ((with_reducible refine (works_any _ (HT.out.grown HG5.out)).mono ?_); rintro e w7 ⟨rfl, hg7⟩; have HG7 := Lib.hid (grown_trans HG5.out hg7); clear hg7)))
      go_ret
      exact ⟨rfl, HG7.out⟩
    · have hb0 : 0 ≤ b := by omega
      have hse := hm.sets
      have hs0 : 0 ≤ b % c.se := Int.emod_nonneg _ (by omega)
      have hs1 : b % c.se < c.se := Int.emod_lt_of_pos _ (by omega)
      have HS : Hid (∀ w, Tab w → _) := Lib.hid (fun w h => set_in c b w h hm hb0)
      by_cases hbig : 1099511627776 < b
      · clear hm
        obtain ⟨s, hs⟩ : ∃ s, s = b % c.se := ⟨_, rfl⟩
        rw [← hs] at HS hs0 hs1
        clear hs
        have q1 : decide (s < c.se) = true := decide_eq_true hs1
        unfold Cfg.cells at *
        by_cases hz : s = 0
        · have q0 : (s == 0) = true := by simp [hz]
          clear hz
          go_enter Tryd.func9, Tryd.ntmps9
          go_wp2_with (first
            | (go_at_call 20; ((with_reducible refine (HS.out _ (HT.out.grown HG0.out)).mono ?_); rintro e w1 ⟨rfl, hg1⟩; have HA1 := Lib.hid (HA.out.grown hg1); obtain ⟨c0, c1, c2, c3, c4, c5, c6, c7⟩ := HA1.out; have HG1 := Lib.hid (grown_trans HG0.out hg1); clear hg1))
            | (go_at_call 14; ((with_reducible refine (HM.out _ (HT.out.grown HG1.out)).mono ?_); rintro e w5 ⟨rfl, hg5⟩; have HG5 := Lib.hid (grown_trans HG1.out hg5); clear hg5))
            | (go_at_call 13; ((with_reducible refine (works_any _ (HT.out.grown HG5.out)).mono ?_); rintro e w7 ⟨rfl, hg7⟩; have HG7 := Lib.hid (grown_trans HG5.out hg7); clear hg7)))
          go_ret
          exact ⟨rfl, HG7.out⟩
        · have q0 : (s == 0) = false := by simpa using hz
          clear hz
          go_enter Tryd.func9, Tryd.ntmps9
          go_wp2_with (first
            | (go_at_call 20; ((with_reducible refine (HS.out _ (HT.out.grown HG0.out)).mono ?_); rintro e w1 ⟨rfl, hg1⟩; have HA1 := Lib.hid (HA.out.grown hg1); obtain ⟨c0, c1, c2, c3, c4, c5, c6, c7⟩ := HA1.out; have HG1 := Lib.hid (grown_trans HG0.out hg1); clear hg1))
            | (go_at_call 14; ((with_reducible refine (HM.out _ (HT.out.grown HG5.out)).mono ?_); rintro e w6 ⟨rfl, hg6⟩; clear c0 c1 c2 c3 c4 c5 c6 c7; have HA6 := Lib.hid (HA5.out.grown hg6); obtain ⟨c0, c1, c2, c3, c4, c5, c6, c7⟩ := HA6.out; have HG6 := Lib.hid (grown_trans HG5.out hg6); clear hg6))
            | (go_at_call 14; ((with_reducible refine (HM.out _ (HT.out.grown HG1.out)).mono ?_); rintro e w5 ⟨rfl, hg5⟩; clear c0 c1 c2 c3 c4 c5 c6 c7; have HA5 := Lib.hid (HA1.out.grown hg5); obtain ⟨c0, c1, c2, c3, c4, c5, c6, c7⟩ := HA5.out; have HG5 := Lib.hid (grown_trans HG1.out hg5); clear hg5))
            | (go_at_call 13; ((with_reducible refine (works_any _ (HT.out.grown HG6.out)).mono ?_); rintro e w7 ⟨rfl, hg7⟩; have HG7 := Lib.hid (grown_trans HG6.out hg7); clear hg7)))
          go_ret
          exact ⟨rfl, HG7.out⟩
      · have HS1 : Hid (∀ w, Tab w → Calls Tryd.prog 20 #[.agg c.cells, .int .i64 (b + 1)] w fun e w' => e = .returned (.int .i64 ((b + 1) % c.se)) ∧ w.grownBy w' none) := Lib.hid (fun w h => set_in c (b + 1) w h hm (by omega))
        have HS2 : Hid (∀ w, Tab w → Calls Tryd.prog 20 #[.agg c.cells, .int .i64 (b + c.se)] w fun e w' => e = .returned (.int .i64 (b % c.se)) ∧ w.grownBy w' none) := Lib.hid (fun w h => by
          have := set_in c (b + c.se) w h hm (by omega)
          rwa [Int.add_emod_right] at this)
        by_cases h1 : c.se = 1
        · have q1 : (c.se == 1) = true := by simp [h1]
          clear h1 hm
          obtain ⟨s, hs⟩ : ∃ s, s = b % c.se := ⟨_, rfl⟩
          rw [← hs] at HS HS2 hs0 hs1
          clear hs
          have qs : (s == s) = true := by simp
          unfold Cfg.cells at *
          go_enter Tryd.func9, Tryd.ntmps9
          go_wp2_with (first
            | (go_at_call 20; ((with_reducible refine (HS.out _ (HT.out.grown HG0.out)).mono ?_); rintro e w1 ⟨rfl, hg1⟩; have HA1 := Lib.hid (HA.out.grown hg1); obtain ⟨c0, c1, c2, c3, c4, c5, c6, c7⟩ := HA1.out; have HG1 := Lib.hid (grown_trans HG0.out hg1); clear hg1))
            | (go_at_call 14; ((with_reducible refine (HM.out _ (HT.out.grown HG1.out)).mono ?_); rintro e w5 ⟨rfl, hg5⟩; clear c0 c1 c2 c3 c4 c5 c6 c7; have HA5 := Lib.hid (HA1.out.grown hg5); obtain ⟨c0, c1, c2, c3, c4, c5, c6, c7⟩ := HA5.out; have HG5 := Lib.hid (grown_trans HG1.out hg5); clear hg5))
            | (go_at_call 20; ((with_reducible refine (HS2.out _ (HT.out.grown HG5.out)).mono ?_); rintro e w8 ⟨rfl, hg8⟩; have HG8 := Lib.hid (grown_trans HG5.out hg8); clear hg8))
            | (go_at_call 13; ((with_reducible refine (works_any _ (HT.out.grown HG8.out)).mono ?_); rintro e w7 ⟨rfl, hg7⟩; have HG7 := Lib.hid (grown_trans HG8.out hg7); clear hg7)))
          go_ret
          exact ⟨rfl, HG7.out⟩
        · have q1 : (c.se == 1) = false := by simpa using h1
          have q2 : ((b + 1) % c.se != b % c.se) = true := by simpa using next_mod b c.se (by omega)
          clear h1 hm
          obtain ⟨s, hs⟩ : ∃ s, s = b % c.se := ⟨_, rfl⟩
          rw [← hs] at HS HS2 hs0 hs1 q2
          clear hs
          obtain ⟨t, ht⟩ : ∃ t, t = (b + 1) % c.se := ⟨_, rfl⟩
          rw [← ht] at HS1 q2
          clear ht
          have qs : (s == s) = true := by simp
          unfold Cfg.cells at *
          go_enter Tryd.func9, Tryd.ntmps9
          go_wp2_with (first
            | (go_at_call 20; ((with_reducible refine (HS.out _ (HT.out.grown HG0.out)).mono ?_); rintro e w1 ⟨rfl, hg1⟩; have HA1 := Lib.hid (HA.out.grown hg1); obtain ⟨c0, c1, c2, c3, c4, c5, c6, c7⟩ := HA1.out; have HG1 := Lib.hid (grown_trans HG0.out hg1); clear hg1))
            | (go_at_call 14; ((with_reducible refine (HM.out _ (HT.out.grown HG1.out)).mono ?_); rintro e w5 ⟨rfl, hg5⟩; clear c0 c1 c2 c3 c4 c5 c6 c7; have HA5 := Lib.hid (HA1.out.grown hg5); obtain ⟨c0, c1, c2, c3, c4, c5, c6, c7⟩ := HA5.out; have HG5 := Lib.hid (grown_trans HG1.out hg5); clear hg5))
            | (go_at_call 20; ((with_reducible refine (HS1.out _ (HT.out.grown HG5.out)).mono ?_); rintro e w6 ⟨rfl, hg6⟩; clear c0 c1 c2 c3 c4 c5 c6 c7; have HA6 := Lib.hid (HA5.out.grown hg6); obtain ⟨c0, c1, c2, c3, c4, c5, c6, c7⟩ := HA6.out; have HG6 := Lib.hid (grown_trans HG5.out hg6); clear hg6))
            | (go_at_call 20; ((with_reducible refine (HS2.out _ (HT.out.grown HG6.out)).mono ?_); rintro e w8 ⟨rfl, hg8⟩; have HG8 := Lib.hid (grown_trans HG6.out hg8); clear hg8))
            | (go_at_call 13; ((with_reducible refine (works_any _ (HT.out.grown HG8.out)).mono ?_); rintro e w7 ⟨rfl, hg7⟩; have HG7 := Lib.hid (grown_trans HG8.out hg7); clear hg7)))
          go_ret
          exact ⟨rfl, HG7.out⟩
  · have HS : Hid (∀ w, Tab w → _) := Lib.hid (fun w h => set_no c b w h hm)
    rw [yes_not hm] at HM
    clear hm
    unfold Cfg.cells at *
    go_enter Tryd.func9, Tryd.ntmps9
    go_wp2_with (first
      | (go_at_call 20; ((with_reducible refine (HS.out _ (HT.out.grown HG0.out)).mono ?_); rintro e w1 ⟨rfl, hg1⟩; have HA1 := Lib.hid (HA.out.grown hg1); obtain ⟨c0, c1, c2, c3, c4, c5, c6, c7⟩ := HA1.out; have HG1 := Lib.hid (grown_trans HG0.out hg1); clear hg1))
      | (go_at_call 14; ((with_reducible refine (HM.out _ (HT.out.grown HG1.out)).mono ?_); rintro e w5 ⟨rfl, hg5⟩; have HG5 := Lib.hid (grown_trans HG1.out hg5); clear hg5))
      | (go_at_call 13; ((with_reducible refine (works_any _ (HT.out.grown HG5.out)).mono ?_); rintro e w7 ⟨rfl, hg7⟩; have HG7 := Lib.hid (grown_trans HG5.out hg7); clear hg7)))
    go_ret
    exact ⟨rfl, HG7.out⟩
end Go.Proofs.YtkeeajiikfddgaaDoor.qq
