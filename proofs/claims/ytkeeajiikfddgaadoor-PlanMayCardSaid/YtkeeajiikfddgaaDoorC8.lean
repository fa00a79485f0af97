/-
  The laws PlanMay and PlanAddrs return true: the walks. Condition: the table of bounds lies in its variable as the program's text has it.
-/
import Derived.Test.YtkeeajiikfddgaaDoorC7
namespace Go.Proofs.YtkeeajiikfddgaaDoor.qq
open Go Go.ChangeShapes Go.WideShapes Go.ChangeAt Go.RowKit
set_option linter.unusedVariables false

set_option maxHeartbeats 2000000 in
theorem may_true (c : Cfg) (core : Int) (w : World) (hT : Tab w) : Calls Tryd.prog 4 #[.agg c.cells, .int .i64 core] w fun e w' => e = .returned (.bool true) ∧ w.grownBy w' none := by
  have HG0 : Hid (w.grownBy (w.alloc (.cells c.cells 26)) none) := Lib.hid (grown_alloc (grown_refl _ _) _)
  have HA := Lib.hid (cfg_at w c)
  have HT := Lib.hid hT
  obtain ⟨x, y, z, hl, hr⟩ := log_both c core
  have HL := Lib.hid hl
  have HR := Lib.hid hr
  have HRM : Hid (∀ w, _) := Lib.hid (rmay_any c)
  have HM : Hid (∀ w, Tab w → _) := Lib.hid (may_any c)
  have HQ : Hid (∀ w, (binOp .eql 4 (.bool (decide c.may)) (.bool (decide c.may))).run Tryd.prog w = .ok (.bool true) w) := Lib.hid (fun w => by simp [go_sem])
  unfold trip at HL HR
  clear hT hl hr
  by_cases hm : c.may
  · have HD : Hid (∀ w, Tab w → _) := Lib.hid (fun w h => data_yes c w h hm)
    have HRD : Hid (∀ w, _) := Lib.hid (fun w => rdata_any c w hm.fits)
    rw [decide_eq_true hm] at HRM HQ
    rw [yes_of hm] at HM
    clear hm
    unfold Cfg.cells at *
    go_enter Tryd.func4, Tryd.ntmps4
    go_wp2_with (first
      | (go_at_call 15; ((with_reducible refine (HRM.out _).mono ?_); rintro e w1 ⟨rfl, hg1⟩; have HA1 := Lib.hid (HA.out.grown hg1); obtain ⟨c0, c1, c2, c3, c4, c5, c6, c7⟩ := HA1.out; have HG1 := Lib.hid (grown_trans HG0.out hg1); clear hg1))
      | (go_at_call 16; ((with_reducible refine (HRD.out _).mono ?_); rintro e w2 ⟨rfl, hg2⟩; clear c0 c1 c2 c3 c4 c5 c6 c7; have HA2 := Lib.hid (HA1.out.grown hg2); obtain ⟨c0, c1, c2, c3, c4, c5, c6, c7⟩ := HA2.out; have HG2 := Lib.hid (grown_trans HG1.out hg2); clear hg2))
      | (go_at_call 10; ((with_reducible refine (HL.out _ (HT.out.grown HG2.out)).mono ?_); rintro e w3 ⟨rfl, hg3⟩; clear c0 c1 c2 c3 c4 c5 c6 c7; have HA3 := Lib.hid (HA2.out.grown hg3); obtain ⟨c0, c1, c2, c3, c4, c5, c6, c7⟩ := HA3.out; have HG3 := Lib.hid (grown_trans HG2.out hg3); clear hg3))
      | (go_at_call 17; ((with_reducible refine (HR.out _).mono ?_); rintro e w4 ⟨rfl, hg4⟩; clear c0 c1 c2 c3 c4 c5 c6 c7; have HA4 := Lib.hid (HA3.out.grown hg4); obtain ⟨c0, c1, c2, c3, c4, c5, c6, c7⟩ := HA4.out; have HG4 := Lib.hid (grown_trans HG3.out hg4); clear hg4))
      | (go_at_call 14; ((with_reducible refine (HM.out _ (HT.out.grown HG4.out)).mono ?_); rintro e w5 ⟨rfl, hg5⟩; clear c0 c1 c2 c3 c4 c5 c6 c7; have HA5 := Lib.hid (HA4.out.grown hg5); obtain ⟨c0, c1, c2, c3, c4, c5, c6, c7⟩ := HA5.out; have HG5 := Lib.hid (grown_trans HG4.out hg5); clear hg5))
      | (go_at_call 18; ((with_reducible refine (HD.out _ (HT.out.grown HG5.out)).mono ?_); rintro e w6 ⟨rfl, hg6⟩; have HG6 := Lib.hid (grown_trans HG5.out hg6); clear hg6))
      | (go_at_call 13; ((with_reducible refine (works_any _ (HT.out.grown HG6.out)).mono ?_); rintro e w7 ⟨rfl, hg7⟩; have HG7 := Lib.hid (grown_trans HG6.out hg7); clear hg7)))
    go_ret
    exact ⟨rfl, HG7.out⟩
  · have HD : Hid (∀ w, Tab w → _) := Lib.hid (fun w h => data_no c w h hm)
    rw [decide_eq_false hm] at HRM HQ
    rw [yes_not hm] at HM
    clear hm
    unfold Cfg.cells at *
    go_enter Tryd.func4, Tryd.ntmps4
    go_wp2_with (first
      | (go_at_call 15; ((with_reducible refine (HRM.out _).mono ?_); rintro e w1 ⟨rfl, hg1⟩; have HA1 := Lib.hid (HA.out.grown hg1); obtain ⟨c0, c1, c2, c3, c4, c5, c6, c7⟩ := HA1.out; have HG1 := Lib.hid (grown_trans HG0.out hg1); clear hg1))
      | (go_at_call 10; ((with_reducible refine (HL.out _ (HT.out.grown HG1.out)).mono ?_); rintro e w3 ⟨rfl, hg3⟩; clear c0 c1 c2 c3 c4 c5 c6 c7; have HA3 := Lib.hid (HA1.out.grown hg3); obtain ⟨c0, c1, c2, c3, c4, c5, c6, c7⟩ := HA3.out; have HG3 := Lib.hid (grown_trans HG1.out hg3); clear hg3))
      | (go_at_call 17; ((with_reducible refine (HR.out _).mono ?_); rintro e w4 ⟨rfl, hg4⟩; clear c0 c1 c2 c3 c4 c5 c6 c7; have HA4 := Lib.hid (HA3.out.grown hg4); obtain ⟨c0, c1, c2, c3, c4, c5, c6, c7⟩ := HA4.out; have HG4 := Lib.hid (grown_trans HG3.out hg4); clear hg4))
      | (go_at_call 14; ((with_reducible refine (HM.out _ (HT.out.grown HG4.out)).mono ?_); rintro e w5 ⟨rfl, hg5⟩; clear c0 c1 c2 c3 c4 c5 c6 c7; have HA5 := Lib.hid (HA4.out.grown hg5); obtain ⟨c0, c1, c2, c3, c4, c5, c6, c7⟩ := HA5.out; have HG5 := Lib.hid (grown_trans HG4.out hg5); clear hg5))
      | (go_at_call 18; ((with_reducible refine (HD.out _ (HT.out.grown HG5.out)).mono ?_); rintro e w6 ⟨rfl, hg6⟩; have HG6 := Lib.hid (grown_trans HG5.out hg6); clear hg6))
      | (go_at_call 13; ((with_reducible refine (works_any _ (HT.out.grown HG6.out)).mono ?_); rintro e w7 ⟨rfl, hg7⟩; have HG7 := Lib.hid (grown_trans HG6.out hg7); clear hg7)))
    go_ret
    exact ⟨rfl, HG7.out⟩

theorem addrs_true (b k : Int) (w : World) (hT : Tab w) : Calls Tryd.prog 6 #[.int .i64 b, .int .i64 k] w fun e w' => e = .returned (.bool true) ∧ w.grownBy w' none := by
  have HT := Lib.hid hT
  clear hT
  by_cases h : 0 ≤ b ∧ b < 256 ∧ 0 ≤ k ∧ k < 16
  · obtain ⟨h0, h1, h2, h3⟩ := h
    have HA : Hid (∀ w, _) := Lib.hid (fun w => addr_in b k w h0 h1 h2 h3)
    have hq : (b * 64 + k * 4 == 4 * (16 * b + k)) = true := by simp; omega
    unfold pair at HA
    go_enter Tryd.func6, Tryd.ntmps6
    go_wp2_with (first
      | (go_at_call 22; ((with_reducible refine (HA.out _).mono ?_); rintro e w1 ⟨rfl, rfl⟩))
      | (go_at_call 13; ((with_reducible refine (works_any _ HT.out).mono ?_); rintro e w7 ⟨rfl, hg7⟩; have HG7 := Lib.hid hg7; clear hg7)))
    go_ret
    exact ⟨rfl, HG7.out⟩
  · have HA : Hid (∀ w, _) := Lib.hid (fun w => addr_out b k w h)
    unfold pair at HA
    by_cases h0 : b < 0
    · clear h
      go_enter Tryd.func6, Tryd.ntmps6
      go_wp2_with (first
        | (go_at_call 22; ((with_reducible refine (HA.out _).mono ?_); rintro e w1 ⟨rfl, rfl⟩))
        | (go_at_call 13; ((with_reducible refine (works_any _ HT.out).mono ?_); rintro e w7 ⟨rfl, hg7⟩; have HG7 := Lib.hid hg7; clear hg7)))
      go_ret
      exact ⟨rfl, HG7.out⟩
    by_cases h1 : 255 < b
    · clear h
      go_enter Tryd.func6, Tryd.ntmps6
      go_wp2_with (first
        | (go_at_call 22; ((with_reducible refine (HA.out _).mono ?_); rintro e w1 ⟨rfl, rfl⟩))
        | (go_at_call 13; ((with_reducible refine (works_any _ HT.out).mono ?_); rintro e w7 ⟨rfl, hg7⟩; have HG7 := Lib.hid hg7; clear hg7)))
      go_ret
      exact ⟨rfl, HG7.out⟩
    by_cases h2 : k < 0
    · clear h
      go_enter Tryd.func6, Tryd.ntmps6
      go_wp2_with (first
        | (go_at_call 22; ((with_reducible refine (HA.out _).mono ?_); rintro e w1 ⟨rfl, rfl⟩))
        | (go_at_call 13; ((with_reducible refine (works_any _ HT.out).mono ?_); rintro e w7 ⟨rfl, hg7⟩; have HG7 := Lib.hid hg7; clear hg7)))
      go_ret
      exact ⟨rfl, HG7.out⟩
    · have h3 : 15 < k := by omega
      clear h
      go_enter Tryd.func6, Tryd.ntmps6
      go_wp2_with (first
        | (go_at_call 22; ((with_reducible refine (HA.out _).mono ?_); rintro e w1 ⟨rfl, rfl⟩))
        | (go_at_call 13; ((with_reducible refine (works_any _ HT.out).mono ?_); rintro e w7 ⟨rfl, hg7⟩; have HG7 := Lib.hid hg7; clear hg7)))
      go_ret
      exact ⟨rfl, HG7.out⟩
end Go.Proofs.YtkeeajiikfddgaaDoor.qq
