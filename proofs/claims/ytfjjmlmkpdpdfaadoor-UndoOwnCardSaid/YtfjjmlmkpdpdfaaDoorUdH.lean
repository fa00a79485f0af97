/-
  The law UndoBack returns true: the walk. Condition: the table of bounds lies in its variable as the program's text has it; that the writes lie where the arguments say; the contracts of the log.
-/
import Derived.Test.YtfjjmlmkpdpdfaaDoorUdG
namespace Go.Proofs.YtfjjmlmkpdpdfaaDoor.ud
open Go Go.ChangeShapes Go.WideShapes Go.ChangeAt Go.RowKit
open Go.Proofs.YtfjjmlmkpdpdfaaDoor.tt (Cfg Tab trip CfgAt cfg_at data_yes)
open Go.Proofs.YtfjjmlmkpdpdfaaDoor.pp (RMem Mem grown_refl grown_trans grown_alloc setW getW inn inb row zero)
set_option linter.unusedVariables false
set_option maxRecDepth 1000000

set_option maxHeartbeats 1000000 in
theorem back_long (HWO : WorksOk) (c : Cfg) (core : Int) (ad1 ad2 : Option Addr) (len1 cap1 len2 cap2 : Nat) (w : World) (hT : Tab w) (h : 300 < len1 ∨ 300 < len2) : Calls Tryd.prog 5 #[.agg c.cells, .int .i64 core, .slice ad1 len1 cap1, .slice ad2 len2 cap2] w fun e w' => e = .returned (.bool true) ∧ w.grownBy w' none := by
  have hg0 : w.grownBy (w.alloc (.cells c.cells 30)) none := grown_alloc (grown_refl _ _) _
  have HW := Lib.hid (HWO _ (hT.grown hg0))
  have HG0 := Lib.hid hg0
  clear hT hg0
  unfold Cfg.cells at *
  by_cases h1 : 300 < len1
  · have hd : decide ((300 : Int) < (len1 : Int)) = true := by simp; omega
    clear h h1
    go_enter Tryd.func5, Tryd.ntmps5
    go_wp2_with (go_at_call 11; ((with_reducible refine HW.out.mono ?_); rintro e w3 ⟨rfl, hg3⟩; have HG3 := Lib.hid hg3; clear hg3))
    go_ret
    exact ⟨rfl, grown_trans HG0.out HG3.out⟩
  · have hd : decide ((300 : Int) < (len1 : Int)) = false := by simp; omega
    have hd2 : decide ((300 : Int) < (len2 : Int)) = true := by simp; omega
    clear h h1
    go_enter Tryd.func5, Tryd.ntmps5
    go_wp2_with (go_at_call 11; ((with_reducible refine HW.out.mono ?_); rintro e w3 ⟨rfl, hg3⟩; have HG3 := Lib.hid hg3; clear hg3))
    go_ret
    exact ⟨rfl, grown_trans HG0.out HG3.out⟩
set_option maxHeartbeats 1000000 in
theorem back_nomem (HWO : WorksOk) (c : Cfg) (core : Int) (ad1 ad2 : Option Addr) (len1 cap1 len2 cap2 : Nat) (w : World) (hT : Tab w) (h1 : len1 ≤ 300) (h2 : len2 ≤ 300) (hb : c.bl < 1 ∨ 256 < c.bl) : Calls Tryd.prog 5 #[.agg c.cells, .int .i64 core, .slice ad1 len1 cap1, .slice ad2 len2 cap2] w fun e w' => e = .returned (.bool true) ∧ w.grownBy w' none := by
  have hd : decide ((300 : Int) < (len1 : Int)) = false := by simp; omega
  have hd2 : decide ((300 : Int) < (len2 : Int)) = false := by simp; omega
  have hg0 : w.grownBy (w.alloc (.cells c.cells 30)) none := grown_alloc (grown_refl _ _) _
  have HW := Lib.hid (HWO _ (hT.grown hg0))
  have HM := Lib.hid (pp.new_err c.bl (w.alloc (.cells c.cells 30)) hb)
  obtain ⟨c0, c1, c2, c3, c4, c5, c6, c7⟩ := cfg_at w c
  have HG0 := Lib.hid hg0
  clear hT hg0 hb h1 h2
  unfold Cfg.cells at *
  go_enter Tryd.func5, Tryd.ntmps5
  go_wp2_with (first
    | (go_at_call 8; ((with_reducible refine HM.out.mono ?_); rintro e w2 ⟨rfl, rfl⟩))
    | (go_at_call 11; ((with_reducible refine HW.out.mono ?_); rintro e w3 ⟨rfl, hg3⟩; have HG3 := Lib.hid hg3; clear hg3)))
  go_ret
  exact ⟨rfl, grown_trans HG0.out HG3.out⟩
end Go.Proofs.YtfjjmlmkpdpdfaaDoor.ud
