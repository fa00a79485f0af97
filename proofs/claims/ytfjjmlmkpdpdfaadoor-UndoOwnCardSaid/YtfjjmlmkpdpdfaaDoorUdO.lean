/-
  The law UndoPlays returns true: the walk where no log is made. Condition: the table of bounds lies in its variable as the program's text has it; the contracts of the log.
-/
import Derived.Test.YtfjjmlmkpdpdfaaDoorUdN
namespace Go.Proofs.YtfjjmlmkpdpdfaaDoor.ud
open Go Go.ChangeShapes Go.WideShapes Go.ChangeAt Go.RowKit
open Go.Proofs.YtfjjmlmkpdpdfaaDoor.tt (Cfg Tab trip CfgAt cfg_at data_yes)
open Go.Proofs.YtfjjmlmkpdpdfaaDoor.pp (RMem Mem grown_refl grown_trans grown_alloc row zero)
set_option linter.unusedVariables false
set_option maxRecDepth 1000000

/-- What New answers. -/
def newE (c : Cfg) (core : Int) (n : Nat) : Int := if ¬ c.may then 2 else if core < 0 ∨ c.co ≤ core then 5 else if (n : Int) ≠ c.bl then 2 else 0
def NewX : Prop := ∀ (c : Cfg) (core : Int) (w : World) (mb : Nat) (mv : Value) (bs : List (List Int)), Tab w → Mem w mb mv bs → bs.length ≤ 256 → newE c core bs.length ≠ 0 →
  Calls Tryd.prog 9 #[.agg c.cells, .pointer (some ⟨mb, 0, none⟩), .int .i64 core] w fun e w' => e = .returned (.tuple #[.pointer none, .int .i64 (newE c core bs.length)]) ∧ w.grownBy w' none
/-- New, and which blocks the log may write. -/
def NewOk2 : Prop := ∀ (c : Cfg) (core : Int) (w0 w : World) (mb : Nat) (mv : Value) (bs : List (List Int)) (F : Nat), Tab w0 → w0.grownBy w none → Mem w mb mv bs → (∀ k, mv.ownBlock = some k → w0.heap.size ≤ k) → c.may → 0 ≤ core → core < c.co → (bs.length : Int) = c.bl → c.data + core * c.lo = F →
  Calls Tryd.prog 9 #[.agg c.cells, .pointer (some ⟨mb, 0, none⟩), .int .i64 core] w fun e w' => ∃ lb S P, e = .returned (.tuple #[.pointer (some ⟨lb, 0, none⟩), .int .i64 0]) ∧ Impl w0 c F mb mv lb S ∧ S w' P [] bs ∧ w.grownBy w' none ∧ ∀ k, P k → k = mb ∨ mv.ownBlock = some k ∨ w.heap.size ≤ k
theorem newOk_of (h : NewOk2) : NewOk := fun c core w0 w mb mv bs F h0 h1 h2 h3 h4 h5 h6 h7 h8 => (h c core w0 w mb mv bs F h0 h1 h2 h3 h4 h5 h6 h7 h8).mono fun e w' ⟨lb, S, P, k1, k2, k3, k4, _⟩ => ⟨lb, S, P, k1, k2, k3, k4⟩
theorem newE_ne {c : Cfg} {core : Int} {n : Nat} (h : ¬ (c.may ∧ 0 ≤ core ∧ core < c.co ∧ (n : Int) = c.bl)) : newE c core n ≠ 0 := by
  unfold newE
  by_cases h1 : c.may
  · rw [if_neg (by simp [h1])]
    by_cases h2 : core < 0 ∨ c.co ≤ core
    · rw [if_pos h2]; decide
    · rw [if_neg h2]
      by_cases h3 : (n : Int) = c.bl
      · exact absurd ⟨h1, by omega, by omega, h3⟩ h
      · rw [if_pos h3]; decide
  · rw [if_pos h1]; decide
theorem newE_eq {c : Cfg} {core : Int} {n : Nat} (h : newE c core n = 0) : c.may ∧ 0 ≤ core ∧ core < c.co ∧ (n : Int) = c.bl := Classical.byContradiction fun k => newE_ne k h
theorem newNo_of (h : NewX) : NewNo := fun c core w mb mv bs hT hM hl hn => (h c core w mb mv bs hT hM hl (newE_ne hn)).mono fun e w' ⟨k1, k2⟩ => ⟨_, newE_ne hn, k1, k2⟩
theorem rnew_bad {w : World} {mb : Nat} {mv : Value} {bs : List (List Int)} {c : Cfg} {core : Int} (hM : RMem w mb mv bs) (h : newE c core bs.length ≠ 0) : Calls Tryd.prog 20 #[.agg c.cells, .pointer (some ⟨mb, 0, none⟩), .int .i64 core] w fun e w' => e = .returned (.tuple #[.pointer none, .int .i64 (newE c core bs.length)]) ∧ w.grownBy w' none := by
  unfold newE at *
  by_cases h1 : c.may
  · rw [if_neg (by simp [h1])] at *
    by_cases h2 : core < 0 ∨ c.co ≤ core
    · rw [if_pos h2] at *
      exact rnew_out hM h1 h2
    · rw [if_neg h2] at *
      by_cases h3 : (bs.length : Int) = c.bl
      · rw [if_neg (by simp [h3])] at h; exact absurd rfl h
      · rw [if_pos h3] at *
        exact rnew_size hM h1 (by omega) (by omega) h3 hM.few
  · rw [if_pos h1] at *
    exact rnew_no hM h1

set_option maxHeartbeats 1000000 in
theorem plays_long (HWO : WorksOk) (c : Cfg) (blocks core : Int) (ad1 : Option Addr) (len1 cap1 : Nat) (w : World) (hT : Tab w) (h : 300 < len1) : Calls Tryd.prog 4 #[.agg c.cells, .int .i64 blocks, .int .i64 core, .slice ad1 len1 cap1] w fun e w' => e = .returned (.bool true) ∧ w.grownBy w' none := by
  have hg0 : w.grownBy (w.alloc (.cells c.cells 30)) none := grown_alloc (grown_refl _ _) _
  have HW := Lib.hid (HWO _ (hT.grown hg0))
  have HG0 := Lib.hid hg0
  clear hT hg0
  unfold Cfg.cells at *
  have hd : decide ((300 : Int) < (len1 : Int)) = true := by simp; omega
  clear h
  go_enter Tryd.func4, Tryd.ntmps4
  go_wp2_with (go_at_call 11; ((with_reducible refine HW.out.mono ?_); rintro e w3 ⟨rfl, hg3⟩; have HG3 := Lib.hid hg3; clear hg3))
  go_ret
  exact ⟨rfl, grown_trans HG0.out HG3.out⟩
set_option maxHeartbeats 1000000 in
theorem plays_nomem (HWO : WorksOk) (c : Cfg) (blocks core : Int) (ad1 : Option Addr) (len1 cap1 : Nat) (w : World) (hT : Tab w) (h1 : len1 ≤ 300) (hb : blocks < 1 ∨ 256 < blocks) : Calls Tryd.prog 4 #[.agg c.cells, .int .i64 blocks, .int .i64 core, .slice ad1 len1 cap1] w fun e w' => e = .returned (.bool true) ∧ w.grownBy w' none := by
  have hd : decide ((300 : Int) < (len1 : Int)) = false := by simp; omega
  have hg0 : w.grownBy (w.alloc (.cells c.cells 30)) none := grown_alloc (grown_refl _ _) _
  have HW := Lib.hid (HWO _ (hT.grown hg0))
  have HM := Lib.hid (pp.new_err blocks (w.alloc (.cells c.cells 30)) hb)
  have HR := Lib.hid (pp.rnew_err blocks (w.alloc (.cells c.cells 30)) hb)
  have HG0 := Lib.hid hg0
  clear hT hg0 hb h1
  unfold Cfg.cells at *
  go_enter Tryd.func4, Tryd.ntmps4
  go_wp2_with (first
    | (go_at_call 8; ((with_reducible refine HM.out.mono ?_); rintro e w2 ⟨rfl, rfl⟩))
    | (go_at_call 19; ((with_reducible refine HR.out.mono ?_); rintro e w2 ⟨rfl, rfl⟩))
    | (go_at_call 11; ((with_reducible refine HW.out.mono ?_); rintro e w3 ⟨rfl, hg3⟩; have HG3 := Lib.hid hg3; clear hg3)))
  go_ret
  exact ⟨rfl, grown_trans HG0.out HG3.out⟩
set_option maxHeartbeats 1000000 in
theorem plays_nonew (HWO : WorksOk) (HNX : NewX) (c : Cfg) (n : Nat) (core : Int) (ad1 : Option Addr) (len1 cap1 : Nat) (w : World) (hT : Tab w) (h1 : len1 ≤ 300) (hb1 : 1 ≤ n) (hb2 : n ≤ 256) (hok : newE c core n ≠ 0) : Calls Tryd.prog 4 #[.agg c.cells, .int .i64 (n : Int), .int .i64 core, .slice ad1 len1 cap1] w fun e w' => e = .returned (.bool true) ∧ w.grownBy w' none := by
  have hd : decide ((300 : Int) < (len1 : Int)) = false := by simp; omega
  have hg0 : w.grownBy (w.alloc (.cells c.cells 30)) none := grown_alloc (grown_refl _ _) _
  have HW : Hid (∀ w', (w.alloc (.cells c.cells 30)).grownBy w' none → _) := Lib.hid fun w' h => HWO w' ((hT.grown hg0).grown h)
  have HM := Lib.hid (pp.new_ok n (w.alloc (.cells c.cells 30)) hb1 hb2)
  have HR : Hid (∀ w', _) := Lib.hid fun w' => pp.rnew_ok n w' hb1 hb2
  have HNW : Hid (∀ w' mb mv, (w.alloc (.cells c.cells 30)).grownBy w' none → Mem w' mb mv (List.replicate n zero) → _) := Lib.hid fun w' mb mv hg hM => HNX c core w' mb mv _ ((hT.grown hg0).grown hg) hM (by simp; omega) (by rw [List.length_replicate]; exact hok)
  have HNR : Hid (∀ w' mb mv, RMem w' mb mv (List.replicate n zero) → _) := Lib.hid fun w' mb mv hM => rnew_bad (c := c) (core := core) hM (by rw [List.length_replicate]; exact hok)
  rw [List.length_replicate] at HNW HNR
  obtain ⟨z, hz⟩ : ∃ z, z = newE c core n := ⟨_, rfl⟩
  rw [← hz] at HNW HNR hok
  have hz' : (z != 0) = true := by simp [hok]
  have HCA : Hid (∀ w', (w.alloc (.cells c.cells 30)).grownBy w' none → _) := Lib.hid fun w' h => (cfg_at w c).grown h
  have HG0 := Lib.hid hg0
  clear hT hg0 hb1 hb2 h1 hok hz
  unfold Cfg.cells at *
  go_enter Tryd.func4, Tryd.ntmps4
  go_wp2_with (first
    | (go_at_call 8; ((with_reducible refine HM.out.mono ?_); rintro e w2 ⟨mb, mv, rfl, hm2, hg2, hb2, hv2⟩; have HM2 := Lib.hid hm2; have HG2 := Lib.hid hg2; clear hm2 hb2 hv2 hg2))
    | (go_at_call 19; ((with_reducible refine (HR.out _).mono ?_); rintro e w3 ⟨rb, rv, rfl, hm3, hg3, hb3, hv3⟩; have HR3 := Lib.hid hm3; have HM3 := Lib.hid (HM2.out.kept hg3); have HG3 := Lib.hid (grown_trans HG2.out hg3); obtain ⟨c0, c1, c2, c3, c4, c5, c6, c7⟩ := HCA.out _ HG3.out; clear hm3 hb3 hv3 hg3))
    | (go_at_call 9; ((with_reducible refine (HNW.out _ _ _ HG3.out HM3.out).mono ?_); rintro e w4 ⟨rfl, hg4⟩; have HG4 := Lib.hid (grown_trans HG3.out hg4); have HR4 := Lib.hid (HR3.out.kept hg4); clear c0 c1 c2 c3 c4 c5 c6 c7 hg4; obtain ⟨c0, c1, c2, c3, c4, c5, c6, c7⟩ := HCA.out _ HG4.out))
    | (go_at_call 20; ((with_reducible refine (HNR.out _ _ _ HR4.out).mono ?_); rintro e w5 ⟨rfl, hg5⟩; have HG5 := Lib.hid (grown_trans HG4.out hg5); clear hg5))
    | (go_at_call 11; ((with_reducible refine (HW.out _ HG5.out).mono ?_); rintro e w6 ⟨rfl, hg6⟩; have HG6 := Lib.hid (grown_trans HG5.out hg6); clear hg6)))
  go_ret
  exact ⟨rfl, grown_trans HG0.out HG6.out⟩
end Go.Proofs.YtfjjmlmkpdpdfaaDoor.ud
