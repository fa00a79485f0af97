/-
  The document's log: what its New answers. No condition but the bounds that each theorem names.
-/
import Derived.Test.YtfjjmlmkpdpdfaaDoorUdA
import Derived.Deep.CutRange
namespace Go.Proofs.YtfjjmlmkpdpdfaaDoor.ud
open Go Go.RowKit
open Go.Proofs.YtfjjmlmkpdpdfaaDoor.tt (Cfg Tab trip CfgAt)
open Go.Proofs.YtfjjmlmkpdpdfaaDoor.pp (RMem Mem grown_refl grown_trans grown_alloc setW getW inn inb)
open Go.Proofs.YtfjjmlmkpdpdfaaDoor.sl (Sl flat)
set_option linter.unusedVariables false

section
variable {w w' : World} {mb : Nat} {mv : Value} {bs : List (List Int)} {c : Cfg} {core : Int}
theorem rnew_no (hM : RMem w mb mv bs) (hm : ¬ c.may) : Calls Tryd.prog 20 #[.agg c.cells, .pointer (some ⟨mb, 0, none⟩), .int .i64 core] w fun e w' => e = .returned (.tuple #[.pointer none, .int .i64 2]) ∧ w.grownBy w' none := by
  have HG0 : Hid (w.grownBy (w.alloc (.cells c.cells 30)) none) := Lib.hid (grown_alloc (grown_refl _ _) _)
  have HL := Lib.hid (tt.rlog_no c core (w.alloc (.cells c.cells 30)) hm)
  clear hM hm
  unfold Cfg.cells at *
  unfold trip at HL
  go_enter Tryd.func20, Tryd.ntmps20
  go_wp2_with (first
    | (go_at_call 38; ((with_reducible refine HL.out.mono ?_); rintro e w1 ⟨rfl, hg1⟩; have HG1 := Lib.hid hg1; clear hg1)))
  go_ret2
  exact ⟨rfl, grown_trans HG0.out HG1.out⟩
theorem rnew_out (hM : RMem w mb mv bs) (hm : c.may) (h : core < 0 ∨ c.co ≤ core) : Calls Tryd.prog 20 #[.agg c.cells, .pointer (some ⟨mb, 0, none⟩), .int .i64 core] w fun e w' => e = .returned (.tuple #[.pointer none, .int .i64 5]) ∧ w.grownBy w' none := by
  have HG0 : Hid (w.grownBy (w.alloc (.cells c.cells 30)) none) := Lib.hid (grown_alloc (grown_refl _ _) _)
  have HL := Lib.hid (tt.rlog_out c core (w.alloc (.cells c.cells 30)) hm h)
  clear hM hm h
  unfold Cfg.cells at *
  unfold trip at HL
  go_enter Tryd.func20, Tryd.ntmps20
  go_wp2_with (first
    | (go_at_call 38; ((with_reducible refine HL.out.mono ?_); rintro e w1 ⟨rfl, hg1⟩; have HG1 := Lib.hid hg1; clear hg1)))
  go_ret2
  exact ⟨rfl, grown_trans HG0.out HG1.out⟩
theorem rnew_size (hM : RMem w mb mv bs) (hm : c.may) (h0 : 0 ≤ core) (h1 : core < c.co) (hb : (bs.length : Int) ≠ c.bl) (hbl : bs.length ≤ 256) : Calls Tryd.prog 20 #[.agg c.cells, .pointer (some ⟨mb, 0, none⟩), .int .i64 core] w fun e w' => e = .returned (.tuple #[.pointer none, .int .i64 2]) ∧ w.grownBy w' none := by
  have HG0 : Hid (w.grownBy (w.alloc (.cells c.cells 30)) none) := Lib.hid (grown_alloc (grown_refl _ _) _)
  have HL := Lib.hid (tt.rlog_in c core (w.alloc (.cells c.cells 30)) hm h0 h1)
  have HA := Lib.hid (tt.cfg_at w c)
  obtain ⟨ad, cap, rfl⟩ := hM.form
  have hM1 : ∀ w1, w.grownBy w1 none → w1.cell? ⟨mb, 0, none⟩ = some (.slice ad (16 * bs.length) cap) := fun w1 hg => hg.cell hM.cell0 (by simp)
  have hbb := hm.fits.bl
  have hne : ((16 * bs.length : Nat) : Int) != 16 * c.bl := by simp; omega
  clear hM hm
  unfold Cfg.cells at *
  unfold trip at HL
  go_enter Tryd.func20, Tryd.ntmps20
  go_upto_region 4 with (first
    | (go_at_call 38; ((with_reducible refine HL.out.mono ?_); rintro e w1 ⟨rfl, hg1⟩; obtain ⟨c0, c1, c2, c3, c4, c5, c6, c7⟩ := HA.out.grown hg1; have HG1 := Lib.hid (grown_trans HG0.out hg1); have hm1 := hM1 w1 (grown_trans HG0.out hg1); clear hg1)))
  clear hM1
  go_big_quiet (fail)
  go_wp2_with fail
  go_ret2
  exact ⟨rfl, grown_trans HG1.out (grown_drewN _ _)⟩
theorem rnew_ok (hM : RMem w mb mv bs) (hm : c.may) (h0 : 0 ≤ core) (h1 : core < c.co) (hb : (bs.length : Int) = c.bl) : Calls Tryd.prog 20 #[.agg c.cells, .pointer (some ⟨mb, 0, none⟩), .int .i64 core] w fun e w' => ∃ b, e = .returned (.tuple #[.pointer (some ⟨b, 0, none⟩), .int .i64 0]) ∧ RLog w' b (.slice none 0 0) c core [] ∧ w.grownBy w' none ∧ w.heap.size ≤ b := by
  have HG0 : Hid (w.grownBy (w.alloc (.cells c.cells 30)) none) := Lib.hid (grown_alloc (grown_refl _ _) _)
  have HL := Lib.hid (tt.rlog_in c core (w.alloc (.cells c.cells 30)) hm h0 h1)
  have HA := Lib.hid (tt.cfg_at w c)
  obtain ⟨ad, cap, rfl⟩ := hM.form
  have hM1 : ∀ w1, w.grownBy w1 none → w1.cell? ⟨mb, 0, none⟩ = some (.slice ad (16 * bs.length) cap) := fun w1 hg => hg.cell hM.cell0 (by simp)
  have hbb := hm.fits.bl
  have hne : ((16 * (bs.length : Int)) != 16 * c.bl) = false := by simp; omega
  clear hM hm
  unfold Cfg.cells at *
  unfold trip at HL
  go_enter Tryd.func20, Tryd.ntmps20
  go_upto_region 4 with (first
    | (go_at_call 38; ((with_reducible refine HL.out.mono ?_); rintro e w1 ⟨rfl, hg1⟩; obtain ⟨c0, c1, c2, c3, c4, c5, c6, c7⟩ := HA.out.grown hg1; have HG1 := Lib.hid (grown_trans HG0.out hg1); have hm1 := hM1 w1 (grown_trans HG0.out hg1); clear hg1)))
  clear hM1
  go_big_quiet (fail)
  go_wp2_with fail
  go_ret2
  refine ⟨_, rfl, ⟨?_, Sl.nil _ _ _⟩, grown_alloc (grown_trans HG1.out (grown_drewN _ _)) _, ?_⟩
  · show ((w1.drewN nq).heap.push _)[w1.heap.size]? = _
    exact Array.getElem?_push_size
  · exact HG1.out.size
end
end Go.Proofs.YtfjjmlmkpdpdfaaDoor.ud
