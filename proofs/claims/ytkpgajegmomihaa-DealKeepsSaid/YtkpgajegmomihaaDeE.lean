/-
  The landed deal: what End, Fail, Asked, Refused answer and make of it: contracts. No condition but the bounds that each theorem names.
-/
import Derived.Test.YtkpgajegmomihaaDeD
import Derived.Deep.RegionHeld3
namespace Go.Proofs.Ytkpgajegmomihaa.de
open Go Go.ChangeShapes Go.WideShapes Go.ChangeAt Go.RowKit
open Go.Proofs.Ytkpgajegmomihaa.tt (U zd row tyne add_lit lt_of range_grown setCells_rest heap_setCells heap_setCells_other grown_setCells grown_setRow grown_new grown_drewN below_of grown_alloc grown_refl grown_trans grown_drew)
open Go.Proofs.Ytkpgajegmomihaa.oo (ref flag' gives older ret_bool jump_ret)
set_option linter.unusedVariables false
set_option maxRecDepth 1000000

/-- The flag behind an ask; whether it gives way. -/
def aD (d : Dl) (m : Bool) (x : Int) : Dl := { d with fl := flag' (sT d) d.fl m x }
def rF (d : Dl) (x : Int) : Bool := decide (gE d = 0) && gives d.st d.fl x
theorem gE_cases (d : Dl) : gE d = 0 ∨ gE d = 8 := by unfold gE; split <;> simp
theorem gE_no {d : Dl} (h : gE d = 0) : ¬ d.de = 0 ∧ d.fa = false := by unfold gE at h; split at h <;> simp_all

section
variable {w : World} {g : Nat} {d : Dl}
theorem end_any (h : LAt w g d) (h0 : 0 ≤ d.de) (h8 : d.de ≤ 8) : Calls Try.prog 12 #[.pointer (some ⟨g, 0, none⟩)] w fun e w' => e = .returned (.tuple #[.bool (eC d), .int .i64 (gE d)]) ∧ LAt w' g (eD d) ∧ w.grownBy w' (some g) := by
  have HG := Lib.hid (goes_any h)
  have H := Lib.hid h
  rcases gE_cases d with hE | hE
  · obtain ⟨hz, hf⟩ := gE_no hE
    have HE := Lib.hid hE
    rw [hE] at HG
    obtain ⟨c0, c1, c19, c20, c21, c22⟩ := h.cells
    have f1 := h.free 1
    clear hE hf c0 c19 c20 c21 c22 h
    by_cases h1 : d.de = 1
    · have HB : Hid (eD d = cl d 0 ∧ eC d = true) := Lib.hid (by unfold eD eC; rw [HE.out, if_pos rfl, if_pos h1]; simp [h1])
      have HP := Lib.hid (H.out.put_de 0)
      have HC := Lib.hid (close_any HP.out 0)
      have k1 := HP.out.cells.2.1
      rw [show ({ d with de := 0 } : Dl).de = 0 from rfl] at k1
      rw [h1] at c1
      clear h0 h8 h1 hz
      go_enter Try.func12, Try.ntmps12
      go_wp2_with (first
        | (go_at_call 30; (with_reducible refine HG.out.mono ?_); rintro e w1 ⟨rfl, rfl⟩)
        | (go_at_call 31; (with_reducible refine HC.out.mono ?_); rintro e w3 ⟨rfl, h3, hg3⟩; have H3 := Lib.hid h3; have HG3 := Lib.hid hg3; clear h3 hg3))
      go_ret2
      rw [HB.out.1, HB.out.2, HE.out]
      exact ⟨rfl, H3.out, grown_trans (grown_setCell _ _ _ _) HG3.out⟩
    · have HB : Hid (eD d = { d with de := d.de - 1 } ∧ eC d = false) := Lib.hid (by unfold eD eC; rw [HE.out, if_pos rfl, if_neg h1]; simp [h1])
      obtain ⟨m, hm⟩ : ∃ m, d.de - 1 = m := ⟨_, rfl⟩
      have HP : Hid (LAt (w.setCell ⟨g, 1, none⟩ (.int .i64 m)) g { d with de := d.de - 1 }) := Lib.hid (hm ▸ H.out.put_de _)
      have hm0 : decide (0 < m) = true := decide_eq_true (by omega)
      have hm1 : d.de = m + 1 := by omega
      rw [hm1] at c1
      have hm2 : 0 ≤ m := by omega
      have hm3 : m ≤ 8 := by omega
      clear h0 h8 h1 hz hm1 hm
      go_enter Try.func12, Try.ntmps12
      go_wp2_with (first
        | (go_at_call 30; (with_reducible refine HG.out.mono ?_); rintro e w1 ⟨rfl, rfl⟩))
      go_ret2
      rw [HB.out.1, HB.out.2, HE.out]
      exact ⟨rfl, HP.out, grown_setCell _ _ _ _⟩
  · have HB : Hid (eD d = d ∧ eC d = false) := Lib.hid (by unfold eD eC; rw [hE]; simp)
    have HE := Lib.hid hE
    rw [hE] at HG
    clear hE h
    go_enter Try.func12, Try.ntmps12
    go_wp2_with (first
      | (go_at_call 30; (with_reducible refine HG.out.mono ?_); rintro e w1 ⟨rfl, rfl⟩))
    go_ret2
    rw [HB.out.1, HB.out.2, HE.out]
    exact ⟨rfl, H.out, grown_refl _ _⟩
theorem fail_any (h : LAt w g d) (c : Int) : Calls Try.prog 14 #[.pointer (some ⟨g, 0, none⟩), .int .u32 c] w fun e w' => e = .returned (.int .i64 (gE d)) ∧ LAt w' g (fD d c) ∧ w.grownBy w' (some g) := by
  have HG := Lib.hid (goes_any h)
  have H := Lib.hid h
  rcases gE_cases d with hE | hE
  · have HB : Hid (fD d c = { d with fa := true, ca := c }) := Lib.hid (by unfold fD; rw [hE]; simp)
    have HE := Lib.hid hE
    rw [hE] at HG
    obtain ⟨c0, c1, c19, c20, c21, c22⟩ := h.cells
    have f21 := h.free 21
    have f22 := h.free 22
    have HP := Lib.hid ((H.out.put_fa true).put_ca c)
    clear hE c0 c1 c19 c20 h
    go_enter Try.func14, Try.ntmps14
    go_wp2_with (first
      | (go_at_call 30; (with_reducible refine HG.out.mono ?_); rintro e w1 ⟨rfl, rfl⟩))
    go_ret
    rw [HB.out, HE.out]
    exact ⟨rfl, HP.out, grown_trans (grown_setCell _ _ _ _) (grown_setCell _ _ _ _)⟩
  · have HB : Hid (fD d c = d) := Lib.hid (by unfold fD; rw [hE]; simp)
    have HE := Lib.hid hE
    rw [hE] at HG
    clear hE h
    go_enter Try.func14, Try.ntmps14
    go_wp2_with (first
      | (go_at_call 30; (with_reducible refine HG.out.mono ?_); rintro e w1 ⟨rfl, rfl⟩))
    go_ret
    rw [HB.out, HE.out]
    exact ⟨rfl, H.out, grown_refl _ _⟩
theorem refused_any (h : LAt w g d) (x : Int) : Calls Try.prog 17 #[.pointer (some ⟨g, 0, none⟩), .int .u64 x] w fun e w' => e = .returned (.bool (rF d x)) ∧ ∃ n, w' = w.drewN n := by
  have HG : Hid (∀ n, _) := Lib.hid fun n => goes_any (h.same (w' := w.drewN n) rfl)
  have HV : Hid (∀ n, _) := Lib.hid fun n => oo.gives_any d.st d.fl x (w.drewN n)
  obtain ⟨c0, c1, c19, c20, c21, c22⟩ := h.cells
  have k19 : ∀ n, (w.drewN n).cell? ⟨g, 19, none⟩ = some (.int .u64 d.st) := fun _ => c19
  have k20 : ∀ n, (w.drewN n).cell? ⟨g, 20, none⟩ = some (.bool d.fl) := fun _ => c20
  rcases gE_cases d with hE | hE
  · have HB : Hid (rF d x = gives d.st d.fl x) := Lib.hid (by unfold rF; rw [hE]; simp)
    rw [hE] at HG
    clear hE h c0 c1 c21 c22
    go_enter Try.func17, Try.ntmps17
    go_wp2_with fail
    go_quiet (first
      | (go_at_call 30; exact Calls.quiet_of_same ((HG.out _).mono fun _ _ he => ⟨he.1, he.2.symm⟩))
      | (go_at_call 33; exact Calls.quiet_of_same ((HV.out _).mono fun _ _ he => ⟨he.1, he.2.symm⟩)))
    go_wp2_with fail
    go_ret
    exact ⟨ret_bool HB.out.symm, _, rfl⟩
  · have HB : Hid (rF d x = false) := Lib.hid (by unfold rF; rw [hE]; simp)
    rw [hE] at HG
    clear hE h c0 c1 c21 c22
    go_enter Try.func17, Try.ntmps17
    go_wp2_with fail
    go_quiet (first
      | (go_at_call 30; exact Calls.quiet_of_same ((HG.out _).mono fun _ _ he => ⟨he.1, he.2.symm⟩))
      | (go_at_call 33; exact Calls.quiet_of_same ((HV.out _).mono fun _ _ he => ⟨he.1, he.2.symm⟩)))
    go_wp2_with fail
    go_ret
    exact ⟨ret_bool HB.out.symm, _, rfl⟩
end
end Go.Proofs.Ytkpgajegmomihaa.de
