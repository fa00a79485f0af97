/-
  What the document's own form, reg, May, Word, Put answer: contracts. No condition but the bounds that each theorem names.
-/
import Derived.Test.YtmfckkioccmblaaDoorCdF
namespace Go.Proofs.YtmfckkioccmblaaDoor.cd
open Go Go.ChangeShapes Go.WideShapes Go.ChangeAt Go.RowKit
set_option linter.unusedVariables false
set_option maxRecDepth 1000000

/-- The document's form of an Op. -/
def rf (op : Nat) : Nat := if op < 22 then fm op else 1
theorem rf_other {op : Nat} (h : ¬ op = 0 ∧ ¬ op = 18 ∧ ¬ op = 21 ∧ ¬ op = 8 ∧ ¬ op = 9 ∧ ¬ op = 10 ∧ ¬ op = 13 ∧ ¬ op = 14 ∧ ¬ op = 15 ∧ ¬ op = 12 ∧ ¬ op = 16 ∧ ¬ op = 17 ∧ ¬ op = 19 ∧ ¬ op = 20) : rf op = 1 := by
  unfold rf
  split
  · have : op = 1 ∨ op = 2 ∨ op = 3 ∨ op = 4 ∨ op = 5 ∨ op = 6 ∨ op = 7 ∨ op = 11 := by omega
    rcases this with rfl | rfl | rfl | rfl | rfl | rfl | rfl | rfl <;> rfl
  · rfl
set_option maxHeartbeats 1000000 in
theorem form_any (op : Nat) (w : World) : Calls Tryd.prog 25 #[.int .u8 (op : Int)] w fun e w' => e = .returned (.int .i64 (rf op : Int)) ∧ w = w' := by
  by_cases h : op = 0 ∨ op = 18 ∨ op = 21 ∨ op = 8 ∨ op = 9 ∨ op = 10 ∨ op = 13 ∨ op = 14 ∨ op = 15 ∨ op = 12 ∨ op = 16 ∨ op = 17 ∨ op = 19 ∨ op = 20
  · rcases h with rfl | rfl | rfl | rfl | rfl | rfl | rfl | rfl | rfl | rfl | rfl | rfl | rfl | rfl
    all_goals
      go_enter Tryd.func25, Tryd.ntmps25
      go_wp2
      go_ret
      exact ⟨rfl, rfl⟩
  · rw [rf_other (by omega)]
    have e0 : ((op : Int) == 0) = false := beq_eq_false_iff_ne.2 (by omega)
    have e18 : ((op : Int) == 18) = false := beq_eq_false_iff_ne.2 (by omega)
    have e21 : ((op : Int) == 21) = false := beq_eq_false_iff_ne.2 (by omega)
    have e8 : ((op : Int) == 8) = false := beq_eq_false_iff_ne.2 (by omega)
    have e9 : ((op : Int) == 9) = false := beq_eq_false_iff_ne.2 (by omega)
    have e10 : ((op : Int) == 10) = false := beq_eq_false_iff_ne.2 (by omega)
    have e13 : ((op : Int) == 13) = false := beq_eq_false_iff_ne.2 (by omega)
    have e14 : ((op : Int) == 14) = false := beq_eq_false_iff_ne.2 (by omega)
    have e15 : ((op : Int) == 15) = false := beq_eq_false_iff_ne.2 (by omega)
    have e12 : ((op : Int) == 12) = false := beq_eq_false_iff_ne.2 (by omega)
    have e16 : ((op : Int) == 16) = false := beq_eq_false_iff_ne.2 (by omega)
    have e17 : ((op : Int) == 17) = false := beq_eq_false_iff_ne.2 (by omega)
    have e19 : ((op : Int) == 19) = false := beq_eq_false_iff_ne.2 (by omega)
    have e20 : ((op : Int) == 20) = false := beq_eq_false_iff_ne.2 (by omega)
    clear h
    go_enter Tryd.func25, Tryd.ntmps25
    go_wp2
    go_ret
    exact ⟨rfl, rfl⟩
theorem reg_any (x : Int) (w : World) : Calls Tryd.prog 24 #[.int .i64 x] w fun e w' => e = .returned (.bool (decide (0 ≤ x ∧ x ≤ 15))) ∧ w = w' := by
  by_cases h0 : 0 ≤ x
  · by_cases h1 : x ≤ 15
    · rw [decide_eq_true (p := 0 ≤ x ∧ x ≤ 15) (by omega)]
      go_enter Tryd.func24, Tryd.ntmps24
      go_wp2
      go_ret
      exact ⟨rfl, rfl⟩
    · rw [decide_eq_false (p := 0 ≤ x ∧ x ≤ 15) (by omega)]
      go_enter Tryd.func24, Tryd.ntmps24
      go_wp2
      go_ret
      exact ⟨rfl, rfl⟩
  · rw [decide_eq_false (p := 0 ≤ x ∧ x ≤ 15) (by omega)]
    go_enter Tryd.func24, Tryd.ntmps24
    go_wp2
    go_ret
    exact ⟨rfl, rfl⟩
theorem may_dec {c : Cd} (f : Nat) (h : fm c.op = f) (ho : c.op < 22) : may c = decide (((us f).la ≤ c.a ∧ c.a ≤ (us f).ha) ∧ ((us f).lb ≤ c.b ∧ c.b ≤ (us f).hb) ∧ ((us f).lc ≤ c.c ∧ c.c ≤ (us f).hc) ∧ (us f).ln ≤ c.n ∧ c.n ≤ (us f).hn) := by
  subst h
  cases hm : may c
  · refine (decide_eq_false fun h => ?_).symm
    rw [may_of ho h] at hm
    cases hm
  · exact (decide_eq_true (may_parts hm).2).symm
theorem may_reg {c : Cd} (h : ¬ ((0 ≤ c.a ∧ c.a ≤ 15) ∧ (0 ≤ c.b ∧ c.b ≤ 15) ∧ 0 ≤ c.c ∧ c.c ≤ 15)) : may c = false := by
  cases hm : may c
  · rfl
  · obtain ⟨ho, h1, h2, h3, h4⟩ := may_parts hm
    have := us_reg (fm_lt c.op)
    exact (h (by omega)).elim
set_option maxHeartbeats 1000000 in
theorem rmay_out (op : Nat) (a b c n : Int) (w : World) (h8 : op < 256) (h : ¬ (op < 22 ∧ (0 ≤ a ∧ a ≤ 15) ∧ (0 ≤ b ∧ b ≤ 15) ∧ 0 ≤ c ∧ c ≤ 15)) : Calls Tryd.prog 20 #[.agg (ca ⟨op, a, b, c, n⟩)] w fun e w' => e = .returned (.bool false) ∧ w.grownBy w' none := by
  have HG : Hid (w.grownBy (w.alloc (.cells (ca ⟨op, a, b, c, n⟩) 28)) none) := Lib.hid (grown_alloc (grown_refl _ _) _)
  have HR : Hid (∀ x w, _) := Lib.hid fun x w => reg_any x w
  unfold ca at *
  by_cases ho : op < 22
  · have g1 : decide ((21 : Int) < (op : Int)) = false := decide_eq_false (by omega)
    by_cases ha : 0 ≤ a ∧ a ≤ 15
    · have ga := decide_eq_true ha
      by_cases hb : 0 ≤ b ∧ b ≤ 15
      · have gb := decide_eq_true hb
        have hc : ¬ (0 ≤ c ∧ c ≤ 15) := fun hc => h ⟨ho, ha, hb, hc⟩
        have gc := decide_eq_false hc
        have Ha : Hid (∀ w, _) := Lib.hid fun w => HR.out a w
        have Hb : Hid (∀ w, _) := Lib.hid fun w => HR.out b w
        have Hc : Hid (∀ w, _) := Lib.hid fun w => HR.out c w
        rw [ga] at Ha
        rw [gb] at Hb
        rw [gc] at Hc
        clear ga gb gc ha hb hc ho h
        go_enter Tryd.func20, Tryd.ntmps20
        go_wp2_with (first
          | (go_at_call 24; ((with_reducible refine (Ha.out _).mono ?_); rintro e w1 ⟨rfl, rfl⟩))
          | (go_at_call 24; ((with_reducible refine (Hb.out _).mono ?_); rintro e w1 ⟨rfl, rfl⟩))
          | (go_at_call 24; ((with_reducible refine (Hc.out _).mono ?_); rintro e w1 ⟨rfl, rfl⟩)))
        go_ret
        exact ⟨rfl, HG.out⟩
      · have Ha : Hid (∀ w, _) := Lib.hid fun w => HR.out a w
        have Hb : Hid (∀ w, _) := Lib.hid fun w => HR.out b w
        rw [ga] at Ha
        rw [decide_eq_false hb] at Hb
        clear ga ha hb ho h
        go_enter Tryd.func20, Tryd.ntmps20
        go_wp2_with (first
          | (go_at_call 24; ((with_reducible refine (Ha.out _).mono ?_); rintro e w1 ⟨rfl, rfl⟩))
          | (go_at_call 24; ((with_reducible refine (Hb.out _).mono ?_); rintro e w1 ⟨rfl, rfl⟩)))
        go_ret
        exact ⟨rfl, HG.out⟩
    · have Ha : Hid (∀ w, _) := Lib.hid fun w => HR.out a w
      rw [decide_eq_false ha] at Ha
      clear ha ho h
      go_enter Tryd.func20, Tryd.ntmps20
      go_wp2_with (first
        | (go_at_call 24; ((with_reducible refine (Ha.out _).mono ?_); rintro e w1 ⟨rfl, rfl⟩)))
      go_ret
      exact ⟨rfl, HG.out⟩
  · have g1 : decide ((21 : Int) < (op : Int)) = true := decide_eq_true (by omega)
    clear ho h
    go_enter Tryd.func20, Tryd.ntmps20
    go_wp2_with fail
    go_ret
    exact ⟨rfl, HG.out⟩
end Go.Proofs.YtmfckkioccmblaaDoor.cd
