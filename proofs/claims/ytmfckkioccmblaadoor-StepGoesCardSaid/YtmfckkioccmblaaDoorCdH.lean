/-
  What the document's own May answers. No condition but the bounds that each theorem names.
-/
import Derived.Test.YtmfckkioccmblaaDoorCdG
namespace Go.Proofs.YtmfckkioccmblaaDoor.cd
open Go Go.ChangeShapes Go.WideShapes Go.ChangeAt Go.RowKit
set_option linter.unusedVariables false
set_option maxRecDepth 1000000

set_option maxHeartbeats 2000000 in
theorem rmay_0 (op : Nat) (a b c n : Int) (w : World) (hf : rf op = 0) (ho : op < 22) (ha : 0 ≤ a ∧ a ≤ 15) (hb : 0 ≤ b ∧ b ≤ 15) (hc : 0 ≤ c ∧ c ≤ 15) : Calls Tryd.prog 20 #[.agg (ca ⟨op, a, b, c, n⟩)] w fun e w' => e = .returned (.bool (may ⟨op, a, b, c, n⟩)) ∧ w.grownBy w' none := by
  have hm : may ⟨op, a, b, c, n⟩ = decide _ := may_dec (c := ⟨op, a, b, c, n⟩) 0 (by unfold rf at hf; rwa [if_pos ho] at hf) ho
  simp only [us] at hm
  have HG : Hid (w.grownBy (w.alloc (.cells (ca ⟨op, a, b, c, n⟩) 28)) none) := Lib.hid (grown_alloc (grown_refl _ _) _)
  have Ha : Hid (∀ w, _) := Lib.hid fun w => reg_any a w
  have Hb : Hid (∀ w, _) := Lib.hid fun w => reg_any b w
  have Hc : Hid (∀ w, _) := Lib.hid fun w => reg_any c w
  have HF : Hid (∀ w, _) := Lib.hid fun w => form_any op w
  rw [decide_eq_true ha] at Ha
  rw [decide_eq_true hb] at Hb
  rw [decide_eq_true hc] at Hc
  rw [hf] at HF
  have g1 : decide ((21 : Int) < (op : Int)) = false := decide_eq_false (by omega)
  unfold ca at *
  by_cases qc : c = 0
  · have ec : (c == 0) = true := by simpa using qc
    have nc : (c != 0) = false := by simpa using qc
    by_cases qb : b = 0
    · have eb : (b == 0) = true := by simpa using qb
      have nb : (b != 0) = false := by simpa using qb
      by_cases qa : a = 0
      · have ea : (a == 0) = true := by simpa using qa
        have na : (a != 0) = false := by simpa using qa
        by_cases qn : n = 0
        · have en : (n == 0) = true := by simpa using qn
          have nn : (n != 0) = false := by simpa using qn
          rw [hm, decide_eq_true (by omega)]
          clear hm ha hb hc hf ho qc qb qa qn
          go_enter Tryd.func20, Tryd.ntmps20
          go_wp2_with (first
            | (go_at_call 24; ((with_reducible refine (Ha.out _).mono ?_); rintro e w1 ⟨rfl, rfl⟩))
            | (go_at_call 24; ((with_reducible refine (Hb.out _).mono ?_); rintro e w1 ⟨rfl, rfl⟩))
            | (go_at_call 24; ((with_reducible refine (Hc.out _).mono ?_); rintro e w1 ⟨rfl, rfl⟩))
            | (go_at_call 25; ((with_reducible refine (HF.out _).mono ?_); rintro e w1 ⟨rfl, rfl⟩)))
          go_ret
          exact ⟨rfl, HG.out⟩
        · have en : (n == 0) = false := by simpa using qn
          have nn : (n != 0) = true := by simpa using qn
          rw [hm, decide_eq_false (by omega)]
          clear hm ha hb hc hf ho qc qb qa qn
          go_enter Tryd.func20, Tryd.ntmps20
          go_wp2_with (first
            | (go_at_call 24; ((with_reducible refine (Ha.out _).mono ?_); rintro e w1 ⟨rfl, rfl⟩))
            | (go_at_call 24; ((with_reducible refine (Hb.out _).mono ?_); rintro e w1 ⟨rfl, rfl⟩))
            | (go_at_call 24; ((with_reducible refine (Hc.out _).mono ?_); rintro e w1 ⟨rfl, rfl⟩))
            | (go_at_call 25; ((with_reducible refine (HF.out _).mono ?_); rintro e w1 ⟨rfl, rfl⟩)))
          go_ret
          exact ⟨rfl, HG.out⟩
      · have ea : (a == 0) = false := by simpa using qa
        have na : (a != 0) = true := by simpa using qa
        rw [hm, decide_eq_false (by omega)]
        clear hm ha hb hc hf ho qc qb qa
        go_enter Tryd.func20, Tryd.ntmps20
        go_wp2_with (first
          | (go_at_call 24; ((with_reducible refine (Ha.out _).mono ?_); rintro e w1 ⟨rfl, rfl⟩))
          | (go_at_call 24; ((with_reducible refine (Hb.out _).mono ?_); rintro e w1 ⟨rfl, rfl⟩))
          | (go_at_call 24; ((with_reducible refine (Hc.out _).mono ?_); rintro e w1 ⟨rfl, rfl⟩))
          | (go_at_call 25; ((with_reducible refine (HF.out _).mono ?_); rintro e w1 ⟨rfl, rfl⟩)))
        go_ret
        exact ⟨rfl, HG.out⟩
    · have eb : (b == 0) = false := by simpa using qb
      have nb : (b != 0) = true := by simpa using qb
      rw [hm, decide_eq_false (by omega)]
      clear hm ha hb hc hf ho qc qb
      go_enter Tryd.func20, Tryd.ntmps20
      go_wp2_with (first
        | (go_at_call 24; ((with_reducible refine (Ha.out _).mono ?_); rintro e w1 ⟨rfl, rfl⟩))
        | (go_at_call 24; ((with_reducible refine (Hb.out _).mono ?_); rintro e w1 ⟨rfl, rfl⟩))
        | (go_at_call 24; ((with_reducible refine (Hc.out _).mono ?_); rintro e w1 ⟨rfl, rfl⟩))
        | (go_at_call 25; ((with_reducible refine (HF.out _).mono ?_); rintro e w1 ⟨rfl, rfl⟩)))
      go_ret
      exact ⟨rfl, HG.out⟩
  · have ec : (c == 0) = false := by simpa using qc
    have nc : (c != 0) = true := by simpa using qc
    rw [hm, decide_eq_false (by omega)]
    clear hm ha hb hc hf ho qc
    go_enter Tryd.func20, Tryd.ntmps20
    go_wp2_with (first
      | (go_at_call 24; ((with_reducible refine (Ha.out _).mono ?_); rintro e w1 ⟨rfl, rfl⟩))
      | (go_at_call 24; ((with_reducible refine (Hb.out _).mono ?_); rintro e w1 ⟨rfl, rfl⟩))
      | (go_at_call 24; ((with_reducible refine (Hc.out _).mono ?_); rintro e w1 ⟨rfl, rfl⟩))
      | (go_at_call 25; ((with_reducible refine (HF.out _).mono ?_); rintro e w1 ⟨rfl, rfl⟩)))
    go_ret
    exact ⟨rfl, HG.out⟩
set_option maxHeartbeats 2000000 in
theorem rmay_1 (op : Nat) (a b c n : Int) (w : World) (hf : rf op = 1) (ho : op < 22) (ha : 0 ≤ a ∧ a ≤ 15) (hb : 0 ≤ b ∧ b ≤ 15) (hc : 0 ≤ c ∧ c ≤ 15) : Calls Tryd.prog 20 #[.agg (ca ⟨op, a, b, c, n⟩)] w fun e w' => e = .returned (.bool (may ⟨op, a, b, c, n⟩)) ∧ w.grownBy w' none := by
  have hm : may ⟨op, a, b, c, n⟩ = decide _ := may_dec (c := ⟨op, a, b, c, n⟩) 1 (by unfold rf at hf; rwa [if_pos ho] at hf) ho
  simp only [us] at hm
  have HG : Hid (w.grownBy (w.alloc (.cells (ca ⟨op, a, b, c, n⟩) 28)) none) := Lib.hid (grown_alloc (grown_refl _ _) _)
  have Ha : Hid (∀ w, _) := Lib.hid fun w => reg_any a w
  have Hb : Hid (∀ w, _) := Lib.hid fun w => reg_any b w
  have Hc : Hid (∀ w, _) := Lib.hid fun w => reg_any c w
  have HF : Hid (∀ w, _) := Lib.hid fun w => form_any op w
  rw [decide_eq_true ha] at Ha
  rw [decide_eq_true hb] at Hb
  rw [decide_eq_true hc] at Hc
  rw [hf] at HF
  have g1 : decide ((21 : Int) < (op : Int)) = false := decide_eq_false (by omega)
  unfold ca at *
  by_cases qn : n = 0
  · have en : (n == 0) = true := by simpa using qn
    have nn : (n != 0) = false := by simpa using qn
    rw [hm, decide_eq_true (by omega)]
    clear hm ha hb hc hf ho qn
    go_enter Tryd.func20, Tryd.ntmps20
    go_wp2_with (first
      | (go_at_call 24; ((with_reducible refine (Ha.out _).mono ?_); rintro e w1 ⟨rfl, rfl⟩))
      | (go_at_call 24; ((with_reducible refine (Hb.out _).mono ?_); rintro e w1 ⟨rfl, rfl⟩))
      | (go_at_call 24; ((with_reducible refine (Hc.out _).mono ?_); rintro e w1 ⟨rfl, rfl⟩))
      | (go_at_call 25; ((with_reducible refine (HF.out _).mono ?_); rintro e w1 ⟨rfl, rfl⟩)))
    go_ret
    exact ⟨rfl, HG.out⟩
  · have en : (n == 0) = false := by simpa using qn
    have nn : (n != 0) = true := by simpa using qn
    rw [hm, decide_eq_false (by omega)]
    clear hm ha hb hc hf ho qn
    go_enter Tryd.func20, Tryd.ntmps20
    go_wp2_with (first
      | (go_at_call 24; ((with_reducible refine (Ha.out _).mono ?_); rintro e w1 ⟨rfl, rfl⟩))
      | (go_at_call 24; ((with_reducible refine (Hb.out _).mono ?_); rintro e w1 ⟨rfl, rfl⟩))
      | (go_at_call 24; ((with_reducible refine (Hc.out _).mono ?_); rintro e w1 ⟨rfl, rfl⟩))
      | (go_at_call 25; ((with_reducible refine (HF.out _).mono ?_); rintro e w1 ⟨rfl, rfl⟩)))
    go_ret
    exact ⟨rfl, HG.out⟩
set_option maxHeartbeats 2000000 in
theorem rmay_2 (op : Nat) (a b c n : Int) (w : World) (hf : rf op = 2) (ho : op < 22) (ha : 0 ≤ a ∧ a ≤ 15) (hb : 0 ≤ b ∧ b ≤ 15) (hc : 0 ≤ c ∧ c ≤ 15) : Calls Tryd.prog 20 #[.agg (ca ⟨op, a, b, c, n⟩)] w fun e w' => e = .returned (.bool (may ⟨op, a, b, c, n⟩)) ∧ w.grownBy w' none := by
  have hm : may ⟨op, a, b, c, n⟩ = decide _ := may_dec (c := ⟨op, a, b, c, n⟩) 2 (by unfold rf at hf; rwa [if_pos ho] at hf) ho
  simp only [us] at hm
  have HG : Hid (w.grownBy (w.alloc (.cells (ca ⟨op, a, b, c, n⟩) 28)) none) := Lib.hid (grown_alloc (grown_refl _ _) _)
  have Ha : Hid (∀ w, _) := Lib.hid fun w => reg_any a w
  have Hb : Hid (∀ w, _) := Lib.hid fun w => reg_any b w
  have Hc : Hid (∀ w, _) := Lib.hid fun w => reg_any c w
  have HF : Hid (∀ w, _) := Lib.hid fun w => form_any op w
  rw [decide_eq_true ha] at Ha
  rw [decide_eq_true hb] at Hb
  rw [decide_eq_true hc] at Hc
  rw [hf] at HF
  have g1 : decide ((21 : Int) < (op : Int)) = false := decide_eq_false (by omega)
  unfold ca at *
  by_cases qc : c = 0
  · have ec : (c == 0) = true := by simpa using qc
    have nc : (c != 0) = false := by simpa using qc
    by_cases ql : (-8192) ≤ n
    · by_cases qh : n ≤ 8191
      · have gl : decide ((-8192) ≤ n) = true := decide_eq_true ql
        have gh : decide (n ≤ 8191) = true := decide_eq_true qh
        rw [hm, decide_eq_true (by omega)]
        clear hm ha hb hc hf ho qc ql qh
        go_enter Tryd.func20, Tryd.ntmps20
        go_wp2_with (first
          | (go_at_call 24; ((with_reducible refine (Ha.out _).mono ?_); rintro e w1 ⟨rfl, rfl⟩))
          | (go_at_call 24; ((with_reducible refine (Hb.out _).mono ?_); rintro e w1 ⟨rfl, rfl⟩))
          | (go_at_call 24; ((with_reducible refine (Hc.out _).mono ?_); rintro e w1 ⟨rfl, rfl⟩))
          | (go_at_call 25; ((with_reducible refine (HF.out _).mono ?_); rintro e w1 ⟨rfl, rfl⟩)))
        go_ret
        exact ⟨rfl, HG.out⟩
      · have gl : decide ((-8192) ≤ n) = true := decide_eq_true ql
        have gh : decide (n ≤ 8191) = false := decide_eq_false qh
        rw [hm, decide_eq_false (by omega)]
        clear hm ha hb hc hf ho qc ql qh
        go_enter Tryd.func20, Tryd.ntmps20
        go_wp2_with (first
          | (go_at_call 24; ((with_reducible refine (Ha.out _).mono ?_); rintro e w1 ⟨rfl, rfl⟩))
          | (go_at_call 24; ((with_reducible refine (Hb.out _).mono ?_); rintro e w1 ⟨rfl, rfl⟩))
          | (go_at_call 24; ((with_reducible refine (Hc.out _).mono ?_); rintro e w1 ⟨rfl, rfl⟩))
          | (go_at_call 25; ((with_reducible refine (HF.out _).mono ?_); rintro e w1 ⟨rfl, rfl⟩)))
        go_ret
        exact ⟨rfl, HG.out⟩
    · have gl : decide ((-8192) ≤ n) = false := decide_eq_false ql
      rw [hm, decide_eq_false (by omega)]
      clear hm ha hb hc hf ho qc ql
      go_enter Tryd.func20, Tryd.ntmps20
      go_wp2_with (first
        | (go_at_call 24; ((with_reducible refine (Ha.out _).mono ?_); rintro e w1 ⟨rfl, rfl⟩))
        | (go_at_call 24; ((with_reducible refine (Hb.out _).mono ?_); rintro e w1 ⟨rfl, rfl⟩))
        | (go_at_call 24; ((with_reducible refine (Hc.out _).mono ?_); rintro e w1 ⟨rfl, rfl⟩))
        | (go_at_call 25; ((with_reducible refine (HF.out _).mono ?_); rintro e w1 ⟨rfl, rfl⟩)))
      go_ret
      exact ⟨rfl, HG.out⟩
  · have ec : (c == 0) = false := by simpa using qc
    have nc : (c != 0) = true := by simpa using qc
    rw [hm, decide_eq_false (by omega)]
    clear hm ha hb hc hf ho qc
    go_enter Tryd.func20, Tryd.ntmps20
    go_wp2_with (first
      | (go_at_call 24; ((with_reducible refine (Ha.out _).mono ?_); rintro e w1 ⟨rfl, rfl⟩))
      | (go_at_call 24; ((with_reducible refine (Hb.out _).mono ?_); rintro e w1 ⟨rfl, rfl⟩))
      | (go_at_call 24; ((with_reducible refine (Hc.out _).mono ?_); rintro e w1 ⟨rfl, rfl⟩))
      | (go_at_call 25; ((with_reducible refine (HF.out _).mono ?_); rintro e w1 ⟨rfl, rfl⟩)))
    go_ret
    exact ⟨rfl, HG.out⟩
set_option maxHeartbeats 2000000 in
theorem rmay_3 (op : Nat) (a b c n : Int) (w : World) (hf : rf op = 3) (ho : op < 22) (ha : 0 ≤ a ∧ a ≤ 15) (hb : 0 ≤ b ∧ b ≤ 15) (hc : 0 ≤ c ∧ c ≤ 15) : Calls Tryd.prog 20 #[.agg (ca ⟨op, a, b, c, n⟩)] w fun e w' => e = .returned (.bool (may ⟨op, a, b, c, n⟩)) ∧ w.grownBy w' none := by
  have hm : may ⟨op, a, b, c, n⟩ = decide _ := may_dec (c := ⟨op, a, b, c, n⟩) 3 (by unfold rf at hf; rwa [if_pos ho] at hf) ho
  simp only [us] at hm
  have HG : Hid (w.grownBy (w.alloc (.cells (ca ⟨op, a, b, c, n⟩) 28)) none) := Lib.hid (grown_alloc (grown_refl _ _) _)
  have Ha : Hid (∀ w, _) := Lib.hid fun w => reg_any a w
  have Hb : Hid (∀ w, _) := Lib.hid fun w => reg_any b w
  have Hc : Hid (∀ w, _) := Lib.hid fun w => reg_any c w
  have HF : Hid (∀ w, _) := Lib.hid fun w => form_any op w
  rw [decide_eq_true ha] at Ha
  rw [decide_eq_true hb] at Hb
  rw [decide_eq_true hc] at Hc
  rw [hf] at HF
  have g1 : decide ((21 : Int) < (op : Int)) = false := decide_eq_false (by omega)
  unfold ca at *
  by_cases qc : c = 0
  · have ec : (c == 0) = true := by simpa using qc
    have nc : (c != 0) = false := by simpa using qc
    by_cases qb : b = 0
    · have eb : (b == 0) = true := by simpa using qb
      have nb : (b != 0) = false := by simpa using qb
      by_cases ql : (-2097152) ≤ n
      · by_cases qh : n ≤ 2097151
        · have gl : decide ((-2097152) ≤ n) = true := decide_eq_true ql
          have gh : decide (n ≤ 2097151) = true := decide_eq_true qh
          rw [hm, decide_eq_true (by omega)]
          clear hm ha hb hc hf ho qc qb ql qh
          go_enter Tryd.func20, Tryd.ntmps20
          go_wp2_with (first
            | (go_at_call 24; ((with_reducible refine (Ha.out _).mono ?_); rintro e w1 ⟨rfl, rfl⟩))
            | (go_at_call 24; ((with_reducible refine (Hb.out _).mono ?_); rintro e w1 ⟨rfl, rfl⟩))
            | (go_at_call 24; ((with_reducible refine (Hc.out _).mono ?_); rintro e w1 ⟨rfl, rfl⟩))
            | (go_at_call 25; ((with_reducible refine (HF.out _).mono ?_); rintro e w1 ⟨rfl, rfl⟩)))
          go_ret
          exact ⟨rfl, HG.out⟩
        · have gl : decide ((-2097152) ≤ n) = true := decide_eq_true ql
          have gh : decide (n ≤ 2097151) = false := decide_eq_false qh
          rw [hm, decide_eq_false (by omega)]
          clear hm ha hb hc hf ho qc qb ql qh
          go_enter Tryd.func20, Tryd.ntmps20
          go_wp2_with (first
            | (go_at_call 24; ((with_reducible refine (Ha.out _).mono ?_); rintro e w1 ⟨rfl, rfl⟩))
            | (go_at_call 24; ((with_reducible refine (Hb.out _).mono ?_); rintro e w1 ⟨rfl, rfl⟩))
            | (go_at_call 24; ((with_reducible refine (Hc.out _).mono ?_); rintro e w1 ⟨rfl, rfl⟩))
            | (go_at_call 25; ((with_reducible refine (HF.out _).mono ?_); rintro e w1 ⟨rfl, rfl⟩)))
          go_ret
          exact ⟨rfl, HG.out⟩
      · have gl : decide ((-2097152) ≤ n) = false := decide_eq_false ql
        rw [hm, decide_eq_false (by omega)]
        clear hm ha hb hc hf ho qc qb ql
        go_enter Tryd.func20, Tryd.ntmps20
        go_wp2_with (first
          | (go_at_call 24; ((with_reducible refine (Ha.out _).mono ?_); rintro e w1 ⟨rfl, rfl⟩))
          | (go_at_call 24; ((with_reducible refine (Hb.out _).mono ?_); rintro e w1 ⟨rfl, rfl⟩))
          | (go_at_call 24; ((with_reducible refine (Hc.out _).mono ?_); rintro e w1 ⟨rfl, rfl⟩))
          | (go_at_call 25; ((with_reducible refine (HF.out _).mono ?_); rintro e w1 ⟨rfl, rfl⟩)))
        go_ret
        exact ⟨rfl, HG.out⟩
    · have eb : (b == 0) = false := by simpa using qb
      have nb : (b != 0) = true := by simpa using qb
      rw [hm, decide_eq_false (by omega)]
      clear hm ha hb hc hf ho qc qb
      go_enter Tryd.func20, Tryd.ntmps20
      go_wp2_with (first
        | (go_at_call 24; ((with_reducible refine (Ha.out _).mono ?_); rintro e w1 ⟨rfl, rfl⟩))
        | (go_at_call 24; ((with_reducible refine (Hb.out _).mono ?_); rintro e w1 ⟨rfl, rfl⟩))
        | (go_at_call 24; ((with_reducible refine (Hc.out _).mono ?_); rintro e w1 ⟨rfl, rfl⟩))
        | (go_at_call 25; ((with_reducible refine (HF.out _).mono ?_); rintro e w1 ⟨rfl, rfl⟩)))
      go_ret
      exact ⟨rfl, HG.out⟩
  · have ec : (c == 0) = false := by simpa using qc
    have nc : (c != 0) = true := by simpa using qc
    rw [hm, decide_eq_false (by omega)]
    clear hm ha hb hc hf ho qc
    go_enter Tryd.func20, Tryd.ntmps20
    go_wp2_with (first
      | (go_at_call 24; ((with_reducible refine (Ha.out _).mono ?_); rintro e w1 ⟨rfl, rfl⟩))
      | (go_at_call 24; ((with_reducible refine (Hb.out _).mono ?_); rintro e w1 ⟨rfl, rfl⟩))
      | (go_at_call 24; ((with_reducible refine (Hc.out _).mono ?_); rintro e w1 ⟨rfl, rfl⟩))
      | (go_at_call 25; ((with_reducible refine (HF.out _).mono ?_); rintro e w1 ⟨rfl, rfl⟩)))
    go_ret
    exact ⟨rfl, HG.out⟩
set_option maxHeartbeats 2000000 in
theorem rmay_4 (op : Nat) (a b c n : Int) (w : World) (hf : rf op = 4) (ho : op < 22) (ha : 0 ≤ a ∧ a ≤ 15) (hb : 0 ≤ b ∧ b ≤ 15) (hc : 0 ≤ c ∧ c ≤ 15) : Calls Tryd.prog 20 #[.agg (ca ⟨op, a, b, c, n⟩)] w fun e w' => e = .returned (.bool (may ⟨op, a, b, c, n⟩)) ∧ w.grownBy w' none := by
  have hm : may ⟨op, a, b, c, n⟩ = decide _ := may_dec (c := ⟨op, a, b, c, n⟩) 4 (by unfold rf at hf; rwa [if_pos ho] at hf) ho
  simp only [us] at hm
  have HG : Hid (w.grownBy (w.alloc (.cells (ca ⟨op, a, b, c, n⟩) 28)) none) := Lib.hid (grown_alloc (grown_refl _ _) _)
  have Ha : Hid (∀ w, _) := Lib.hid fun w => reg_any a w
  have Hb : Hid (∀ w, _) := Lib.hid fun w => reg_any b w
  have Hc : Hid (∀ w, _) := Lib.hid fun w => reg_any c w
  have HF : Hid (∀ w, _) := Lib.hid fun w => form_any op w
  rw [decide_eq_true ha] at Ha
  rw [decide_eq_true hb] at Hb
  rw [decide_eq_true hc] at Hc
  rw [hf] at HF
  have g1 : decide ((21 : Int) < (op : Int)) = false := decide_eq_false (by omega)
  unfold ca at *
  by_cases qc : c = 0
  · have ec : (c == 0) = true := by simpa using qc
    have nc : (c != 0) = false := by simpa using qc
    by_cases qb : b = 0
    · have eb : (b == 0) = true := by simpa using qb
      have nb : (b != 0) = false := by simpa using qb
      by_cases qa : a = 0
      · have ea : (a == 0) = true := by simpa using qa
        have na : (a != 0) = false := by simpa using qa
        by_cases ql : (-2097152) ≤ n
        · by_cases qh : n ≤ 2097151
          · have gl : decide ((-2097152) ≤ n) = true := decide_eq_true ql
            have gh : decide (n ≤ 2097151) = true := decide_eq_true qh
            rw [hm, decide_eq_true (by omega)]
            clear hm ha hb hc hf ho qc qb qa ql qh
            go_enter Tryd.func20, Tryd.ntmps20
            go_wp2_with (first
              | (go_at_call 24; ((with_reducible refine (Ha.out _).mono ?_); rintro e w1 ⟨rfl, rfl⟩))
              | (go_at_call 24; ((with_reducible refine (Hb.out _).mono ?_); rintro e w1 ⟨rfl, rfl⟩))
              | (go_at_call 24; ((with_reducible refine (Hc.out _).mono ?_); rintro e w1 ⟨rfl, rfl⟩))
              | (go_at_call 25; ((with_reducible refine (HF.out _).mono ?_); rintro e w1 ⟨rfl, rfl⟩)))
            go_ret
            exact ⟨rfl, HG.out⟩
          · have gl : decide ((-2097152) ≤ n) = true := decide_eq_true ql
            have gh : decide (n ≤ 2097151) = false := decide_eq_false qh
            rw [hm, decide_eq_false (by omega)]
            clear hm ha hb hc hf ho qc qb qa ql qh
            go_enter Tryd.func20, Tryd.ntmps20
            go_wp2_with (first
              | (go_at_call 24; ((with_reducible refine (Ha.out _).mono ?_); rintro e w1 ⟨rfl, rfl⟩))
              | (go_at_call 24; ((with_reducible refine (Hb.out _).mono ?_); rintro e w1 ⟨rfl, rfl⟩))
              | (go_at_call 24; ((with_reducible refine (Hc.out _).mono ?_); rintro e w1 ⟨rfl, rfl⟩))
              | (go_at_call 25; ((with_reducible refine (HF.out _).mono ?_); rintro e w1 ⟨rfl, rfl⟩)))
            go_ret
            exact ⟨rfl, HG.out⟩
        · have gl : decide ((-2097152) ≤ n) = false := decide_eq_false ql
          rw [hm, decide_eq_false (by omega)]
          clear hm ha hb hc hf ho qc qb qa ql
          go_enter Tryd.func20, Tryd.ntmps20
          go_wp2_with (first
            | (go_at_call 24; ((with_reducible refine (Ha.out _).mono ?_); rintro e w1 ⟨rfl, rfl⟩))
            | (go_at_call 24; ((with_reducible refine (Hb.out _).mono ?_); rintro e w1 ⟨rfl, rfl⟩))
            | (go_at_call 24; ((with_reducible refine (Hc.out _).mono ?_); rintro e w1 ⟨rfl, rfl⟩))
            | (go_at_call 25; ((with_reducible refine (HF.out _).mono ?_); rintro e w1 ⟨rfl, rfl⟩)))
          go_ret
          exact ⟨rfl, HG.out⟩
      · have ea : (a == 0) = false := by simpa using qa
        have na : (a != 0) = true := by simpa using qa
        rw [hm, decide_eq_false (by omega)]
        clear hm ha hb hc hf ho qc qb qa
        go_enter Tryd.func20, Tryd.ntmps20
        go_wp2_with (first
          | (go_at_call 24; ((with_reducible refine (Ha.out _).mono ?_); rintro e w1 ⟨rfl, rfl⟩))
          | (go_at_call 24; ((with_reducible refine (Hb.out _).mono ?_); rintro e w1 ⟨rfl, rfl⟩))
          | (go_at_call 24; ((with_reducible refine (Hc.out _).mono ?_); rintro e w1 ⟨rfl, rfl⟩))
          | (go_at_call 25; ((with_reducible refine (HF.out _).mono ?_); rintro e w1 ⟨rfl, rfl⟩)))
        go_ret
        exact ⟨rfl, HG.out⟩
    · have eb : (b == 0) = false := by simpa using qb
      have nb : (b != 0) = true := by simpa using qb
      rw [hm, decide_eq_false (by omega)]
      clear hm ha hb hc hf ho qc qb
      go_enter Tryd.func20, Tryd.ntmps20
      go_wp2_with (first
        | (go_at_call 24; ((with_reducible refine (Ha.out _).mono ?_); rintro e w1 ⟨rfl, rfl⟩))
        | (go_at_call 24; ((with_reducible refine (Hb.out _).mono ?_); rintro e w1 ⟨rfl, rfl⟩))
        | (go_at_call 24; ((with_reducible refine (Hc.out _).mono ?_); rintro e w1 ⟨rfl, rfl⟩))
        | (go_at_call 25; ((with_reducible refine (HF.out _).mono ?_); rintro e w1 ⟨rfl, rfl⟩)))
      go_ret
      exact ⟨rfl, HG.out⟩
  · have ec : (c == 0) = false := by simpa using qc
    have nc : (c != 0) = true := by simpa using qc
    rw [hm, decide_eq_false (by omega)]
    clear hm ha hb hc hf ho qc
    go_enter Tryd.func20, Tryd.ntmps20
    go_wp2_with (first
      | (go_at_call 24; ((with_reducible refine (Ha.out _).mono ?_); rintro e w1 ⟨rfl, rfl⟩))
      | (go_at_call 24; ((with_reducible refine (Hb.out _).mono ?_); rintro e w1 ⟨rfl, rfl⟩))
      | (go_at_call 24; ((with_reducible refine (Hc.out _).mono ?_); rintro e w1 ⟨rfl, rfl⟩))
      | (go_at_call 25; ((with_reducible refine (HF.out _).mono ?_); rintro e w1 ⟨rfl, rfl⟩)))
    go_ret
    exact ⟨rfl, HG.out⟩
set_option maxHeartbeats 2000000 in
theorem rmay_5 (op : Nat) (a b c n : Int) (w : World) (hf : rf op = 5) (ho : op < 22) (ha : 0 ≤ a ∧ a ≤ 15) (hb : 0 ≤ b ∧ b ≤ 15) (hc : 0 ≤ c ∧ c ≤ 15) : Calls Tryd.prog 20 #[.agg (ca ⟨op, a, b, c, n⟩)] w fun e w' => e = .returned (.bool (may ⟨op, a, b, c, n⟩)) ∧ w.grownBy w' none := by
  have hm : may ⟨op, a, b, c, n⟩ = decide _ := may_dec (c := ⟨op, a, b, c, n⟩) 5 (by unfold rf at hf; rwa [if_pos ho] at hf) ho
  simp only [us] at hm
  have HG : Hid (w.grownBy (w.alloc (.cells (ca ⟨op, a, b, c, n⟩) 28)) none) := Lib.hid (grown_alloc (grown_refl _ _) _)
  have Ha : Hid (∀ w, _) := Lib.hid fun w => reg_any a w
  have Hb : Hid (∀ w, _) := Lib.hid fun w => reg_any b w
  have Hc : Hid (∀ w, _) := Lib.hid fun w => reg_any c w
  have HF : Hid (∀ w, _) := Lib.hid fun w => form_any op w
  rw [decide_eq_true ha] at Ha
  rw [decide_eq_true hb] at Hb
  rw [decide_eq_true hc] at Hc
  rw [hf] at HF
  have g1 : decide ((21 : Int) < (op : Int)) = false := decide_eq_false (by omega)
  unfold ca at *
  by_cases qc : c = 0
  · have ec : (c == 0) = true := by simpa using qc
    have nc : (c != 0) = false := by simpa using qc
    by_cases qb : b = 0
    · have eb : (b == 0) = true := by simpa using qb
      have nb : (b != 0) = false := by simpa using qb
      by_cases qa : a = 0
      · have ea : (a == 0) = true := by simpa using qa
        have na : (a != 0) = false := by simpa using qa
        by_cases ql : 0 ≤ n
        · by_cases qh : n ≤ 255
          · have gl : decide (0 ≤ n) = true := decide_eq_true ql
            have gh : decide (n ≤ 255) = true := decide_eq_true qh
            rw [hm, decide_eq_true (by omega)]
            clear hm ha hb hc hf ho qc qb qa ql qh
            go_enter Tryd.func20, Tryd.ntmps20
            go_wp2_with (first
              | (go_at_call 24; ((with_reducible refine (Ha.out _).mono ?_); rintro e w1 ⟨rfl, rfl⟩))
              | (go_at_call 24; ((with_reducible refine (Hb.out _).mono ?_); rintro e w1 ⟨rfl, rfl⟩))
              | (go_at_call 24; ((with_reducible refine (Hc.out _).mono ?_); rintro e w1 ⟨rfl, rfl⟩))
              | (go_at_call 25; ((with_reducible refine (HF.out _).mono ?_); rintro e w1 ⟨rfl, rfl⟩)))
            go_ret
            exact ⟨rfl, HG.out⟩
          · have gl : decide (0 ≤ n) = true := decide_eq_true ql
            have gh : decide (n ≤ 255) = false := decide_eq_false qh
            rw [hm, decide_eq_false (by omega)]
            clear hm ha hb hc hf ho qc qb qa ql qh
            go_enter Tryd.func20, Tryd.ntmps20
            go_wp2_with (first
              | (go_at_call 24; ((with_reducible refine (Ha.out _).mono ?_); rintro e w1 ⟨rfl, rfl⟩))
              | (go_at_call 24; ((with_reducible refine (Hb.out _).mono ?_); rintro e w1 ⟨rfl, rfl⟩))
              | (go_at_call 24; ((with_reducible refine (Hc.out _).mono ?_); rintro e w1 ⟨rfl, rfl⟩))
              | (go_at_call 25; ((with_reducible refine (HF.out _).mono ?_); rintro e w1 ⟨rfl, rfl⟩)))
            go_ret
            exact ⟨rfl, HG.out⟩
        · have gl : decide (0 ≤ n) = false := decide_eq_false ql
          rw [hm, decide_eq_false (by omega)]
          clear hm ha hb hc hf ho qc qb qa ql
          go_enter Tryd.func20, Tryd.ntmps20
          go_wp2_with (first
            | (go_at_call 24; ((with_reducible refine (Ha.out _).mono ?_); rintro e w1 ⟨rfl, rfl⟩))
            | (go_at_call 24; ((with_reducible refine (Hb.out _).mono ?_); rintro e w1 ⟨rfl, rfl⟩))
            | (go_at_call 24; ((with_reducible refine (Hc.out _).mono ?_); rintro e w1 ⟨rfl, rfl⟩))
            | (go_at_call 25; ((with_reducible refine (HF.out _).mono ?_); rintro e w1 ⟨rfl, rfl⟩)))
          go_ret
          exact ⟨rfl, HG.out⟩
      · have ea : (a == 0) = false := by simpa using qa
        have na : (a != 0) = true := by simpa using qa
        rw [hm, decide_eq_false (by omega)]
        clear hm ha hb hc hf ho qc qb qa
        go_enter Tryd.func20, Tryd.ntmps20
        go_wp2_with (first
          | (go_at_call 24; ((with_reducible refine (Ha.out _).mono ?_); rintro e w1 ⟨rfl, rfl⟩))
          | (go_at_call 24; ((with_reducible refine (Hb.out _).mono ?_); rintro e w1 ⟨rfl, rfl⟩))
          | (go_at_call 24; ((with_reducible refine (Hc.out _).mono ?_); rintro e w1 ⟨rfl, rfl⟩))
          | (go_at_call 25; ((with_reducible refine (HF.out _).mono ?_); rintro e w1 ⟨rfl, rfl⟩)))
        go_ret
        exact ⟨rfl, HG.out⟩
    · have eb : (b == 0) = false := by simpa using qb
      have nb : (b != 0) = true := by simpa using qb
      rw [hm, decide_eq_false (by omega)]
      clear hm ha hb hc hf ho qc qb
      go_enter Tryd.func20, Tryd.ntmps20
      go_wp2_with (first
        | (go_at_call 24; ((with_reducible refine (Ha.out _).mono ?_); rintro e w1 ⟨rfl, rfl⟩))
        | (go_at_call 24; ((with_reducible refine (Hb.out _).mono ?_); rintro e w1 ⟨rfl, rfl⟩))
        | (go_at_call 24; ((with_reducible refine (Hc.out _).mono ?_); rintro e w1 ⟨rfl, rfl⟩))
        | (go_at_call 25; ((with_reducible refine (HF.out _).mono ?_); rintro e w1 ⟨rfl, rfl⟩)))
      go_ret
      exact ⟨rfl, HG.out⟩
  · have ec : (c == 0) = false := by simpa using qc
    have nc : (c != 0) = true := by simpa using qc
    rw [hm, decide_eq_false (by omega)]
    clear hm ha hb hc hf ho qc
    go_enter Tryd.func20, Tryd.ntmps20
    go_wp2_with (first
      | (go_at_call 24; ((with_reducible refine (Ha.out _).mono ?_); rintro e w1 ⟨rfl, rfl⟩))
      | (go_at_call 24; ((with_reducible refine (Hb.out _).mono ?_); rintro e w1 ⟨rfl, rfl⟩))
      | (go_at_call 24; ((with_reducible refine (Hc.out _).mono ?_); rintro e w1 ⟨rfl, rfl⟩))
      | (go_at_call 25; ((with_reducible refine (HF.out _).mono ?_); rintro e w1 ⟨rfl, rfl⟩)))
    go_ret
    exact ⟨rfl, HG.out⟩
set_option maxHeartbeats 2000000 in
theorem rmay_6 (op : Nat) (a b c n : Int) (w : World) (hf : rf op = 6) (ho : op < 22) (ha : 0 ≤ a ∧ a ≤ 15) (hb : 0 ≤ b ∧ b ≤ 15) (hc : 0 ≤ c ∧ c ≤ 15) : Calls Tryd.prog 20 #[.agg (ca ⟨op, a, b, c, n⟩)] w fun e w' => e = .returned (.bool (may ⟨op, a, b, c, n⟩)) ∧ w.grownBy w' none := by
  have hm : may ⟨op, a, b, c, n⟩ = decide _ := may_dec (c := ⟨op, a, b, c, n⟩) 6 (by unfold rf at hf; rwa [if_pos ho] at hf) ho
  simp only [us] at hm
  have HG : Hid (w.grownBy (w.alloc (.cells (ca ⟨op, a, b, c, n⟩) 28)) none) := Lib.hid (grown_alloc (grown_refl _ _) _)
  have Ha : Hid (∀ w, _) := Lib.hid fun w => reg_any a w
  have Hb : Hid (∀ w, _) := Lib.hid fun w => reg_any b w
  have Hc : Hid (∀ w, _) := Lib.hid fun w => reg_any c w
  have HF : Hid (∀ w, _) := Lib.hid fun w => form_any op w
  rw [decide_eq_true ha] at Ha
  rw [decide_eq_true hb] at Hb
  rw [decide_eq_true hc] at Hc
  rw [hf] at HF
  have g1 : decide ((21 : Int) < (op : Int)) = false := decide_eq_false (by omega)
  unfold ca at *
  by_cases qc : c = 0
  · have ec : (c == 0) = true := by simpa using qc
    have nc : (c != 0) = false := by simpa using qc
    by_cases qb : b = 0
    · have eb : (b == 0) = true := by simpa using qb
      have nb : (b != 0) = false := by simpa using qb
      by_cases qn : n = 0
      · have en : (n == 0) = true := by simpa using qn
        have nn : (n != 0) = false := by simpa using qn
        rw [hm, decide_eq_true (by omega)]
        clear hm ha hb hc hf ho qc qb qn
        go_enter Tryd.func20, Tryd.ntmps20
        go_wp2_with (first
          | (go_at_call 24; ((with_reducible refine (Ha.out _).mono ?_); rintro e w1 ⟨rfl, rfl⟩))
          | (go_at_call 24; ((with_reducible refine (Hb.out _).mono ?_); rintro e w1 ⟨rfl, rfl⟩))
          | (go_at_call 24; ((with_reducible refine (Hc.out _).mono ?_); rintro e w1 ⟨rfl, rfl⟩))
          | (go_at_call 25; ((with_reducible refine (HF.out _).mono ?_); rintro e w1 ⟨rfl, rfl⟩)))
        go_ret
        exact ⟨rfl, HG.out⟩
      · have en : (n == 0) = false := by simpa using qn
        have nn : (n != 0) = true := by simpa using qn
        rw [hm, decide_eq_false (by omega)]
        clear hm ha hb hc hf ho qc qb qn
        go_enter Tryd.func20, Tryd.ntmps20
        go_wp2_with (first
          | (go_at_call 24; ((with_reducible refine (Ha.out _).mono ?_); rintro e w1 ⟨rfl, rfl⟩))
          | (go_at_call 24; ((with_reducible refine (Hb.out _).mono ?_); rintro e w1 ⟨rfl, rfl⟩))
          | (go_at_call 24; ((with_reducible refine (Hc.out _).mono ?_); rintro e w1 ⟨rfl, rfl⟩))
          | (go_at_call 25; ((with_reducible refine (HF.out _).mono ?_); rintro e w1 ⟨rfl, rfl⟩)))
        go_ret
        exact ⟨rfl, HG.out⟩
    · have eb : (b == 0) = false := by simpa using qb
      have nb : (b != 0) = true := by simpa using qb
      rw [hm, decide_eq_false (by omega)]
      clear hm ha hb hc hf ho qc qb
      go_enter Tryd.func20, Tryd.ntmps20
      go_wp2_with (first
        | (go_at_call 24; ((with_reducible refine (Ha.out _).mono ?_); rintro e w1 ⟨rfl, rfl⟩))
        | (go_at_call 24; ((with_reducible refine (Hb.out _).mono ?_); rintro e w1 ⟨rfl, rfl⟩))
        | (go_at_call 24; ((with_reducible refine (Hc.out _).mono ?_); rintro e w1 ⟨rfl, rfl⟩))
        | (go_at_call 25; ((with_reducible refine (HF.out _).mono ?_); rintro e w1 ⟨rfl, rfl⟩)))
      go_ret
      exact ⟨rfl, HG.out⟩
  · have ec : (c == 0) = false := by simpa using qc
    have nc : (c != 0) = true := by simpa using qc
    rw [hm, decide_eq_false (by omega)]
    clear hm ha hb hc hf ho qc
    go_enter Tryd.func20, Tryd.ntmps20
    go_wp2_with (first
      | (go_at_call 24; ((with_reducible refine (Ha.out _).mono ?_); rintro e w1 ⟨rfl, rfl⟩))
      | (go_at_call 24; ((with_reducible refine (Hb.out _).mono ?_); rintro e w1 ⟨rfl, rfl⟩))
      | (go_at_call 24; ((with_reducible refine (Hc.out _).mono ?_); rintro e w1 ⟨rfl, rfl⟩))
      | (go_at_call 25; ((with_reducible refine (HF.out _).mono ?_); rintro e w1 ⟨rfl, rfl⟩)))
    go_ret
    exact ⟨rfl, HG.out⟩
theorem rmay_any (c : Cd) (w : World) (h8 : c.op < 256) : Calls Tryd.prog 20 #[.agg (ca c)] w fun e w' => e = .returned (.bool (may c)) ∧ w.grownBy w' none := by
  obtain ⟨op, a, b, c, n⟩ := c
  by_cases h : op < 22 ∧ (0 ≤ a ∧ a ≤ 15) ∧ (0 ≤ b ∧ b ≤ 15) ∧ 0 ≤ c ∧ c ≤ 15
  · obtain ⟨ho, ha, hb, hc⟩ := h
    have hr : rf op = fm op := by unfold rf; rw [if_pos ho]
    rcases form_cases (fm_lt op) with q | q | q | q | q | q | q <;> rw [q] at hr
    · exact rmay_0 op a b c n w hr ho ha hb hc
    · exact rmay_1 op a b c n w hr ho ha hb hc
    · exact rmay_2 op a b c n w hr ho ha hb hc
    · exact rmay_3 op a b c n w hr ho ha hb hc
    · exact rmay_4 op a b c n w hr ho ha hb hc
    · exact rmay_5 op a b c n w hr ho ha hb hc
    · exact rmay_6 op a b c n w hr ho ha hb hc
  · have hm : may ⟨op, a, b, c, n⟩ = false := by
      by_cases ho : op < 22
      · exact may_reg (fun q => h ⟨ho, q⟩)
      · exact decide_eq_false (fun q => ho q.1)
    rw [hm]
    exact rmay_out op a b c n w h8 h
end Go.Proofs.YtmfckkioccmblaaDoor.cd
