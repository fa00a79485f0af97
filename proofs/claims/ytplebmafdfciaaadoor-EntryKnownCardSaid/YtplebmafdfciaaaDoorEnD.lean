/-
  Whether an entry and an ask may be, by the document's own text: contracts. No condition but the bounds that each theorem names.
-/
import Derived.Test.YtplebmafdfciaaaDoorEnC
namespace Go.Proofs.YtplebmafdfciaaaDoor.en
open Go Go.ChangeShapes Go.WideShapes Go.ChangeAt Go.RowKit
open Go.Proofs.YtplebmafdfciaaaDoor.mm (wi wo ha pop wi_lt wo_lt rhas_in ret_i64 ret_bool ret_u32)
set_option linter.unusedVariables false

theorem high_none {s : Nat} (hs : s < 4294967296) (h : ∀ j, 16 ≤ j → j < 32 → s.testBit j = false) : s < 65536 := by
  have : s < 2 ^ 16 := Nat.lt_pow_two_of_testBit s (fun i hi => by
    by_cases h32 : i < 32
    · exact h i hi h32
    · exact Nat.testBit_lt_two_pow (Nat.lt_of_lt_of_le hs (by show 2 ^ 32 ≤ 2 ^ i; exact Nat.pow_le_pow_right (by decide) (by omega))))
  exact this
theorem high_has {s j : Nat} (h : s.testBit j = true) (hj : 16 ≤ j) : ¬ s < 65536 := fun hl => by
  rw [Nat.testBit_lt_two_pow (Nat.lt_of_lt_of_le hl (by show 2 ^ 16 ≤ 2 ^ j; exact Nat.pow_le_pow_right (by decide) hj))] at h
  cases h

set_option maxHeartbeats 1000000 in
theorem rmay_loop (o : Int) (s : Nat) (w : World) (hs : s < 4294967296) (h0 : -1 ≤ o) (h1 : o ≤ 15) (h2 : 0 ≤ o → s = 0) : Calls Tryd.prog 14 #[.agg #[.int .i64 o, .int .u32 (s : Int)]] w fun e w' => e = .returned (.bool (decide (s < 65536))) ∧ w.grownBy w' none := by
  have HG0 : Hid (w.grownBy (w.alloc (.cells #[.int .i64 o, .int .u32 (s : Int)] 25)) none) := Lib.hid (grown_alloc (grown_refl _ _) _)
  have HS := Lib.hid hs
  have t0 : decide (o < -1) = false := decide_eq_false (by omega)
  have t1 : decide (15 < o) = false := decide_eq_false (by omega)
  obtain ⟨b, hb⟩ : ∃ b, b = decide (0 ≤ o) := ⟨_, rfl⟩
  have t3 : b = true → ((s : Int) != 0) = false := fun h => by
    rw [hb] at h
    have := h2 (of_decide_eq_true h)
    simp [this]
  have t2 := hb.symm
  clear h0 h1 h2 hs hb
  go_enter Tryd.func14, Tryd.ntmps14
  cases b
  all_goals
    first | have t4 := t3 rfl | skip
    clear t3
    go_wp2_with fail
    go_loop [3] (fun i => ∃ k : Nat, 16 ≤ k ∧ k ≤ 32 ∧ i = .int .i64 (k : Int) ∧ (∀ j, 16 ≤ j → j < k → s.testBit j = false)) (fun i => 32 - (intOf i).toNat)
    case atStart => exact ⟨16, by omega, by omega, rfl, fun j h1 h2 => by omega⟩
    case round =>
      obtain ⟨k, hk1, hk2, rfl, hall⟩ := hrel
      have HA := Lib.hid hall
      clear hall
      by_cases hlt : k < 32
      · have hq := rhas_in s k (w.alloc (.cells #[.int .i64 o, .int .u32 (s : Int)] 25)) HS.out hlt
        cases ht : s.testBit k
        · rw [ht] at hq
          have HQ := Lib.hid hq
          have HT := Lib.hid ht
          clear hq ht
          go_wp2_with (go_at_call 28; ((with_reducible refine HQ.out.mono ?_); rintro e w' ⟨rfl, rfl⟩))
          go_round
          case rel => exact ⟨k + 1, by omega, by omega, by go_num, fun j h1 h2 => by
            by_cases e : j = k
            · rw [e]; exact HT.out
            · exact HA.out j h1 (by omega)⟩
          case measure => simp [intOf]; omega
        · rw [ht] at hq
          have HQ := Lib.hid hq
          have HT := Lib.hid ht
          clear hq ht
          go_wp2_with (go_at_call 28; ((with_reducible refine HQ.out.mono ?_); rintro e w' ⟨rfl, rfl⟩))
          go_ret
          exact ⟨ret_bool (decide_eq_false (high_has HT.out hk1)).symm, HG0.out⟩
      · obtain rfl : k = 32 := by omega
        go_wp2_with fail
        go_ret
        exact ⟨ret_bool (decide_eq_true (high_none HS.out HA.out)).symm, HG0.out⟩
theorem rmay_any (o : Int) (s : Nat) (w : World) (hs : s < 4294967296) : Calls Tryd.prog 14 #[.agg #[.int .i64 o, .int .u32 (s : Int)]] w fun e w' => e = .returned (.bool (En.may ⟨o, s⟩)) ∧ w.grownBy w' none := by
  have hg0 : w.grownBy (w.alloc (.cells #[.int .i64 o, .int .u32 (s : Int)] 25)) none := grown_alloc (grown_refl _ _) _
  by_cases h0 : -1 ≤ o
  · by_cases h1 : o ≤ 15
    · by_cases h2 : 0 ≤ o → s = 0
      · have e : En.may ⟨o, s⟩ = decide (s < 65536) := by
          by_cases h : s < 65536
          · rw [may_yes (by omega), decide_eq_true h]
          · rw [may_no (by omega), decide_eq_false h]
        rw [e]; exact rmay_loop o s w hs h0 h1 h2
      · rw [may_no (by omega)]
        have t0 : decide (o < -1) = false := decide_eq_false (by omega)
        have t1 : decide (15 < o) = false := decide_eq_false (by omega)
        have t2 : decide (0 ≤ o) = true := decide_eq_true (by omega)
        have t3 : ((s : Int) != 0) = true := by simp; omega
        clear h0 h1 h2
        go_enter Tryd.func14, Tryd.ntmps14
        go_wp2_with fail
        go_ret
        exact ⟨rfl, hg0⟩
    · rw [may_no (by omega)]
      have t0 : decide (o < -1) = false := decide_eq_false (by omega)
      have t1 : decide (15 < o) = true := decide_eq_true (by omega)
      clear h0 h1
      go_enter Tryd.func14, Tryd.ntmps14
      go_wp2_with fail
      go_ret
      exact ⟨rfl, hg0⟩
  · rw [may_no (by omega)]
    have t0 : decide (o < -1) = true := decide_eq_true (by omega)
    clear h0
    go_enter Tryd.func14, Tryd.ntmps14
    go_wp2_with fail
    go_ret
    exact ⟨rfl, hg0⟩

set_option maxHeartbeats 1000000 in
theorem rask_any (o : Int) (s : Nat) (k x : Int) (w : World) (hs : s < 4294967296) : Calls Tryd.prog 27 #[.agg #[.int .i64 o, .int .u32 (s : Int)], .int .u8 k, .int .i64 x] w fun e w' => e = .returned (.bool (ask ⟨o, s⟩ k x)) ∧ w.grownBy w' none := by
  have HG0 : Hid (w.grownBy (w.alloc (.cells #[.int .i64 o, .int .u32 (s : Int)] 25)) none) := Lib.hid (grown_alloc (grown_refl _ _) _)
  have HM : Hid (∀ w, _) := Lib.hid fun w => rmay_any o s w hs
  unfold ask
  cases hm : En.may ⟨o, s⟩
  · rw [hm] at HM
    clear hm hs
    go_enter Tryd.func27, Tryd.ntmps27
    go_wp2_with (go_at_call 14; ((with_reducible refine (HM.out _).mono ?_); rintro e w5 ⟨rfl, hg5⟩; have HG5 := Lib.hid hg5; clear hg5))
    go_ret
    exact ⟨rfl, grown_trans HG0.out HG5.out⟩
  · rw [hm] at HM
    clear hm hs
    rcases Int.lt_or_le x 0 with hx | hx
    · have e1 : decide (0 ≤ x) = false := decide_eq_false (by omega)
      rw [decide_eq_false (p := 0 ≤ x ∧ x ≤ 15) (by omega)]
      clear hx
      by_cases h1 : k = 1
      · subst h1
        go_enter Tryd.func27, Tryd.ntmps27
        go_wp2_with (go_at_call 14; ((with_reducible refine (HM.out _).mono ?_); rintro e w5 ⟨rfl, hg5⟩; have HG5 := Lib.hid hg5; clear hg5))
        go_ret
        exact ⟨rfl, grown_trans HG0.out HG5.out⟩
      · have f1 : (k == 1) = false := by simpa using h1
        by_cases h2 : k = 2
        · subst h2
          clear h1 f1
          go_enter Tryd.func27, Tryd.ntmps27
          go_wp2_with (go_at_call 14; ((with_reducible refine (HM.out _).mono ?_); rintro e w5 ⟨rfl, hg5⟩; have HG5 := Lib.hid hg5; clear hg5))
          go_ret
          exact ⟨rfl, grown_trans HG0.out HG5.out⟩
        · have f2 : (k == 2) = false := by simpa using h2
          rw [decide_eq_false (p := k = 1 ∨ k = 2) (by omega)]
          clear h1 h2
          go_enter Tryd.func27, Tryd.ntmps27
          go_wp2_with (go_at_call 14; ((with_reducible refine (HM.out _).mono ?_); rintro e w5 ⟨rfl, hg5⟩; have HG5 := Lib.hid hg5; clear hg5))
          go_ret
          exact ⟨rfl, grown_trans HG0.out HG5.out⟩
    · have e1 : decide (0 ≤ x) = true := decide_eq_true hx
      obtain ⟨d, hd⟩ : ∃ d, d = decide (x ≤ 15) := ⟨_, rfl⟩
      have e2 : decide (0 ≤ x ∧ x ≤ 15) = d := by
        rw [hd]; by_cases h : x ≤ 15 <;> simp [h, hx]
      have e3 := hd.symm
      rw [e2]
      clear hx hd e2
      cases d
      all_goals
        by_cases h1 : k = 1
        · subst h1
          go_enter Tryd.func27, Tryd.ntmps27
          go_wp2_with (go_at_call 14; ((with_reducible refine (HM.out _).mono ?_); rintro e w5 ⟨rfl, hg5⟩; have HG5 := Lib.hid hg5; clear hg5))
          go_ret
          exact ⟨rfl, grown_trans HG0.out HG5.out⟩
        · have f1 : (k == 1) = false := by simpa using h1
          by_cases h2 : k = 2
          · subst h2
            clear h1 f1
            go_enter Tryd.func27, Tryd.ntmps27
            go_wp2_with (go_at_call 14; ((with_reducible refine (HM.out _).mono ?_); rintro e w5 ⟨rfl, hg5⟩; have HG5 := Lib.hid hg5; clear hg5))
            go_ret
            exact ⟨rfl, grown_trans HG0.out HG5.out⟩
          · have f2 : (k == 2) = false := by simpa using h2
            rw [decide_eq_false (p := k = 1 ∨ k = 2) (by omega)]
            clear h1 h2
            go_enter Tryd.func27, Tryd.ntmps27
            go_wp2_with (go_at_call 14; ((with_reducible refine (HM.out _).mono ?_); rintro e w5 ⟨rfl, hg5⟩; have HG5 := Lib.hid hg5; clear hg5))
            go_ret
            exact ⟨rfl, grown_trans HG0.out HG5.out⟩
end Go.Proofs.YtplebmafdfciaaaDoor.en
