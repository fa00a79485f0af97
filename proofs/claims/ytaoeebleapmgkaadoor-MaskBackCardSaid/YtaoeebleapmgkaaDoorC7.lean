/-
  The laws MaskBack and MaskOne return true: the mathematics and the walks. No condition beyond that the library's table lies in its variable.
-/
import Derived.Test.YtaoeebleapmgkaaDoorC5
namespace Go.Proofs.YtaoeebleapmgkaaDoor.mm
open Go Go.RowKit
set_option linter.unusedVariables false

theorem setOf_append : ∀ (l1 l2 : List Int) (m : Nat), setOf (l1 ++ l2) m = (setOf l1 m).bind (setOf l2)
  | [], _, _ => rfl
  | x :: l1, l2, m => by
    by_cases h : 0 ≤ x ∧ x < 32
    · rw [List.cons_append, setOf_in h, setOf_in h, setOf_append l1 l2]
    · rw [List.cons_append, setOf_out h, setOf_out h]; rfl
theorem mod_has (m k : Nat) (h : m.testBit k = true) : m % 2 ^ k ||| 2 ^ k = m % 2 ^ (k + 1) := by
  apply Nat.eq_of_testBit_eq
  intro j
  rw [Nat.testBit_or, Nat.testBit_mod_two_pow, Nat.testBit_mod_two_pow, Nat.testBit_two_pow]
  rcases Nat.lt_trichotomy j k with hl | hl | hl
  · rw [decide_eq_true hl, decide_eq_true (show j < k + 1 by omega), decide_eq_false (show ¬ k = j by omega)]; simp
  · subst hl; rw [decide_eq_false (Nat.lt_irrefl j), decide_eq_true (Nat.lt_succ_self j), h]; simp
  · rw [decide_eq_false (show ¬ j < k by omega), decide_eq_false (show ¬ j < k + 1 by omega), decide_eq_false (show ¬ k = j by omega)]; simp
theorem mod_not (m k : Nat) (h : m.testBit k = false) : m % 2 ^ (k + 1) = m % 2 ^ k := by
  apply Nat.eq_of_testBit_eq
  intro j
  rw [Nat.testBit_mod_two_pow, Nat.testBit_mod_two_pow]
  rcases Nat.lt_trichotomy j k with hl | hl | hl
  · rw [decide_eq_true hl, decide_eq_true (show j < k + 1 by omega)]
  · subst hl; rw [h]; simp
  · rw [decide_eq_false (show ¬ j < k by omega), decide_eq_false (show ¬ j < k + 1 by omega)]
theorem setOf_pre (m : Nat) : ∀ k, k ≤ 32 → setOf ((pre m k).map fun x : Nat => (x : Int)) 0 = some (m % 2 ^ k)
  | 0, _ => by simp [pre, setOf, Nat.mod_one]
  | k + 1, hk => by
    cases h : m.testBit k with
    | true =>
      rw [pre_has m k h, List.map_append, setOf_append, setOf_pre m k (by omega)]
      show setOf [(k : Int)] (m % 2 ^ k) = _
      rw [setOf_in (by omega), wi_in _ k (by omega), mod_has m k h]; rfl
    | false => rw [pre_not m k h, setOf_pre m k (by omega), mod_not m k h]
theorem setOf_ones (m : Nat) (hm : m < 4294967296) : setOf ((ones m).map fun x : Nat => (x : Int)) 0 = some m := by
  have h := setOf_pre m 32 (Nat.le_refl _)
  rw [Nat.mod_eq_of_lt (by exact hm)] at h
  exact h

set_option maxHeartbeats 1000000 in
theorem back_true (m : Nat) (w : World) (hm : m < 4294967296) (hT : Tab w) : Calls Tryd.prog 7 #[.int .u32 (m : Int)] w fun e w' => e = .returned (.bool true) ∧ Below w.heap.size w w' := by
  have HT := Lib.hid hT
  have h0w := hT.lt
  have HL := Lib.hid ((list_any m w hm hT).mono (R' := fun e w' => ∃ ad len cap, e = .returned (.slice ad len cap) ∧ Below w.heap.size w w' ∧ Hid (∀ W, W = w' → Calls Tryd.prog 9 #[.slice ad len cap] W fun e w'' => e = .returned (.tuple #[.int .u32 (m : Int), .int .i64 0]) ∧ W = w'')) fun e w' ⟨v, he, hown, hb⟩ => by
    obtain ⟨ad, cap, rfl, hat, hbl⟩ := own_at hown
    refine ⟨ad, (ones m).length, cap, he, hb, Lib.hid ?_⟩
    rintro W rfl
    have h := of_any _ ad (ones m).length cap W (by simp) (by have := pop_le m 32; have := ones_len m; omega) hat
    unfold resM resE at h
    rw [setOf_ones m hm] at h
    exact h)
  clear hT
  go_enter Tryd.func7, Tryd.ntmps7
  go_wp2_with (first
    | (go_at_call 22; ((with_reducible refine HL.out.mono ?_); rintro e w1 ⟨ad, len, cap, rfl, hb1, H9⟩; have HB1 := Lib.hid hb1; have HT1 := Lib.hid (HT.out.below hb1 h0w); clear hb1))
    | (go_at_call 9; ((with_reducible refine (H9.out _ rfl).mono ?_); rintro e w' ⟨rfl, rfl⟩))
    | (go_at_call 10; ((with_reducible refine (works_any _ HT1.out).mono ?_); rintro e w2 ⟨rfl, hbe⟩)))
  go_ret
  exact ⟨rfl, HB1.out.trans (hbe.mono HB1.out.size)⟩

theorem wi_bit (m n j : Nat) (hn : n < 32) : (wi m n).testBit j = (m.testBit j || decide (n = j)) := by
  rw [wi_in m n hn, Nat.testBit_or, Nat.testBit_two_pow]
theorem wo_bit (m n j : Nat) (hm : m < 4294967296) (hn : n < 32) : (wo m n).testBit j = (m.testBit j && !decide (n = j)) := by
  rw [wo_in m n hn, anot_bit m n j hm hn]
theorem pop_one (m n : Nat) (hm : m < 4294967296) (hn : n < 32) : ∀ k, pop (wi m n) k = pop (wo m n) k + if n < k then 1 else 0
  | 0 => rfl
  | k + 1 => by
    show pop (wi m n) k + ((wi m n).testBit k).toNat = pop (wo m n) k + ((wo m n).testBit k).toNat + _
    rw [pop_one m n hm hn k, wi_bit m n k hn, wo_bit m n k hm hn]
    rcases Nat.lt_trichotomy n k with h | h | h
    · rw [if_pos h, if_pos (by omega), decide_eq_false (by omega)]; simp; omega
    · subst h; rw [if_neg (by omega), if_pos (by omega)]; simp
    · rw [if_neg (by omega), if_neg (by omega), decide_eq_false (by omega)]; simp
theorem wo_wi (m n : Nat) (hm : m < 4294967296) (hn : n < 32) : wo (wi m n) n = wo m n := by
  apply Nat.eq_of_testBit_eq
  intro j
  rw [wo_bit _ n j (wi_lt m n hm) hn, wi_bit m n j hn, wo_bit m n j hm hn]
  by_cases e : n = j <;> simp [e]
theorem wi_wo (m n : Nat) (hm : m < 4294967296) (hn : n < 32) : wi (wo m n) n = wi m n := by
  apply Nat.eq_of_testBit_eq
  intro j
  rw [wi_bit _ n j hn, wi_bit m n j hn, wo_bit m n j hm hn]
  by_cases e : n = j <;> simp [e]
theorem ha_wi (m n : Nat) (o : Int) (hn : n < 32) (ho : o ≠ n) : ha (wi m n) o = ha m o := by
  rcases in_or o with ⟨k, hk, rfl⟩ | h
  · rw [ha_in _ k hk, ha_in _ k hk, wi_bit m n k hn, decide_eq_false (by omega)]; simp
  · rw [ha_out _ o h, ha_out _ o h]
theorem ha_wo (m n : Nat) (o : Int) (hm : m < 4294967296) (hn : n < 32) (ho : o ≠ n) : ha (wo m n) o = ha m o := by
  rcases in_or o with ⟨k, hk, rfl⟩ | h
  · rw [ha_in _ k hk, ha_in _ k hk, wo_bit m n k hm hn, decide_eq_false (by omega)]; simp
  · rw [ha_out _ o h, ha_out _ o h]

set_option maxHeartbeats 1000000 in
theorem one_out (m : Nat) (n o : Int) (w : World) (hm : m < 4294967296) (hn : n < 0 ∨ 32 ≤ n) (hT : Tab w) : Calls Tryd.prog 8 #[.int .u32 (m : Int), .int .i64 n, .int .i64 o] w fun e w' => e = .returned (.bool true) ∧ Below w.heap.size w w' := by
  have HT := Lib.hid hT
  have h14 := Lib.hid (with_out m n w hm hn)
  have h16 := Lib.hid (wout_out m n w hm hn)
  have h18 := Lib.hid (has_out m n w hm hn)
  clear hT
  by_cases h0 : n < 0
  · clear hn
    go_enter Tryd.func8, Tryd.ntmps8
    go_wp2_with (first
      | (go_at_call 14; ((with_reducible refine h14.out.mono ?_); rintro e w' ⟨rfl, rfl⟩))
      | (go_at_call 16; ((with_reducible refine h16.out.mono ?_); rintro e w' ⟨rfl, rfl⟩))
      | (go_at_call 18; ((with_reducible refine h18.out.mono ?_); rintro e w' ⟨rfl, rfl⟩))
      | (go_at_call 10; ((with_reducible refine (works_any _ HT.out).mono ?_); rintro e w2 ⟨rfl, hbe⟩)))
    go_ret
    exact ⟨rfl, hbe⟩
  · have h1 : decide (31 < n) = true := by simp; omega
    have h2 : decide (n < 0) = false := by simp; omega
    clear hn h0
    go_enter Tryd.func8, Tryd.ntmps8
    go_wp2_with (first
      | (go_at_call 14; ((with_reducible refine h14.out.mono ?_); rintro e w' ⟨rfl, rfl⟩))
      | (go_at_call 16; ((with_reducible refine h16.out.mono ?_); rintro e w' ⟨rfl, rfl⟩))
      | (go_at_call 18; ((with_reducible refine h18.out.mono ?_); rintro e w' ⟨rfl, rfl⟩))
      | (go_at_call 10; ((with_reducible refine (works_any _ HT.out).mono ?_); rintro e w2 ⟨rfl, hbe⟩)))
    go_ret
    exact ⟨rfl, hbe⟩

set_option maxHeartbeats 2000000 in
theorem one_in (m n : Nat) (o : Int) (w : World) (hm : m < 4294967296) (hn : n < 32) (hT : Tab w) : Calls Tryd.prog 8 #[.int .u32 (m : Int), .int .i64 (n : Int), .int .i64 o] w fun e w' => e = .returned (.bool true) ∧ Below w.heap.size w w' := by
  have HT := Lib.hid hT
  have h14 := with_any m n w hm
  have h16 := wout_any m n w hm
  have hca := fun w => count_any (wi m n) w (wi_lt m n hm)
  have hcb := fun w => count_any (wo m n) w (wo_lt m n hm)
  have hp := pop_one m n hm hn 32
  rw [if_pos hn] at hp
  have hle := pop_le (wo m n) 32
  have h18a := has_any (wi m n) n w (wi_lt m n hm)
  have h18b := has_any (wo m n) n w (wo_lt m n hm)
  rw [ha_in _ n hn, wi_bit m n n hn] at h18a
  rw [ha_in _ n hn, wo_bit m n n hm hn] at h18b
  simp only [decide_true, Bool.or_true] at h18a
  simp only [decide_true, Bool.not_true, Bool.and_false] at h18b
  have h16a := fun w => wout_any (wi m n) n w (wi_lt m n hm)
  have h14b := fun w => with_any (wo m n) n w (wo_lt m n hm)
  rw [wo_wi m n hm hn] at h16a
  rw [wi_wo m n hm hn] at h14b
  have hoa := fun w => has_any (wi m n) o w (wi_lt m n hm)
  have hob := fun w => has_any (wo m n) o w (wo_lt m n hm)
  have hom := fun w => has_any m o w hm
  have hxa := ha_wi m n o hn
  have hxb := ha_wo m n o hm hn
  obtain ⟨a, ha'⟩ : ∃ a, a = wi m n := ⟨_, rfl⟩
  obtain ⟨b, hb'⟩ : ∃ b, b = wo m n := ⟨_, rfl⟩
  rw [← ha'] at h14 hca hp h18a h16a h14b hoa hxa
  rw [← hb'] at h16 hcb hp hle h18b h16a h14b hob hxb
  clear ha' hb'
  obtain ⟨c, hc⟩ : ∃ c, c = pop b 32 := ⟨_, rfl⟩
  rw [← hc] at hcb hp hle
  rw [hp] at hca
  obtain ⟨t, ht⟩ : ∃ t, t = ha m o := ⟨_, rfl⟩
  rw [← ht] at hom hxa hxb
  have H14 := Lib.hid h14
  have H16 := Lib.hid h16
  have HCA := Lib.hid hca
  have HCB := Lib.hid hcb
  have H18A := Lib.hid h18a
  have H18B := Lib.hid h18b
  have H16A := Lib.hid h16a
  have H14B := Lib.hid h14b
  have g1 : decide (31 < (n : Int)) = false := by simp; omega
  have g2 : decide ((n : Int) < 0) = false := by simp
  clear hT h14 h16 hca hcb h18a h18b h16a h14b hc hp ht hn
  by_cases ho : o = (n : Int)
  · subst ho
    clear hxa hxb hoa hob hom
    go_enter Tryd.func8, Tryd.ntmps8
    go_wp2_with (first
      | (go_at_call 14; ((with_reducible refine H14.out.mono ?_); rintro e w' ⟨rfl, rfl⟩))
      | (go_at_call 16; ((with_reducible refine H16.out.mono ?_); rintro e w' ⟨rfl, rfl⟩))
      | (go_at_call 18; ((with_reducible refine H18A.out.mono ?_); rintro e w' ⟨rfl, rfl⟩))
      | (go_at_call 18; ((with_reducible refine H18B.out.mono ?_); rintro e w' ⟨rfl, rfl⟩))
      | (go_at_call 12; ((with_reducible refine (HCA.out _).mono ?_); rintro e w' ⟨rfl, na, rfl⟩))
      | (go_at_call 12; ((with_reducible refine (HCB.out _).mono ?_); rintro e w' ⟨rfl, nb, rfl⟩))
      | (go_at_call 16; ((with_reducible refine (H16A.out _).mono ?_); rintro e w' ⟨rfl, rfl⟩))
      | (go_at_call 14; ((with_reducible refine (H14B.out _).mono ?_); rintro e w' ⟨rfl, rfl⟩))
      | (go_at_call 10; ((with_reducible refine (works_any _ (HT.out.drewN _)).mono ?_); rintro e w2 ⟨rfl, hbe⟩)))
    go_ret
    exact ⟨rfl, (below_drewN (Below.refl _ _) _).trans hbe⟩
  · rw [hxa ho] at hoa
    rw [hxb ho] at hob
    have HO := Lib.hid ho
    have g3 : (o == (n : Int)) = false := by simpa using ho
    clear hxa hxb ho
    cases t
    all_goals
      have HOA := Lib.hid hoa
      have HOB := Lib.hid hob
      have HOM := Lib.hid hom
      clear hoa hob hom
      go_enter Tryd.func8, Tryd.ntmps8
      go_wp2_with (first
        | (go_at_call 14; ((with_reducible refine H14.out.mono ?_); rintro e w' ⟨rfl, rfl⟩))
        | (go_at_call 16; ((with_reducible refine H16.out.mono ?_); rintro e w' ⟨rfl, rfl⟩))
        | (go_at_call 18; ((with_reducible refine H18A.out.mono ?_); rintro e w' ⟨rfl, rfl⟩))
        | (go_at_call 18; ((with_reducible refine H18B.out.mono ?_); rintro e w' ⟨rfl, rfl⟩))
        | (go_at_call 12; ((with_reducible refine (HCA.out _).mono ?_); rintro e w' ⟨rfl, na, rfl⟩))
        | (go_at_call 12; ((with_reducible refine (HCB.out _).mono ?_); rintro e w' ⟨rfl, nb, rfl⟩))
        | (go_at_call 16; ((with_reducible refine (H16A.out _).mono ?_); rintro e w' ⟨rfl, rfl⟩))
        | (go_at_call 14; ((with_reducible refine (H14B.out _).mono ?_); rintro e w' ⟨rfl, rfl⟩))
        | (go_at_call 18; ((with_reducible refine (HOA.out _).mono ?_); rintro e w' ⟨rfl, rfl⟩))
        | (go_at_call 18; ((with_reducible refine (HOB.out _).mono ?_); rintro e w' ⟨rfl, rfl⟩))
        | (go_at_call 18; ((with_reducible refine (HOM.out _).mono ?_); rintro e w' ⟨rfl, rfl⟩))
        | (go_at_call 10; ((with_reducible refine (works_any _ (HT.out.drewN _)).mono ?_); rintro e w2 ⟨rfl, hbe⟩)))
      go_ret
      exact ⟨rfl, (below_drewN (Below.refl _ _) _).trans hbe⟩

theorem one_true (m : Nat) (n o : Int) (w : World) (hm : m < 4294967296) (hT : Tab w) : Calls Tryd.prog 8 #[.int .u32 (m : Int), .int .i64 n, .int .i64 o] w fun e w' => e = .returned (.bool true) ∧ Below w.heap.size w w' := by
  rcases in_or n with ⟨k, hk, rfl⟩ | h
  · exact one_in m k o w hm hk hT
  · exact one_out m n o w hm h hT
end Go.Proofs.YtaoeebleapmgkaaDoor.mm
