/-
  What the functions of package mask that take single numbers answer, and those of the document's own beside them: contracts. No condition beyond the bounds that each theorem names.
-/
import Derived.Test.YtplebmafdfciaaaDoorRows
import Derived.Test.YtplebmafdfciaaaDoorMaM
import Derived.WalkKit
import Derived.ProofKit
import Derived.OpenShut
import Derived.WalkLawsBesides
import Derived.Handy
import Derived.Laws.BitsAllLaws
import Derived.Lib.Hide
import Derived.LoopTactic
import Derived.Outline
namespace Go.Proofs.YtplebmafdfciaaaDoor.mm
open Go Go.ChangeShapes Go.WideShapes Go.ChangeAt Go.RowKit
set_option linter.unusedVariables false

theorem may_in (n : Int) (w : World) (h0 : 0 ≤ n) (h1 : n < 32) : Calls Tryd.prog 36 #[.int .i64 n] w fun e w' => e = .returned (.bool true) ∧ w = w' := by
  go_enter Tryd.func36, Tryd.ntmps36
  go_wp2
  go_ret
  exact ⟨rfl, rfl⟩
theorem may_out (n : Int) (w : World) (h : n < 0 ∨ 32 ≤ n) : Calls Tryd.prog 36 #[.int .i64 n] w fun e w' => e = .returned (.bool false) ∧ w = w' := by
  by_cases h0 : 0 ≤ n
  · have h1 : decide (n < 32) = false := by simp; omega
    clear h
    go_enter Tryd.func36, Tryd.ntmps36
    go_wp2
    go_ret
    exact ⟨rfl, rfl⟩
  · clear h
    go_enter Tryd.func36, Tryd.ntmps36
    go_wp2
    go_ret
    exact ⟨rfl, rfl⟩

theorem ret_u32 {a b : Int} (h : a = b) : Ending.returned (.int .u32 a) = Ending.returned (.int .u32 b) := by rw [h]
theorem ret_i64 {a b : Int} (h : a = b) : Ending.returned (.int .i64 a) = Ending.returned (.int .i64 b) := by rw [h]
theorem ret_bool {a b : Bool} (h : a = b) : Ending.returned (.bool a) = Ending.returned (.bool b) := by rw [h]
theorem pow_lt (n : Nat) (h : n < 32) : 0 < 2 ^ n ∧ 2 ^ n ≤ 2147483648 := ⟨Nat.two_pow_pos n, by show 2 ^ n ≤ 2 ^ 31; exact Nat.pow_le_pow_right (by decide) (by omega)⟩

theorem only_in (n : Nat) (p : Nat) (w : World) (h1 : n < 32) (hp : p = 2 ^ n) : Calls Tryd.prog 31 #[.int .i64 (n : Int)] w fun e w' => e = .returned (.int .u32 (p : Int)) ∧ w = w' := by
  have hq := Lib.hid (may_in n w (by omega) (by omega))
  have HP := Lib.hid hp
  clear hp
  go_enter Tryd.func31, Tryd.ntmps31
  go_wp2_with (go_at_call 36; ((with_reducible refine hq.out.mono ?_); rintro e w' ⟨rfl, rfl⟩))
  go_ret
  have hb := pow_lt n h1
  rw [← HP.out] at hb
  refine ⟨ret_u32 ?_, rfl⟩
  have e : ((2 ^ n : Nat) : Int) = (2 : Int) ^ n := by simp
  rw [← e, ← HP.out]; omega
theorem only_out (n : Int) (w : World) (h : n < 0 ∨ 32 ≤ n) : Calls Tryd.prog 31 #[.int .i64 n] w fun e w' => e = .returned (.int .u32 0) ∧ w = w' := by
  have hq := Lib.hid (may_out n w h)
  clear h
  go_enter Tryd.func31, Tryd.ntmps31
  go_wp2_with (go_at_call 36; ((with_reducible refine hq.out.mono ?_); rintro e w' ⟨rfl, rfl⟩))
  go_ret
  exact ⟨rfl, rfl⟩

theorem power_any (n p : Nat) (w : World) (h : n < 32) (hp : p = 2 ^ n) : Calls Tryd.prog 35 #[.int .i64 (n : Int)] w fun e w' => e = .returned (.int .u32 (p : Int)) ∧ w = w' := by
  have HP := Lib.hid hp
  clear hp
  go_enter Tryd.func35, Tryd.ntmps35
  go_wp2
  go_loop [3, 4] (fun x i => ∃ k : Nat, k ≤ n ∧ i = .int .i64 (k : Int) ∧ ∃ y : Nat, y = 2 ^ k ∧ x = .int .u32 (y : Int)) (fun _ i => n - (intOf i).toNat)
  case atStart => exact ⟨0, Nat.zero_le _, rfl, 1, rfl, rfl⟩
  case round =>
    obtain ⟨k, hk, rfl, x, hx, rfl⟩ := hrel
    by_cases hlt : k < n
    · have hp : x * 2 ≤ 4294967295 := by
        have : 2 ^ (k + 1) < 2 ^ 32 := Nat.pow_lt_pow_right (by decide) (by omega)
        rw [Nat.pow_succ] at this; omega
      have HX := Lib.hid hx
      clear hx
      go_wp2
      go_round
      case rel => exact ⟨k + 1, by omega, by go_num, 2 * x, by rw [Nat.pow_succ, ← HX.out]; omega, by go_num⟩
      case measure => simp [intOf]; omega
    · have hkn : k = n := by omega
      subst hkn
      have HX := Lib.hid (hx.trans HP.out.symm)
      clear hx
      go_wp2
      go_ret
      exact ⟨ret_u32 (by rw [HX.out]), rfl⟩

theorem with_in (m n : Nat) (w : World) (hm : m < 4294967296) (h1 : n < 32) : Calls Tryd.prog 19 #[.int .u32 (m : Int), .int .i64 (n : Int)] w fun e w' => e = .returned (.int .u32 ((m ||| 2 ^ n : Nat) : Int)) ∧ w = w' := by
  obtain ⟨p, hp⟩ : ∃ p, p = 2 ^ n := ⟨_, rfl⟩
  have hq := Lib.hid (only_in n p w h1 hp)
  have hb := pow_lt n h1
  rw [← hp] at hb ⊢
  clear hp
  go_enter Tryd.func19, Tryd.ntmps19
  go_wp2_with (go_at_call 31; ((with_reducible refine hq.out.mono ?_); rintro e w' ⟨rfl, rfl⟩))
  go_ret
  exact ⟨ret_u32 (u32_or_nat m p hm (by omega)), rfl⟩
theorem with_out (m : Nat) (n : Int) (w : World) (hm : m < 4294967296) (h : n < 0 ∨ 32 ≤ n) : Calls Tryd.prog 19 #[.int .u32 (m : Int), .int .i64 n] w fun e w' => e = .returned (.int .u32 (m : Int)) ∧ w = w' := by
  have hq := Lib.hid (only_out n w h)
  clear h
  go_enter Tryd.func19, Tryd.ntmps19
  go_wp2_with (go_at_call 31; ((with_reducible refine hq.out.mono ?_); rintro e w' ⟨rfl, rfl⟩))
  go_ret
  exact ⟨ret_u32 ((u32_or_nat m 0 hm (by omega)).trans (by simp)), rfl⟩
theorem wout_in (m n : Nat) (w : World) (hm : m < 4294967296) (h1 : n < 32) : Calls Tryd.prog 20 #[.int .u32 (m : Int), .int .i64 (n : Int)] w fun e w' => e = .returned (.int .u32 ((m &&& (4294967295 - 2 ^ n) : Nat) : Int)) ∧ w = w' := by
  obtain ⟨p, hp⟩ : ∃ p, p = 2 ^ n := ⟨_, rfl⟩
  have hq := Lib.hid (only_in n p w h1 hp)
  have hb := pow_lt n h1
  rw [← hp] at hb ⊢
  clear hp
  go_enter Tryd.func20, Tryd.ntmps20
  go_wp2_with (go_at_call 31; ((with_reducible refine hq.out.mono ?_); rintro e w' ⟨rfl, rfl⟩))
  go_ret
  exact ⟨ret_u32 (u32_andNot_nat m p hm (by omega)), rfl⟩
theorem wout_out (m : Nat) (n : Int) (w : World) (hm : m < 4294967296) (h : n < 0 ∨ 32 ≤ n) : Calls Tryd.prog 20 #[.int .u32 (m : Int), .int .i64 n] w fun e w' => e = .returned (.int .u32 (m : Int)) ∧ w = w' := by
  have hq := Lib.hid (only_out n w h)
  clear h
  go_enter Tryd.func20, Tryd.ntmps20
  go_wp2_with (go_at_call 31; ((with_reducible refine hq.out.mono ?_); rintro e w' ⟨rfl, rfl⟩))
  go_ret
  exact ⟨ret_u32 ((u32_andNot_nat m 0 hm (by omega)).trans (by
    have : m &&& (4294967295 - 0) = m := by
      rw [show 4294967295 - 0 = 2 ^ 32 - 1 by decide, Nat.and_two_pow_sub_one_eq_mod]; omega
    rw [this])), rfl⟩
theorem has_in (m n : Nat) (w : World) (hm : m < 4294967296) (h1 : n < 32) : Calls Tryd.prog 16 #[.int .u32 (m : Int), .int .i64 (n : Int)] w fun e w' => e = .returned (.bool (m.testBit n)) ∧ w = w' := by
  obtain ⟨p, hp⟩ : ∃ p, p = 2 ^ n := ⟨_, rfl⟩
  have hq := Lib.hid (only_in n p w h1 hp)
  have hb := pow_lt n h1
  have ha := and_bit m n
  rw [← hp] at hb ha
  have HA := Lib.hid ha
  clear hp ha
  go_enter Tryd.func16, Tryd.ntmps16
  go_wp2_with (go_at_call 31; ((with_reducible refine hq.out.mono ?_); rintro e w' ⟨rfl, rfl⟩))
  go_ret
  exact ⟨ret_bool (by
    rw [u32_and_nat m p hm (by omega), HA.out]
    cases m.testBit n
    · rfl
    · have hp0 : ((p : Nat) : Int) ≠ 0 := by omega
      simpa using hp0), rfl⟩
theorem has_out (m : Nat) (n : Int) (w : World) (hm : m < 4294967296) (h : n < 0 ∨ 32 ≤ n) : Calls Tryd.prog 16 #[.int .u32 (m : Int), .int .i64 n] w fun e w' => e = .returned (.bool false) ∧ w = w' := by
  have hq := Lib.hid (only_out n w h)
  clear h
  go_enter Tryd.func16, Tryd.ntmps16
  go_wp2_with (go_at_call 31; ((with_reducible refine hq.out.mono ?_); rintro e w' ⟨rfl, rfl⟩))
  go_ret
  exact ⟨ret_bool (by
    rw [show bits .and .u32 (m : Int) 0 = ((m &&& 0 : Nat) : Int) from u32_and_nat m 0 hm (by omega)]; simp), rfl⟩
theorem rhas_in (m n : Nat) (w : World) (hm : m < 4294967296) (h1 : n < 32) : Calls Tryd.prog 28 #[.int .u32 (m : Int), .int .i64 (n : Int)] w fun e w' => e = .returned (.bool (m.testBit n)) ∧ w = w' := by
  obtain ⟨p, hp⟩ : ∃ p, p = 2 ^ n := ⟨_, rfl⟩
  have hq := Lib.hid (power_any n p w h1 hp)
  have hb := pow_lt n h1
  have ht := Nat.testBit_eq_decide_div_mod_eq (x := m) (i := n)
  rw [← hp] at hb ht
  have HA := Lib.hid ht
  have h31 : n ≤ 31 := by omega
  have hz : ((p : Int) == 0) = false := by simp; omega
  clear hp ht h1
  go_enter Tryd.func28, Tryd.ntmps28
  go_wp2_with (go_at_call 35; ((with_reducible refine hq.out.mono ?_); rintro e w' ⟨rfl, rfl⟩))
  go_ret
  exact ⟨ret_bool (by
    rw [HA.out, ← Int.natCast_ediv, Bool.eq_iff_iff]; simp; omega), rfl⟩
theorem rhas_out (m : Nat) (n : Int) (w : World) (h : n < 0 ∨ 32 ≤ n) : Calls Tryd.prog 28 #[.int .u32 (m : Int), .int .i64 n] w fun e w' => e = .returned (.bool false) ∧ w = w' := by
  by_cases h0 : 0 ≤ n
  · have h1 : decide (n ≤ 31) = false := by simp; omega
    clear h
    go_enter Tryd.func28, Tryd.ntmps28
    go_wp2
    go_ret
    exact ⟨rfl, rfl⟩
  · clear h
    go_enter Tryd.func28, Tryd.ntmps28
    go_wp2
    go_ret
    exact ⟨rfl, rfl⟩

/-- m, and n; m, but not n: for every int n. -/
def wi (m : Nat) (n : Int) : Nat := if 0 ≤ n ∧ n < 32 then m ||| 2 ^ n.toNat else m
def wo (m : Nat) (n : Int) : Nat := if 0 ≤ n ∧ n < 32 then m &&& (4294967295 - 2 ^ n.toNat) else m
def ha (m : Nat) (n : Int) : Bool := decide (0 ≤ n ∧ n < 32) && m.testBit n.toNat
theorem wi_lt (m : Nat) (n : Int) (hm : m < 4294967296) : wi m n < 4294967296 := by
  unfold wi
  split
  · have := pow_lt n.toNat (by omega)
    exact Nat.or_lt_two_pow (n := 32) hm (by omega)
  · exact hm
theorem wo_lt (m : Nat) (n : Int) (hm : m < 4294967296) : wo m n < 4294967296 := by
  unfold wo
  split
  · exact Nat.lt_of_le_of_lt Nat.and_le_left hm
  · exact hm
theorem wi_in (m n : Nat) (h : n < 32) : wi m (n : Int) = m ||| 2 ^ n := by unfold wi; rw [if_pos (by omega)]; rfl
theorem wo_in (m n : Nat) (h : n < 32) : wo m (n : Int) = m &&& (4294967295 - 2 ^ n) := by unfold wo; rw [if_pos (by omega)]; rfl
theorem ha_in (m n : Nat) (h : n < 32) : ha m (n : Int) = m.testBit n := by unfold ha; rw [decide_eq_true (by omega)]; rfl
theorem wi_out (m : Nat) (n : Int) (h : n < 0 ∨ 32 ≤ n) : wi m n = m := by unfold wi; rw [if_neg (by omega)]
theorem wo_out (m : Nat) (n : Int) (h : n < 0 ∨ 32 ≤ n) : wo m n = m := by unfold wo; rw [if_neg (by omega)]
theorem ha_out (m : Nat) (n : Int) (h : n < 0 ∨ 32 ≤ n) : ha m n = false := by unfold ha; rw [decide_eq_false (by omega)]; rfl
theorem in_or (n : Int) : (∃ k : Nat, k < 32 ∧ n = (k : Int)) ∨ (n < 0 ∨ 32 ≤ n) := by
  by_cases h : 0 ≤ n ∧ n < 32
  · exact .inl ⟨n.toNat, by omega, by omega⟩
  · exact .inr (by omega)

theorem with_any (m : Nat) (n : Int) (w : World) (hm : m < 4294967296) : Calls Tryd.prog 19 #[.int .u32 (m : Int), .int .i64 n] w fun e w' => e = .returned (.int .u32 (wi m n : Nat)) ∧ w = w' := by
  rcases in_or n with ⟨k, hk, rfl⟩ | h
  · rw [wi_in m k hk]; exact with_in m k w hm hk
  · rw [wi_out m n h]; exact with_out m n w hm h
theorem wout_any (m : Nat) (n : Int) (w : World) (hm : m < 4294967296) : Calls Tryd.prog 20 #[.int .u32 (m : Int), .int .i64 n] w fun e w' => e = .returned (.int .u32 (wo m n : Nat)) ∧ w = w' := by
  rcases in_or n with ⟨k, hk, rfl⟩ | h
  · rw [wo_in m k hk]; exact wout_in m k w hm hk
  · rw [wo_out m n h]; exact wout_out m n w hm h
theorem has_any (m : Nat) (n : Int) (w : World) (hm : m < 4294967296) : Calls Tryd.prog 16 #[.int .u32 (m : Int), .int .i64 n] w fun e w' => e = .returned (.bool (ha m n)) ∧ w = w' := by
  rcases in_or n with ⟨k, hk, rfl⟩ | h
  · rw [ha_in m k hk]; exact has_in m k w hm hk
  · rw [ha_out m n h]; exact has_out m n w hm h
theorem rhas_any (m : Nat) (n : Int) (w : World) (hm : m < 4294967296) : Calls Tryd.prog 28 #[.int .u32 (m : Int), .int .i64 n] w fun e w' => e = .returned (.bool (ha m n)) ∧ w = w' := by
  rcases in_or n with ⟨k, hk, rfl⟩ | h
  · rw [ha_in m k hk]; exact rhas_in m k w hm hk
  · rw [ha_out m n h]; exact rhas_out m n w h

theorem rwith_any (m : Nat) (n : Int) (w : World) (hm : m < 4294967296) : Calls Tryd.prog 29 #[.int .u32 (m : Int), .int .i64 n] w fun e w' => e = .returned (.int .u32 (wi m n : Nat)) ∧ w = w' := by
  rcases in_or n with ⟨k, hk, rfl⟩ | h
  · rw [wi_in m k hk]
    have hq := rhas_in m k w hm hk
    obtain ⟨p, hp⟩ : ∃ p, p = 2 ^ k := ⟨_, rfl⟩
    have hb := pow_lt k hk
    have HQ := Lib.hid (power_any k p w hk hp)
    have o1 := or_has m k
    have o2 := or_add m k
    rw [← hp] at hb o1 o2 ⊢
    have h31 : k ≤ 31 := by omega
    clear hk hp
    cases ht : m.testBit k with
    | true =>
      rw [ht] at hq
      have HH := Lib.hid hq
      rw [o1 ht]
      clear hq ht o1 o2
      go_enter Tryd.func29, Tryd.ntmps29
      go_wp2_with (go_at_call 28; ((with_reducible refine HH.out.mono ?_); rintro e w' ⟨rfl, rfl⟩))
      go_ret
      exact ⟨rfl, rfl⟩
    | false =>
      rw [ht] at hq
      have HH := Lib.hid hq
      have hlt : m + p < 4294967296 := by
        rw [← o2 ht]; exact Nat.or_lt_two_pow (n := 32) hm (by omega)
      rw [o2 ht]
      clear hq ht o1 o2
      go_enter Tryd.func29, Tryd.ntmps29
      go_wp2_with (first
        | (go_at_call 28; ((with_reducible refine HH.out.mono ?_); rintro e w' ⟨rfl, rfl⟩))
        | (go_at_call 35; ((with_reducible refine HQ.out.mono ?_); rintro e w' ⟨rfl, rfl⟩)))
      go_ret
      exact ⟨ret_u32 (by omega), rfl⟩
  · rw [wi_out m n h]
    by_cases h0 : 0 ≤ n
    · have h1 : decide (n ≤ 31) = false := by simp; omega
      have h2 : decide (31 < n) = true := by simp; omega
      clear h
      go_enter Tryd.func29, Tryd.ntmps29
      go_wp2
      go_ret
      exact ⟨rfl, rfl⟩
    · clear h
      go_enter Tryd.func29, Tryd.ntmps29
      go_wp2
      go_ret
      exact ⟨rfl, rfl⟩
theorem rwout_any (m : Nat) (n : Int) (w : World) (hm : m < 4294967296) : Calls Tryd.prog 30 #[.int .u32 (m : Int), .int .i64 n] w fun e w' => e = .returned (.int .u32 (wo m n : Nat)) ∧ w = w' := by
  have HH := Lib.hid (rhas_any m n w hm)
  cases hh : ha m n with
  | false =>
    have e : wo m n = m := by
      rcases in_or n with ⟨k, hk, rfl⟩ | h
      · rw [ha_in m k hk] at hh; rw [wo_in m k hk]; exact anot_has m k hm hk hh
      · exact wo_out m n h
    rw [e]
    rw [hh] at HH
    clear e hh
    go_enter Tryd.func30, Tryd.ntmps30
    go_wp2_with (go_at_call 28; ((with_reducible refine HH.out.mono ?_); rintro e w' ⟨rfl, rfl⟩))
    go_ret
    exact ⟨rfl, rfl⟩
  | true =>
    rw [hh] at HH
    rcases in_or n with ⟨k, hk, rfl⟩ | h
    · obtain ⟨p, hp⟩ : ∃ p, p = 2 ^ k := ⟨_, rfl⟩
      have hb := pow_lt k hk
      have HQ := Lib.hid (power_any k p w hk hp)
      rw [ha_in m k hk] at hh
      have e : wo m k = m - 2 ^ k := by rw [wo_in m k hk]; exact anot_sub m k hm hk hh
      have hle : 2 ^ k ≤ m := Nat.ge_two_pow_of_testBit hh
      rw [← hp] at hb e hle
      rw [e]
      have es : ((m - p : Nat) : Int) = (m : Int) - (p : Int) := by omega
      rw [es]
      clear e hh hp es
      go_enter Tryd.func30, Tryd.ntmps30
      go_wp2_with (first
        | (go_at_call 28; ((with_reducible refine HH.out.mono ?_); rintro e w' ⟨rfl, rfl⟩))
        | (go_at_call 35; ((with_reducible refine HQ.out.mono ?_); rintro e w' ⟨rfl, rfl⟩)))
      go_ret
      exact ⟨ret_u32 (by omega), rfl⟩
    · rw [ha_out m n h] at hh; cases hh
end Go.Proofs.YtplebmafdfciaaaDoor.mm
