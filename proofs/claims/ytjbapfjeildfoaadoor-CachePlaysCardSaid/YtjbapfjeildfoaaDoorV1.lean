/-
  What victim's functions answer: contracts (as in stage 6, at this seat's numbers). No condition but the bounds that each theorem names.
-/
import Derived.Test.YtjbapfjeildfoaaDoorP1
namespace Go.Proofs.YtjbapfjeildfoaaDoor.kk
open Go Go.ChangeShapes Go.WideShapes Go.ChangeAt Go.RowKit
set_option linter.unusedVariables false

theorem grown_drewN (w : World) (n : Nat) (own : Option Nat) : w.grownBy (w.drewN n) own := by
  exact ⟨rfl, rfl, rfl, Nat.le_refl _, fun _ _ _ => rfl⟩

/-- A bit of a memory. -/
def bt (m b : Nat) : Nat := m / 2 ^ b % 2
/-- A memory whose bit points away from what was used. -/
def away (m b u : Nat) : Nat := m - bt m b * 2 ^ b + (1 - u) * 2 ^ b

theorem bt_lt (m b : Nat) : bt m b < 2 := Nat.mod_lt _ (by decide)
theorem away_bits : ∀ (m : Fin 256) (b : Fin 3) (u : Fin 2), (m.val &&& (255 - 2 ^ b.val)) ||| ((1 - u.val) * 2 ^ b.val) = away m.val b.val u.val ∧ away m.val b.val u.val < 256 := by decide +kernel
theorem away_lt (m b u : Nat) (hm : m < 256) (hb : b < 3) (hu : u < 2) : away m b u < 256 := (away_bits ⟨m, hm⟩ ⟨b, hb⟩ ⟨u, hu⟩).2
theorem away_int (m b u : Nat) (hm : m < 256) (hb : b < 3) (hu : u < 2) : bits .or .u8 (bits .andNot .u8 (m : Int) ((2 ^ b : Nat) : Int)) (((1 - u) * 2 ^ b : Nat) : Int) = ((away m b u : Nat) : Int) := by
  have h2 : 2 ^ b < 256 := Nat.lt_of_lt_of_le (Nat.pow_lt_pow_right (by decide) hb) (by decide)
  have h3 : (1 - u) * 2 ^ b < 256 := Nat.lt_of_le_of_lt (Nat.mul_le_mul_right _ (show 1 - u ≤ 1 by omega)) (by omega)
  rw [u8_andNot_nat m _ hm h2, u8_or_nat _ _ (Nat.lt_of_le_of_lt Nat.and_le_left hm) h3, (away_bits ⟨m, hm⟩ ⟨b, hb⟩ ⟨u, hu⟩).1]

theorem ret_u8 {a b : Int} (h : a = b) : Ending.returned (.int .u8 a) = Ending.returned (.int .u8 b) := by rw [h]
theorem may_yes (n : Int) (w : World) (h : n = 1 ∨ n = 2 ∨ n = 4) : Calls Tryd.prog 62 #[.int .i64 n] w fun e w' => e = .returned (.bool true) ∧ w = w' := by
  rcases h with rfl | rfl | rfl <;> (go_enter Tryd.func62, Tryd.ntmps62; go_wp2; go_ret; exact ⟨rfl, rfl⟩)
theorem may_no (n : Int) (w : World) (h : ¬ (n = 1 ∨ n = 2 ∨ n = 4)) : Calls Tryd.prog 62 #[.int .i64 n] w fun e w' => e = .returned (.bool false) ∧ w = w' := by
  have h1 : (n == 1) = false := by simp; omega
  have h2 : (n == 2) = false := by simp; omega
  have h4 : (n == 4) = false := by simp; omega
  clear h
  go_enter Tryd.func62, Tryd.ntmps62
  go_wp2
  go_ret
  exact ⟨rfl, rfl⟩
theorem bitIn_any (n : Int) (w : World) (h : n = 0 ∨ n = 1) : Calls Tryd.prog 64 #[.int .i64 n] w fun e w' => e = .returned (.int .i64 (1 + n)) ∧ w = w' := by
  rcases h with rfl | rfl <;> (go_enter Tryd.func64, Tryd.ntmps64; go_wp2; go_ret; exact ⟨rfl, rfl⟩)

theorem and1 (a : Int) (h0 : 0 ≤ a) (h1 : a < 256) : bits .and .u8 a 1 = a % 2 := by
  have := u8_and_nat a.toNat 1 (by omega) (by omega)
  rw [Int.toNat_of_nonneg h0] at this
  rw [show (1 : Int) = ((1 : Nat) : Int) from rfl, this, show (1 : Nat) = 2 ^ 1 - 1 by decide, Nat.and_two_pow_sub_one_eq_mod]
  omega

theorem w64 (n : Int) (h : -9223372036854775808 ≤ n) (k : n ≤ 9223372036854775807) : wrap64 n = n := by unfold wrap64; omega

theorem points0 (m : Nat) (w : World) (hm : m < 256) : Calls Tryd.prog 65 #[.int .u8 (m : Int), .int .i64 0] w fun e w' => e = .returned (.int .i64 (bt m 0 : Nat)) ∧ w = w' := by
  have H := Lib.hid (and1 (m : Int) (by omega) (by omega))
  go_enter Tryd.func65, Tryd.ntmps65
  go_wp2
  go_ret
  refine ⟨ret_i64 ?_, rfl⟩
  rw [H.out, w64 _ (by omega) (by omega)]
  unfold bt; simp
theorem points1 (m : Nat) (w : World) (hm : m < 256) : Calls Tryd.prog 65 #[.int .u8 (m : Int), .int .i64 1] w fun e w' => e = .returned (.int .i64 (bt m 1 : Nat)) ∧ w = w' := by
  have H := Lib.hid (and1 ((m : Int) / 2) (by omega) (by omega))
  go_enter Tryd.func65, Tryd.ntmps65
  go_wp2
  go_ret
  refine ⟨ret_i64 ?_, rfl⟩
  rw [H.out, w64 _ (by omega) (by omega)]
  unfold bt; simp
theorem points2 (m : Nat) (w : World) (hm : m < 256) : Calls Tryd.prog 65 #[.int .u8 (m : Int), .int .i64 2] w fun e w' => e = .returned (.int .i64 (bt m 2 : Nat)) ∧ w = w' := by
  have H := Lib.hid (and1 ((m : Int) / 4) (by omega) (by omega))
  go_enter Tryd.func65, Tryd.ntmps65
  go_wp2
  go_ret
  refine ⟨ret_i64 ?_, rfl⟩
  rw [H.out, w64 _ (by omega) (by omega)]
  unfold bt; simp
theorem away00 (m : Nat) (w : World) (hm : m < 256) : Calls Tryd.prog 63 #[.int .u8 (m : Int), .int .i64 0, .int .i64 0] w fun e w' => e = .returned (.int .u8 (away m 0 0 : Nat)) ∧ ∃ n, w' = w.drewN n := by
  go_enter Tryd.func63, Tryd.ntmps63
  go_wp2_with fail
  go_quiet (fail)
  go_wp2_with fail
  go_ret
  exact ⟨ret_u8 (away_int m 0 0 hm (by decide) (by decide)), nq, rfl⟩
theorem away01 (m : Nat) (w : World) (hm : m < 256) : Calls Tryd.prog 63 #[.int .u8 (m : Int), .int .i64 0, .int .i64 1] w fun e w' => e = .returned (.int .u8 (away m 0 1 : Nat)) ∧ ∃ n, w' = w.drewN n := by
  go_enter Tryd.func63, Tryd.ntmps63
  go_wp2_with fail
  go_quiet (fail)
  go_wp2_with fail
  go_ret
  exact ⟨ret_u8 (away_int m 0 1 hm (by decide) (by decide)), nq, rfl⟩
theorem away10 (m : Nat) (w : World) (hm : m < 256) : Calls Tryd.prog 63 #[.int .u8 (m : Int), .int .i64 1, .int .i64 0] w fun e w' => e = .returned (.int .u8 (away m 1 0 : Nat)) ∧ ∃ n, w' = w.drewN n := by
  go_enter Tryd.func63, Tryd.ntmps63
  go_wp2_with fail
  go_quiet (fail)
  go_wp2_with fail
  go_ret
  exact ⟨ret_u8 (away_int m 1 0 hm (by decide) (by decide)), nq, rfl⟩
theorem away11 (m : Nat) (w : World) (hm : m < 256) : Calls Tryd.prog 63 #[.int .u8 (m : Int), .int .i64 1, .int .i64 1] w fun e w' => e = .returned (.int .u8 (away m 1 1 : Nat)) ∧ ∃ n, w' = w.drewN n := by
  go_enter Tryd.func63, Tryd.ntmps63
  go_wp2_with fail
  go_quiet (fail)
  go_wp2_with fail
  go_ret
  exact ⟨ret_u8 (away_int m 1 1 hm (by decide) (by decide)), nq, rfl⟩
theorem away20 (m : Nat) (w : World) (hm : m < 256) : Calls Tryd.prog 63 #[.int .u8 (m : Int), .int .i64 2, .int .i64 0] w fun e w' => e = .returned (.int .u8 (away m 2 0 : Nat)) ∧ ∃ n, w' = w.drewN n := by
  go_enter Tryd.func63, Tryd.ntmps63
  go_wp2_with fail
  go_quiet (fail)
  go_wp2_with fail
  go_ret
  exact ⟨ret_u8 (away_int m 2 0 hm (by decide) (by decide)), nq, rfl⟩
theorem away21 (m : Nat) (w : World) (hm : m < 256) : Calls Tryd.prog 63 #[.int .u8 (m : Int), .int .i64 2, .int .i64 1] w fun e w' => e = .returned (.int .u8 (away m 2 1 : Nat)) ∧ ∃ n, w' = w.drewN n := by
  go_enter Tryd.func63, Tryd.ntmps63
  go_wp2_with fail
  go_quiet (fail)
  go_wp2_with fail
  go_ret
  exact ⟨ret_u8 (away_int m 2 1 hm (by decide) (by decide)), nq, rfl⟩
end Go.Proofs.YtjbapfjeildfoaaDoor.kk
