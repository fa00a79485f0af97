/-
  How many are in a set, and the least one, as math/bits counts them: contracts. No condition beyond the bounds that each theorem names, and that the library's table lies in its variable.
-/
import Derived.Test.YtplebmafdfciaaaMaC1
import Derived.Deep.QuietTactic
import Derived.BigQuiet
import Derived.Lib.Walk
import Derived.Lib.BitFns
import Derived.Lib.TrailingZeros
namespace Go.Proofs.Ytplebmafdfciaaa.mm
open Go Go.ChangeShapes Go.WideShapes Go.ChangeAt Go.RowKit
set_option linter.unusedVariables false

attribute [local go_sem] List.append_eq List.cons_append List.nil_append

theorem mask255 (a : Int) (h0 : 0 ≤ a) (h1 : a < 4294967296) : bits .and .u32 a 255 = a % 256 := by
  have := u32_and_nat a.toNat 255 (by omega) (by omega)
  rw [Int.toNat_of_nonneg h0] at this
  rw [show (255 : Int) = ((255 : Nat) : Int) from rfl, this, show (255 : Nat) = 2 ^ 8 - 1 by decide, Nat.and_two_pow_sub_one_eq_mod]
  omega

set_option maxRecDepth 1000000 in
set_option maxHeartbeats 1000000 in
theorem ones32 (m : Nat) (w : World) (hm : m < 4294967296) : Calls Try.prog 20 #[.int .u32 (m : Int)] w fun e w' => e = .returned (.int .i64 (pop m 32 : Nat)) ∧ ∃ n, w' = w.drewN n := by
  have b1 := mask255 ((m : Int) / 65536) (by omega) (by omega)
  have b2 := mask255 ((m : Int) / 256) (by omega) (by omega)
  have b3 := mask255 (m : Int) (by omega) (by omega)
  have i0 : 0 ≤ (m : Int) / 16777216 := by omega
  have i1 : (m : Int) / 16777216 ≤ 255 := by omega
  have i2 : 0 ≤ (m : Int) / 65536 % 256 := by omega
  have i3 : (m : Int) / 65536 % 256 ≤ 255 := by omega
  have i4 : 0 ≤ (m : Int) / 256 % 256 := by omega
  have i5 : (m : Int) / 256 % 256 ≤ 255 := by omega
  have i6 : 0 ≤ (m : Int) % 256 := by omega
  have i7 : (m : Int) % 256 ≤ 255 := by omega
  go_enter Try.func20, Try.ntmps20
  go_wp2_with fail
  go_quiet (fail)
  go_wp2_with fail
  go_ret
  refine ⟨ret_i64 ?_, nq, rfl⟩
  have h := pop_bytes m
  have hle := pop_le m 32
  have p8 : ∀ b : Nat, b ≤ 255 → Lib.pop8 (b : Int) = (Lib.onesCount b : Nat) := fun b hb => Lib.pop8_eq ⟨b, by omega⟩
  have q1 := p8 (m / 16777216) (by omega)
  have q2 := p8 (m / 65536 % 256) (by omega)
  have q3 := p8 (m / 256 % 256) (by omega)
  have q4 := p8 (m % 256) (by omega)
  simp only [Int.natCast_ediv, Int.natCast_emod, Int.cast_ofNat_Int] at q1 q2 q3 q4
  have e : m / 16777216 % 256 = m / 16777216 := by omega
  rw [e] at h
  rw [q1, q2, q3, q4]
  omega

theorem count_any (m : Nat) (w : World) (hm : m < 4294967296) : Calls Try.prog 11 #[.int .u32 (m : Int)] w fun e w' => e = .returned (.int .i64 (pop m 32 : Nat)) ∧ ∃ n, w' = w.drewN n := by
  have hq := Lib.hid (ones32 m w hm)
  go_enter Try.func11, Try.ntmps11
  go_wp2_with (go_at_call 20; ((with_reducible refine hq.out.mono ?_); rintro e w' ⟨rfl, nq, rfl⟩))
  go_ret
  exact ⟨rfl, nq, rfl⟩

/-- The least one. -/
def least (m : Nat) : Int := if m = 0 then -1 else (Lib.ctz 32 m : Nat)
end Go.Proofs.Ytplebmafdfciaaa.mm
