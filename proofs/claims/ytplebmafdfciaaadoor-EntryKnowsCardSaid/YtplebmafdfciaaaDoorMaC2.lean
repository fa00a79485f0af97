/-
  How many are in a set, and the least one, as math/bits counts them: contracts. No condition beyond the bounds that each theorem names, and that the library's table lies in its variable.
-/
import Derived.Test.YtplebmafdfciaaaDoorMaC1
import Derived.Deep.QuietTactic
import Derived.BigQuiet
import Derived.Lib.Walk
import Derived.Lib.BitFns
import Derived.Lib.TrailingZeros
namespace Go.Proofs.YtplebmafdfciaaaDoor.mm
open Go Go.ChangeShapes Go.WideShapes Go.ChangeAt Go.RowKit
set_option linter.unusedVariables false

attribute [local go_sem] List.append_eq List.cons_append List.nil_append

theorem mask255 (a : Int) (h0 : 0 ≤ a) (h1 : a < 4294967296) : bits .and .u32 a 255 = a % 256 := by
  have := u32_and_nat a.toNat 255 (by omega) (by omega)
  rw [Int.toNat_of_nonneg h0] at this
  rw [show (255 : Int) = ((255 : Nat) : Int) from rfl, this, show (255 : Nat) = 2 ^ 8 - 1 by decide, Nat.and_two_pow_sub_one_eq_mod]
  omega

set_option maxRecDepth 1000000 in
set_option maxHeartbeats 1000000 in
theorem ones32 (m : Nat) (w : World) (hm : m < 4294967296) : Calls Tryd.prog 32 #[.int .u32 (m : Int)] w fun e w' => e = .returned (.int .i64 (pop m 32 : Nat)) ∧ ∃ n, w' = w.drewN n := by
  have b1 := mask255 ((m : Int) / 65536) (by omega) (by omega)
  have b2 := mask255 ((m : Int) / 256) (by omega) (by omega)
  have b3 := mask255 (m : Int) (by omega) (by omega)
  have i0 : 0 ≤ (m : Int) / 16777216 := by omega
  have i1 : (m : Int) / 16777216 ≤ 255 := by omega
  have i2 : 0 ≤ (m : Int) / 65536 % 256 := by omega
  have i3 : (m : Int) / 65536 % 256 ≤ 255 := by omega
  have i4 : 0 ≤ (m : Int) / 256 % 256 := by omega
  have i5 : (m : Int) / 256 % 256 ≤ 255 := by omega
  have i6 : 0 ≤ (m : Int) % 256 := by omega
  have i7 : (m : Int) % 256 ≤ 255 := by omega
  go_enter Tryd.func32, Tryd.ntmps32
  go_wp2_with fail
  go_quiet (fail)
  go_wp2_with fail
  go_ret
  refine ⟨ret_i64 ?_, nq, rfl⟩
  have h := pop_bytes m
  have hle := pop_le m 32
  have p8 : ∀ b : Nat, b ≤ 255 → Lib.pop8 (b : Int) = (Lib.onesCount b : Nat) := fun b hb => Lib.pop8_eq ⟨b, by omega⟩
  have q1 := p8 (m / 16777216) (by omega)
  have q2 := p8 (m / 65536 % 256) (by omega)
  have q3 := p8 (m / 256 % 256) (by omega)
  have q4 := p8 (m % 256) (by omega)
  simp only [Int.natCast_ediv, Int.natCast_emod, Int.cast_ofNat_Int] at q1 q2 q3 q4
  have e : m / 16777216 % 256 = m / 16777216 := by omega
  rw [e] at h
  rw [q1, q2, q3, q4]
  omega

theorem count_any (m : Nat) (w : World) (hm : m < 4294967296) : Calls Tryd.prog 18 #[.int .u32 (m : Int)] w fun e w' => e = .returned (.int .i64 (pop m 32 : Nat)) ∧ ∃ n, w' = w.drewN n := by
  have hq := Lib.hid (ones32 m w hm)
  go_enter Tryd.func18, Tryd.ntmps18
  go_wp2_with (go_at_call 32; ((with_reducible refine hq.out.mono ?_); rintro e w' ⟨rfl, nq, rfl⟩))
  go_ret
  exact ⟨rfl, nq, rfl⟩

/-- The library's table of de Bruijn's product lies in its variable. -/
def Tab (w : World) : Prop := ∀ j, j < 32 → w.cell? ⟨0, j, none⟩ = some (.int .u8 (Lib.deBruijn32tab.getD j 0 : Nat))
theorem Tab.lt {w : World} (h : Tab w) : 0 < w.heap.size := by
  have h0 := h 0 (by decide)
  unfold World.cell? at h0
  by_cases hz : 0 < w.heap.size
  · exact hz
  · have : w.heap[0]? = none := by rw [Array.getElem?_eq_none]; omega
    simp [this] at h0
theorem Tab.below {n : Nat} {w w' : World} (h : Tab w) (hb : Below n w w') (hn : 0 < n) : Tab w' := fun j hj => (hb.cell (p := ⟨0, j, none⟩) hn).trans (h j hj)
theorem Tab.drewN {w : World} (h : Tab w) (n : Nat) : Tab (w.drewN n) := fun j hj => by rw [World.cell?_drewN]; exact h j hj

theorem tz_core (m k idx : Nat) (w : World) (hm0 : ((m : Int) == 0) = false)
    (key : bits BinOp.and IntKind.u32 (m : Int) (-(m : Int) % 4294967296) * 125613361 % 4294967296 / 134217728 = (idx : Int)) (hi : idx < 32) (hk : k < 32) (hcell : w.cell? ⟨0, idx, none⟩ = some (.int .u8 (k : Int))) :
    Calls Tryd.prog 39 #[.int .u32 (m : Int)] w fun e w' => e = .returned (.int .i64 (k : Int)) ∧ w = w' := by
  go_enter Tryd.func39, Tryd.ntmps39
  go_wp2_with (simp only [key])
  go_ret
  exact ⟨rfl, rfl⟩
theorem tz_any (m : Nat) (w : World) (h0 : 0 < m) (hm : m < 4294967296) (hT : Tab w) : Calls Tryd.prog 39 #[.int .u32 (m : Int)] w fun e w' => e = .returned (.int .i64 (Lib.ctz 32 m : Nat)) ∧ w = w' := by
  obtain ⟨hlow, hk⟩ := Lib.lowest_bit 32 m (by omega) hm
  obtain ⟨hi, htab⟩ := Lib.deBruijn32_at _ hk
  have hcell := hT _ hi
  rw [htab] at hcell
  refine tz_core m _ _ w (by simp; omega) ?_ hi hk hcell
  have e1 : -(m : Int) % 4294967296 = ((4294967296 - m : Nat) : Int) := by omega
  rw [e1, u32_and_nat m _ hm (by omega), hlow]
  clear hlow htab hcell hi
  obtain ⟨a, ha⟩ : ∃ a, a = 2 ^ Lib.ctz 32 m := ⟨_, rfl⟩
  rw [← ha]
  omega
/-- The least one. -/
def least (m : Nat) : Int := if m = 0 then -1 else (Lib.ctz 32 m : Nat)
theorem least_any (m : Nat) (w : World) (hm : m < 4294967296) (hT : Tab w) : Calls Tryd.prog 38 #[.int .u32 (m : Int)] w fun e w' => e = .returned (.int .i64 (least m)) ∧ w = w' := by
  by_cases h0 : m = 0
  · subst h0
    clear hT
    go_enter Tryd.func38, Tryd.ntmps38
    go_wp2_with fail
    go_ret
    exact ⟨rfl, rfl⟩
  · have hq := Lib.hid (tz_any m w (by omega) hm hT)
    have hz : ((m : Int) == 0) = false := by simp; omega
    have HL := Lib.hid (show least m = (Lib.ctz 32 m : Nat) by unfold least; rw [if_neg h0])
    clear h0 hT
    go_enter Tryd.func38, Tryd.ntmps38
    go_wp2_with (go_at_call 39; ((with_reducible refine hq.out.mono ?_); rintro e w' ⟨rfl, rfl⟩))
    go_ret
    exact ⟨ret_i64 HL.out.symm, rfl⟩
end Go.Proofs.YtplebmafdfciaaaDoor.mm
