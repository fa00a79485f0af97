/-
  works returns true; so do the laws VictimKnown, VictimUses, VictimTells and VictimLast: the walks. No condition but that the memory is a number of 8 bits.
-/
import Derived.Test.YtfmommghkgckmaaC3
namespace Go.Proofs.Ytfmommghkgckmaa.vv
open Go Go.ChangeShapes Go.WideShapes Go.ChangeAt Go.RowKit
set_option linter.unusedVariables false

theorem own : ownKnob Try.prog.godebug = none := by kernel_rfl
theorem below_of {w w' : World} (h : w.grownBy w' none) : Below w.heap.size w w' := ⟨h.os, h.tape, h.output, h.size, fun k hk => h.block k hk (by simp)⟩
theorem grown_of_drewN {w w' : World} (h : ∃ n, w' = w.drewN n) : w.grownBy w' none := by
  obtain ⟨n, rfl⟩ := h
  exact grown_drewN w n none
theorem grown_of_eq {w w' : World} (h : w = w') : w.grownBy w' none := h ▸ grown_refl _ _

/-- What Use answers, and its error. -/
def ua (m : Nat) (ways way : Int) : Int := if good ways ∧ 0 ≤ way ∧ way < ways then (us m ways.toNat way.toNat : Nat) else 0
def ue (ways way : Int) : Int := if good ways then if 0 ≤ way ∧ way < ways then 0 else 5 else 2
/-- What Victim answers, and its error. -/
def va (m : Nat) (ways : Int) : Int := if good ways then (vc m ways.toNat : Nat) else 0
def ve (ways : Int) : Int := if good ways then 0 else 2

theorem use_any (m : Nat) (ways way : Int) (w : World) (hm : m < 256) : Calls Try.prog 8 #[.int .u8 (m : Int), .int .i64 ways, .int .i64 way] w fun e w' => e = .returned (.tuple #[.int .u8 (ua m ways way), .int .i64 (ue ways way)]) ∧ w.grownBy w' none := by
  by_cases hg : good ways
  · by_cases hi : 0 ≤ way ∧ way < ways
    · rw [show ua m ways way = (us m ways.toNat way.toNat : Nat) from if_pos ⟨hg, hi⟩, show ue ways way = 0 by unfold ue; rw [if_pos hg, if_pos hi]]
      obtain ⟨n, hn⟩ : ∃ n : Nat, ways = (n : Int) := ⟨ways.toNat, by omega⟩
      obtain ⟨k, hk⟩ : ∃ k : Nat, way = (k : Int) := ⟨way.toNat, by omega⟩
      subst hn hk
      exact (use_in m n k w hm hg (by omega)).mono fun e w' ⟨h1, h2⟩ => ⟨h1, grown_of_drewN h2⟩
    · rw [show ua m ways way = 0 from if_neg (fun h => hi h.2), show ue ways way = 5 by unfold ue; rw [if_pos hg, if_neg hi]]
      exact (use_out m ways way w hg (by omega)).mono fun e w' ⟨h1, h2⟩ => ⟨h1, grown_of_drewN h2⟩
  · rw [show ua m ways way = 0 from if_neg (fun h => hg h.1), show ue ways way = 2 by unfold ue; rw [if_neg hg]]
    exact (use_bad m ways way w hg).mono fun e w' ⟨h1, h2⟩ => ⟨h1, grown_of_drewN h2⟩
theorem ruse_any (m : Nat) (ways way : Int) (w : World) (hm : m < 256) : Calls Try.prog 11 #[.int .u8 (m : Int), .int .i64 ways, .int .i64 way] w fun e w' => e = .returned (.tuple #[.int .u8 (ua m ways way), .int .i64 (ue ways way)]) ∧ w.grownBy w' none := by
  by_cases hg : good ways
  · by_cases hi : 0 ≤ way ∧ way < ways
    · rw [show ua m ways way = (us m ways.toNat way.toNat : Nat) from if_pos ⟨hg, hi⟩, show ue ways way = 0 by unfold ue; rw [if_pos hg, if_pos hi]]
      obtain ⟨n, hn⟩ : ∃ n : Nat, ways = (n : Int) := ⟨ways.toNat, by omega⟩
      obtain ⟨k, hk⟩ : ∃ k : Nat, way = (k : Int) := ⟨way.toNat, by omega⟩
      subst hn hk
      exact ruse_in m n k w hm hg (by omega)
    · rw [show ua m ways way = 0 from if_neg (fun h => hi h.2), show ue ways way = 5 by unfold ue; rw [if_pos hg, if_neg hi]]
      exact ruse_out m ways way w hg (by omega)
  · rw [show ua m ways way = 0 from if_neg (fun h => hg h.1), show ue ways way = 2 by unfold ue; rw [if_neg hg]]
    exact ruse_bad m ways way w hg
theorem good_nat {ways : Int} (h : good ways) : ∃ n : Nat, ways = (n : Int) := ⟨ways.toNat, by unfold good at h; omega⟩
theorem victim_any (m : Nat) (ways : Int) (w : World) (hm : m < 256) : Calls Try.prog 9 #[.int .u8 (m : Int), .int .i64 ways] w fun e w' => e = .returned (.tuple #[.int .i64 (va m ways), .int .i64 (ve ways)]) ∧ w = w' := by
  by_cases hg : good ways
  · rw [show va m ways = (vc m ways.toNat : Nat) from if_pos hg, show ve ways = 0 from if_pos hg]
    obtain ⟨n, hn⟩ := good_nat hg
    subst hn
    exact victim_in m n w hm hg
  · rw [show va m ways = 0 from if_neg hg, show ve ways = 2 from if_neg hg]
    exact victim_bad m ways w hg
theorem rvictim_any (m : Nat) (ways : Int) (w : World) (hm : m < 256) : Calls Try.prog 12 #[.int .u8 (m : Int), .int .i64 ways] w fun e w' => e = .returned (.tuple #[.int .i64 (va m ways), .int .i64 (ve ways)]) ∧ w.grownBy w' none := by
  by_cases hg : good ways
  · rw [show va m ways = (vc m ways.toNat : Nat) from if_pos hg, show ve ways = 0 from if_pos hg]
    obtain ⟨n, hn⟩ := good_nat hg
    subst hn
    exact rvictim_in m n w hm hg
  · rw [show va m ways = 0 from if_neg hg, show ve ways = 2 from if_neg hg]
    exact rvictim_bad m ways w hm hg

theorem works_any (w : World) : Calls Try.prog 10 #[] w fun e w' => e = .returned (.bool true) ∧ w.grownBy w' none := by
  have hv : Hid (Calls Try.prog 9 #[.int .u8 3, .int .i64 4] w fun e w' => e = .returned (.tuple #[.int .i64 2, .int .i64 0]) ∧ w = w') := Lib.hid (victim_any 3 4 w (by decide))
  have hu : Hid (Calls Try.prog 8 #[.int .u8 0, .int .i64 4, .int .i64 0] w fun e w' => e = .returned (.tuple #[.int .u8 3, .int .i64 0]) ∧ w.grownBy w' none) := Lib.hid (use_any 0 4 0 w (by decide))
  go_enter Try.func10, Try.ntmps10
  go_wp2_with (first
    | (go_at_call 9; ((with_reducible refine hv.out.mono ?_); rintro e w' ⟨rfl, rfl⟩))
    | (go_at_call 8; ((with_reducible refine hu.out.mono ?_); rintro e w' ⟨rfl, hg1⟩; have HG1 := Lib.hid hg1; clear hg1)))
  go_ret
  exact ⟨rfl, HG1.out⟩

theorem known_true (w : World) : Calls Try.prog 3 #[] w fun e w' => e = .returned (.bool true) ∧ w.grownBy w' none := by
  have hu : Hid (Calls Try.prog 8 #[.int .u8 0, .int .i64 4, .int .i64 3] w fun e w' => e = .returned (.tuple #[.int .u8 0, .int .i64 0]) ∧ w.grownBy w' none) := Lib.hid (use_any 0 4 3 w (by decide))
  have h1 : Hid (∀ w, Calls Try.prog 9 #[.int .u8 0, .int .i64 4] w fun e w' => e = .returned (.tuple #[.int .i64 0, .int .i64 0]) ∧ w = w') := Lib.hid fun w => victim_any 0 4 w (by decide)
  have h2 : Hid (∀ w, Calls Try.prog 9 #[.int .u8 1, .int .i64 2] w fun e w' => e = .returned (.tuple #[.int .i64 1, .int .i64 0]) ∧ w = w') := Lib.hid fun w => victim_any 1 2 w (by decide)
  have h3 : Hid (∀ w, Calls Try.prog 9 #[.int .u8 7, .int .i64 1] w fun e w' => e = .returned (.tuple #[.int .i64 0, .int .i64 0]) ∧ w = w') := Lib.hid fun w => victim_any 7 1 w (by decide)
  have h4 : Hid (∀ w, Calls Try.prog 9 #[.int .u8 0, .int .i64 3] w fun e w' => e = .returned (.tuple #[.int .i64 0, .int .i64 2]) ∧ w = w') := Lib.hid fun w => victim_any 0 3 w (by decide)
  have hw : Hid (∀ w, _) := Lib.hid works_any
  go_enter Try.func3, Try.ntmps3
  go_wp2_with (first
    | (go_at_call 8; ((with_reducible refine hu.out.mono ?_); rintro e w1 ⟨rfl, hg1⟩; have HG1 := Lib.hid hg1; clear hg1))
    | (go_at_call 9; ((with_reducible refine (h1.out _).mono ?_); rintro e w' ⟨rfl, rfl⟩))
    | (go_at_call 9; ((with_reducible refine (h2.out _).mono ?_); rintro e w' ⟨rfl, rfl⟩))
    | (go_at_call 9; ((with_reducible refine (h3.out _).mono ?_); rintro e w' ⟨rfl, rfl⟩))
    | (go_at_call 9; ((with_reducible refine (h4.out _).mono ?_); rintro e w' ⟨rfl, rfl⟩))
    | (go_at_call 10; ((with_reducible refine (hw.out _).mono ?_); rintro e w2 ⟨rfl, hg2⟩; have HG2 := Lib.hid hg2; clear hg2)))
  go_ret
  exact ⟨rfl, grown_trans HG1.out HG2.out⟩

theorem uses_true (m : Nat) (ways way : Int) (w : World) (hm : m < 256) : Calls Try.prog 4 #[.int .u8 (m : Int), .int .i64 ways, .int .i64 way] w fun e w' => e = .returned (.bool true) ∧ w.grownBy w' none := by
  have hu := Lib.hid (use_any m ways way w hm)
  have hr : Hid (∀ w, _) := Lib.hid fun w => ruse_any m ways way w hm
  have hw : Hid (∀ w, _) := Lib.hid works_any
  generalize ua m ways way = A at *
  generalize ue ways way = E at *
  go_enter Try.func4, Try.ntmps4
  go_wp2_with (first
    | (go_at_call 8; ((with_reducible refine hu.out.mono ?_); rintro e w1 ⟨rfl, hg1⟩; have HG1 := Lib.hid hg1; clear hg1))
    | (go_at_call 11; ((with_reducible refine (hr.out _).mono ?_); rintro e w2 ⟨rfl, hg2⟩; have HG2 := Lib.hid hg2; clear hg2))
    | (go_at_call 10; ((with_reducible refine (hw.out _).mono ?_); rintro e w3 ⟨rfl, hg3⟩; have HG3 := Lib.hid hg3; clear hg3)))
  go_ret
  exact ⟨rfl, grown_trans (grown_trans HG1.out HG2.out) HG3.out⟩

theorem tells_true (m : Nat) (ways : Int) (w : World) (hm : m < 256) : Calls Try.prog 5 #[.int .u8 (m : Int), .int .i64 ways] w fun e w' => e = .returned (.bool true) ∧ w.grownBy w' none := by
  have hu := Lib.hid (victim_any m ways w hm)
  have hr : Hid (∀ w, _) := Lib.hid fun w => rvictim_any m ways w hm
  have hw : Hid (∀ w, _) := Lib.hid works_any
  generalize va m ways = A at *
  generalize ve ways = E at *
  go_enter Try.func5, Try.ntmps5
  go_wp2_with (first
    | (go_at_call 9; ((with_reducible refine hu.out.mono ?_); rintro e w1 ⟨rfl, rfl⟩))
    | (go_at_call 12; ((with_reducible refine (hr.out _).mono ?_); rintro e w2 ⟨rfl, hg2⟩; have HG2 := Lib.hid hg2; clear hg2))
    | (go_at_call 10; ((with_reducible refine (hw.out _).mono ?_); rintro e w3 ⟨rfl, hg3⟩; have HG3 := Lib.hid hg3; clear hg3)))
  go_ret
  exact ⟨rfl, grown_trans HG2.out HG3.out⟩
end Go.Proofs.Ytfmommghkgckmaa.vv
