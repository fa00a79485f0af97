/-
  The law VictimLast returns true: the walk. No condition but that the memory is a number of 8 bits.
-/
import Derived.Test.YtfmommghkgckmaaC4
namespace Go.Proofs.Ytfmommghkgckmaa.vv
open Go Go.ChangeShapes Go.WideShapes Go.ChangeAt Go.RowKit
set_option linter.unusedVariables false

theorem last_bad (m : Nat) (ways way E : Int) (w : World) (hE : E = 2 ∨ E = 5)
    (hu0 : Calls Try.prog 8 #[.int .u8 (m : Int), .int .i64 ways, .int .i64 way] w fun e w' => e = .returned (.tuple #[.int .u8 0, .int .i64 E]) ∧ w.grownBy w' none) :
    Calls Try.prog 6 #[.int .u8 (m : Int), .int .i64 ways, .int .i64 way] w fun e w' => e = .returned (.bool true) ∧ w.grownBy w' none := by
  have hu := Lib.hid hu0
  have hw : Hid (∀ w, _) := Lib.hid works_any
  clear hu0
  rcases hE with rfl | rfl <;>
  (go_enter Try.func6, Try.ntmps6
   go_wp2_with (first
    | (go_at_call 8; ((with_reducible refine hu.out.mono ?_); rintro e w1 ⟨rfl, hg1⟩; have HG1 := Lib.hid hg1; clear hg1))
    | (go_at_call 10; ((with_reducible refine (hw.out _).mono ?_); rintro e w3 ⟨rfl, hg3⟩; have HG3 := Lib.hid hg3; clear hg3)))
   go_ret
   exact ⟨rfl, grown_trans HG1.out HG3.out⟩)

/-- What there is of ways, a way that was used, and the victim behind it. -/
def may3 (ways way n : Int) : Prop := (ways = 1 ∧ way = 0 ∧ n = 0) ∨ (ways = 2 ∧ way = 0 ∧ n = 1) ∨ (ways = 2 ∧ way = 1 ∧ n = 0)
  ∨ (ways = 4 ∧ way = 0 ∧ n = 2) ∨ (ways = 4 ∧ way = 0 ∧ n = 3) ∨ (ways = 4 ∧ way = 1 ∧ n = 2) ∨ (ways = 4 ∧ way = 1 ∧ n = 3)
  ∨ (ways = 4 ∧ way = 2 ∧ n = 0) ∨ (ways = 4 ∧ way = 2 ∧ n = 1) ∨ (ways = 4 ∧ way = 3 ∧ n = 0) ∨ (ways = 4 ∧ way = 3 ∧ n = 1)
theorem last_core (m A : Nat) (ways way n : Int) (w : World) (hm : m < 256) (hA : A < 256) (h3 : may3 ways way n) (H7 : bits .andNot .u8 (A : Int) 7 = bits .andNot .u8 (m : Int) 7)
    (hu0 : Calls Try.prog 8 #[.int .u8 (m : Int), .int .i64 ways, .int .i64 way] w fun e w' => e = .returned (.tuple #[.int .u8 (A : Int), .int .i64 0]) ∧ w.grownBy w' none)
    (hv0 : ∀ w, Calls Try.prog 9 #[.int .u8 (A : Int), .int .i64 ways] w fun e w' => e = .returned (.tuple #[.int .i64 n, .int .i64 0]) ∧ w = w') :
    Calls Try.prog 6 #[.int .u8 (m : Int), .int .i64 ways, .int .i64 way] w fun e w' => e = .returned (.bool true) ∧ w.grownBy w' none := by
  have hu := Lib.hid hu0
  have hv := Lib.hid hv0
  have hw : Hid (∀ w, _) := Lib.hid works_any
  clear hu0 hv0
  rcases h3 with h | h | h | h | h | h | h | h | h | h | h <;>
  (obtain ⟨rfl, rfl, rfl⟩ := h
   go_enter Try.func6, Try.ntmps6
   go_wp2_with (first
    | (go_at_call 8; ((with_reducible refine hu.out.mono ?_); rintro e w1 ⟨rfl, hg1⟩; have HG1 := Lib.hid hg1; clear hg1))
    | (go_at_call 9; ((with_reducible refine (hv.out _).mono ?_); rintro e w' ⟨rfl, rfl⟩))
    | (go_at_call 10; ((with_reducible refine (hw.out _).mono ?_); rintro e w3 ⟨rfl, hg3⟩; have HG3 := Lib.hid hg3; clear hg3)))
   go_ret
   exact ⟨rfl, grown_trans HG1.out HG3.out⟩)

theorem lf10 : ∀ m : Fin 256, us m.val 1 0 / 8 = m.val / 8 ∧ vc (us m.val 1 0) 1 / 1 = 0 := by decide +kernel
theorem lf20 : ∀ m : Fin 256, us m.val 2 0 / 8 = m.val / 8 ∧ vc (us m.val 2 0) 2 / 1 = 1 := by decide +kernel
theorem lf21 : ∀ m : Fin 256, us m.val 2 1 / 8 = m.val / 8 ∧ vc (us m.val 2 1) 2 / 1 = 0 := by decide +kernel
theorem lf40 : ∀ m : Fin 256, us m.val 4 0 / 8 = m.val / 8 ∧ vc (us m.val 4 0) 4 / 2 = 1 := by decide +kernel
theorem lf41 : ∀ m : Fin 256, us m.val 4 1 / 8 = m.val / 8 ∧ vc (us m.val 4 1) 4 / 2 = 1 := by decide +kernel
theorem lf42 : ∀ m : Fin 256, us m.val 4 2 / 8 = m.val / 8 ∧ vc (us m.val 4 2) 4 / 2 = 0 := by decide +kernel
theorem lf43 : ∀ m : Fin 256, us m.val 4 3 / 8 = m.val / 8 ∧ vc (us m.val 4 3) 4 / 2 = 0 := by decide +kernel
theorem and7 : ∀ (a : Fin 256), a.val &&& (255 - 7) = a.val / 8 * 8 := by decide +kernel
theorem clear7 (a : Nat) (h : a < 256) : bits .andNot .u8 (a : Int) 7 = ((a / 8 * 8 : Nat) : Int) := by
  rw [show (7 : Int) = ((7 : Nat) : Int) from rfl, u8_andNot_nat a 7 h (by decide), and7 ⟨a, h⟩]

theorem last_fact (m n k : Nat) (hm : m < 256) (hn : n = 1 ∨ n = 2 ∨ n = 4) (hk : k < n) : us m n k / 8 = m / 8 ∧ may3 n k (vc (us m n k) n : Nat) := by
  rcases hn with rfl | rfl | rfl
  · obtain rfl : k = 0 := by omega
    obtain ⟨h1, h2⟩ := lf10 ⟨m, hm⟩
    dsimp only at h1 h2
    generalize vc (us m 1 0) 1 = V at *
    refine ⟨h1, ?_⟩
    clear h1
    obtain rfl : V = 0 := by omega
    all_goals (unfold may3; decide)
  · obtain rfl | rfl : k = 0 ∨ k = 1 := by omega
    · obtain ⟨h1, h2⟩ := lf20 ⟨m, hm⟩
      dsimp only at h1 h2
      generalize vc (us m 2 0) 2 = V at *
      refine ⟨h1, ?_⟩
      clear h1
      obtain rfl : V = 1 := by omega
      all_goals (unfold may3; decide)
    · obtain ⟨h1, h2⟩ := lf21 ⟨m, hm⟩
      dsimp only at h1 h2
      generalize vc (us m 2 1) 2 = V at *
      refine ⟨h1, ?_⟩
      clear h1
      obtain rfl : V = 0 := by omega
      all_goals (unfold may3; decide)
  · obtain rfl | rfl | rfl | rfl : k = 0 ∨ k = 1 ∨ k = 2 ∨ k = 3 := by omega
    · obtain ⟨h1, h2⟩ := lf40 ⟨m, hm⟩
      dsimp only at h1 h2
      generalize vc (us m 4 0) 4 = V at *
      refine ⟨h1, ?_⟩
      clear h1
      obtain rfl | rfl : V = 2 ∨ V = 3 := by omega
      all_goals (unfold may3; decide)
    · obtain ⟨h1, h2⟩ := lf41 ⟨m, hm⟩
      dsimp only at h1 h2
      generalize vc (us m 4 1) 4 = V at *
      refine ⟨h1, ?_⟩
      clear h1
      obtain rfl | rfl : V = 2 ∨ V = 3 := by omega
      all_goals (unfold may3; decide)
    · obtain ⟨h1, h2⟩ := lf42 ⟨m, hm⟩
      dsimp only at h1 h2
      generalize vc (us m 4 2) 4 = V at *
      refine ⟨h1, ?_⟩
      clear h1
      obtain rfl | rfl : V = 0 ∨ V = 1 := by omega
      all_goals (unfold may3; decide)
    · obtain ⟨h1, h2⟩ := lf43 ⟨m, hm⟩
      dsimp only at h1 h2
      generalize vc (us m 4 3) 4 = V at *
      refine ⟨h1, ?_⟩
      clear h1
      obtain rfl | rfl : V = 0 ∨ V = 1 := by omega
      all_goals (unfold may3; decide)
theorem last_true (m : Nat) (ways way : Int) (w : World) (hm : m < 256) : Calls Try.prog 6 #[.int .u8 (m : Int), .int .i64 ways, .int .i64 way] w fun e w' => e = .returned (.bool true) ∧ w.grownBy w' none := by
  by_cases hg : good ways
  · by_cases hi : 0 ≤ way ∧ way < ways
    · obtain ⟨n, rfl⟩ := good_nat hg
      obtain ⟨k, rfl⟩ : ∃ k : Nat, way = (k : Int) := ⟨way.toNat, by omega⟩
      have hk : k < n := by omega
      have hn : n = 1 ∨ n = 2 ∨ n = 4 := by unfold good at hg; omega
      have hA := us_lt m n k hm hk (by omega)
      have hv := vc_lt (us m n k) n hn
      have HU := Lib.hid ((use_in m n k w hm hg hk).mono fun e w' ⟨h1, h2⟩ => (⟨h1, grown_of_drewN h2⟩ : _ ∧ w.grownBy w' none))
      have HV := Lib.hid (fun w => victim_in (us m n k) n w hA hg)
      have hf := last_fact m n k hm hn hk
      generalize us m n k = A at *
      generalize vc A n = V at *
      exact last_core m A n k V w hm hA hf.2 (by rw [clear7 _ hA, clear7 _ hm, hf.1]) HU.out HV.out
    · exact last_bad m ways way 5 w (Or.inr rfl) ((use_out m ways way w hg (by omega)).mono fun e w' ⟨h1, h2⟩ => ⟨h1, grown_of_drewN h2⟩)
  · exact last_bad m ways way 2 w (Or.inl rfl) ((use_bad m ways way w hg).mono fun e w' ⟨h1, h2⟩ => ⟨h1, grown_of_drewN h2⟩)
end Go.Proofs.Ytfmommghkgckmaa.vv
