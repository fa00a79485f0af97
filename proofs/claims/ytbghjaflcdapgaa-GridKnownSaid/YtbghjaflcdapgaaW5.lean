/-
  The law GridKnown returns true: the document's examples of layer 1. No condition: it takes no input.
-/
import Derived.Test.YtbghjaflcdapgaaW4
namespace Go.Proofs.Ytbghjaflcdapgaa.w1
open Go.ChangeShapes Go.WideShapes Go.ChangeAt Go.RowKit
open Go.Proofs.Ytbghjaflcdapgaa.Fp

/-- a product with i, at four whole numbers that are closed -/
theorem mul_i (a b c d : Nat) (h : cMulBits a b 0 4607182418800017408 = some (c, d)) (w : World) :
    (binOp .mul 22 (.complex .f64 a b) (.complex .f64 0 4607182418800017408)).run Try.prog w = .ok (.complex .f64 c d) w := run_complex_mul w 22 _ _ _ _ _ _ h
theorem plus_0 (a b c d : Nat) (h : cSumBits .add .f64 a b 0 0 = some (c, d)) (w : World) : Calls Try.prog 17 #[.complex .f64 a b] w fun e w' => e = .returned (.complex .f64 c d) ∧ w = w' := by
  have hr := run_complex_sum (P := Try.prog) w .add (.inl rfl) 22 .f64 a b 0 0 c d h
  go_enter Try.func17, Try.ntmps17
  go_wp2
  go_ret
  exact ⟨rfl, rfl⟩

theorem turn_one (w : World) : Calls Try.prog 7 #[.complex .f64 4611686018427387904 4607182418800017408, .int .i64 1] w fun e w' => e = .returned (.tuple #[.complex .f64 13830554455654793216 4611686018427387904, .int .i64 0]) ∧ w = w' := by
  have hp := isplace_any 2 1 w (by unfold i64; omega) (by unfold i64; omega)
  rw [show (inB 2 && inB 1) = true from rfl, ← two_F, ← one_bits] at hp
  have m1 := mul_i 4611686018427387904 4607182418800017408 13830554455654793216 4611686018427387904 (by decide +kernel) w
  have p1 := plus_0 13830554455654793216 4611686018427387904 13830554455654793216 4611686018427387904 (by decide +kernel) w
  have HP := Lib.hid hp
  have HP1 := Lib.hid p1
  clear hp p1
  go_enter Try.func7, Try.ntmps7
  go_wp2_with (first
    | (go_at_call 16; ((with_reducible refine HP.out.mono ?_); rintro e w' ⟨rfl, rfl⟩))
    | (go_at_call 17; ((with_reducible refine HP1.out.mono ?_); rintro e w' ⟨rfl, rfl⟩)))
  refine wp_loop_rounds 2 ?_
  rw [rounds_succ]
  go_wp2_with (go_at_call 17; ((with_reducible refine HP1.out.mono ?_); rintro e w' ⟨rfl, rfl⟩))
  rw [rounds_succ]
  go_wp2_with (go_at_call 17; ((with_reducible refine HP1.out.mono ?_); rintro e w' ⟨rfl, rfl⟩))
  go_ret2
  exact ⟨rfl, rfl⟩

theorem turn_back (w : World) : Calls Try.prog 7 #[.complex .f64 4611686018427387904 4607182418800017408, .int .i64 (-1)] w fun e w' => e = .returned (.tuple #[.complex .f64 4607182418800017408 13835058055282163712, .int .i64 0]) ∧ w = w' := by
  have hp := isplace_any 2 1 w (by unfold i64; omega) (by unfold i64; omega)
  rw [show (inB 2 && inB 1) = true from rfl, ← two_F, ← one_bits] at hp
  have m1 := mul_i 4611686018427387904 4607182418800017408 13830554455654793216 4611686018427387904 (by decide +kernel) w
  have m2 := mul_i 13830554455654793216 4611686018427387904 13835058055282163712 13830554455654793216 (by decide +kernel) w
  have m3 := mul_i 13835058055282163712 13830554455654793216 4607182418800017408 13835058055282163712 (by decide +kernel) w
  have p1 := plus_0 4607182418800017408 13835058055282163712 4607182418800017408 13835058055282163712 (by decide +kernel) w
  have HP := Lib.hid hp
  have HP1 := Lib.hid p1
  clear hp p1
  go_enter Try.func7, Try.ntmps7
  go_wp2_with (go_at_call 16; ((with_reducible refine HP.out.mono ?_); rintro e w' ⟨rfl, rfl⟩))
  refine wp_loop_rounds 4 ?_
  rw [rounds_succ]
  go_wp2_with fail
  rw [rounds_succ]
  go_wp2_with fail
  rw [rounds_succ]
  go_wp2_with fail
  rw [rounds_succ]
  go_wp2_with (go_at_call 17; ((with_reducible refine HP1.out.mono ?_); rintro e w' ⟨rfl, rfl⟩))
  go_ret2
  exact ⟨rfl, rfl⟩

theorem half26 (w : World) : (callFunc 26 #[.float .f64 4602678819172646912]).run Try.prog w = .ok (.value (.float .f64 0)) w := by
  rw [run_callFunc_extern Try.func26 (by kernel_rfl) (by kernel_rfl) (by kernel_rfl) (e := Extern.MathFloor.toIntegral "math.archTrunc" .zero) (by rfl)]
  kernel_rfl
theorem half25 (w : World) : Calls Try.prog 25 #[.float .f64 4602678819172646912] w fun e w' => e = .returned (.float .f64 0) ∧ w = w' := by
  have e26 := half26 w
  go_enter Try.func25, Try.ntmps25
  go_wp2
  go_ret
  exact ⟨rfl, rfl⟩
theorem half_part (w : World) : Calls Try.prog 21 #[.float .f64 4602678819172646912] w fun e w' => e = .returned (.bool false) ∧ w = w' := by
  have g1 : (FloatKind.f64.format.order 4602678819172646912 13920626448202203136 == some .gt || FloatKind.f64.format.order 4602678819172646912 13920626448202203136 == some .eq) = true := by decide +kernel
  have g2 : (FloatKind.f64.format.order 4602678819172646912 4697254411347427328 == some .lt || FloatKind.f64.format.order 4602678819172646912 4697254411347427328 == some .eq) = true := by decide +kernel
  have g3 : (FloatKind.f64.format.order 4602678819172646912 0 == some .eq) = false := by decide +kernel
  go_enter Try.func21, Try.ntmps21
  go_wp2_with (go_at_call 25; refine (half25 _).mono ?_; rintro e w' ⟨rfl, rfl⟩)
  go_ret
  exact ⟨rfl, rfl⟩
theorem half_place (w : World) : Calls Try.prog 16 #[.complex .f64 4602678819172646912 0] w fun e w' => e = .returned (.bool false) ∧ w = w' := by
  go_enter Try.func16, Try.ntmps16
  go_wp2_with (go_at_call 21; refine (half_part _).mono ?_; rintro e w' ⟨rfl, rfl⟩)
  go_ret
  exact ⟨rfl, rfl⟩
theorem turn_half (w : World) : Calls Try.prog 7 #[.complex .f64 4602678819172646912 0, .int .i64 0] w fun e w' => e = .returned (.tuple #[.complex .f64 0 0, .int .i64 2]) ∧ w = w' := by
  go_enter Try.func7, Try.ntmps7
  go_wp2_with (go_at_call 16; refine (half_place _).mono ?_; rintro e w' ⟨rfl, rfl⟩)
  go_ret2
  exact ⟨rfl, rfl⟩

theorem way_ex (w : World) : Calls Try.prog 8 #[.complex .f64 4607182418800017408 0, .complex .f64 4611686018427387904 4607182418800017408] w fun e w' =>
    ∃ g cap, e = .returned (.tuple #[.slice (some ⟨g, 0, none⟩) 2 cap, .int .i64 0]) ∧ Below w.heap.size w w' ∧ w'.cell? ⟨g, 0, none⟩ = some (.complex .f64 4611686018427387904 0) ∧ w'.cell? ⟨g, 1, none⟩ = some (.complex .f64 4611686018427387904 4607182418800017408) := by
  have h := way_yes 1 0 2 1 w ⟨by omega, by omega⟩ ⟨by omega, by omega⟩ (by decide)
  rw [← two_F, ← one_bits, ← z_F] at h
  refine h.mono ?_
  rintro e w' ⟨v, rfl, hown, hb⟩
  have e2 : steps 1 0 2 1 = 2 := rfl
  rw [e2] at hown
  obtain ⟨g, cap, rfl, _, _, hc⟩ := own_pos hown (by omega)
  refine ⟨g, cap, rfl, hb, ?_, ?_⟩
  · have := hc 0 _ (met_get 1 0 2 1 2 0 (by omega))
    rw [this, show pt 1 0 2 1 (0 + 1) = (2, 0) from by decide]
    simp only [cellOf]
    rw [← two_F, ← z_F]
  · have := hc 1 _ (met_get 1 0 2 1 2 1 (by omega))
    rw [this, show pt 1 0 2 1 (1 + 1) = (2, 1) from by decide]
    simp only [cellOf]
    rw [← two_F, ← one_bits]

theorem known_true (w : World) : Calls Try.prog 3 #[] w fun e w' => e = .returned (.bool true) ∧ Below w.heap.size w w' := by
  have n1 := node_yes (-1) w (by omega) (by omega)
  rw [show px (-1) = -1 from rfl, show py (-1) = 0 from rfl, ← m1_F, ← z_F] at n1
  have n2 := node_no 16 w (by omega)
  rw [← z_F] at n2
  have N1 := Lib.hid n1
  have N2 := Lib.hid n2
  have q1 : (FloatKind.f64.format.order 13830554455654793216 13830554455654793216 == some .eq) = true := by decide +kernel
  have q2 : (FloatKind.f64.format.order 0 0 == some .eq) = true := by decide +kernel
  have q3 : (FloatKind.f64.format.order 4611686018427387904 4611686018427387904 == some .eq) = true := by decide +kernel
  have q4 : (FloatKind.f64.format.order 4607182418800017408 4607182418800017408 == some .eq) = true := by decide +kernel
  have q5 : (FloatKind.f64.format.order 13835058055282163712 13835058055282163712 == some .eq) = true := by decide +kernel
  clear n1 n2
  go_enter Try.func3, Try.ntmps3
  go_wp2_with (first
    | (go_at_call 6; ((with_reducible refine N1.out.mono ?_); rintro e w' ⟨rfl, rfl⟩))
    | (go_at_call 6; ((with_reducible refine N2.out.mono ?_); rintro e w' ⟨rfl, rfl⟩))
    | (go_at_call 7; ((with_reducible refine (turn_one _).mono ?_); rintro e w' ⟨rfl, rfl⟩))
    | (go_at_call 7; ((with_reducible refine (turn_back _).mono ?_); rintro e w' ⟨rfl, rfl⟩))
    | (go_at_call 7; ((with_reducible refine (turn_half _).mono ?_); rintro e w' ⟨rfl, rfl⟩))
    | (go_at_call 8; ((with_reducible refine (way_ex _).mono ?_); rintro e w1 ⟨g, cap, rfl, hb, c0, c1⟩))
    | (go_at_call 9; ((with_reducible refine (works_any _).mono ?_); rintro e w' ⟨rfl, rfl⟩)))
  go_ret
  exact ⟨rfl, by assumption⟩
end Go.Proofs.Ytbghjaflcdapgaa.w1
