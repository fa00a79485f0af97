/-
  The laws MaskKnown, MaskChanges, MaskOf, MaskBack return true: walks. No condition beyond that the library's table lies in its variable (and, for MaskOf, that the list lies in memory).
-/
import Derived.Test.YtaoeebleapmgkaaDoorC5
namespace Go.Proofs.YtaoeebleapmgkaaDoor.mm
open Go Go.RowKit
set_option linter.unusedVariables false

theorem of_one32 (b : Nat) (w : World) (h0 : w.cell? ⟨b, 0, none⟩ = some (.int .i64 32)) :
    Calls Tryd.prog 9 #[.slice (some ⟨b, 0, none⟩) 1 1] w fun e w' => e = .returned (.tuple #[.int .u32 0, .int .i64 5]) ∧ w = w' := by
  have h := of_any [32] (some ⟨b, 0, none⟩) 1 1 w rfl (by omega) (at_block fun k x hk => by
    match k, hk with
    | 0, hk => cases hk; exact h0)
  rw [show resM [32] = 0 by decide, show resE [32] = 5 by decide] at h
  exact h
theorem count12 (w : World) : Calls Tryd.prog 12 #[.int .u32 12] w fun e w' => e = .returned (.int .i64 2) ∧ ∃ n, w' = w.drewN n := by
  have h := count_any 12 w (by omega)
  rw [show pop 12 32 = 2 by decide] at h
  exact h
theorem least12 (w : World) (hT : Tab w) : Calls Tryd.prog 11 #[.int .u32 12] w fun e w' => e = .returned (.int .i64 2) ∧ w = w' := by
  have h := least_any 12 w (by omega) hT
  rw [show least 12 = 2 by decide] at h
  exact h
theorem least0 (w : World) (hT : Tab w) : Calls Tryd.prog 11 #[.int .u32 0] w fun e w' => e = .returned (.int .i64 (-1)) ∧ w = w' := by
  have h := least_any 0 w (by omega) hT
  rw [show least 0 = -1 by decide] at h
  exact h

set_option maxHeartbeats 1000000 in
theorem known_true (w : World) (hT : Tab w) : Calls Tryd.prog 3 #[] w fun e w' => e = .returned (.bool true) ∧ Below w.heap.size w w' := by
  have HT := Lib.hid hT
  have h0w := hT.lt
  clear hT
  go_enter Tryd.func3, Tryd.ntmps3
  go_wp2_with (first
    | (go_at_call 9; ((with_reducible refine (of_one32 _ _ (by simp)).mono ?_); rintro e w' ⟨rfl, rfl⟩))
    | (go_at_call 10; refine (works_any _ (HT.out.below ((Below.refl _ _).alloc (Nat.le_refl _) _) h0w)).mono ?_; rintro e w2 ⟨rfl, hbe⟩; have hb2 := ((Below.refl _ _).alloc (Nat.le_refl _) _).trans (hbe.mono (by simp)); have HT2 := Lib.hid (HT.out.below hb2 h0w); have HB2 := Lib.hid hb2; clear hbe hb2)
    | (go_at_call 11; ((with_reducible refine (least12 _ HT2.out).mono ?_); rintro e w' ⟨rfl, rfl⟩))
    | (go_at_call 12; ((with_reducible refine (count12 _).mono ?_); rintro e w' ⟨rfl, nq, rfl⟩))
    | (go_at_call 11; ((with_reducible refine (least0 _ (HT2.out.drewN _)).mono ?_); rintro e w' ⟨rfl, rfl⟩)))
  go_ret
  exact ⟨rfl, below_drewN HB2.out _⟩

set_option maxHeartbeats 1000000 in
theorem changes_true (m : Nat) (n : Int) (w : World) (hm : m < 4294967296) (hT : Tab w) : Calls Tryd.prog 5 #[.int .u32 (m : Int), .int .i64 n] w fun e w' => e = .returned (.bool true) ∧ Below w.heap.size w w' := by
  have HT := Lib.hid hT
  have h14 := Lib.hid (with_any m n w hm)
  have h15 := Lib.hid (rwith_any m n w hm)
  have h16 := Lib.hid (wout_any m n w hm)
  have h17 := Lib.hid (rwout_any m n w hm)
  have hh := has_any m n w hm
  have hr := rhas_any m n w hm
  obtain ⟨t, ht⟩ : ∃ t, t = ha m n := ⟨_, rfl⟩
  rw [← ht] at hh hr
  clear hT hm ht
  cases t
  all_goals
    have h18 := Lib.hid hh
    have h19 := Lib.hid hr
    clear hh hr
    go_enter Tryd.func5, Tryd.ntmps5
    go_wp2_with (first
      | (go_at_call 14; ((with_reducible refine h14.out.mono ?_); rintro e w' ⟨rfl, rfl⟩))
      | (go_at_call 15; ((with_reducible refine h15.out.mono ?_); rintro e w' ⟨rfl, rfl⟩))
      | (go_at_call 16; ((with_reducible refine h16.out.mono ?_); rintro e w' ⟨rfl, rfl⟩))
      | (go_at_call 17; ((with_reducible refine h17.out.mono ?_); rintro e w' ⟨rfl, rfl⟩))
      | (go_at_call 18; ((with_reducible refine h18.out.mono ?_); rintro e w' ⟨rfl, rfl⟩))
      | (go_at_call 19; ((with_reducible refine h19.out.mono ?_); rintro e w' ⟨rfl, rfl⟩))
      | (go_at_call 10; ((with_reducible refine (works_any _ HT.out).mono ?_); rintro e w2 ⟨rfl, hbe⟩)))
    go_ret
    exact ⟨rfl, hbe⟩

set_option maxHeartbeats 1000000 in
theorem of_true (xs : List Int) (ad : Option Addr) (len cap : Nat) (w : World) (hlen : len = xs.length) (hmax : len ≤ 9223372036854775807) (hat : At w ad xs) (hT : Tab w) :
    Calls Tryd.prog 4 #[.slice ad len cap] w fun e w' => e = .returned (.bool true) ∧ Below w.heap.size w w' := by
  have HT := Lib.hid hT
  have h9 := of_any xs ad len cap w hlen hmax hat
  have h13 := rof_any xs ad len cap w hlen hmax hat
  obtain ⟨a, ha⟩ : ∃ a, a = resM xs := ⟨_, rfl⟩
  obtain ⟨b, hb⟩ : ∃ b, b = resE xs := ⟨_, rfl⟩
  rw [← ha, ← hb] at h9 h13
  have H9 := Lib.hid h9
  have H13 := Lib.hid h13
  clear h9 h13 hT ha hb hat hlen
  by_cases hl : 1000 < len
  · go_enter Tryd.func4, Tryd.ntmps4
    go_wp2_with (go_at_call 10; ((with_reducible refine (works_any _ HT.out).mono ?_); rintro e w2 ⟨rfl, hbe⟩))
    go_ret
    exact ⟨rfl, hbe⟩
  · go_enter Tryd.func4, Tryd.ntmps4
    go_wp2_with (first
      | (go_at_call 9; ((with_reducible refine H9.out.mono ?_); rintro e w' ⟨rfl, rfl⟩))
      | (go_at_call 13; ((with_reducible refine H13.out.mono ?_); rintro e w' ⟨rfl, rfl⟩))
      | (go_at_call 10; ((with_reducible refine (works_any _ HT.out).mono ?_); rintro e w2 ⟨rfl, hbe⟩)))
    go_ret
    exact ⟨rfl, hbe⟩
end Go.Proofs.YtaoeebleapmgkaaDoor.mm
