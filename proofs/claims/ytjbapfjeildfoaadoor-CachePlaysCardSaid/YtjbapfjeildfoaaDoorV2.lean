/-
  What victim's functions answer: contracts (as in stage 6, at this seat's numbers). No condition but the bounds that each theorem names.
-/
import Derived.Test.YtjbapfjeildfoaaDoorV1
namespace Go.Proofs.YtjbapfjeildfoaaDoor.kk
open Go Go.ChangeShapes Go.WideShapes Go.ChangeAt Go.RowKit
set_option linter.unusedVariables false

/-- The memory behind that a way was used. -/
def us (m ways way : Nat) : Nat :=
  if ways = 4 then away (away m (1 + way / 2) (way % 2)) 0 (way / 2) else if ways = 2 then away m 0 way else m
/-- The way to which the bits point. -/
def vc (m ways : Nat) : Nat :=
  if ways = 4 then bt m 0 * 2 + bt m (1 + bt m 0) else if ways = 2 then bt m 0 else 0
theorem ret_pair {a b x : Int} (h : a = b) : Ending.returned (.tuple #[.int .i64 a, .int .i64 x]) = Ending.returned (.tuple #[.int .i64 b, .int .i64 x]) := by rw [h]
def good (n : Int) : Prop := n = 1 ∨ n = 2 ∨ n = 4
instance (n : Int) : Decidable (good n) := by unfold good; exact inferInstance

theorem us_lt (m ways way : Nat) (hm : m < 256) (hw : way < ways) (h4 : ways ≤ 4) : us m ways way < 256 := by
  unfold us
  split
  · exact away_lt _ _ _ (away_lt _ _ _ hm (by omega) (by omega)) (by omega) (by omega)
  · split
    · exact away_lt _ _ _ hm (by omega) (by omega)
    · exact hm
theorem vc_lt (m ways : Nat) (h : ways = 1 ∨ ways = 2 ∨ ways = 4) : vc m ways < ways := by
  have h0 := bt_lt m 0
  have h1 := bt_lt m (1 + bt m 0)
  unfold vc
  rcases h with rfl | rfl | rfl
  · simp
  · simpa using h0
  · simp; omega

theorem use_bad (m ways way : Int) (w : World) (h : ¬ good ways) : Calls Tryd.prog 52 #[.int .u8 m, .int .i64 ways, .int .i64 way] w fun e w' => e = .returned (.tuple #[.int .u8 0, .int .i64 2]) ∧ ∃ n, w' = w.drewN n := by
  have hq := Lib.hid (may_no ways w h)
  clear h
  go_enter Tryd.func52, Tryd.ntmps52
  go_wp2_with (go_at_call 62; ((with_reducible refine hq.out.mono ?_); rintro e w' ⟨rfl, rfl⟩))
  go_ret2
  exact ⟨rfl, 0, rfl⟩
theorem use_out (m ways way : Int) (w : World) (h : good ways) (ho : way < 0 ∨ ways ≤ way) : Calls Tryd.prog 52 #[.int .u8 m, .int .i64 ways, .int .i64 way] w fun e w' => e = .returned (.tuple #[.int .u8 0, .int .i64 5]) ∧ ∃ n, w' = w.drewN n := by
  have hq := Lib.hid (may_yes ways w h)
  have h := Lib.hid h
  by_cases h0 : way < 0
  · clear ho
    go_enter Tryd.func52, Tryd.ntmps52
    go_wp2_with (go_at_call 62; ((with_reducible refine hq.out.mono ?_); rintro e w' ⟨rfl, rfl⟩))
    go_ret2
    exact ⟨rfl, 0, rfl⟩
  · have h1 : ways ≤ way := by omega
    clear ho
    go_enter Tryd.func52, Tryd.ntmps52
    go_wp2_with (go_at_call 62; ((with_reducible refine hq.out.mono ?_); rintro e w' ⟨rfl, rfl⟩))
    go_ret2
    exact ⟨rfl, 0, rfl⟩
theorem use1 (m : Nat) (w : World) (hm : m < 256) : Calls Tryd.prog 52 #[.int .u8 (m : Int), .int .i64 1, .int .i64 0] w fun e w' => e = .returned (.tuple #[.int .u8 (us m 1 0 : Nat), .int .i64 0]) ∧ ∃ n, w' = w.drewN n := by
  have hq := Lib.hid (may_yes 1 w (by decide))
  go_enter Tryd.func52, Tryd.ntmps52
  go_wp2_with (go_at_call 62; ((with_reducible refine hq.out.mono ?_); rintro e w' ⟨rfl, rfl⟩))
  go_ret2
  exact ⟨rfl, 0, rfl⟩
theorem use20 (m : Nat) (w : World) (hm : m < 256) : Calls Tryd.prog 52 #[.int .u8 (m : Int), .int .i64 2, .int .i64 0] w fun e w' => e = .returned (.tuple #[.int .u8 (us m 2 0 : Nat), .int .i64 0]) ∧ ∃ n, w' = w.drewN n := by
  have hq := Lib.hid (may_yes 2 w (by decide))
  have ha := Lib.hid (away00 m w hm)
  go_enter Tryd.func52, Tryd.ntmps52
  go_wp2_with (first
    | (go_at_call 62; ((with_reducible refine hq.out.mono ?_); rintro e w' ⟨rfl, rfl⟩))
    | (go_at_call 63; ((with_reducible refine ha.out.mono ?_); rintro e w' ⟨rfl, n1, rfl⟩)))
  go_ret2
  exact ⟨rfl, n1, rfl⟩
theorem use21 (m : Nat) (w : World) (hm : m < 256) : Calls Tryd.prog 52 #[.int .u8 (m : Int), .int .i64 2, .int .i64 1] w fun e w' => e = .returned (.tuple #[.int .u8 (us m 2 1 : Nat), .int .i64 0]) ∧ ∃ n, w' = w.drewN n := by
  have hq := Lib.hid (may_yes 2 w (by decide))
  have ha := Lib.hid (away01 m w hm)
  go_enter Tryd.func52, Tryd.ntmps52
  go_wp2_with (first
    | (go_at_call 62; ((with_reducible refine hq.out.mono ?_); rintro e w' ⟨rfl, rfl⟩))
    | (go_at_call 63; ((with_reducible refine ha.out.mono ?_); rintro e w' ⟨rfl, n1, rfl⟩)))
  go_ret2
  exact ⟨rfl, n1, rfl⟩
theorem use40 (m : Nat) (w : World) (hm : m < 256) : Calls Tryd.prog 52 #[.int .u8 (m : Int), .int .i64 4, .int .i64 0] w fun e w' => e = .returned (.tuple #[.int .u8 (us m 4 0 : Nat), .int .i64 0]) ∧ ∃ n, w' = w.drewN n := by
  have hq := Lib.hid (may_yes 4 w (by decide))
  have hb := Lib.hid (bitIn_any 0 w (by decide))
  have ha := Lib.hid (away10 m w hm)
  have hc : Hid (∀ w, _) := Lib.hid (fun w => away00 (away m 1 0) w (away_lt _ _ _ hm (by decide) (by decide)))
  go_enter Tryd.func52, Tryd.ntmps52
  go_wp2_with (first
    | (go_at_call 62; ((with_reducible refine hq.out.mono ?_); rintro e w' ⟨rfl, rfl⟩))
    | (go_at_call 64; ((with_reducible refine hb.out.mono ?_); rintro e w' ⟨rfl, rfl⟩))
    | (go_at_call 63; ((with_reducible refine ha.out.mono ?_); rintro e w' ⟨rfl, n1, rfl⟩))
    | (go_at_call 63; ((with_reducible refine (hc.out _).mono ?_); rintro e w' ⟨rfl, n2, rfl⟩)))
  go_ret2
  exact ⟨rfl, n1 + n2, rfl⟩
theorem use41 (m : Nat) (w : World) (hm : m < 256) : Calls Tryd.prog 52 #[.int .u8 (m : Int), .int .i64 4, .int .i64 1] w fun e w' => e = .returned (.tuple #[.int .u8 (us m 4 1 : Nat), .int .i64 0]) ∧ ∃ n, w' = w.drewN n := by
  have hq := Lib.hid (may_yes 4 w (by decide))
  have hb := Lib.hid (bitIn_any 0 w (by decide))
  have ha := Lib.hid (away11 m w hm)
  have hc : Hid (∀ w, _) := Lib.hid (fun w => away00 (away m 1 1) w (away_lt _ _ _ hm (by decide) (by decide)))
  go_enter Tryd.func52, Tryd.ntmps52
  go_wp2_with (first
    | (go_at_call 62; ((with_reducible refine hq.out.mono ?_); rintro e w' ⟨rfl, rfl⟩))
    | (go_at_call 64; ((with_reducible refine hb.out.mono ?_); rintro e w' ⟨rfl, rfl⟩))
    | (go_at_call 63; ((with_reducible refine ha.out.mono ?_); rintro e w' ⟨rfl, n1, rfl⟩))
    | (go_at_call 63; ((with_reducible refine (hc.out _).mono ?_); rintro e w' ⟨rfl, n2, rfl⟩)))
  go_ret2
  exact ⟨rfl, n1 + n2, rfl⟩
theorem use42 (m : Nat) (w : World) (hm : m < 256) : Calls Tryd.prog 52 #[.int .u8 (m : Int), .int .i64 4, .int .i64 2] w fun e w' => e = .returned (.tuple #[.int .u8 (us m 4 2 : Nat), .int .i64 0]) ∧ ∃ n, w' = w.drewN n := by
  have hq := Lib.hid (may_yes 4 w (by decide))
  have hb := Lib.hid (bitIn_any 1 w (by decide))
  have ha := Lib.hid (away20 m w hm)
  have hc : Hid (∀ w, _) := Lib.hid (fun w => away01 (away m 2 0) w (away_lt _ _ _ hm (by decide) (by decide)))
  go_enter Tryd.func52, Tryd.ntmps52
  go_wp2_with (first
    | (go_at_call 62; ((with_reducible refine hq.out.mono ?_); rintro e w' ⟨rfl, rfl⟩))
    | (go_at_call 64; ((with_reducible refine hb.out.mono ?_); rintro e w' ⟨rfl, rfl⟩))
    | (go_at_call 63; ((with_reducible refine ha.out.mono ?_); rintro e w' ⟨rfl, n1, rfl⟩))
    | (go_at_call 63; ((with_reducible refine (hc.out _).mono ?_); rintro e w' ⟨rfl, n2, rfl⟩)))
  go_ret2
  exact ⟨rfl, n1 + n2, rfl⟩
theorem use43 (m : Nat) (w : World) (hm : m < 256) : Calls Tryd.prog 52 #[.int .u8 (m : Int), .int .i64 4, .int .i64 3] w fun e w' => e = .returned (.tuple #[.int .u8 (us m 4 3 : Nat), .int .i64 0]) ∧ ∃ n, w' = w.drewN n := by
  have hq := Lib.hid (may_yes 4 w (by decide))
  have hb := Lib.hid (bitIn_any 1 w (by decide))
  have ha := Lib.hid (away21 m w hm)
  have hc : Hid (∀ w, _) := Lib.hid (fun w => away01 (away m 2 1) w (away_lt _ _ _ hm (by decide) (by decide)))
  go_enter Tryd.func52, Tryd.ntmps52
  go_wp2_with (first
    | (go_at_call 62; ((with_reducible refine hq.out.mono ?_); rintro e w' ⟨rfl, rfl⟩))
    | (go_at_call 64; ((with_reducible refine hb.out.mono ?_); rintro e w' ⟨rfl, rfl⟩))
    | (go_at_call 63; ((with_reducible refine ha.out.mono ?_); rintro e w' ⟨rfl, n1, rfl⟩))
    | (go_at_call 63; ((with_reducible refine (hc.out _).mono ?_); rintro e w' ⟨rfl, n2, rfl⟩)))
  go_ret2
  exact ⟨rfl, n1 + n2, rfl⟩
theorem use_in (m ways way : Nat) (w : World) (hm : m < 256) (hg : good ways) (hw : way < ways) : Calls Tryd.prog 52 #[.int .u8 (m : Int), .int .i64 (ways : Int), .int .i64 (way : Int)] w fun e w' => e = .returned (.tuple #[.int .u8 (us m ways way : Nat), .int .i64 0]) ∧ ∃ n, w' = w.drewN n := by
  have hg' : ways = 1 ∨ ways = 2 ∨ ways = 4 := by unfold good at hg; omega
  rcases hg' with rfl | rfl | rfl
  · obtain rfl : way = 0 := by omega
    exact use1 m w hm
  · obtain rfl | rfl : way = 0 ∨ way = 1 := by omega
    · exact use20 m w hm
    · exact use21 m w hm
  · obtain rfl | rfl | rfl | rfl : way = 0 ∨ way = 1 ∨ way = 2 ∨ way = 3 := by omega
    · exact use40 m w hm
    · exact use41 m w hm
    · exact use42 m w hm
    · exact use43 m w hm

theorem victim_bad (m ways : Int) (w : World) (h : ¬ good ways) : Calls Tryd.prog 53 #[.int .u8 m, .int .i64 ways] w fun e w' => e = .returned (.tuple #[.int .i64 0, .int .i64 2]) ∧ w = w' := by
  have hq := Lib.hid (may_no ways w h)
  clear h
  go_enter Tryd.func53, Tryd.ntmps53
  go_wp2_with (go_at_call 62; ((with_reducible refine hq.out.mono ?_); rintro e w' ⟨rfl, rfl⟩))
  go_ret2
  exact ⟨rfl, rfl⟩
theorem victim1 (m : Nat) (w : World) (hm : m < 256) : Calls Tryd.prog 53 #[.int .u8 (m : Int), .int .i64 1] w fun e w' => e = .returned (.tuple #[.int .i64 (vc m 1 : Nat), .int .i64 0]) ∧ w = w' := by
  have hq := Lib.hid (may_yes 1 w (by decide))
  have hp := Lib.hid (points0 m w hm)
  go_enter Tryd.func53, Tryd.ntmps53
  go_wp2_with (first
    | (go_at_call 62; ((with_reducible refine hq.out.mono ?_); rintro e w' ⟨rfl, rfl⟩))
    | (go_at_call 65; ((with_reducible refine hp.out.mono ?_); rintro e w' ⟨rfl, rfl⟩)))
  go_ret2
  exact ⟨rfl, rfl⟩
theorem victim2 (m : Nat) (w : World) (hm : m < 256) : Calls Tryd.prog 53 #[.int .u8 (m : Int), .int .i64 2] w fun e w' => e = .returned (.tuple #[.int .i64 (vc m 2 : Nat), .int .i64 0]) ∧ w = w' := by
  have hq := Lib.hid (may_yes 2 w (by decide))
  have hp := Lib.hid (points0 m w hm)
  have h0 := bt_lt m 0
  go_enter Tryd.func53, Tryd.ntmps53
  go_wp2_with (first
    | (go_at_call 62; ((with_reducible refine hq.out.mono ?_); rintro e w' ⟨rfl, rfl⟩))
    | (go_at_call 65; ((with_reducible refine hp.out.mono ?_); rintro e w' ⟨rfl, rfl⟩)))
  go_ret2
  exact ⟨rfl, rfl⟩
theorem victim4 (m : Nat) (w : World) (hm : m < 256) : Calls Tryd.prog 53 #[.int .u8 (m : Int), .int .i64 4] w fun e w' => e = .returned (.tuple #[.int .i64 (vc m 4 : Nat), .int .i64 0]) ∧ w = w' := by
  have hq := Lib.hid (may_yes 4 w (by decide))
  have hp := Lib.hid (points0 m w hm)
  have h0 := bt_lt m 0
  obtain h | h : bt m 0 = 0 ∨ bt m 0 = 1 := by omega
  · have hb := Lib.hid (bitIn_any 0 w (by decide))
    have hp1 := Lib.hid (points1 m w hm)
    have hv : Hid _ := Lib.hid (show vc m 4 = bt m 1 by unfold vc; rw [h]; simp)
    have hl := bt_lt m 1
    rw [h] at hp
    clear h h0
    go_enter Tryd.func53, Tryd.ntmps53
    go_wp2_with (first
      | (go_at_call 62; ((with_reducible refine hq.out.mono ?_); rintro e w' ⟨rfl, rfl⟩))
      | (go_at_call 64; ((with_reducible refine hb.out.mono ?_); rintro e w' ⟨rfl, rfl⟩))
      | (go_at_call 65; ((with_reducible refine hp.out.mono ?_); rintro e w' ⟨rfl, rfl⟩))
      | (go_at_call 65; ((with_reducible refine hp1.out.mono ?_); rintro e w' ⟨rfl, rfl⟩)))
    go_ret2
    refine ⟨ret_pair ?_, rfl⟩
    rw [hv.out]
  · have hb := Lib.hid (bitIn_any 1 w (by decide))
    have hp1 := Lib.hid (points2 m w hm)
    have hv : Hid _ := Lib.hid (show vc m 4 = 2 + bt m 2 by unfold vc; rw [h]; simp)
    have hl := bt_lt m 2
    rw [h] at hp
    clear h h0
    go_enter Tryd.func53, Tryd.ntmps53
    go_wp2_with (first
      | (go_at_call 62; ((with_reducible refine hq.out.mono ?_); rintro e w' ⟨rfl, rfl⟩))
      | (go_at_call 64; ((with_reducible refine hb.out.mono ?_); rintro e w' ⟨rfl, rfl⟩))
      | (go_at_call 65; ((with_reducible refine hp.out.mono ?_); rintro e w' ⟨rfl, rfl⟩))
      | (go_at_call 65; ((with_reducible refine hp1.out.mono ?_); rintro e w' ⟨rfl, rfl⟩)))
    go_ret2
    refine ⟨ret_pair ?_, rfl⟩
    rw [hv.out]
    show (_ : Int) = _
    simp
    omega
theorem victim_in (m ways : Nat) (w : World) (hm : m < 256) (hg : good ways) : Calls Tryd.prog 53 #[.int .u8 (m : Int), .int .i64 (ways : Int)] w fun e w' => e = .returned (.tuple #[.int .i64 (vc m ways : Nat), .int .i64 0]) ∧ w = w' := by
  have hg' : ways = 1 ∨ ways = 2 ∨ ways = 4 := by unfold good at hg; omega
  rcases hg' with rfl | rfl | rfl
  · exact victim1 m w hm
  · exact victim2 m w hm
  · exact victim4 m w hm
end Go.Proofs.YtjbapfjeildfoaaDoor.kk
