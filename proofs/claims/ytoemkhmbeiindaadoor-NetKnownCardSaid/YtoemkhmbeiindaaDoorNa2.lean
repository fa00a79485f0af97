/-
  What isKind, isCore, isState, includes, coreOf, Net and the document's Net, toHome, stamped answer: contracts. No condition but the bounds that each theorem names.
-/
import Derived.Test.YtoemkhmbeiindaaDoorNa1
namespace Go.Proofs.YtoemkhmbeiindaaDoor.tt
open Go Go.ChangeShapes Go.WideShapes Go.ChangeAt Go.RowKit
set_option linter.unusedVariables false

theorem isKind_any (k : Int) (w : World) : Calls Tryd.prog 50 #[.int .u8 k] w fun e w' => e = .returned (.bool (decide (1 ≤ k ∧ k ≤ 11))) ∧ w' = w := by
  by_cases h1 : 1 ≤ k
  · by_cases h2 : k ≤ 11
    · rw [decide_eq_true ⟨h1, h2⟩]
      go_enter Tryd.func50, Tryd.ntmps50
      go_wp2
      go_ret
      exact ⟨rfl, rfl⟩
    · rw [decide_eq_false (fun h => h2 h.2)]
      go_enter Tryd.func50, Tryd.ntmps50
      go_wp2
      go_ret
      exact ⟨rfl, rfl⟩
  · rw [decide_eq_false (fun h => h1 h.1)]
    go_enter Tryd.func50, Tryd.ntmps50
    go_wp2
    go_ret
    exact ⟨rfl, rfl⟩
theorem isCore_any (k : Int) (w : World) : Calls Tryd.prog 67 #[.int .i64 k] w fun e w' => e = .returned (.bool (decide (0 ≤ k ∧ k < 16))) ∧ w' = w := by
  by_cases h1 : 0 ≤ k
  · by_cases h2 : k < 16
    · rw [decide_eq_true ⟨h1, h2⟩]
      go_enter Tryd.func67, Tryd.ntmps67
      go_wp2
      go_ret
      exact ⟨rfl, rfl⟩
    · rw [decide_eq_false (fun h => h2 h.2)]
      go_enter Tryd.func67, Tryd.ntmps67
      go_wp2
      go_ret
      exact ⟨rfl, rfl⟩
  · rw [decide_eq_false (fun h => h1 h.1)]
    go_enter Tryd.func67, Tryd.ntmps67
    go_wp2
    go_ret
    exact ⟨rfl, rfl⟩
theorem isState_any (k : Int) (w : World) : Calls Tryd.prog 70 #[.int .u8 k] w fun e w' => e = .returned (.bool (decide (1 ≤ k ∧ k ≤ 3))) ∧ w' = w := by
  by_cases h1 : 1 ≤ k
  · by_cases h2 : k ≤ 3
    · rw [decide_eq_true ⟨h1, h2⟩]
      go_enter Tryd.func70, Tryd.ntmps70
      go_wp2
      go_ret
      exact ⟨rfl, rfl⟩
    · rw [decide_eq_false (fun h => h2 h.2)]
      go_enter Tryd.func70, Tryd.ntmps70
      go_wp2
      go_ret
      exact ⟨rfl, rfl⟩
  · rw [decide_eq_false (fun h => h1 h.1)]
    go_enter Tryd.func70, Tryd.ntmps70
    go_wp2
    go_ret
    exact ⟨rfl, rfl⟩

/-- What a kind uses. -/
def uses (k : Int) : Int :=
  if k = 1 ∨ k = 2 ∨ k = 10 then 3 else if k = 3 then 25 else if k = 4 ∨ k = 5 ∨ k = 7 then 2 else if k = 6 then 20 else if k = 9 then 33 else if k = 11 then 1 else 0
def us7 (u : Int) : Prop := u = 0 ∨ u = 1 ∨ u = 2 ∨ u = 3 ∨ u = 20 ∨ u = 25 ∨ u = 33
theorem uses7 (k : Int) : us7 (uses k) := by
  unfold uses us7; split; · simp
  split; · simp
  split; · simp
  split; · simp
  split; · simp
  split <;> simp
theorem inc_any (u x : Int) (w : World) : Calls Tryd.prog 69 #[.int .u8 u, .int .u8 x] w fun e w' => e = .returned (.bool (!(bits .and .u8 u x == 0))) ∧ w' = w := by
  go_enter Tryd.func69, Tryd.ntmps69
  go_wp2
  go_ret
  exact ⟨rfl, rfl⟩
theorem inc (u x : Int) (b : Bool) (h : (!(bits .and .u8 u x == 0)) = b) (w : World) : Calls Tryd.prog 69 #[.int .u8 u, .int .u8 x] w fun e w' => e = .returned (.bool b) ∧ w' = w := by
  rw [← h]; exact inc_any u x w

/-- The net of a kind. -/
def net (k : Int) : Int := if 1 ≤ k ∧ k ≤ 11 then (if k ≤ 3 then 0 else if k ≤ 5 then 1 else 2) else -1
theorem net_any (k : Int) (w : World) : Calls Tryd.prog 29 #[.int .u8 k] w fun e w' => e = .returned (.int .i64 (net k)) ∧ w' = w := by
  have HK := Lib.hid (isKind_any k w)
  unfold net
  by_cases h : 1 ≤ k ∧ k ≤ 11
  · rw [if_pos h]
    rw [decide_eq_true h] at HK
    by_cases h3 : k ≤ 3
    · rw [if_pos h3]
      go_enter Tryd.func29, Tryd.ntmps29
      go_wp2_with (go_at_call 50; ((with_reducible refine HK.out.mono ?_); rintro e w1 ⟨rfl, rfl⟩))
      go_ret
      exact ⟨rfl, rfl⟩
    · rw [if_neg h3]
      by_cases h5 : k ≤ 5
      · rw [if_pos h5]
        go_enter Tryd.func29, Tryd.ntmps29
        go_wp2_with (go_at_call 50; ((with_reducible refine HK.out.mono ?_); rintro e w1 ⟨rfl, rfl⟩))
        go_ret
        exact ⟨rfl, rfl⟩
      · rw [if_neg h5]
        go_enter Tryd.func29, Tryd.ntmps29
        go_wp2_with (go_at_call 50; ((with_reducible refine HK.out.mono ?_); rintro e w1 ⟨rfl, rfl⟩))
        go_ret
        exact ⟨rfl, rfl⟩
  · rw [if_neg h]
    rw [decide_eq_false h] at HK
    clear h
    go_enter Tryd.func29, Tryd.ntmps29
    go_wp2_with (go_at_call 50; ((with_reducible refine HK.out.mono ?_); rintro e w1 ⟨rfl, rfl⟩))
    go_ret
    exact ⟨rfl, rfl⟩
theorem kinds11 {k : Int} (h : 1 ≤ k ∧ k ≤ 11) : k = 1 ∨ k = 2 ∨ k = 3 ∨ k = 4 ∨ k = 5 ∨ k = 6 ∨ k = 7 ∨ k = 8 ∨ k = 9 ∨ k = 10 ∨ k = 11 := by omega
theorem idx54 (cs : Array Value) (k : Int) (v : Value) (h0 : 0 ≤ k) (h1 : k < 12) (h : cs[k.toNat]? = some v) (w : World) : (Instr.index 105 (.agg cs) (.int .u8 k)).run Tryd.prog w = .ok v w := by
  have hk : 0 ≤ k ∧ k < 12 := ⟨h0, h1⟩
  simp [Instr.index, asIntOf, part, isAgg, run_underlying Tryd.underlying105, run_underlying Tryd.underlying3, Tryd.sizeOf3, hk, h]
theorem rnet_lit (k m : Int) (h1 : 1 ≤ k) (h2 : k ≤ 11) (h : (#[.int .i64 0, .int .i64 0, .int .i64 0, .int .i64 0, .int .i64 1, .int .i64 1, .int .i64 2, .int .i64 2, .int .i64 2, .int .i64 2, .int .i64 2, .int .i64 2] : Array Value)[k.toNat]? = some (.int .i64 m)) (w : World) : Calls Tryd.prog 42 #[.int .u8 k] w fun e w' => e = .returned (.int .i64 m) ∧ w' = w := by
  have HX := idx54 _ k _ (by omega) (by omega) h
  clear h
  go_enter Tryd.func42, Tryd.ntmps42
  go_wp2
  go_ret
  exact ⟨rfl, rfl⟩
set_option maxHeartbeats 1000000 in
theorem rnet_any (k : Int) (w : World) : Calls Tryd.prog 42 #[.int .u8 k] w fun e w' => e = .returned (.int .i64 (net k)) ∧ w' = w := by
  by_cases h1 : k < 1
  · have : net k = -1 := by unfold net; rw [if_neg (by omega)]
    rw [this]
    go_enter Tryd.func42, Tryd.ntmps42
    go_wp2
    go_ret
    exact ⟨rfl, rfl⟩
  · by_cases h2 : 11 < k
    · have : net k = -1 := by unfold net; rw [if_neg (by omega)]
      rw [this]
      go_enter Tryd.func42, Tryd.ntmps42
      go_wp2
      go_ret
      exact ⟨rfl, rfl⟩
    · rcases kinds11 (k := k) (by omega) with rfl | rfl | rfl | rfl | rfl | rfl | rfl | rfl | rfl | rfl | rfl
      all_goals exact rnet_lit _ _ (by decide) (by decide) (by rfl) w

/-- Kinds that go to the home; kinds with a stamp. -/
def tH (k : Int) : Bool := decide (1 ≤ k ∧ k ≤ 3 ∨ 9 ≤ k ∧ k ≤ 11)
def sT (k : Int) : Bool := decide (k = 1 ∨ k = 2 ∨ k = 4 ∨ k = 5 ∨ k = 7 ∨ k = 10)
set_option maxHeartbeats 1000000 in
theorem toHome_any (k : Int) (h : 1 ≤ k ∧ k ≤ 11) (w : World) : Calls Tryd.prog 64 #[.int .u8 k] w fun e w' => e = .returned (.bool (tH k)) ∧ w' = w := by
  rcases kinds11 h with rfl | rfl | rfl | rfl | rfl | rfl | rfl | rfl | rfl | rfl | rfl
  all_goals
    clear h
    go_enter Tryd.func64, Tryd.ntmps64
    go_wp2
    go_ret
    exact ⟨rfl, rfl⟩
set_option maxHeartbeats 1000000 in
theorem stamped_any (k : Int) (h : 1 ≤ k ∧ k ≤ 11) (w : World) : Calls Tryd.prog 65 #[.int .u8 k] w fun e w' => e = .returned (.bool (sT k)) ∧ w' = w := by
  rcases kinds11 h with rfl | rfl | rfl | rfl | rfl | rfl | rfl | rfl | rfl | rfl | rfl
  all_goals
    clear h
    go_enter Tryd.func65, Tryd.ntmps65
    go_wp2
    go_ret
    exact ⟨rfl, rfl⟩
end Go.Proofs.YtoemkhmbeiindaaDoor.tt
