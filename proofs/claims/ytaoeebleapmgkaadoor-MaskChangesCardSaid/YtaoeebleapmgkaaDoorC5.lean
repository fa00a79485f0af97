/-
  What each statement of layer 2 asks first holds: a set has what it was made of. No condition beyond that the library's table lies in its variable.
-/
import Derived.Test.YtaoeebleapmgkaaDoorC4
namespace Go.Proofs.YtaoeebleapmgkaaDoor.mm
open Go Go.RowKit
set_option linter.unusedVariables false

theorem at_block {w : World} {b : Nat} {xs : List Int} (h : ∀ k x, xs[k]? = some x → w.cell? ⟨b, k, none⟩ = some (.int .i64 x)) : At w (some ⟨b, 0, none⟩) xs :=
  fun k x hk => ⟨b, 0, rfl, by rw [Nat.zero_add]; exact h k x hk⟩
theorem of_three (b : Nat) (w : World) (h0 : w.cell? ⟨b, 0, none⟩ = some (.int .i64 0)) (h1 : w.cell? ⟨b, 1, none⟩ = some (.int .i64 3)) (h2 : w.cell? ⟨b, 2, none⟩ = some (.int .i64 3)) :
    Calls Tryd.prog 9 #[.slice (some ⟨b, 0, none⟩) 3 3] w fun e w' => e = .returned (.tuple #[.int .u32 9, .int .i64 0]) ∧ w = w' := by
  have h := of_any [0, 3, 3] (some ⟨b, 0, none⟩) 3 3 w rfl (by omega) (at_block fun k x hk => by
    match k, hk with
    | 0, hk => cases hk; exact h0
    | 1, hk => cases hk; exact h1
    | 2, hk => cases hk; exact h2)
  rw [show resM [0, 3, 3] = 9 by decide, show resE [0, 3, 3] = 0 by decide] at h
  exact h
theorem ones9 : ones 9 = [0, 3] := by decide

theorem at_alloc {w : World} {ad : Option Addr} {xs : List Int} (h : At w ad xs) (hb : ∀ g, ad = some g → g.block < w.heap.size) (o : Obj) : At (w.alloc o) ad xs :=
  h.below ((Below.refl w.heap.size w).alloc (Nat.le_refl _) o) hb
theorem list9 (w : World) (hT : Tab w) : Calls Tryd.prog 22 #[.int .u32 9] w fun e w' => ∃ ad cap, e = .returned (.slice ad 2 cap) ∧ At w' ad [0, 3] ∧ (∀ g, ad = some g → g.block < w'.heap.size) ∧ Below w.heap.size w w' :=
  (list_any 9 w (by omega) hT).mono fun e w' ⟨v, he, hown, hb⟩ => by
    rw [ones9] at hown
    obtain ⟨ad, cap, rfl, hat, hbl⟩ := own_at hown
    exact ⟨ad, cap, he, hat, hbl, hb⟩
theorem two_at (w : World) : At (w.alloc (.cells #[.int .i64 0, .int .i64 3] 3)) (some ⟨w.heap.size, 0, none⟩) [0, 3] := at_block fun k x hk => by
  match k, hk with
  | 0, hk => cases hk; simp
  | 1, hk => cases hk; simp

set_option maxHeartbeats 1000000 in
theorem works_any (w : World) (hT : Tab w) : Calls Tryd.prog 10 #[] w fun e w' => e = .returned (.bool true) ∧ Below w.heap.size w w' := by
  have HT := Lib.hid hT
  have h0w := hT.lt
  clear hT
  go_enter Tryd.func10, Tryd.ntmps10
  go_wp2_with (first
    | (go_at_call 9; ((with_reducible refine (of_three _ _ (by simp) (by simp) (by simp)).mono ?_); rintro e w' ⟨rfl, rfl⟩))
    | (go_at_call 22; refine (list9 _ (HT.out.below ((Below.refl _ _).alloc (Nat.le_refl _) _) h0w)).mono ?_; rintro e w2 ⟨ad, cap, rfl, hat, hbl, hbe⟩)
    | (go_at_call 21; ((with_reducible refine (equal_same [0, 3] _ _ 2 _ _ _ rfl (by omega) (at_alloc hat hbl _) (two_at _)).mono ?_); rintro e w' ⟨rfl, nq, rfl⟩)))
  go_ret
  refine ⟨rfl, ?_⟩
  have hs := hbe.size
  rw [World.size_alloc] at hs
  exact below_drewN ((((Below.refl _ _).alloc (Nat.le_refl _) _).trans (hbe.mono (by simp))).alloc (by omega) _) _
end Go.Proofs.YtaoeebleapmgkaaDoor.mm
