/-
  What a copy of a pool of ints is: contracts. No condition but the bounds that each theorem names.
-/
import Derived.Test.YtkamafkajfajpaaC2
import Derived.WalkSpells
namespace Go.Proofs.Ytkamafkajfajpaa.pp
open Go Go.RowKit
set_option linter.unusedVariables false

/-- The empty slice that is not nil. -/
theorem Sl.empty (w : World) (e : TypeId) : Sl (w.alloc (.cells #[] e)) e (.slice (some ⟨w.heap.size, 0, none⟩) 0 0) [] :=
  .inr ⟨w.heap.size, 0, 0, #[], rfl, heap_alloc_new w _, Nat.le_refl _, by unfold maxLen; omega, by simp, fun k x hk => by simp at hk⟩

set_option maxHeartbeats 1000000 in
theorem clone_any (v : Value) (xs : List Int) (w : World) (hs : Sl w 3 v (xs.map I)) (hl : xs.length ≤ 65536) :
    Calls Try.prog 31 #[v] w fun e w' => ∃ v', e = .returned v' ∧ Sl w' 3 v' (xs.map I) ∧ w.grownBy w' none ∧ ∀ k, v'.ownBlock = some k → w.heap.size ≤ k := by
  obtain ⟨i0, hi, hz0, hz1, hz2⟩ := info_parts Try.info3
  have q39 : ∀ (w : World) (a : Option Addr) (n c n' c' : Nat), (binOp .eql 39 (.slice a n c) (.slice none n' c')).run Try.prog w = .ok (.bool a.isNone) w := fun w a n c n' c' => Lib.run_eql_slice_nil w _ _ a n c n' c' Try.underlying39
  have HS := Lib.hid hs
  have HL : Hid ((xs.map I).length ≤ 65536) := Lib.hid (by simpa using hl)
  rcases hs with ⟨rfl, h⟩ | ⟨g, off, cap, cur, hv, _⟩
  · have HX := Lib.hid h
    clear h hl
    go_enter Try.func31, Try.ntmps31
    go_wp2
    go_ret
    refine ⟨_, rfl, ?_, ⟨rfl, rfl, rfl, Nat.le_refl _, fun _ _ _ => rfl⟩, fun k hk => by simp [Value.ownBlock] at hk⟩
    rw [HX.out]; exact Sl.nil _ _
  · obtain ⟨n0, hn0⟩ : ∃ n, n = (xs.map I).length := ⟨_, rfl⟩
    rw [← hn0] at hv
    subst hv
    clear hl hn0
    go_enter Try.func31, Try.ntmps31
    go_wp2_with (at_builtin; refine wpList_append_sl rfl _ _ 39 39 rfl 3 i0 (.int .i64 0) 8 Try.underlying39 hi hz0 hz1 hz2 rfl (.slice (some ⟨w.heap.size, 0, none⟩) 0 0) [] rfl (Sl.empty w 3) (xs.map I).length (xs.map I) ((HS.out.of_block (fun g hg => Below.heap_alloc w (.cells #[] 3) _ (HS.out.lt g hg))).src Try.underlying39 (I_one xs)) (by have := HL.out; unfold maxLen; simp at this ⊢; omega) (by have := HL.out; simp at this ⊢; omega) ?_; intro v' w2 hsl hgr hnx)
    go_ret
    refine ⟨v', rfl, by simpa using hsl, ⟨hgr.os, hgr.tape, hgr.output, ?_, fun k hk _ => ?_⟩, fun k hk => ?_⟩
    · have := hgr.size; simp at this; omega
    · exact (hgr.block k (by simp; omega) (by simp [Value.ownBlock]; omega)).trans (Below.heap_alloc _ _ _ hk)
    · rcases hnx with h | h
      · rw [h] at hk; simp [Value.ownBlock] at hk; omega
      · have := h k hk; simp at this; omega

theorem copy_nil (w : World) : Calls Try.prog 17 #[.pointer none] w fun e w' => e = .returned (.pointer none) ∧ w = w' := by
  go_enter Try.func17, Try.ntmps17
  go_wp2
  go_ret
  exact ⟨rfl, rfl⟩

set_option maxHeartbeats 1000000 in
theorem copy_any (b : Nat) (v : Value) (room : Nat) (xs : List Int) (w : World) (hP : IPool w b v room xs) (hl : xs.length ≤ 65536) :
    Calls Try.prog 17 #[.pointer (some ⟨b, 0, none⟩)] w fun e w' => ∃ b' v', e = .returned (.pointer (some ⟨b', 0, none⟩)) ∧ w.heap.size ≤ b' ∧ IPool w' b' v' room xs ∧ w.grownBy w' none ∧ ∀ k, v'.ownBlock = some k → w.heap.size ≤ k := by
  have hc := hP.cell0
  have hc1 := hP.cell1
  obtain ⟨ad0, n0, cap0, rfl⟩ := hP.sl.form2
  have HC := Lib.hid (clone_any _ xs w.drew (hP.sl.of_block (fun _ _ => rfl)) hl)
  have HP := Lib.hid hP
  clear hP hl
  go_enter Try.func17, Try.ntmps17
  go_wp2_with fail
  go_region_with (go_at_call 31; ((with_reducible refine HC.out.mono ?_); rintro e w2 ⟨v', rfl, hsl2, hgr2, hfr2⟩; have hc2 := hgr2.cell (show w.drew.cell? ⟨b, 1, none⟩ = _ from hc1) (by simp); obtain ⟨ad', n', cap', rfl⟩ := hsl2.form2))
  all_goals
    go_wp2_with fail
    go_ret
    have hs2 := hgr2.size
    have hr2 : w2.heap.size ≠ 0 := by have := HP.out.lt; simp at hs2; omega
    refine ⟨_, _, rfl, by simpa using hs2, ⟨heap_alloc_new _ _, hsl2.of_block (fun g hg => Below.heap_alloc _ _ _ (hsl2.lt g hg)), fun e => by have := hsl2.lt _ e.symm; omega⟩, ⟨hgr2.os, hgr2.tape, hgr2.output, by simp at hs2 ⊢; omega, fun k hk h => ?_⟩, hfr2⟩
    exact (Below.heap_alloc _ _ _ (by simp at hs2; omega)).trans (hgr2.block k hk h)
end Go.Proofs.Ytkamafkajfajpaa.pp
