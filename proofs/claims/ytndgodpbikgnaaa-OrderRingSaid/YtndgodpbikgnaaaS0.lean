/-
  A row of stamps in a block of its own, what a call on it leaves alone; cmp.Less at stamps. No condition but the bounds that each theorem names.
-/
import Derived.Test.YtndgodpbikgnaaaRows
import Derived.Sort.AssemblyPlain
import Derived.Sort.Grow
import Derived.WalkKit
import Derived.Lib.Walk
import Derived.Lib.Hide
import Derived.BigGuard
import Derived.BigCall
import Derived.CellFam
import Derived.Below
import Derived.Deep.Draws
import Derived.Deep.QuietTactic
import Derived.Deep.LoopGhost
import Derived.Deep.CutRange
import Derived.BigQuiet
namespace Go.Proofs.Ytndgodpbikgnaaa.srt
open Go Go.RowKit Go.Sort
set_option linter.unusedVariables false

/-- A stamp as a value. -/
abbrev E : Int → Value := fun x => Value.int .u64 x
def intOf : Value → Int | .int _ q => q | _ => 0

/-- w' is w, but for the block blk, which holds the row d, and for new blocks. -/
structure S (blk off n : Nat) (w : World) (d : Array Int) (w' : World) : Prop where
  grown : w.grownBy w' (some blk)
  holds : Holds E w' blk off d
  size : d.size = n
  lt : blk < w.heap.size

theorem grown_refl (w : World) (own : Option Nat) : w.grownBy w own := ⟨rfl, rfl, rfl, Nat.le_refl _, fun _ _ _ => rfl⟩
theorem grown_trans {a b c : World} {own : Option Nat} (h : a.grownBy b own) (k : b.grownBy c own) : a.grownBy c own :=
  ⟨k.os.trans h.os, k.tape.trans h.tape, k.output.trans h.output, Nat.le_trans h.size k.size, fun i hi hn => (k.block i (Nat.lt_of_lt_of_le hi h.size) hn).trans (h.block i hi hn)⟩
theorem grown_drewN (w : World) (k : Nat) (own : Option Nat) : w.grownBy (w.drewN k) own := ⟨rfl, rfl, rfl, Nat.le_refl _, fun _ _ _ => rfl⟩
theorem grown_setCell (w : World) (b o : Nat) (v : Value) : w.grownBy (w.setCell ⟨b, o, none⟩ v) (some b) :=
  ⟨rfl, rfl, rfl, by simp [World.setCell], fun k hk hn => Below.heap_setCell _ _ _ _ (by intro e; exact hn (by rw [e]))⟩
theorem grown_of_none {w w' : World} (h : w.grownBy w' none) (own : Option Nat) : w.grownBy w' own := ⟨h.os, h.tape, h.output, h.size, fun k hk _ => h.block k hk (by simp)⟩

section
variable {blk off n : Nat} {w wr w' w1 w2 : World} {d d' : Array Int}
theorem S.self (h : S blk off n w d w') : S blk off n w' d w' := ⟨grown_refl _ _, h.holds, h.size, Nat.lt_of_lt_of_le h.lt h.grown.size⟩
theorem S.trans (h : S blk off n w d w1) (k : S blk off n w1 d' w2) : S blk off n w d' w2 := ⟨grown_trans h.grown k.grown, k.holds, k.size, h.lt⟩
theorem S.drewN (h : S blk off n w d wr) (k : Nat) : S blk off n w d (wr.drewN k) := ⟨grown_trans h.grown (grown_drewN _ _ _), h.holds, h.size, h.lt⟩
theorem S.drew (h : S blk off n w d wr) : S blk off n w d wr.drew := h.drewN 1
/-- What grows without a change of old blocks keeps the row. -/
theorem S.beside (h : S blk off n w d w1) (k : w1.grownBy w2 none) : S blk off n w d w2 := by
  refine ⟨grown_trans h.grown (grown_of_none k _), fun j hj => ?_, h.size, h.lt⟩
  have hb : blk < w1.heap.size := Nat.lt_of_lt_of_le h.lt h.grown.size
  have e := k.block blk hb (by simp)
  have hc := h.holds j hj
  simp only [World.cell?, World.frozen?] at hc ⊢
  rw [e]; exact hc
theorem S.opens (h : S blk off n w d wr) : ∃ G : Nat → Int, (∀ t, G t = d[t]!) ∧ (∀ t, t < n → wr.cell? ⟨blk, off + t, none⟩ = some (.int .u64 (G t))) ∧ (∀ t, t < n → wr.frozen? ⟨blk, off + t, none⟩ = false) :=
  ⟨fun t => d[t]!, fun _ => rfl, fun t ht => (h.holds t (by rw [h.size]; exact ht)).1, fun t ht => (h.holds t (by rw [h.size]; exact ht)).2⟩
theorem S.swap (h : S blk off n w d wr) {i j : Nat} (hi : i < n) (hj : j < n) {x y : Value} (hx : x = E d[j]!) (hy : y = E d[i]!) : S blk off n w (swp d i j) ((wr.setCell ⟨blk, off + i, none⟩ x).setCell ⟨blk, off + j, none⟩ y) := by
  subst hx hy
  have hi' : i < d.size := by rw [h.size]; exact hi
  have hj' : j < d.size := by rw [h.size]; exact hj
  refine ⟨grown_trans h.grown (grown_trans (grown_setCell _ _ _ _) (grown_setCell _ _ _ _)), ?_, by rw [size_swp]; exact h.size, h.lt⟩
  have e := putRow_swp E wr blk off d i j hi' hj'
  rw [putRow_self E wr blk off d h.holds] at e
  rw [e]
  exact holds_putRow E wr blk off d _ h.holds (size_swp _ _ _)
end

theorem isNaN (x : Int) (w : World) : Calls Try.prog 36 #[.int .u64 x] w fun e w' => e = .returned (.bool false) ∧ w' = w := by
  go_enter Try.func36, Try.ntmps36
  go_wp2
  go_ret
  exact ⟨by simp, rfl⟩
theorem less (x y : Int) (w : World) : Calls Try.prog 26 #[.int .u64 x, .int .u64 y] w fun e w' => e = .returned (.bool (ltInt x y)) ∧ w' = w := by
  go_enter Try.func26, Try.ntmps26
  go_wp2_with (go_at_call 36; refine (isNaN _ _).mono ?_; rintro e w' ⟨rfl, rfl⟩)
  go_ret
  exact ⟨rfl, rfl⟩
end Go.Proofs.Ytndgodpbikgnaaa.srt
