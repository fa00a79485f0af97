/-
  What a bound's holds, logs, the document's Data answer: contracts. No condition but the bounds that each theorem names.
-/
import Derived.Test.YtkeeajiikfddgaaDoorRows
import Derived.WalkKit
import Derived.ProofKit
import Derived.OpenShut
import Derived.WalkLawsBesides
import Derived.Handy
import Derived.Laws.BitsAllLaws
import Derived.Lib.Hide
import Derived.LoopTactic
import Derived.Outline
import Derived.Deep.QuietTactic
import Derived.BigQuiet
import Derived.Deep.RegionHeld3
namespace Go.Proofs.YtkeeajiikfddgaaDoor.qq
open Go Go.ChangeShapes Go.WideShapes Go.ChangeAt Go.RowKit
set_option linter.unusedVariables false

theorem grown_alloc {w w' : World} {own : Option Nat} (h : w.grownBy w' own) (o : Obj) : w.grownBy (w'.alloc o) own :=
  ⟨h.os, h.tape, h.output, by have := h.size; simp; omega, fun k hk hn => (Below.heap_alloc _ _ _ (Nat.lt_of_lt_of_le hk h.size)).trans (h.block k hk hn)⟩
theorem grown_refl (w : World) (own : Option Nat) : w.grownBy w own := ⟨rfl, rfl, rfl, Nat.le_refl _, fun _ _ _ => rfl⟩
theorem grown_trans {a b c : World} {own : Option Nat} (h : a.grownBy b own) (k : b.grownBy c own) : a.grownBy c own :=
  ⟨k.os.trans h.os, k.tape.trans h.tape, k.output.trans h.output, Nat.le_trans h.size k.size, fun i hi hn => (k.block i (Nat.lt_of_lt_of_le hi h.size) hn).trans (h.block i hi hn)⟩
theorem grown_drew {w w' : World} {own : Option Nat} (h : w.grownBy w' own) : w.grownBy w'.drew own := ⟨h.os, h.tape, h.output, h.size, h.block⟩

/-- What a bound says of a number. -/
def hb (l m : Int) (p : Bool) (x : Int) : Bool := decide (l ≤ x) && decide (x ≤ m) && (!p || decide (bits .and .i64 x (x - 1) = 0))

theorem hb_low (l m : Int) (p : Bool) (x : Int) (h : ¬ l ≤ x) : hb l m p x = false := by unfold hb; rw [decide_eq_false h]; rfl
theorem hb_high (l m : Int) (p : Bool) (x : Int) (h : ¬ x ≤ m) : hb l m p x = false := by unfold hb; rw [decide_eq_false h]; simp
theorem hb_in (l m : Int) (p : Bool) (x : Int) (h1 : l ≤ x) (h2 : x ≤ m) : hb l m p x = (!p || (bits .and .i64 x (x - 1) == 0)) := by unfold hb; rw [decide_eq_true h1, decide_eq_true h2]; rfl

theorem holds_plain (l m x : Int) (w : World) : Calls Tryd.prog 24 #[.agg #[.int .i64 l, .int .i64 m, .bool false], .int .i64 x] w fun e w' => e = .returned (.bool (hb l m false x)) ∧ w.grownBy w' none := by
  by_cases h1 : l ≤ x
  · by_cases h2 : x ≤ m
    · rw [hb_in l m false x h1 h2]
      go_enter Tryd.func24, Tryd.ntmps24
      go_wp2
      go_ret
      exact ⟨rfl, grown_alloc (grown_refl _ _) _⟩
    · rw [hb_high l m false x h2]
      go_enter Tryd.func24, Tryd.ntmps24
      go_wp2
      go_ret
      exact ⟨rfl, grown_alloc (grown_refl _ _) _⟩
  · rw [hb_low l m false x h1]
    go_enter Tryd.func24, Tryd.ntmps24
    go_wp2
    go_ret
    exact ⟨rfl, grown_alloc (grown_refl _ _) _⟩

theorem holds_power (l m x : Int) (w : World) (hl : 1 ≤ l) (hm : m ≤ 256) : Calls Tryd.prog 24 #[.agg #[.int .i64 l, .int .i64 m, .bool true], .int .i64 x] w fun e w' => e = .returned (.bool (hb l m true x)) ∧ w.grownBy w' none := by
  by_cases h1 : l ≤ x
  · by_cases h2 : x ≤ m
    · have h3 : 1 ≤ x := by omega
      have h4 : x ≤ 256 := by omega
      rw [hb_in l m true x h1 h2]
      go_enter Tryd.func24, Tryd.ntmps24
      go_wp2
      go_ret
      exact ⟨rfl, grown_alloc (grown_refl _ _) _⟩
    · rw [hb_high l m true x h2]
      go_enter Tryd.func24, Tryd.ntmps24
      go_wp2
      go_ret
      exact ⟨rfl, grown_alloc (grown_refl _ _) _⟩
  · rw [hb_low l m true x h1]
    go_enter Tryd.func24, Tryd.ntmps24
    go_wp2
    go_ret
    exact ⟨rfl, grown_alloc (grown_refl _ _) _⟩

/-- A plan. -/
structure Cfg where
  co : Int
  se : Int
  wa : Int
  bl : Int
  lo : Int
  ba : Int
  ne : Int
  tr : Int
def Cfg.list (c : Cfg) : List Int := [c.co, c.se, c.wa, c.bl, c.lo, c.ba, c.ne, c.tr]
def Cfg.cells (c : Cfg) : Array Value := #[.int .i64 c.co, .int .i64 c.se, .int .i64 c.wa, .int .i64 c.bl, .int .i64 c.lo, .int .i64 c.ba, .int .i64 c.ne, .int .i64 c.tr]
theorem Cfg.cells_get (c : Cfg) (k : Nat) (x : Int) (h : c.list[k]? = some x) : c.cells[k]? = some (.int .i64 x) := by
  have e : c.cells[k]? = (c.list.map (Value.int .i64))[k]? := by simp [Cfg.cells, Cfg.list]
  rw [e, List.getElem?_map, h]; rfl

/-- What is in the fields that logs reads. -/
structure Cfg.Fits (c : Cfg) : Prop where
  co : 1 ≤ c.co ∧ c.co ≤ 16
  lo : 1 ≤ c.lo ∧ c.lo ≤ 4
  bl : 1 ≤ c.bl ∧ c.bl ≤ 256
def Cfg.data (c : Cfg) : Int := c.bl - c.co * c.lo
theorem Cfg.Fits.mul {c : Cfg} (h : c.Fits) : 1 ≤ c.co * c.lo ∧ c.co * c.lo ≤ 64 :=
  ⟨Int.mul_pos (by have := h.co; omega) (by have := h.lo; omega), Int.le_trans (Int.mul_le_mul h.co.2 h.lo.2 (by have := h.lo; omega) (by omega)) (by omega)⟩

theorem logs_any (c : Cfg) (w : World) (h : c.Fits) : Calls Tryd.prog 23 #[.agg c.cells] w fun e w' => e = .returned (.int .i64 c.data) ∧ w.grownBy w' none := by
  obtain ⟨h0, h4⟩ := h.mul
  obtain ⟨h1, h2, h3⟩ := h
  unfold Cfg.cells Cfg.data
  go_enter Tryd.func23, Tryd.ntmps23
  go_wp2
  go_ret
  exact ⟨rfl, grown_alloc (grown_refl _ _) _⟩
theorem rdata_any (c : Cfg) (w : World) (h : c.Fits) : Calls Tryd.prog 16 #[.agg c.cells] w fun e w' => e = .returned (.int .i64 c.data) ∧ w.grownBy w' none := by
  obtain ⟨h0, h4⟩ := h.mul
  obtain ⟨h1, h2, h3⟩ := h
  unfold Cfg.cells Cfg.data
  go_enter Tryd.func16, Tryd.ntmps16
  go_wp2
  go_ret
  exact ⟨rfl, grown_alloc (grown_refl _ _) _⟩
end Go.Proofs.YtkeeajiikfddgaaDoor.qq
