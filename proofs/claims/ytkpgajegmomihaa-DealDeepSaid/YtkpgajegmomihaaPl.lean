/-
  What a plan's bound's holds, logs, May, Data answer: contracts. Condition: the table of bounds lies in its variable as the program's text has it.
-/
import Derived.Test.YtkpgajegmomihaaRows
import Derived.WalkKit
import Derived.ProofKit
import Derived.OpenShut
import Derived.WalkLawsBesides
import Derived.Handy
import Derived.Laws.BitsAllLaws
import Derived.Lib.Hide
import Derived.LoopTactic
import Derived.Outline
import Derived.Deep.QuietTactic
import Derived.BigQuiet
import Derived.Deep.RegionHeld3
namespace Go.Proofs.Ytkpgajegmomihaa.tt
open Go Go.ChangeShapes Go.WideShapes Go.ChangeAt Go.RowKit
set_option linter.unusedVariables false

theorem grown_alloc {w w' : World} {own : Option Nat} (h : w.grownBy w' own) (o : Obj) : w.grownBy (w'.alloc o) own :=
  ⟨h.os, h.tape, h.output, by have := h.size; simp; omega, fun k hk hn => (Below.heap_alloc _ _ _ (Nat.lt_of_lt_of_le hk h.size)).trans (h.block k hk hn)⟩
theorem grown_refl (w : World) (own : Option Nat) : w.grownBy w own := ⟨rfl, rfl, rfl, Nat.le_refl _, fun _ _ _ => rfl⟩
theorem grown_trans {a b c : World} {own : Option Nat} (h : a.grownBy b own) (k : b.grownBy c own) : a.grownBy c own :=
  ⟨k.os.trans h.os, k.tape.trans h.tape, k.output.trans h.output, Nat.le_trans h.size k.size, fun i hi hn => (k.block i (Nat.lt_of_lt_of_le hi h.size) hn).trans (h.block i hi hn)⟩
theorem grown_drew {w w' : World} {own : Option Nat} (h : w.grownBy w' own) : w.grownBy w'.drew own := ⟨h.os, h.tape, h.output, h.size, h.block⟩

/-- What a bound says of a number. -/
def hb (l m : Int) (p : Bool) (x : Int) : Bool := decide (l ≤ x) && decide (x ≤ m) && (!p || decide (bits .and .i64 x (x - 1) = 0))

theorem hb_low (l m : Int) (p : Bool) (x : Int) (h : ¬ l ≤ x) : hb l m p x = false := by unfold hb; rw [decide_eq_false h]; rfl
theorem hb_high (l m : Int) (p : Bool) (x : Int) (h : ¬ x ≤ m) : hb l m p x = false := by unfold hb; rw [decide_eq_false h]; simp
theorem hb_in (l m : Int) (p : Bool) (x : Int) (h1 : l ≤ x) (h2 : x ≤ m) : hb l m p x = (!p || (bits .and .i64 x (x - 1) == 0)) := by unfold hb; rw [decide_eq_true h1, decide_eq_true h2]; rfl

/-- A plan. -/
structure Cfg where
  co : Int
  se : Int
  wa : Int
  bl : Int
  lo : Int
  ba : Int
  ne : Int
  tr : Int
def Cfg.list (c : Cfg) : List Int := [c.co, c.se, c.wa, c.bl, c.lo, c.ba, c.ne, c.tr]
def Cfg.cells (c : Cfg) : Array Value := #[.int .i64 c.co, .int .i64 c.se, .int .i64 c.wa, .int .i64 c.bl, .int .i64 c.lo, .int .i64 c.ba, .int .i64 c.ne, .int .i64 c.tr]
theorem Cfg.cells_get (c : Cfg) (k : Nat) (x : Int) (h : c.list[k]? = some x) : c.cells[k]? = some (.int .i64 x) := by
  have e : c.cells[k]? = (c.list.map (Value.int .i64))[k]? := by simp [Cfg.cells, Cfg.list]
  rw [e, List.getElem?_map, h]; rfl

/-- What is in the fields that logs reads. -/
structure Cfg.Fits (c : Cfg) : Prop where
  co : 1 ≤ c.co ∧ c.co ≤ 16
  lo : 1 ≤ c.lo ∧ c.lo ≤ 4
  bl : 1 ≤ c.bl ∧ c.bl ≤ 256
def Cfg.data (c : Cfg) : Int := c.bl - c.co * c.lo
theorem Cfg.Fits.mul {c : Cfg} (h : c.Fits) : 1 ≤ c.co * c.lo ∧ c.co * c.lo ≤ 64 :=
  ⟨Int.mul_pos (by have := h.co; omega) (by have := h.lo; omega), Int.le_trans (Int.mul_le_mul h.co.2 h.lo.2 (by have := h.lo; omega) (by omega)) (by omega)⟩

theorem ret_i64 {a b : Int} (h : a = b) : Ending.returned (.int .i64 a) = Ending.returned (.int .i64 b) := by rw [h]
theorem ret_bool {a b : Bool} (h : a = b) : Ending.returned (.bool a) = Ending.returned (.bool b) := by rw [h]

/-- The bounds. -/
def lows : List Int := [1, 1, 1, 1, 1, 1, 1, 0]
def highs : List Int := [16, 16, 4, 256, 4, 4, 8, 8]
def powers : List Bool := [false, true, true, false, false, false, false, false]
/-- The first k fields are within their bounds. -/
def upto (fs : List Int) (k : Nat) : Prop := ∀ i, i < k → hb (lows.getD i 0) (highs.getD i 0) (powers.getD i false) (fs.getD i 0) = true
instance (fs : List Int) (k : Nat) : Decidable (upto fs k) := by unfold upto; infer_instance
/-- A plan that may be. -/
def Cfg.may (c : Cfg) : Prop := upto c.list 8 ∧ 1 ≤ c.data
instance (c : Cfg) : Decidable c.may := by unfold Cfg.may; infer_instance
def yes (b : Prop) [Decidable b] : Int := if b then 0 else 2
theorem yes_of {b : Prop} [Decidable b] (h : b) : yes b = 0 := if_pos h
theorem yes_not {b : Prop} [Decidable b] (h : ¬ b) : yes b = 2 := if_neg h

theorem hb_bounds {l m x : Int} {p : Bool} (h : hb l m p x = true) : l ≤ x ∧ x ≤ m := by
  unfold hb at h; simp at h; exact h.1
theorem Cfg.fits {c : Cfg} (h : upto c.list 8) : c.Fits := ⟨hb_bounds (h 0 (by omega)), hb_bounds (h 4 (by omega)), hb_bounds (h 3 (by omega))⟩

theorem cells_of {w w' : World} {b i : Nat} {v : Value} {cs : Array Value} {t : TypeId} (h : w.heap[b]? = some (.cells cs t (0, 0))) (hg : w.grownBy w' none) (hv : cs[i]? = some v) : w'.cell? ⟨b, i, none⟩ = some v :=
  hg.cell ((cell_of_row _ _ _ _ _ _ h).trans hv) (by simp)

theorem Cfg.may.fits {c : Cfg} (h : c.may) : c.Fits := Cfg.fits h.1

/-- Eight cells of a plan that lies in a block. -/
structure CfgAt (w : World) (b : Nat) (c : Cfg) : Prop where
  c0 : w.cell? ⟨b, 0, none⟩ = some (.int .i64 c.co)
  c1 : w.cell? ⟨b, 1, none⟩ = some (.int .i64 c.se)
  c2 : w.cell? ⟨b, 2, none⟩ = some (.int .i64 c.wa)
  c3 : w.cell? ⟨b, 3, none⟩ = some (.int .i64 c.bl)
  c4 : w.cell? ⟨b, 4, none⟩ = some (.int .i64 c.lo)
  c5 : w.cell? ⟨b, 5, none⟩ = some (.int .i64 c.ba)
  c6 : w.cell? ⟨b, 6, none⟩ = some (.int .i64 c.ne)
  c7 : w.cell? ⟨b, 7, none⟩ = some (.int .i64 c.tr)
theorem CfgAt.grown {w w' : World} {b : Nat} {c : Cfg} (h : CfgAt w b c) (hg : w.grownBy w' none) : CfgAt w' b c :=
  ⟨hg.cell h.c0 (by simp), hg.cell h.c1 (by simp), hg.cell h.c2 (by simp), hg.cell h.c3 (by simp), hg.cell h.c4 (by simp), hg.cell h.c5 (by simp), hg.cell h.c6 (by simp), hg.cell h.c7 (by simp)⟩
/-- Nine limbs of a region that reads a plan. -/
theorem CfgAt.limbs {w : World} {b : Nat} {c : Cfg} (h : CfgAt w b c) : w.cell? ⟨b, 0, none⟩ = some (.int .i64 c.co) ∧ w.cell? ⟨b, 1, none⟩ = some (.int .i64 c.se) ∧ w.cell? ⟨b, 2, none⟩ = some (.int .i64 c.wa) ∧ w.cell? ⟨b, 3, none⟩ = some (.int .i64 c.bl) ∧ w.cell? ⟨b, 4, none⟩ = some (.int .i64 c.lo) ∧ w.cell? ⟨b, 5, none⟩ = some (.int .i64 c.ba) ∧ w.cell? ⟨b, 6, none⟩ = some (.int .i64 c.ne) ∧ w.cell? ⟨b, 7, none⟩ = some (.int .i64 c.tr) :=
  ⟨h.c0, h.c1, h.c2, h.c3, h.c4, h.c5, h.c6, h.c7⟩
theorem limbs_next {w w' : World} {b : Nat} {c : Cfg} (h : w.cell? ⟨b, 0, none⟩ = some (.int .i64 c.co) ∧ w.cell? ⟨b, 1, none⟩ = some (.int .i64 c.se) ∧ w.cell? ⟨b, 2, none⟩ = some (.int .i64 c.wa) ∧ w.cell? ⟨b, 3, none⟩ = some (.int .i64 c.bl) ∧ w.cell? ⟨b, 4, none⟩ = some (.int .i64 c.lo) ∧ w.cell? ⟨b, 5, none⟩ = some (.int .i64 c.ba) ∧ w.cell? ⟨b, 6, none⟩ = some (.int .i64 c.ne) ∧ w.cell? ⟨b, 7, none⟩ = some (.int .i64 c.tr)) (hg : w.grownBy w' none) :
    w'.cell? ⟨b, 0, none⟩ = some (.int .i64 c.co) ∧ w'.cell? ⟨b, 1, none⟩ = some (.int .i64 c.se) ∧ w'.cell? ⟨b, 2, none⟩ = some (.int .i64 c.wa) ∧ w'.cell? ⟨b, 3, none⟩ = some (.int .i64 c.bl) ∧ w'.cell? ⟨b, 4, none⟩ = some (.int .i64 c.lo) ∧ w'.cell? ⟨b, 5, none⟩ = some (.int .i64 c.ba) ∧ w'.cell? ⟨b, 6, none⟩ = some (.int .i64 c.ne) ∧ w'.cell? ⟨b, 7, none⟩ = some (.int .i64 c.tr) := by
  obtain ⟨h0, h1, h2, h3, h4, h5, h6, h7⟩ := h
  exact (CfgAt.grown ⟨h0, h1, h2, h3, h4, h5, h6, h7⟩ hg).limbs
end Go.Proofs.Ytkpgajegmomihaa.tt
