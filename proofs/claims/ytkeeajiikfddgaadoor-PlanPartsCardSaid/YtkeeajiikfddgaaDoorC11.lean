/-
  The law PlanParts returns true: the walk. Condition: the table of bounds lies in its variable as the program's text has it.
-/
import Derived.Test.YtkeeajiikfddgaaDoorC7
import Derived.WalkSpells
namespace Go.Proofs.YtkeeajiikfddgaaDoor.qq
open Go Go.ChangeShapes Go.WideShapes Go.ChangeAt Go.RowKit
set_option linter.unusedVariables false

/-- The blocks' owners: those before t have one, the others have none. -/
structure Own (xs : List Int) (n t : Nat) : Prop where
  len : xs.length = n
  is : ∀ (j : Nat) x, xs[j]? = some x → (x = 0 ↔ t ≤ j)
theorem Own.zero (n : Nat) : Own (List.replicate n 0) n 0 := ⟨by simp, fun j x h => by
  rw [List.getElem?_replicate] at h
  split at h
  · cases h; simp
  · cases h⟩
theorem Own.next {xs : List Int} {n t : Nat} (h : Own xs n t) (y : Int) (hy : y ≠ 0) : Own (xs.set t y) n (t + 1) := ⟨by simp [h.len], fun j x hx => by
  by_cases hj : t = j
  · subst hj
    rw [List.getElem?_set] at hx
    simp at hx
    obtain ⟨_, rfl⟩ := hx
    exact ⟨fun e => absurd e hy, fun e => by omega⟩
  · rw [List.getElem?_set_ne hj] at hx
    have := h.is j x hx
    omega⟩

def irow (xs : List Int) : Array Value := (xs.map (Value.int .i64)).toArray
theorem irow_get (xs : List Int) (k : Nat) : (irow xs)[k]? = (xs[k]?).map (Value.int .i64) := by simp [irow]
theorem irow_set (xs : List Int) (k : Nat) (y : Int) : (irow xs).setIfInBounds k (.int .i64 y) = irow (xs.set k y) := by simp [irow]

/-- The owners lie in block g, which is new. -/
structure St (w1 wr : World) (g : Nat) (xs : List Int) : Prop where
  grown : w1.grownBy wr none
  blk : wr.heap[g]? = some (.cells (irow xs) 3 (0, 0))
  new : w1.heap.size ≤ g
theorem St.call {w1 wr w' : World} {g : Nat} {xs : List Int} (h : St w1 wr g xs) (hg : wr.grownBy w' none) : St w1 w' g xs :=
  ⟨grown_trans h.grown hg, (hg.block g (Array.getElem?_eq_some_iff.1 h.blk).1 (by simp)).trans h.blk, h.new⟩
theorem heap_setCell_same (w : World) (g i : Nat) (v : Value) (cs : Array Value) (t : TypeId) (h : w.heap[g]? = some (.cells cs t (0, 0))) : (w.setCell ⟨g, i, none⟩ v).heap[g]? = some (.cells (cs.setIfInBounds i v) t (0, 0)) := by
  obtain ⟨hlt, hk⟩ := Array.getElem?_eq_some_iff.1 h
  show (w.heap.modify g _)[g]? = _
  rw [Array.getElem?_eq_getElem (by rw [Array.size_modify]; exact hlt), Array.getElem_modify_self, hk]
  simp
theorem St.store {w1 wr : World} {g : Nat} {xs : List Int} (h : St w1 wr g xs) (i : Nat) (y : Int) : St w1 (wr.setCell ⟨g, i, none⟩ (.int .i64 y)) g (xs.set i y) :=
  ⟨⟨h.grown.os, h.grown.tape, h.grown.output, by have := h.grown.size; simp [World.setCell]; omega, fun k hk hn => (Below.heap_setCell _ _ _ _ (by have := h.new; simp; omega)).trans (h.grown.block k hk hn)⟩,
    by rw [← irow_set]; exact heap_setCell_same _ _ _ _ _ _ h.blk, h.new⟩
theorem St.cell {w1 wr : World} {g : Nat} {xs : List Int} (h : St w1 wr g xs) {i : Nat} {x : Int} (hx : xs[i]? = some x) : wr.cell? ⟨g, i, none⟩ = some (.int .i64 x) :=
  (cell_of_row _ _ _ _ _ _ h.blk).trans (by rw [irow_get, hx]; rfl)
theorem St.frozen {w1 wr : World} {g : Nat} {xs : List Int} (h : St w1 wr g xs) (i : Nat) : wr.frozen? ⟨g, i, none⟩ = false := by
  simp [World.frozen?, h.blk]

/-- make of n zero things of one cell, written out. -/
theorem make_at {P : Program} {w : World} {ops : Array Oper} {rest : List Oper} {a : Act} {Q : Exit → Act → World → Prop} {dst : Option Tmp} {ty : TypeId} {pos : String} {after : Array Edge}
    (t e : TypeId) (i : TypeInfo) (z : Value) (l c : Tmp) (n : Nat) (ht : P.underlying t = some (.slice e)) (hi : P.info? e = some i) (hz : i.zero = some z) (h1 : i.size = 1) (hc : z.cells = #[z])
    (el : a.eval (.tmp l) = .int .i64 (n : Int)) (ec : a.eval (.tmp c) = .int .i64 (n : Int)) (hb : (i.bytes : Int) * (n : Int) ≤ 281474976710656) (h63 : (n : Int) ≤ 9223372036854775807)
    (cs : List Value) (hcs : cs = List.replicate n z) (h : wpList P ops Q rest (a.put dst (.slice (some ⟨w.heap.size, 0, none⟩) n n)) (w.alloc (.cells cs.toArray e))) : wpList P ops Q (⟨dst, .makeSlice t (.tmp l) (.tmp c), ty, pos, after, none⟩ :: rest) a w := by
  subst hcs
  refine wpList_plain rfl fun K hK' => ?_
  have hrun := run_make (P := P) w t e i z ht hi hz .i64 .i64 n n (by omega) (Int.le_refl _) hb h63
  have hm : madeCells z.cells ((n : Int).toNat * i.size) = (List.replicate n z).toArray := by
    rw [h1, hc, Int.toNat_natCast, Nat.mul_one]
    apply Array.ext
    · simp [madeCells]
    · intro k h1 h2; simp [madeCells, Nat.mod_one]
  rw [hm, Int.toNat_natCast] at hrun
  unfold Oper.wp
  simp [execOp, el, ec, hrun, Result.andThen]
  exact hK' _ _ h
theorem info3 : (Tryd.prog.info? 3).map (fun i => (i.zero, i.size, i.bytes)) = some (some (.int .i64 0), 1, 8) := by kernel_rfl

theorem parts_no (c : Cfg) (w : World) (hT : Tab w) (hm : ¬ c.may) : Calls Tryd.prog 7 #[.agg c.cells] w fun e w' => e = .returned (.bool true) ∧ w.grownBy w' none := by
  have HG0 : Hid (w.grownBy (w.alloc (.cells c.cells 26)) none) := Lib.hid (grown_alloc (grown_refl _ _) _)
  have HA := Lib.hid (cfg_at w c)
  have HT := Lib.hid hT
  have HM : Hid (∀ w, Tab w → _) := Lib.hid (may_any c)
  have HD : Hid (∀ w, Tab w → _) := Lib.hid (fun w h => data_no c w h hm)
  rw [yes_not hm] at HM
  clear hT hm
  unfold Cfg.cells at *
  go_enter Tryd.func7, Tryd.ntmps7
  go_wp2_with (first
    | (go_at_call 14; ((with_reducible refine (HM.out _ (HT.out.grown HG0.out)).mono ?_); rintro e w1 ⟨rfl, hg1⟩; have HA1 := Lib.hid (HA.out.grown hg1); obtain ⟨c0, c1, c2, c3, c4, c5, c6, c7⟩ := HA1.out; have HG1 := Lib.hid (grown_trans HG0.out hg1); clear hg1))
    | (go_at_call 18; ((with_reducible refine (HD.out _ (HT.out.grown HG1.out)).mono ?_); rintro e w5 ⟨rfl, hg5⟩; have HG5 := Lib.hid (grown_trans HG1.out hg5); clear hg5))
    | (go_at_call 13; ((with_reducible refine (works_any _ (HT.out.grown HG5.out)).mono ?_); rintro e w7 ⟨rfl, hg7⟩; have HG7 := Lib.hid (grown_trans HG5.out hg7); clear hg7)))
  go_ret
  exact ⟨rfl, HG7.out⟩
end Go.Proofs.YtkeeajiikfddgaaDoor.qq
