/-
  The landed deal: what New, Copy, open, Begin, End, Fail answer and make of it: contracts. No condition but the bounds that each theorem names.
-/
import Derived.Test.YtkpgajegmomihaaDeB
namespace Go.Proofs.Ytkpgajegmomihaa.de
open Go Go.ChangeShapes Go.WideShapes Go.ChangeAt Go.RowKit
open Go.Proofs.Ytkpgajegmomihaa.tt (U zd row tyne add_lit lt_of range_grown setCells_rest heap_setCells heap_setCells_other grown_setCells grown_setRow grown_new grown_drewN below_of grown_alloc grown_refl grown_trans grown_drew)
open Go.Proofs.Ytkpgajegmomihaa.oo (ref flag' gives older ret_bool jump_ret)
set_option linter.unusedVariables false
set_option maxRecDepth 1000000

/-- A new one. -/
def nw (n : Int) : Dl := ⟨n, 0, zs, 0, false, false, 0⟩
/-- Behind open. -/
def opn (d : Dl) (s : Sv) (x : Int) : Dl := { d with s := s, st := if d.st = 0 then x else d.st }
/-- What Begin answers, and what is there behind it. -/
def bE (d : Dl) (x : Int) : Int := if x = 0 then 2 else if d.fa = true then 8 else if d.de = d.ne then 7 else 0
def bD (d : Dl) (s : Sv) (x : Int) : Dl := if bE d x = 0 then (if d.de = 0 then { opn d s x with de := 1 } else { d with de := d.de + 1 }) else d
/-- What End answers, and what is there behind it. -/
def eC (d : Dl) : Bool := decide (gE d = 0) && decide (d.de = 1)
def eD (d : Dl) : Dl := if gE d = 0 then (if d.de = 1 then cl d 0 else { d with de := d.de - 1 }) else d
/-- What is there behind Fail. -/
def fD (d : Dl) (c : Int) : Dl := if gE d = 0 then { d with fa := true, ca := c } else d

theorem new_ok (n : Int) (w : World) (h1 : 1 ≤ n) (h8 : n ≤ 8) : Calls Try.prog 8 #[.int .i64 n] w fun e w' => e = .returned (.tuple #[.pointer (some ⟨w.heap.size, 0, none⟩), .int .i64 0]) ∧ LAt w' w.heap.size (nw n) ∧ w.grownBy w' none := by
  have e1 : decide (n < 1) = false := decide_eq_false (by omega)
  have e2 : decide (8 < n) = false := decide_eq_false (by omega)
  go_enter Try.func8, Try.ntmps8
  go_wp2
  go_ret2
  exact ⟨rfl, ⟨heap_alloc_new w (.cells (da (nw n)) 53)⟩, grown_alloc (grown_refl _ _) _⟩
theorem new_no (n : Int) (w : World) (h : n < 1 ∨ 8 < n) : Calls Try.prog 8 #[.int .i64 n] w fun e w' => e = .returned (.tuple #[.pointer none, .int .i64 2]) ∧ w = w' := by
  by_cases h1 : n < 1
  · go_enter Try.func8, Try.ntmps8
    go_wp2
    go_ret2
    exact ⟨rfl, rfl⟩
  · have h8 : 8 < n := by omega
    have e1 : decide (n < 1) = false := decide_eq_false (by omega)
    have e2 : decide (8 < n) = true := decide_eq_true (by omega)
    clear h h1 h8
    go_enter Try.func8, Try.ntmps8
    go_wp2
    go_ret2
    exact ⟨rfl, rfl⟩

section
variable {w : World} {ops : Array Oper} {rest : List Oper} {a : Act} {Q : Exit → Act → World → Prop} {dst : Option Tmp} {ty : TypeId} {pos : String} {after : Array Edge}
theorem load_d {d : Dl} {g : Nat} (x : Tmp) (hx : a.eval (.tmp x) = .pointer (some ⟨g, 0, none⟩)) (hg : w.rangeAt g 0 (dl d))
    (h : wpList Try.prog ops Q rest (a.put dst (.agg (da d))) w) : wpList Try.prog ops Q (⟨dst, .load 53 (.tmp x), ty, pos, after, none⟩ :: rest) a w :=
  wpList_load_mid rfl 53 (.tmp x) rfl g 0 hx (dl d) _ hg Try.underlying53 rfl (info53l d) h
theorem store_dN (d : Dl) (c : Array Value) (x y : Tmp) (hx : a.eval (.tmp x) = .pointer (some ⟨w.heap.size, 0, none⟩)) (hy : a.eval (.tmp y) = .agg (da d)) (hc : c.size = 23)
    (h : wpList Try.prog ops Q rest (a.put dst undef) (w.alloc (.cells (da d) 53))) : wpList Try.prog ops Q (⟨dst, .store 53 (.tmp x) (.tmp y), ty, pos, after, none⟩ :: rest) a (w.alloc (.cells c 53)) := by
  refine wpList_store_row rfl 53 (.tmp x) (.tmp y) rfl w.heap.size (da d) hx hy 53 _ (heap_alloc_new _ _) (info53 d) (by rw [da_size, hc]) (da_one d) ?_
  rw [World.setRow_alloc_new]; exact h
end

section
variable {w : World} {g : Nat} {d : Dl}
theorem copy_any (h : LAt w g d) : Calls Try.prog 21 #[.pointer (some ⟨g, 0, none⟩)] w fun e w' => e = .returned (.pointer (some ⟨w.heap.size, 0, none⟩)) ∧ LAt w' w.heap.size d ∧ w.grownBy w' none := by
  have HL := Lib.hid h.all
  clear h
  go_enter Try.func21, Try.ntmps21
  go_wp2_with (first
    | ((with_reducible refine load_d _ ?_ HL.out ?_); ((rfl)))
    | ((with_reducible refine store_dN d _ _ _ ?_ ?_ ?_ ?_); ((rfl)); ((rfl)); ((rfl))))
  go_ret
  exact ⟨rfl, ⟨heap_alloc_new w (.cells (da d) 53)⟩, grown_alloc (grown_refl _ _) _⟩
theorem open_any (h : LAt w g d) (s : Sv) (x : Int) : Calls Try.prog 29 #[.pointer (some ⟨g, 0, none⟩), .agg (sa s), .int .u64 x] w fun e w' => e = .returned (.tuple #[]) ∧ LAt w' g (opn d s x) ∧ w.grownBy w' (some g) := by
  have hl := h.lt
  obtain ⟨w1, hw1⟩ : ∃ w1, w.alloc (.cells (sa s) 31) = w1 := ⟨_, rfl⟩
  have hg1 : w.grownBy w1 none := hw1 ▸ grown_alloc (grown_refl _ _) _
  have HR : Hid (w1.rangeAt w.heap.size 0 (sl s)) := Lib.hid (hw1 ▸ sv_new w s _)
  have h1 := h.grown hg1 (by simp)
  obtain ⟨w2, hw2⟩ : ∃ w2, w1.setCells g 2 (sl s) = w2 := ⟨_, rfl⟩
  have h2 : LAt w2 g { d with s := s } := hw2 ▸ h1.put_s s
  have hg2 : w.grownBy w2 (some g) := grown_trans (grown_to hg1) (hw2 ▸ grown_setCells _ _ _ _)
  have HT := Lib.hid h1.there
  obtain ⟨c0, c1, c19, c20, c21, c22⟩ := h2.cells
  have f19 := h2.free 19
  have H2 := Lib.hid h2
  have HG2 := Lib.hid hg2
  have HW1 := Lib.hid hw1
  have HW2 := Lib.hid hw2
  clear h h1 h2 hg1 hg2 hw1 hw2 c0 c1 c20 c21 c22
  dsimp only at c19
  by_cases h0 : d.st = 0
  · rw [h0] at c19
    go_enter Try.func29, Try.ntmps29
    go_wp2_with (first
      | (rw [HW1.out]; (with_reducible refine load_sv s _ _ 0 ?_ HR.out ?_); ((rfl)))
      | ((with_reducible refine store_mid s _ _ g 2 ?_ ?_ HT.out ?_); ((rfl)); ((rfl)); rw [HW2.out]))
    refine bodyPost_end (results_none rfl _ _ _) rfl ?_
    refine ⟨rfl, ?_, grown_trans HG2.out (grown_setCell _ _ _ _)⟩
    have := H2.out.put_st x
    unfold opn
    rw [if_pos h0]; exact this
  · have h0' : (d.st == 0) = false := by simp [h0]
    go_enter Try.func29, Try.ntmps29
    go_wp2_with (first
      | (rw [HW1.out]; (with_reducible refine load_sv s _ _ 0 ?_ HR.out ?_); ((rfl)))
      | ((with_reducible refine store_mid s _ _ g 2 ?_ ?_ HT.out ?_); ((rfl)); ((rfl)); rw [HW2.out]))
    refine bodyPost_end (results_none rfl _ _ _) rfl ?_
    refine ⟨rfl, ?_, HG2.out⟩
    unfold opn
    rw [if_neg h0]; exact H2.out
end
end Go.Proofs.Ytkpgajegmomihaa.de
