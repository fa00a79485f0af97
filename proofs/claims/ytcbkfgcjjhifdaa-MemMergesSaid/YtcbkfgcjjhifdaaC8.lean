/-
  works returns true; so do the laws MemKnown, MemMerges and MemMergesBoth: the walks. No condition but the bounds that each theorem names.
-/
import Derived.Test.YtcbkfgcjjhifdaaC7
import Derived.Deep.RegionHeld
namespace Go.Proofs.Ytcbkfgcjjhifdaa.pp
open Go Go.ChangeShapes Go.WideShapes Go.ChangeAt Go.RowKit
set_option linter.unusedVariables false

theorem grown_fresh {w w1 w2 : World} {own : Option Nat} (h : w.grownBy w1 none) (k : w1.grownBy w2 own) (ho : ∀ g, own = some g → w.heap.size ≤ g) : w.grownBy w2 none :=
  ⟨k.os.trans h.os, k.tape.trans h.tape, k.output.trans h.output, Nat.le_trans h.size k.size, fun i hi _ => (k.block i (Nat.lt_of_lt_of_le hi h.size) (fun e => by have := ho i e.symm; omega)).trans (h.block i hi (by simp))⟩

theorem works_any (w : World) : Calls Try.prog 15 #[] w fun e w' => e = .returned (.bool true) ∧ w.grownBy w' none := by
  have hn := new_ok 3 w (by omega) (by omega)
  rw [show ((3 : Nat) : Int) = 3 from rfl] at hn
  have HN := Lib.hid hn
  clear hn
  go_enter Try.func15, Try.ntmps15
  go_wp2_with (first
    | (go_at_call 10; ((with_reducible refine HN.out.mono ?_); rintro e w1 ⟨b, v, rfl, hm1, hg1, _, hv1⟩; have HM1 := Lib.hid hm1; have HG1 := Lib.hid hg1; have HV := Lib.hid hv1; clear hm1 hg1 hv1))
    | (go_at_call 18; ((with_reducible refine (blocks_any b v _ _ HM1.out).mono ?_); rintro e w' ⟨rfl, rfl⟩; (rw [List.length_replicate])))
    | (go_at_call 16; ((with_reducible refine (set_word_any HM1.out 2 15 7).mono ?_); rintro e w2 ⟨he, hm2, hg2⟩; (rw [show err (inn (List.replicate 3 zero).length 2 15) = 0 from rfl] at he); subst he; have HM2 := Lib.hid hm2; have HG2 := Lib.hid (grown_fresh HG1.out hg2 HV.out); clear hm2 hg2))
    | (go_at_call 11; ((with_reducible refine (word_any HM2.out 2 15).mono ?_); rintro e w3 ⟨he, hg3⟩; (rw [show getW (setW (List.replicate 3 zero) 2 15 7) 2 15 = 7 from rfl, show err (inn (setW (List.replicate 3 zero) 2 15 7).length 2 15) = 0 from rfl] at he); subst he; have HM3 := Lib.hid (HM2.out.kept hg3); have HG3 := Lib.hid (grown_trans HG2.out hg3); clear hg3))
    | (go_at_call 16; ((with_reducible refine (set_word_any HM3.out 3 0 1).mono ?_); rintro e w4 ⟨he, hm4, hg4⟩; (rw [show err (inn (setW (List.replicate 3 zero) 2 15 7).length 3 0) = 5 from rfl] at he); subst he; have HG4 := Lib.hid (grown_fresh HG3.out hg4 HV.out); clear hm4 hg4)))
  go_ret
  exact ⟨rfl, HG4.out⟩

/-- A block's cells, as a list. -/
def rl (x : List Int) : List Value := x.map U
theorem rl_i (x : List Int) (h : x.length = 16) : (Try.prog.info? 30).map (·.size) = some (rl x).length := by rw [rl, List.length_map, h]; exact info30
theorem range_of {w : World} {g : Nat} {x : List Int} (h : w.heap[g]? = some (.cells (row x) 30 (0, 0))) : w.rangeAt g 0 (rl x) := fun j v hv => by
  rw [Nat.zero_add, cell_of_row _ _ j _ _ _ h, row_get]
  simpa [rl] using hv
theorem range_grown {w w' : World} {g o : Nat} {xs : List Value} (h : w.rangeAt g o xs) (hg : w.grownBy w' none) : w'.rangeAt g o xs := fun j v hv => hg.cell (h j v hv) (by simp)
/-- Two blocks lie where they lay, and nothing that was there is otherwise. -/
def Two (w w' : World) (g1 g2 : Nat) (x y : List Int) : Prop := w'.rangeAt g1 0 (rl x) ∧ w'.rangeAt g2 0 (rl y) ∧ w.grownBy w' none
theorem Two.next {w w1 w2 : World} {g1 g2 : Nat} {x y : List Int} (h : w1.rangeAt g1 0 (rl x) ∧ w1.rangeAt g2 0 (rl y) ∧ w.grownBy w1 none) (k : w1.grownBy w2 none) : w2.rangeAt g1 0 (rl x) ∧ w2.rangeAt g2 0 (rl y) ∧ w.grownBy w2 none :=
  ⟨range_grown h.1 k, range_grown h.2.1 k, grown_trans h.2.2 k⟩

/-- A load of a block in a region that draws its order, its type and its size kept under names. -/
theorem named : ∃ (t : TypeId) (n : Nat), Hid (Op.load 30 = Op.load t) ∧ (∀ w, (isAgg t).run Try.prog w = .ok true w) ∧ (∀ w, (sizeOf t).run Try.prog w = .ok n w) ∧
    ∀ (g : Nat) (x : List Int), x.length = 16 → ∀ w : World, w.rangeAt g 0 (rl x) → (loadCellsFrom ⟨g, 0, none⟩ 0 n #[]).run Try.prog w = .ok (row x) w :=
  ⟨30, 16, Lib.hid rfl, Try.isAgg30, Try.sizeOf30, fun g x hx w h => by
    have := run_loadCells_list (P := Try.prog) w ⟨g, 0, none⟩ (rl x) (fun j v hv => by rw [add_lit]; exact h j v hv)
    simpa [loadCells, rl, hx, row] using this⟩

theorem merges_true (a b : List Int) (m : Nat) (ha : a.length = 16) (hb : b.length = 16) (hm : m < 65536) (w : World) : Calls Try.prog 5 #[.agg (row a), .agg (row b), .int .u16 (m : Int)] w fun e w' => e = .returned (.bool true) ∧ w.grownBy w' none := by
  have HA := Lib.hid ha
  have HB := Lib.hid hb
  have h30 : ∀ w, (binOp .eql 30 (.agg (row (mrg a b m))) (.agg (row (mrg a b m)))).run Try.prog w = .ok (.bool true) w := fun w => by rw [q30e w _ _ (mrg_len _ _ _) (mrg_len _ _ _)]; simp
  obtain ⟨t, n, HT, hagg, hsize, hld⟩ := named
  have la := hld w.heap.size a ha
  have lb := hld (w.heap.size + 1) b hb
  have HS : Hid (((w.alloc (.cells (row a) 30)).alloc (.cells (row b) 30)).drew.rangeAt w.heap.size 0 (rl a) ∧ ((w.alloc (.cells (row a) 30)).alloc (.cells (row b) 30)).drew.rangeAt (w.heap.size + 1) 0 (rl b) ∧ w.grownBy ((w.alloc (.cells (row a) 30)).alloc (.cells (row b) 30)).drew none) :=
    Lib.hid ⟨range_of (heap_alloc2_old w _ _), range_of (heap_alloc2_new w _ _), let h := grown_alloc (grown_alloc (grown_refl w none) (.cells (row a) 30)) (.cells (row b) 30); ⟨h.os, h.tape, h.output, h.size, h.block⟩⟩
  clear ha hb hld
  go_enter Try.func5, Try.ntmps5
  rw [HT.out]
  go_wp2_with fail
  go_region_held (fun w' => w'.rangeAt w.heap.size 0 (rl a) ∧ w'.rangeAt (w.heap.size + 1) 0 (rl b) ∧ w.grownBy w' none) (first | exact HS.out | exact Two.next (by assumption) (by assumption))
    (first
      | (go_at_call 12; ((refine (merge_any a b m HA.out HB.out hm _).mono ?_); rintro e w1 ⟨rfl, hg1⟩))
      | (go_at_call 25; ((refine (rmerge_any a b m HA.out HB.out hm _).mono ?_); rintro e w2 ⟨rfl, hg2⟩))
      | (go_at_call 15; ((refine (works_any _).mono ?_); rintro e w3 ⟨rfl, hg3⟩)))
  go_wp2_with fail
  go_ret
  exact ⟨rfl, grown_trans (grown_trans (grown_trans (grown_alloc (grown_alloc (grown_refl _ _) _) _) ⟨hg1.os, hg1.tape, hg1.output, hg1.size, hg1.block⟩) hg2) hg3⟩
end Go.Proofs.Ytcbkfgcjjhifdaa.pp
