/-
  A back as cells, loads and stores of one: definitions and laws. No condition but the bounds that each theorem names.
-/
import Derived.Test.YtoifeinkaaclmaaDoorSl
namespace Go.Proofs.YtoifeinkaaclmaaDoor.bk
open Go Go.ChangeShapes Go.WideShapes Go.ChangeAt Go.RowKit
open Go.Proofs.YtoifeinkaaclmaaDoor.tt (U zd row tyne add_lit lt_of range_grown setCells_rest heap_setCells_other grown_setCells grown_setRow grown_new grown_drewN below_of grown_alloc grown_refl grown_trans grown_drew Sl run_append_sl append_sl step_append_sl tail_sl head_sl Pool Turn Next src_one src_one' flat flat_len flat_at flat_take flat_drop flat_append flat_one flat_single flat_erase heap_setCells)
set_option linter.unusedVariables false

/-- A back: its block, its data, whether it is live. -/
structure Bk where
  b : Int
  d : List Int
  l : Bool
  hd : d.length = 16
deriving DecidableEq
def zb : Bk := ⟨0, zd, false, rfl⟩
theorem Bk.ext {x y : Bk} (h1 : x.b = y.b) (h2 : x.d = y.d) (h3 : x.l = y.l) : x = y := by
  obtain ⟨_, _, _, _⟩ := x; obtain ⟨_, _, _, _⟩ := y; simp at *; simp_all
/-- Its cells. -/
def bt (n : Bk) : List Value := .int .i64 n.b :: (n.d.map U ++ [.bool n.l])
def ba (n : Bk) : Array Value := (bt n).toArray
theorem bt_len (n : Bk) : (bt n).length = 18 := by simp [bt, n.hd]
theorem ba_size (n : Bk) : (ba n).size = 18 := by simp [ba, bt_len]
theorem bt_one (n : Bk) : ∀ v ∈ bt n, v.oneCell' = true := by
  intro v hv
  simp [bt, U] at hv
  rcases hv with rfl | ⟨x, _, rfl⟩ | rfl <;> rfl
theorem ba_one (n : Bk) : (ba n).all (·.oneCell') = true := all_oneCell_toArray (bt_one n)
theorem bt_d (n : Bk) (k : Nat) (hk : k < 16) : (bt n)[1 + k]? = (n.d[k]?).map U := by
  rw [Nat.add_comm]; simp [bt, List.getElem?_append, n.hd, hk]
theorem bt_l (n : Bk) : (bt n)[17]? = some (.bool n.l) := by
  simp [bt, n.hd]
theorem info31 : (Tryd.prog.info? 57).map (·.size) = some 18 := by kernel_rfl
theorem info31' (n : Bk) : (Tryd.prog.info? 57).map (·.size) = some (bt n).length := by rw [bt_len]; exact info31
theorem info31a (n : Bk) : (Tryd.prog.info? 57).map (·.size) = some (ba n).size := by rw [ba_size]; exact info31
theorem zb_ba : ba zb = #[.int .i64 0, .int .u32 0, .int .u32 0, .int .u32 0, .int .u32 0, .int .u32 0, .int .u32 0, .int .u32 0, .int .u32 0, .int .u32 0, .int .u32 0, .int .u32 0, .int .u32 0, .int .u32 0, .int .u32 0, .int .u32 0, .int .u32 0, .bool false] := rfl
theorem range_of {w : World} {g : Nat} {n : Bk} {t : TypeId} (h : w.heap[g]? = some (.cells (ba n) t (0, 0))) : w.rangeAt g 0 (bt n) := fun j v hv => by
  rw [Nat.zero_add, cell_of_row _ _ j _ _ _ h]
  simpa [ba] using hv
theorem cell_at {w : World} {g : Nat} {n : Bk} (h : w.rangeAt g 0 (bt n)) (j : Nat) (v : Value) (hv : (bt n)[j]? = some v) : w.cell? ⟨g, j, none⟩ = some v := by
  have := h j v hv; rwa [Nat.zero_add] at this
theorem there_of {w : World} {g : Nat} {c : Array Value} {t : TypeId} (h : w.heap[g]? = some (.cells c t (0, 0))) (hc : c.size = 18) : w.there g 0 18 := fun i hi => by
  refine ⟨?_, frozen_of_row _ _ _ _ _ h⟩
  rw [cell_of_row _ _ _ _ _ _ h, Nat.zero_add, Array.getElem?_eq_getElem (by omega)]; rfl
section
variable {w : World} {ops : Array Oper} {rest : List Oper} {a : Act} {Q : Exit → Act → World → Prop} {dst : Option Tmp} {ty : TypeId} {pos : String} {after : Array Edge}
/-- A back out of a variable. -/
theorem load_bt (n : Bk) (x : Tmp) (g : Nat) (hx : a.eval (.tmp x) = .pointer (some ⟨g, 0, none⟩)) (hg : w.rangeAt g 0 (bt n))
    (h : wpList Tryd.prog ops Q rest (a.put dst (.agg (ba n))) w) : wpList Tryd.prog ops Q (⟨dst, .load 57 (.tmp x), ty, pos, after, none⟩ :: rest) a w :=
  wpList_load_mid rfl 57 (.tmp x) rfl g 0 hx (bt n) _ hg Tryd.underlying57 rfl (info31' n) h
/-- A back into a variable. -/
theorem store_any (n : Bk) (c : Array Value) (x y : Tmp) (g : Nat) (hx : a.eval (.tmp x) = .pointer (some ⟨g, 0, none⟩)) (hy : a.eval (.tmp y) = .agg (ba n)) (hg : w.heap[g]? = some (.cells c 57 (0, 0))) (hc : c.size = 18)
    (h : wpList Tryd.prog ops Q rest (a.put dst undef) (w.setRow g (ba n))) : wpList Tryd.prog ops Q (⟨dst, .store 57 (.tmp x) (.tmp y), ty, pos, after, none⟩ :: rest) a w :=
  wpList_store_row rfl 57 (.tmp x) (.tmp y) rfl g (ba n) hx hy 57 _ hg (info31a n) (by rw [ba_size, hc]) (ba_one n) h
/-- A back into the variable that was made last. -/
theorem store_new (n : Bk) (c : Array Value) (x y : Tmp) (hx : a.eval (.tmp x) = .pointer (some ⟨w.heap.size, 0, none⟩)) (hy : a.eval (.tmp y) = .agg (ba n)) (hc : c.size = 18)
    (h : wpList Tryd.prog ops Q rest (a.put dst undef) (w.alloc (.cells (ba n) 57))) : wpList Tryd.prog ops Q (⟨dst, .store 57 (.tmp x) (.tmp y), ty, pos, after, none⟩ :: rest) a (w.alloc (.cells c 57)) := by
  refine wpList_store_row rfl 57 (.tmp x) (.tmp y) rfl w.heap.size (ba n) hx hy 57 _ (heap_alloc_new _ _) (info31a n) (by rw [ba_size, hc]) (ba_one n) ?_
  rw [World.setRow_alloc_new]; exact h
end

/-- A load and a store of a back in a region that draws its order: type and size kept under names. -/
theorem named : ∃ (t : TypeId) (m : Nat), Hid (Op.load 57 = Op.load t) ∧ (∀ w, (isAgg t).run Tryd.prog w = .ok true w) ∧ (∀ w, (sizeOf t).run Tryd.prog w = .ok m w) ∧
    ∀ (g : Nat) (n : Bk) (w : World), w.rangeAt g 0 (bt n) → (loadCellsFrom ⟨g, 0, none⟩ 0 m #[]).run Tryd.prog w = .ok (ba n) w :=
  ⟨57, 18, Lib.hid rfl, Tryd.isAgg57, Tryd.sizeOf57, fun g n w h => by
    have := run_loadCells_list (P := Tryd.prog) w ⟨g, 0, none⟩ (bt n) (fun j v hv => by rw [add_lit]; exact h j v hv)
    simpa [loadCells, bt_len, ba] using this⟩

theorem box (w : World) (n : Bk) (j : Nat) (v : Value) (h : (bt n)[j]? = some v) : (w.alloc (.cells (ba n) 57)).cell? ⟨w.heap.size, j, none⟩ = some v := by
  have h := cell_at (range_of (heap_alloc_new w (.cells (ba n) 57))) j v h
  exact h
section
variable {w : World} {ops : Array Oper} {rest : List Oper} {a : Act} {Q : Exit → Act → World → Prop} {dst : Option Tmp} {ty : TypeId} {pos : String} {after : Array Edge}
theorem store_lit (n : Bk) (A : Array Value) (hA : ba n = A) (c : Array Value) (x y : Tmp) (hx : a.eval (.tmp x) = .pointer (some ⟨w.heap.size, 0, none⟩)) (hy : a.eval (.tmp y) = .agg A) (hc : c.size = 18)
    (h : wpList Tryd.prog ops Q rest (a.put dst undef) (w.alloc (.cells A 57))) : wpList Tryd.prog ops Q (⟨dst, .store 57 (.tmp x) (.tmp y), ty, pos, after, none⟩ :: rest) a (w.alloc (.cells c 57)) := by
  subst hA; exact store_new n c x y hx hy hc h
theorem load_new (n : Bk) (A : Array Value) (hA : ba n = A) (x : Tmp) (hx : a.eval (.tmp x) = .pointer (some ⟨w.heap.size, 0, none⟩))
    (h : wpList Tryd.prog ops Q rest (a.put dst (.agg (ba n))) (w.alloc (.cells A 57))) : wpList Tryd.prog ops Q (⟨dst, .load 57 (.tmp x), ty, pos, after, none⟩ :: rest) a (w.alloc (.cells A 57)) := by
  subst hA; exact load_bt n x _ hx (range_of (heap_alloc_new _ _)) h
end
/-- Two variables. -/
structure Two (w w2 : World) (n : Bk) : Prop where
  grown : w.grownBy w2 none
  old : w2.heap[w.heap.size]? = some (.cells (ba n) 57 (0, 0))
  res : w2.heap[w.heap.size + 1]? = some (.cells (ba zb) 57 (0, 0))
  size : w2.heap.size = w.heap.size + 2
theorem two_of (w : World) (n : Bk) : ∃ w2, (w.alloc (.cells (ba n) 57)).alloc (.cells (ba zb) 57) = w2 ∧ Two w w2 n := by
  refine ⟨_, rfl, grown_alloc (grown_alloc (grown_refl _ _) _) _, (Below.heap_alloc _ _ _ (by simp)).trans (heap_alloc_new _ _), ?_, by simp⟩
  have h := heap_alloc_new (w.alloc (.cells (ba n) 57)) (.cells (ba zb) 57)
  rwa [show (w.alloc (.cells (ba n) 57)).heap.size = w.heap.size + 1 by simp] at h
theorem Two.res1 {w w2 : World} {n : Bk} (h : Two w w2 n) (o : Obj) : (w2.alloc o).heap[w.heap.size + 1]? = some (.cells (ba zb) 57 (0, 0)) :=
  (Below.heap_alloc _ _ _ (by rw [h.size]; omega)).trans h.res
theorem Two.end_ {w w2 : World} {n : Bk} (h : Two w w2 n) (o : Obj) (m : Bk) : ((w2.alloc o).setRow (w.heap.size + 1) (ba m)).rangeAt (w.heap.size + 1) 0 (bt m) ∧ w.grownBy ((w2.alloc o).setRow (w.heap.size + 1) (ba m)) none :=
  ⟨range_of (setRow_heap _ _ _ _ _ _ (h.res1 o)), grown_setRow (grown_alloc h.grown _) _ (by omega) _⟩
end Go.Proofs.YtoifeinkaaclmaaDoor.bk
