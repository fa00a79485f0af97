/-
  What isWord, laid, Block, Blocks answer: contracts. No condition but the bounds that each theorem names.
-/
import Derived.Test.YtfjjmlmkpdpdfaaDoorRows
import Derived.Test.YtfjjmlmkpdpdfaaDoorMeM
import Derived.WalkKit
import Derived.ProofKit
import Derived.OpenShut
import Derived.WalkLawsBesides
import Derived.Handy
import Derived.Lib.Hide
import Derived.LoopTactic
import Derived.Outline
import Derived.Deep.QuietTactic
import Derived.BigQuiet
import Derived.Deep.RegionLaw
import Derived.Deep.WholeRow
namespace Go.Proofs.YtfjjmlmkpdpdfaaDoor.pp
open Go Go.ChangeShapes Go.WideShapes Go.ChangeAt Go.RowKit
set_option linter.unusedVariables false

theorem isWord_any (i : Int) (w : World) : Calls Tryd.prog 37 #[.int .i64 i] w fun e w' => e = .returned (.bool (decide (0 ≤ i ∧ i < 16))) ∧ w = w' := by
  by_cases h0 : 0 ≤ i
  · by_cases h1 : i < 16
    · rw [show decide (0 ≤ i ∧ i < 16) = true by simp; omega]
      go_enter Tryd.func37, Tryd.ntmps37
      go_wp2
      go_ret
      exact ⟨rfl, rfl⟩
    · rw [show decide (0 ≤ i ∧ i < 16) = false by simp; omega]
      go_enter Tryd.func37, Tryd.ntmps37
      go_wp2
      go_ret
      exact ⟨rfl, rfl⟩
  · rw [show decide (0 ≤ i ∧ i < 16) = false by simp; omega]
    go_enter Tryd.func37, Tryd.ntmps37
    go_wp2
    go_ret
    exact ⟨rfl, rfl⟩

theorem laid_any (cs : Array Value) (w : World) : Calls Tryd.prog 48 #[.agg cs] w fun e w' => e = .returned (.pointer (some ⟨w.heap.size, 0, none⟩)) ∧ w' = w.alloc (.cells cs 56) := by
  go_enter Tryd.func48, Tryd.ntmps48
  go_wp2
  go_ret
  exact ⟨rfl, rfl⟩

theorem blocks_nil (w : World) : Calls Tryd.prog 35 #[.pointer none] w fun e w' => e = .returned (.int .i64 0) ∧ w = w' := by
  go_enter Tryd.func35, Tryd.ntmps35
  go_wp2
  go_ret
  exact ⟨rfl, rfl⟩

/-- A word, and a block's cells. -/
def U (x : Int) : Value := .int .u32 x
def row (x : List Int) : Array Value := (x.map U).toArray
def Ptr (q : Nat) : Value := .pointer (some ⟨q, 0, none⟩)
def zero : List Int := List.replicate 16 0

theorem row_size (x : List Int) : (row x).size = x.length := by simp [row]
theorem row_get (x : List Int) (k : Nat) : (row x)[k]? = (x[k]?).map U := by simp [row]
theorem row_set (x : List Int) (k : Nat) (y : Int) : (row x).setIfInBounds k (U y) = row (x.set k y) := by simp [row]
theorem row_one (x : List Int) : (row x).all (·.oneCell') = true := by
  simp [row, U, Value.oneCell']
theorem row_inj {x y : List Int} : row x = row y ↔ x = y := by
  constructor
  · intro h
    have : x.map U = y.map U := by simpa [row] using h
    exact (List.map_inj_right (fun a b e => by simpa [U] using e)).1 this
  · rintro rfl; rfl
theorem zero_row : row zero = #[.int .u32 0, .int .u32 0, .int .u32 0, .int .u32 0, .int .u32 0, .int .u32 0, .int .u32 0, .int .u32 0, .int .u32 0, .int .u32 0, .int .u32 0, .int .u32 0, .int .u32 0, .int .u32 0, .int .u32 0, .int .u32 0] := rfl
theorem zero_size : zero.length = 16 := rfl

theorem info30 : (Tryd.prog.info? 56).map (·.size) = some 16 := by kernel_rfl
theorem info30' (x : List Int) (h : x.length = 16) : (Tryd.prog.info? 56).map (·.size) = some (row x).size := by rw [row_size, h]; exact info30

/-- The memory in block b, whose slice is v: its blocks' words. -/
structure Mem (w : World) (b : Nat) (v : Value) (bs : List (List Int)) : Prop where
  blk : w.heap[b]? = some (.cells #[v] 76 (0, 0))
  sl : ∃ ps : List Nat, Sl w 74 v (ps.map Ptr) ∧ ps.length = bs.length ∧ ∀ (i : Nat) q x, ps[i]? = some q → bs[i]? = some x → w.heap[q]? = some (.cells (row x) 56 (0, 0))
  len : ∀ x ∈ bs, x.length = 16

theorem Mem.lt {w : World} {b : Nat} {v : Value} {bs : List (List Int)} (h : Mem w b v bs) : b < w.heap.size := (Array.getElem?_eq_some_iff.1 h.blk).1
theorem Mem.cell0 {w : World} {b : Nat} {v : Value} {bs : List (List Int)} (h : Mem w b v bs) : w.cell? ⟨b, 0, none⟩ = some v := by simp [World.cell?, h.blk]
theorem Mem.form {w : World} {b : Nat} {v : Value} {bs : List (List Int)} (h : Mem w b v bs) : ∃ ad cap, v = .slice ad bs.length cap := by
  obtain ⟨ps, h1, h2, _⟩ := h.sl
  obtain ⟨ad, cap, h3⟩ := h1.form
  exact ⟨ad, cap, by rw [h3, List.length_map, h2]⟩
/-- A block of it. -/
theorem Mem.at {w : World} {b : Nat} {v : Value} {bs : List (List Int)} (h : Mem w b v bs) {i : Nat} {x : List Int} (hx : bs[i]? = some x) :
    ∃ g off cap q, v = .slice (some ⟨g, off, none⟩) bs.length cap ∧ w.cell? ⟨g, off + i, none⟩ = some (.pointer (some ⟨q, 0, none⟩)) ∧ w.heap[q]? = some (.cells (row x) 56 (0, 0)) ∧ x.length = 16 := by
  obtain ⟨ps, h1, h2, h3⟩ := h.sl
  have hi : i < ps.length := by rw [h2]; exact (List.getElem?_eq_some_iff.1 hx).1
  obtain ⟨g, off, cap, hv, hc⟩ := h1.cell i (Ptr ps[i]) (by rw [List.getElem?_map, List.getElem?_eq_getElem hi]; rfl)
  exact ⟨g, off, cap, ps[i], by rw [hv, List.length_map, h2], hc, h3 i _ x (List.getElem?_eq_getElem hi) hx, h.len x (List.mem_of_getElem? hx)⟩

theorem blocks_any (b : Nat) (v : Value) (bs : List (List Int)) (w : World) (hM : Mem w b v bs) : Calls Tryd.prog 35 #[.pointer (some ⟨b, 0, none⟩)] w fun e w' => e = .returned (.int .i64 (bs.length : Int)) ∧ w = w' := by
  obtain ⟨ad, cap, rfl⟩ := hM.form
  have hc := hM.cell0
  clear hM
  go_enter Tryd.func35, Tryd.ntmps35
  go_wp2
  go_ret
  exact ⟨rfl, rfl⟩

/-- What Block hands back: the block that was made last, and a word. -/
theorem ret_row (w : World) (x : List Int) (h : x.length = 16) (n : Int) (tmps : Array Value) (Q : Ending → World → Prop) (h4 : tmps.getD 4 undef = .pointer (some ⟨w.heap.size, 0, none⟩)) (h5 : tmps.getD 5 undef = .int .i64 n)
    (hQ : Q (.returned (.tuple #[.agg (row x), .int .i64 n])) (w.alloc (.cells (row x) 56))) : bodyPost Tryd.prog Tryd.f26 Q .ret { tmps := tmps, defers := [] } (w.alloc (.cells (row x) 56)) := by
  refine bodyPost_ret (v := .tuple #[.agg (row x), .int .i64 n]) ?_ rfl hQ
  rw [results_cell_tmp rfl, h4, h5]
  have := run_loadVar_new (P := Tryd.prog) w 56 (row x) 16 34 Tryd.underlying56 (info30' _ h)
  simp [asAddr, Result.andThen, this]

theorem block_nil (i : Int) (w : World) : Calls Tryd.prog 26 #[.pointer none, .int .i64 i] w fun e w' => e = .returned (.tuple #[.agg (row zero), .int .i64 1]) ∧ w' = w.alloc (.cells (row zero) 56) := by
  go_enter Tryd.func26, Tryd.ntmps26
  go_wp2
  exact ret_row w zero rfl 1 _ _ (by rfl) (by rfl) (by exact ⟨rfl, rfl⟩)

theorem block_out (b : Nat) (v : Value) (bs : List (List Int)) (i : Int) (w : World) (hM : Mem w b v bs) (h : i < 0 ∨ (bs.length : Int) ≤ i) : Calls Tryd.prog 26 #[.pointer (some ⟨b, 0, none⟩), .int .i64 i] w fun e w' => e = .returned (.tuple #[.agg (row zero), .int .i64 5]) ∧ w' = w.alloc (.cells (row zero) 56) := by
  obtain ⟨ad, cap, rfl⟩ := hM.form
  have hc := hM.cell0
  have hbl : b < w.heap.size := block_lt_of_cell hc
  clear hM
  obtain ⟨q, hq⟩ : ∃ q, q = bs.length := ⟨_, rfl⟩
  rw [← hq] at hc h
  clear hq
  by_cases h0 : i < 0
  · clear h
    go_enter Tryd.func26, Tryd.ntmps26
    go_wp2
    exact ret_row w zero rfl 5 _ _ (by rfl) (by rfl) (by exact ⟨rfl, rfl⟩)
  · have h1 : decide (i < 0) = false := by simp; omega
    have h2 : decide ((q : Int) ≤ i) = true := by simp; omega
    clear h h0
    go_enter Tryd.func26, Tryd.ntmps26
    go_wp2
    exact ret_row w zero rfl 5 _ _ (by rfl) (by rfl) (by exact ⟨rfl, rfl⟩)

theorem block_in (b : Nat) (v : Value) (bs : List (List Int)) (i : Nat) (x : List Int) (w : World) (hM : Mem w b v bs) (hx : bs[i]? = some x) : Calls Tryd.prog 26 #[.pointer (some ⟨b, 0, none⟩), .int .i64 (i : Int)] w fun e w' => e = .returned (.tuple #[.agg (row x), .int .i64 0]) ∧ w' = w.alloc (.cells (row x) 56) := by
  obtain ⟨g, off, cap, q, rfl, hcell, hq, hl⟩ := hM.at hx
  have hc := hM.cell0
  have hi : i < bs.length := (List.getElem?_eq_some_iff.1 hx).1
  obtain ⟨n, hn⟩ : ∃ n, n = bs.length := ⟨_, rfl⟩
  rw [← hn] at hc hi
  have HQ := Lib.hid hq
  have HL := Lib.hid hl
  have hql : q < w.heap.size := (Array.getElem?_eq_some_iff.1 hq).1
  have hbl : b < w.heap.size := block_lt_of_cell hc
  have hgl : g < w.heap.size := block_lt_of_cell hcell
  clear hM hx hn hq hl
  go_enter Tryd.func26, Tryd.ntmps26
  go_wp2_with (first
    | (refine wpList_load_row (by rfl) 56 _ (by rfl) q (by rfl) 56 (row x) (0, 0) _ ((Below.heap_alloc _ _ _ hql).trans HQ.out) Tryd.underlying56 rfl (info30' _ HL.out) ?_)
    | (refine wpList_store_row (by rfl) 56 _ _ (by rfl) w.heap.size (row x) (by rfl) (by rfl) 56 _ (heap_alloc_new _ _) (info30' _ HL.out) (by rw [row_size, HL.out]; rfl) (row_one x) ?_; rw [World.setRow_alloc_new]))
  exact ret_row w x HL.out 0 _ _ (by rfl) (by rfl) (by exact ⟨rfl, rfl⟩)
end Go.Proofs.YtfjjmlmkpdpdfaaDoor.pp
