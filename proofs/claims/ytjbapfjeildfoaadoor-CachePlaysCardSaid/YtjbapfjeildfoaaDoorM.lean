/-
  A line as cells, a row of lines in a block, what a store of a line makes of it: definitions and laws. No condition but the bounds that each theorem names.
-/
import Derived.Test.YtjbapfjeildfoaaDoorV2
import Derived.Deep.MidRow
import Derived.Deep.WholeRow
import Derived.Deep.RegionLaw
import Derived.Deep.RegionHeld
namespace Go.Proofs.YtjbapfjeildfoaaDoor.kk
open Go Go.ChangeShapes Go.WideShapes Go.ChangeAt Go.RowKit
set_option linter.unusedVariables false

def U (x : Int) : Value := .int .u32 x
/-- A line. -/
structure Ln where
  b : Int
  s : Int
  d : List Int
  h : d.length = 16
deriving DecidableEq
def zd : List Int := List.replicate 16 0
def zl : Ln := ⟨0, 0, zd, rfl⟩
instance : Inhabited Ln := ⟨zl⟩
theorem Ln.ext {x y : Ln} (h1 : x.b = y.b) (h2 : x.s = y.s) (h3 : x.d = y.d) : x = y := by
  obtain ⟨_, _, _, _⟩ := x; obtain ⟨_, _, _, _⟩ := y; simp at h1 h2 h3; subst h1 h2 h3; rfl
/-- Its cells. -/
def ln (l : Ln) : List Value := .int .i64 l.b :: .int .u8 l.s :: l.d.map U
def la (l : Ln) : Array Value := (ln l).toArray
theorem ln_len (l : Ln) : (ln l).length = 18 := by simp [ln, l.h]
theorem la_size (l : Ln) : (la l).size = 18 := by simp [la, ln_len]
theorem ln_one (l : Ln) : ∀ v ∈ ln l, v.oneCell' = true := by
  intro v hv
  simp [ln, U] at hv
  rcases hv with rfl | rfl | ⟨x, _, rfl⟩ <;> rfl
theorem la_one (l : Ln) : (la l).all (·.oneCell') = true := all_oneCell_toArray (ln_one l)
theorem ln0 (l : Ln) : (ln l)[0]? = some (.int .i64 l.b) := rfl
theorem ln1 (l : Ln) : (ln l)[1]? = some (.int .u8 l.s) := rfl
theorem ln_d (l : Ln) (k : Nat) : (ln l)[2 + k]? = (l.d[k]?).map U := by
  rw [Nat.add_comm]; simp [ln]
theorem info36 : (Tryd.prog.info? 36).map (·.size) = some 18 := by kernel_rfl
theorem info36' (l : Ln) : (Tryd.prog.info? 36).map (·.size) = some (ln l).length := by rw [ln_len]; exact info36
theorem info36a (l : Ln) : (Tryd.prog.info? 36).map (·.size) = some (la l).size := by rw [la_size]; exact info36
theorem zl_la : la zl = #[.int .i64 0, .int .u8 0, .int .u32 0, .int .u32 0, .int .u32 0, .int .u32 0, .int .u32 0, .int .u32 0, .int .u32 0, .int .u32 0, .int .u32 0, .int .u32 0, .int .u32 0, .int .u32 0, .int .u32 0, .int .u32 0, .int .u32 0, .int .u32 0] := rfl

theorem tyne {w : World} {k q : Nat} {c1 c2 : Array Value} {t1 t2 : TypeId} {f1 f2 : Nat × Nat} (h1 : w.heap[k]? = some (.cells c1 t1 f1)) (h2 : w.heap[q]? = some (.cells c2 t2 f2)) (h : t1 ≠ t2) : k ≠ q := fun e => by
  subst e; rw [h1] at h2; cases h2; exact h rfl
theorem add_lit (g off j : Nat) : (⟨g, off, none⟩ : Addr).add j = ⟨g, off + j, none⟩ := by unfold Addr.add; split <;> simp_all
theorem lt_of {w : World} {k : Nat} {o : Obj} (h : w.heap[k]? = some o) : k < w.heap.size := (Array.getElem?_eq_some_iff.1 h).1
theorem range_grown {w w' : World} {g o : Nat} {xs : List Value} (h : w.rangeAt g o xs) {own : Option Nat} (hg : w.grownBy w' own) (hn : some g ≠ own) : w'.rangeAt g o xs := fun j v hv => hg.cell (h j v hv) hn
theorem range_of {w : World} {g : Nat} {l : Ln} {t : TypeId} (h : w.heap[g]? = some (.cells (la l) t (0, 0))) : w.rangeAt g 0 (ln l) := fun j v hv => by
  rw [Nat.zero_add, cell_of_row _ _ j _ _ _ h]
  simpa [la] using hv
theorem range_same {w w' : World} {g o : Nat} {xs : List Value} (h : w.rangeAt g o xs) (hb : w'.heap[g]? = w.heap[g]?) : w'.rangeAt g o xs := fun j v hv => by
  rw [World.cell?_of_block (w := w) (w' := w') (a := ⟨g, o + j, none⟩) hb]; exact h j v hv

/-- A row of lines in the block g. -/
structure RowAt (w : World) (g : Nat) (ls : List Ln) : Prop where
  blk : ∃ cur, w.heap[g]? = some (.cells cur 36 (0, 0))
  at_ : ∀ (j : Nat) l, ls[j]? = some l → w.rangeAt g (j * 18) (ln l)
theorem RowAt.lt {w : World} {g : Nat} {ls : List Ln} (h : RowAt w g ls) : g < w.heap.size := by
  obtain ⟨c, hc⟩ := h.blk; exact lt_of hc
theorem RowAt.same {w w' : World} {g : Nat} {ls : List Ln} (h : RowAt w g ls) (hb : w'.heap[g]? = w.heap[g]?) : RowAt w' g ls :=
  ⟨by obtain ⟨c, hc⟩ := h.blk; exact ⟨c, hb.trans hc⟩, fun j l hl => range_same (h.at_ j l hl) hb⟩
theorem RowAt.grown {w w' : World} {g : Nat} {ls : List Ln} (h : RowAt w g ls) {own : Option Nat} (hg : w.grownBy w' own) (hn : some g ≠ own) : RowAt w' g ls := h.same (hg.block g h.lt hn)
theorem RowAt.there {w : World} {g : Nat} {ls : List Ln} (h : RowAt w g ls) {j : Nat} (hj : j < ls.length) : w.there g (j * 18) 18 := fun i hi => by
  obtain ⟨c, hc⟩ := h.blk
  obtain ⟨l, hl⟩ : ∃ l, ls[j]? = some l := ⟨_, List.getElem?_eq_getElem hj⟩
  have := h.at_ j l hl i _ (List.getElem?_eq_getElem (by rw [ln_len]; exact hi))
  exact ⟨by rw [this]; rfl, frozen_of_row _ _ _ _ _ hc⟩

theorem setCells_rest (b : Nat) : ∀ (vs : List Value) (o : Nat) (w : World), (w.setCells b o vs).os = w.os ∧ (w.setCells b o vs).tape = w.tape ∧ (w.setCells b o vs).output = w.output ∧ (w.setCells b o vs).heap.size = w.heap.size
  | [], o, w => ⟨rfl, rfl, rfl, rfl⟩
  | v :: r, o, w => by
    obtain ⟨h1, h2, h3, h4⟩ := setCells_rest b r (o + 1) (w.setCell ⟨b, o, none⟩ v)
    exact ⟨h1, h2, h3, by rw [World.setCells, h4]; simp [World.setCell]⟩
theorem heap_setCell_other' (w : World) (a : Addr) (v : Value) (k : Nat) (hk : k ≠ a.block) : (w.setCell a v).heap[k]? = w.heap[k]? := Below.heap_setCell _ _ _ _ hk
theorem heap_setCells_other (b : Nat) (k : Nat) (hk : k ≠ b) : ∀ (vs : List Value) (o : Nat) (w : World), (w.setCells b o vs).heap[k]? = w.heap[k]?
  | [], _, _ => rfl
  | v :: r, o, w => by
    rw [World.setCells, heap_setCells_other b k hk r (o + 1)]
    exact Below.heap_setCell _ _ _ _ (by simpa using hk)
theorem blk_setCell {w : World} {b o : Nat} {t : TypeId} {cur : Array Value} (v : Value) (h : w.heap[b]? = some (.cells cur t (0, 0))) : (w.setCell ⟨b, o, none⟩ v).heap[b]? = some (.cells (cur.set! o v) t (0, 0)) := by
  obtain ⟨hlt, hk⟩ := Array.getElem?_eq_some_iff.1 h
  show (w.heap.modify b _)[b]? = _
  rw [Array.getElem?_eq_getElem (by rw [Array.size_modify]; exact hlt), Array.getElem_modify_self, hk]
  simp [Array.set!_eq_setIfInBounds]
theorem blk_setCells {t : TypeId} {b : Nat} : ∀ (vs : List Value) (o : Nat) (w : World), (∃ cur, w.heap[b]? = some (.cells cur t (0, 0))) → ∃ cur, (w.setCells b o vs).heap[b]? = some (.cells cur t (0, 0))
  | [], _, _, h => h
  | v :: r, o, w, ⟨cur, h⟩ => by
    rw [World.setCells]
    exact blk_setCells r (o + 1) _ ⟨_, blk_setCell v h⟩
theorem grown_setCells (w : World) (b o : Nat) (vs : List Value) : w.grownBy (w.setCells b o vs) (some b) := by
  obtain ⟨h1, h2, h3, h4⟩ := setCells_rest b vs o w
  exact ⟨h1, h2, h3, by omega, fun k _ hk => heap_setCells_other b k (fun e => hk (by rw [e])) _ _ _⟩
theorem grown_setCell (w : World) (b o : Nat) (v : Value) : w.grownBy (w.setCell ⟨b, o, none⟩ v) (some b) := grown_setCells w b o [v]

/-- A line was stored. -/
theorem RowAt.store {w : World} {g : Nat} {ls : List Ln} (h : RowAt w g ls) (j : Nat) (hj : j < ls.length) (l : Ln) : RowAt (w.setCells g (j * 18) (ln l)) g (ls.set j l) := by
  have ht := h.there hj
  refine ⟨blk_setCells _ _ _ h.blk, fun i x hx => ?_⟩
  by_cases hij : i = j
  · subst hij
    rw [List.getElem?_set_self (by simpa using hj)] at hx
    cases hx
    exact World.rangeAt_setCells_same w g (i * 18) (ln l) (by rw [ln_len]; exact ht)
  · rw [List.getElem?_set_ne (fun e => hij e.symm)] at hx
    refine World.rangeAt_setCells_apart (h.at_ i x hx) g (j * 18) (ln l) (.inr ?_)
    rw [ln_len, ln_len]
    omega
/-- A cell of a line was stored. -/
theorem RowAt.cell {w : World} {g : Nat} {ls : List Ln} (h : RowAt w g ls) (j : Nat) (hj : j < ls.length) (l l' : Ln) (hl : ls[j]? = some l) (k : Nat) (hk : k < 18) (v : Value) (hv : ln l' = (ln l).set k v) : RowAt (w.setCell ⟨g, j * 18 + k, none⟩ v) g (ls.set j l') := by
  have ht := h.there hj
  have hc := World.cell?_setCells_in g [v] (j * 18 + k) w (fun i hi => by simp at hi; subst hi; exact (ht k hk).1) 0 (by simp)
  refine ⟨blk_setCells [v] (j * 18 + k) w h.blk, fun i x hx => ?_⟩
  by_cases hij : i = j
  · subst hij
    rw [List.getElem?_set_self (by simpa using hj)] at hx
    cases hx
    intro m u hu
    rw [hv] at hu
    by_cases hmk : k = m
    · subst hmk
      rw [List.getElem?_set_self (by rw [ln_len]; exact hk)] at hu
      cases hu
      exact hc
    · rw [List.getElem?_set_ne hmk] at hu
      have h0 := h.at_ i l hl m u hu
      have h1 := World.rangeAt_setCells_apart (w := w) (b' := g) (o' := i * 18 + m) (cs := [u]) (fun j v hv => by
        match j, hv with
        | 0, hv => simp at hv; subst hv; exact h0
        | j + 1, hv => simp at hv) g (i * 18 + k) [v] (.inr (by simp; omega))
      exact h1 0 u rfl
  · rw [List.getElem?_set_ne (fun e => hij e.symm)] at hx
    refine World.rangeAt_setCells_apart (h.at_ i x hx) g (j * 18 + k) [v] (.inr ?_)
    rw [ln_len]; simp
    omega

section
variable {w : World} {ops : Array Oper} {rest : List Oper} {a : Act} {Q : Exit → Act → World → Prop} {dst : Option Tmp} {ty : TypeId} {pos : String} {after : Array Edge}

/-- A line out of a variable or a row. -/
theorem load_ln (l : Ln) (x : Tmp) (g o : Nat) (hx : a.eval (.tmp x) = .pointer (some ⟨g, o, none⟩)) (hg : w.rangeAt g o (ln l))
    (h : wpList Tryd.prog ops Q rest (a.put dst (.agg (la l))) w) : wpList Tryd.prog ops Q (⟨dst, .load 36 (.tmp x), ty, pos, after, none⟩ :: rest) a w :=
  wpList_load_mid rfl 36 (.tmp x) rfl g o hx (ln l) _ hg Tryd.underlying36 rfl (info36' l) h
/-- A line into a variable or a row. -/
theorem store_ln (l : Ln) (x y : Tmp) (g o : Nat) (hx : a.eval (.tmp x) = .pointer (some ⟨g, o, none⟩)) (hy : a.eval (.tmp y) = .agg (la l)) (hg : w.there g o 18)
    (h : wpList Tryd.prog ops Q rest (a.put dst undef) (w.setCells g o (ln l))) : wpList Tryd.prog ops Q (⟨dst, .store 36 (.tmp x) (.tmp y), ty, pos, after, none⟩ :: rest) a w := by
  refine wpList_store_mid rfl 36 (.tmp x) (.tmp y) rfl g o (la l) hx hy (by rw [la_size]; exact hg) (info36a l) (la_one l) ?_
  simpa [la] using h
/-- A line into the variable that was made last. -/
theorem store_new (l l' : Ln) (x y : Tmp) (hx : a.eval (.tmp x) = .pointer (some ⟨w.heap.size, 0, none⟩)) (hy : a.eval (.tmp y) = .agg (la l))
    (h : wpList Tryd.prog ops Q rest (a.put dst undef) (w.alloc (.cells (la l) 36))) : wpList Tryd.prog ops Q (⟨dst, .store 36 (.tmp x) (.tmp y), ty, pos, after, none⟩ :: rest) a (w.alloc (.cells (la l') 36)) := by
  refine wpList_store_row rfl 36 (.tmp x) (.tmp y) rfl w.heap.size (la l) hx hy 36 _ (heap_alloc_new _ _) (info36a l) (by rw [la_size, la_size]) (la_one l) ?_
  rw [World.setRow_alloc_new]; exact h
theorem store_new' (l : Ln) (x y : Tmp) (hx : a.eval (.tmp x) = .pointer (some ⟨w.heap.size, 0, none⟩)) (hy : a.eval (.tmp y) = .agg (la l))
    (h : wpList Tryd.prog ops Q rest (a.put dst undef) (w.alloc (.cells (la l) 36))) : wpList Tryd.prog ops Q (⟨dst, .store 36 (.tmp x) (.tmp y), ty, pos, after, none⟩ :: rest) a (w.alloc (.cells #[.int .i64 0, .int .u8 0, .int .u32 0, .int .u32 0, .int .u32 0, .int .u32 0, .int .u32 0, .int .u32 0, .int .u32 0, .int .u32 0, .int .u32 0, .int .u32 0, .int .u32 0, .int .u32 0, .int .u32 0, .int .u32 0, .int .u32 0, .int .u32 0] 36)) :=
  store_new l zl x y hx hy h
end

/-- A load and a store of a line in a region that draws its order: type and size kept under names. -/
theorem named : ∃ (t : TypeId) (n : Nat), Hid (Op.load 36 = Op.load t) ∧ (∀ w, (isAgg t).run Tryd.prog w = .ok true w) ∧ (∀ w, (sizeOf t).run Tryd.prog w = .ok n w) ∧
    ∀ (g o : Nat) (l : Ln) (w : World), w.rangeAt g o (ln l) → (loadCellsFrom ⟨g, o, none⟩ 0 n #[]).run Tryd.prog w = .ok (la l) w :=
  ⟨36, 18, Lib.hid rfl, Tryd.isAgg36, Tryd.sizeOf36, fun g o l w h => by
    have := run_loadCells_list (P := Tryd.prog) w ⟨g, o, none⟩ (ln l) (fun j v hv => by rw [add_lit]; exact h j v hv)
    simpa [loadCells, ln_len, la] using this⟩
end Go.Proofs.YtjbapfjeildfoaaDoor.kk
