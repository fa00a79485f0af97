/-
  What Find, Drop, Use, Turn, Write answer, and what the cache is behind them: contracts. Condition: the table of bounds lies in its variable as the program's text has it; the bounds that each theorem names.
-/
import Derived.Test.YtjbapfjeildfoaaDoorC4
namespace Go.Proofs.YtjbapfjeildfoaaDoor.kk
open Go Go.ChangeShapes Go.WideShapes Go.ChangeAt Go.RowKit Go.Shelf
set_option linter.unusedVariables false

section
variable {w : World} {ops : Array Oper} {rest : List Oper} {a : Act} {Q : Exit → Act → World → Prop} {dst : Option Tmp} {ty : TypeId} {pos : String} {after : Array Edge}
/-- A line into a variable. -/
theorem store_any (l l' : Ln) (x y : Tmp) (g : Nat) (hx : a.eval (.tmp x) = .pointer (some ⟨g, 0, none⟩)) (hy : a.eval (.tmp y) = .agg (la l)) (hg : w.heap[g]? = some (.cells (la l') 36 (0, 0)))
    (h : wpList Tryd.prog ops Q rest (a.put dst undef) (w.setRow g (la l))) : wpList Tryd.prog ops Q (⟨dst, .store 36 (.tmp x) (.tmp y), ty, pos, after, none⟩ :: rest) a w :=
  wpList_store_row rfl 36 (.tmp x) (.tmp y) rfl g (la l) hx hy 36 _ hg (info36a l) (by rw [la_size, la_size]) (la_one l) h
end
theorem grown_setRow {w w1 : World} (h : w.grownBy w1 none) (g : Nat) (hg : w.heap.size ≤ g) (c : Array Value) : w.grownBy (w1.setRow g c) none :=
  ⟨h.os, h.tape, h.output, by have := h.size; simp; omega, fun k hk hn => (setRow_other _ _ _ _ (by omega)).trans (h.block k hk hn)⟩
theorem ret_ln {fn : Func} (hres : fn.results = #[.cell 4 36, .tmp 5]) (w : World) (l : Ln) (v : Value) (B : Nat) (tmps : Array Value) (Q : Ending → World → Prop) (h4 : tmps.getD 4 undef = .pointer (some ⟨B, 0, none⟩)) (h5 : tmps.getD 5 undef = v)
    (hr : w.rangeAt B 0 (ln l)) (hQ : Q (.returned (.tuple #[.agg (la l), v])) w) : bodyPost Tryd.prog fn Q .ret { tmps := tmps, defers := [] } w := by
  refine bodyPost_ret (v := .tuple #[.agg (la l), v]) ?_ rfl hQ
  rw [results_cell_tmp hres, h4, h5]
  have := run_loadVar_mid (P := Tryd.prog) w B 0 36 (ln l) _ hr Tryd.underlying36 rfl (info36' l)
  simp [asAddr, Result.andThen, this, la]

/-- What is known of a set in which a block's line stands, or does not. -/
theorem way_none {ls : List Ln} {b : Int} (h : ls.findIdx? (isOf b) = none) : wayOf ls b = -1 := by rw [wayOf, ix, h]
theorem way_some {ls : List Ln} {b : Int} {i : Nat} (h : ls.findIdx? (isOf b) = some i) : wayOf ls b = (i : Int) := by rw [wayOf, ix, h]
theorem idx_lt {p : Ln → Bool} {ls : List Ln} {i : Nat} (h : ls.findIdx? p = some i) : i < ls.length := (List.findIdx?_eq_some_iff_getElem.1 h).1

/-- The cache's set, its rows' blocks. -/
structure Seen (w : World) (K : Loc) (s : Nat) (p : St) (q : Nat × Nat) : Prop where
  sl : w.cell? ⟨K.gs, s * 2, none⟩ = some (.slice (some ⟨q.1, 0, none⟩) p.1.length q.2)
  row : RowAt w q.1 p.1
theorem Cac.seen {w : World} {K : Loc} {c : Cfg} {ss : List St} (h : Cac w K c ss) {s : Nat} {p : St} (hp : ss[s]? = some p) : ∃ q, K.gr[s]? = some q ∧ Seen w K s p q := by
  obtain ⟨q, hq⟩ : ∃ q, K.gr[s]? = some q := ⟨_, List.getElem?_eq_getElem (by rw [h.grl]; exact (List.getElem?_eq_some_iff.1 hp).1)⟩
  exact ⟨q, hq, h.row s p q hp hq, h.rows s p q hp hq⟩

section
variable (K : Loc) (c : Cfg) (ss : List St) (b : Int) (p : St) (w : World)

theorem find_nil : Calls Tryd.prog 18 #[.pointer none, .int .i64 b] w fun e w' => e = .returned (.tuple #[.agg (la zl), .bool false]) ∧ w.grownBy w' none := by
  have HN : ∀ w : World, Calls Tryd.prog 31 #[.pointer none, .int .i64 b] w fun e w' => e = .returned (.tuple #[.pointer none, .int .i64 (-1)]) ∧ w.grownBy w' none := fun w => by
    go_enter Tryd.func31, Tryd.ntmps31
    go_wp2
    go_ret2
    exact ⟨rfl, grown_alloc (grown_refl _ _) _⟩
  have HN := Lib.hid HN
  have HB : Hid (∀ w1, (w.alloc (.cells (la zl) 36)).grownBy w1 none → w1.heap[w.heap.size]? = some (.cells (la zl) 36 (0, 0)) ∧ w.grownBy w1 none) := Lib.hid fun w1 hg => ⟨(hg.block _ (by simp) (by simp)).trans (heap_alloc_new _ _), grown_trans (grown_alloc (grown_refl _ _) _) hg⟩
  have HZ : Hid (la zl = _) := Lib.hid zl_la
  rw [HZ.out] at HB
  go_enter Tryd.func18, Tryd.ntmps18
  go_wp2_with (first
    | (go_at_call 31; ((with_reducible refine (HN.out _).mono ?_); rintro e w1 ⟨rfl, hg1⟩; have HG1 := Lib.hid (HB.out _ hg1); clear hg1))
    | ((with_reducible refine store_any zl zl 4 16 w.heap.size ?_ ?_ ?_ ?_); (rfl); (rfl); (exact HG1.out.1)))
  exact ret_ln rfl _ zl _ w.heap.size _ _ (by rfl) (by rfl) (range_of (setRow_heap _ _ _ _ _ _ HG1.out.1)) (by exact ⟨rfl, grown_setRow HG1.out.2 _ (Nat.le_refl _) _⟩)

theorem where_nil : Calls Tryd.prog 31 #[.pointer none, .int .i64 b] w fun e w' => e = .returned (.tuple #[.pointer none, .int .i64 (-1)]) ∧ w.grownBy w' none := by
  go_enter Tryd.func31, Tryd.ntmps31
  go_wp2
  go_ret2
  exact ⟨rfl, grown_alloc (grown_refl _ _) _⟩
theorem drop_nil : Calls Tryd.prog 15 #[.pointer none, .int .i64 b] w fun e w' => e = .returned (.bool false) ∧ w.grownBy w' none := by
  have HN := Lib.hid (where_nil b)
  go_enter Tryd.func15, Tryd.ntmps15
  go_wp2_with (go_at_call 31; ((with_reducible refine (HN.out _).mono ?_); rintro e w1 ⟨rfl, hg1⟩; have HG1 := Lib.hid hg1; clear hg1))
  go_ret
  exact ⟨rfl, HG1.out⟩
theorem use_nil : Calls Tryd.prog 13 #[.pointer none, .int .i64 b] w fun e w' => e = .returned (.bool false) ∧ w.grownBy w' none := by
  have HN := Lib.hid (where_nil b)
  go_enter Tryd.func13, Tryd.ntmps13
  go_wp2_with (go_at_call 31; ((with_reducible refine (HN.out _).mono ?_); rintro e w1 ⟨rfl, hg1⟩; have HG1 := Lib.hid hg1; clear hg1))
  go_ret
  exact ⟨rfl, HG1.out⟩
theorem write_nil (k x : Int) : Calls Tryd.prog 16 #[.pointer none, .int .i64 b, .int .i64 k, .int .u32 x] w fun e w' => e = .returned (.int .i64 1) ∧ w.grownBy w' none := by
  go_enter Tryd.func16, Tryd.ntmps16
  go_wp2
  go_ret
  exact ⟨rfl, grown_refl _ _⟩
theorem turn_nil (s : Int) : Calls Tryd.prog 17 #[.pointer none, .int .i64 b, .int .u8 s] w fun e w' => e = .returned (.int .i64 1) ∧ w.grownBy w' none := by
  go_enter Tryd.func17, Tryd.ntmps17
  go_wp2
  go_ret
  exact ⟨rfl, grown_refl _ _⟩

variable (hC : Cac w K c ss) (hT : Tab w) (hp : ss[setOf c b]? = some p)
include hC hT hp

theorem find_none (hn : p.1.findIdx? (isOf b) = none) : Calls Tryd.prog 18 #[.pointer (some ⟨K.b, 0, none⟩), .int .i64 b] w fun e w' => e = .returned (.tuple #[.agg (la zl), .bool false]) ∧ w.grownBy w' none := by
  have hg0 : w.grownBy (w.alloc (.cells (la zl) 36)) none := grown_alloc (grown_refl _ _) _
  have HN := Lib.hid (where_any K c ss b p (w.alloc (.cells (la zl) 36)) (hC.grown hg0) (hT.grown hg0) hp)
  rw [way_none hn] at HN
  have HB : Hid (∀ w1, (w.alloc (.cells (la zl) 36)).grownBy w1 none → w1.heap[w.heap.size]? = some (.cells (la zl) 36 (0, 0)) ∧ w.grownBy w1 none) := Lib.hid fun w1 hg => ⟨(hg.block _ (by simp) (by simp)).trans (heap_alloc_new _ _), grown_trans (grown_alloc (grown_refl _ _) _) hg⟩
  have HZ : Hid (la zl = _) := Lib.hid zl_la
  rw [HZ.out] at HB HN
  clear hg0 hC hT hp hn
  go_enter Tryd.func18, Tryd.ntmps18
  go_wp2_with (first
    | (go_at_call 31; ((with_reducible refine HN.out.mono ?_); rintro e w1 ⟨rfl, hg1⟩; have HG1 := Lib.hid (HB.out _ hg1); clear hg1))
    | ((with_reducible refine store_any zl zl 4 16 w.heap.size ?_ ?_ ?_ ?_); (rfl); (rfl); (exact HG1.out.1)))
  exact ret_ln rfl _ zl _ w.heap.size _ _ (by rfl) (by rfl) (range_of (setRow_heap _ _ _ _ _ _ HG1.out.1)) (by exact ⟨rfl, grown_setRow HG1.out.2 _ (Nat.le_refl _) _⟩)

theorem find_some (i : Nat) (l : Ln) (hn : p.1.findIdx? (isOf b) = some i) (hl : p.1[i]? = some l) : Calls Tryd.prog 18 #[.pointer (some ⟨K.b, 0, none⟩), .int .i64 b] w fun e w' => e = .returned (.tuple #[.agg (la l), .bool true]) ∧ w.grownBy w' none := by
  have hg0 : w.grownBy (w.alloc (.cells (la zl) 36)) none := grown_alloc (grown_refl _ _) _
  have HN := Lib.hid (where_any K c ss b p (w.alloc (.cells (la zl) 36)) (hC.grown hg0) (hT.grown hg0) hp)
  rw [way_some hn] at HN
  obtain ⟨q, hq, hS⟩ := hC.seen hp
  have hsne : some K.gs ≠ none := by simp
  have HB : Hid (∀ w1, (w.alloc (.cells (la zl) 36)).grownBy w1 none → w1.heap[w.heap.size]? = some (.cells (la zl) 36 (0, 0)) ∧ w.grownBy w1 none ∧ w1.cell? ⟨K.gs, setOf c b * 2, none⟩ = some (.slice (some ⟨q.1, 0, none⟩) p.1.length q.2) ∧ w1.rangeAt q.1 (i * 18) (ln l)) := Lib.hid fun w1 hg =>
    have hg' := grown_trans (grown_alloc (grown_refl _ _) _) hg
    ⟨(hg.block _ (by simp) (by simp)).trans (heap_alloc_new _ _), hg', hg'.cell hS.sl (by simp), (hS.row.grown hg' (by simp)).at_ i l hl⟩
  have HZ : Hid (la zl = _) := Lib.hid zl_la
  have hi := idx_lt hn
  rw [HZ.out] at HB HN
  generalize p.1.length = n at *
  generalize setOf c b = s at *
  clear hg0 hC hT hp hn hS hl hq hsne
  go_enter Tryd.func18, Tryd.ntmps18
  go_wp2_with (first
    | (go_at_call 31; ((with_reducible refine HN.out.mono ?_); rintro e w1 ⟨rfl, hg1⟩; have HG1 := Lib.hid (HB.out _ hg1); clear hg1; have c1 := HG1.out.2.2.1))
    | ((with_reducible refine load_ln l 22 q.1 (i * 18) ?_ HG1.out.2.2.2 ?_); (go_num))
    | ((with_reducible refine store_any l zl 4 23 w.heap.size ?_ ?_ ?_ ?_); (rfl); (rfl); (exact HG1.out.1)))
  exact ret_ln rfl _ l _ w.heap.size _ _ (by rfl) (by rfl) (range_of (setRow_heap _ _ _ _ _ _ HG1.out.1)) (by exact ⟨rfl, grown_setRow HG1.out.2.1 _ (Nat.le_refl _) _⟩)

theorem drop_none (hn : p.1.findIdx? (isOf b) = none) : Calls Tryd.prog 15 #[.pointer (some ⟨K.b, 0, none⟩), .int .i64 b] w fun e w' => e = .returned (.bool false) ∧ w.grownBy w' none := by
  have HN := Lib.hid (where_any K c ss b p w hC hT hp)
  rw [way_none hn] at HN
  clear hC hT hp hn
  go_enter Tryd.func15, Tryd.ntmps15
  go_wp2_with (go_at_call 31; ((with_reducible refine HN.out.mono ?_); rintro e w1 ⟨rfl, hg1⟩; have HG1 := Lib.hid hg1; clear hg1))
  go_ret
  exact ⟨rfl, HG1.out⟩
theorem drop_some (i : Nat) (hn : p.1.findIdx? (isOf b) = some i) : Calls Tryd.prog 15 #[.pointer (some ⟨K.b, 0, none⟩), .int .i64 b] w fun e w' => e = .returned (.bool true) ∧ Cac w' K c (ss.set (setOf c b) (p.1.set i zl, p.2)) ∧ Kept K.own w w' := by
  have HN := Lib.hid (where_any K c ss b p w hC hT hp)
  rw [way_some hn] at HN
  obtain ⟨q, hq, hS⟩ := hC.seen hp
  have hi := idx_lt hn
  have HB : Hid (∀ w1, w.grownBy w1 none → w1.cell? ⟨K.gs, setOf c b * 2, none⟩ = some (.slice (some ⟨q.1, 0, none⟩) p.1.length q.2) ∧ w1.there q.1 (i * 18) 18 ∧ Cac (w1.setCells q.1 (i * 18) (ln zl)) K c (ss.set (setOf c b) (p.1.set i zl, p.2)) ∧ Kept K.own w (w1.setCells q.1 (i * 18) (ln zl))) := Lib.hid fun w1 hg =>
    have hr := hS.row.grown hg (by simp)
    ⟨hg.cell hS.sl (by simp), hr.there hi, (hC.grown hg).setRow hp hq (grown_setCells _ _ _ _) (by simp) (hr.store i hi zl), (Kept.of hg).trans (Kept.one (grown_setCells _ _ _ _) (.inr ⟨q, List.mem_of_getElem? hq, rfl⟩))⟩
  have HZ : Hid (la zl = _) := Lib.hid zl_la
  generalize ss.set (setOf c b) (p.1.set i zl, p.2) = ss' at *
  generalize p.1.length = n at *
  generalize setOf c b = s at *
  clear hC hT hp hn hS hq
  go_enter Tryd.func15, Tryd.ntmps15
  go_wp2_with (first
    | (go_at_call 31; ((with_reducible refine HN.out.mono ?_); rintro e w1 ⟨rfl, hg1⟩; have HG1 := Lib.hid (HB.out _ hg1); clear hg1; have c1 := HG1.out.1))
    | ((with_reducible refine store_ln zl 21 20 q.1 (i * 18) ?_ ?_ HG1.out.2.1 ?_); (go_num); (rfl)))
  go_ret
  exact ⟨rfl, HG1.out.2.2⟩
theorem uses_none (hn : p.1.findIdx? (isOf b) = none) : Calls Tryd.prog 13 #[.pointer (some ⟨K.b, 0, none⟩), .int .i64 b] w fun e w' => e = .returned (.bool false) ∧ w.grownBy w' none := by
  have HN := Lib.hid (where_any K c ss b p w hC hT hp)
  rw [way_none hn] at HN
  clear hC hT hp hn
  go_enter Tryd.func13, Tryd.ntmps13
  go_wp2_with (go_at_call 31; ((with_reducible refine HN.out.mono ?_); rintro e w1 ⟨rfl, hg1⟩; have HG1 := Lib.hid hg1; clear hg1))
  go_ret
  exact ⟨rfl, HG1.out⟩
theorem uses_some (i : Nat) (hn : p.1.findIdx? (isOf b) = some i) : Calls Tryd.prog 13 #[.pointer (some ⟨K.b, 0, none⟩), .int .i64 b] w fun e w' => e = .returned (.bool true) ∧ Cac w' K c (ss.set (setOf c b) (p.1, us p.2 p.1.length i)) ∧ Kept K.own w w' := by
  have HN := Lib.hid (where_any K c ss b p w hC hT hp)
  rw [way_some hn] at HN
  have HU : Hid (∀ w1, w.grownBy w1 none → _) := Lib.hid fun w1 hg => use_any K c ss (setOf c b) p i w1 (hC.grown hg) hp (idx_lt hn)
  generalize ss.set (setOf c b) (p.1, us p.2 p.1.length i) = ss' at *
  generalize setOf c b = s at *
  clear hC hT hp hn
  go_enter Tryd.func13, Tryd.ntmps13
  go_wp2_with (first
    | (go_at_call 31; ((with_reducible refine HN.out.mono ?_); rintro e w1 ⟨rfl, hg1⟩; have HG1 := Lib.hid hg1; clear hg1))
    | (go_at_call 33; ((with_reducible refine (HU.out _ HG1.out).mono ?_); rintro e w2 ⟨⟨v, rfl⟩, hc2, hk2⟩; have HC2 := Lib.hid hc2; have HK2 := Lib.hid hk2; clear hc2 hk2)))
  go_ret
  exact ⟨rfl, HC2.out, (Kept.of HG1.out).trans HK2.out⟩

theorem turn_none (s : Int) (hn : p.1.findIdx? (isOf b) = none) : Calls Tryd.prog 17 #[.pointer (some ⟨K.b, 0, none⟩), .int .i64 b, .int .u8 s] w fun e w' => e = .returned (.int .i64 4) ∧ w.grownBy w' none := by
  have HN := Lib.hid (where_any K c ss b p w hC hT hp)
  rw [way_none hn] at HN
  clear hC hT hp hn
  go_enter Tryd.func17, Tryd.ntmps17
  go_wp2_with (go_at_call 31; ((with_reducible refine HN.out.mono ?_); rintro e w1 ⟨rfl, hg1⟩; have HG1 := Lib.hid hg1; clear hg1))
  go_ret
  exact ⟨rfl, HG1.out⟩
theorem turn_bad (s : Int) (i : Nat) (hn : p.1.findIdx? (isOf b) = some i) (hs : ¬ (1 ≤ s ∧ s ≤ 3)) : Calls Tryd.prog 17 #[.pointer (some ⟨K.b, 0, none⟩), .int .i64 b, .int .u8 s] w fun e w' => e = .returned (.int .i64 2) ∧ w.grownBy w' none := by
  have HN := Lib.hid (where_any K c ss b p w hC hT hp)
  rw [way_some hn] at HN
  have HS := Lib.hid (isState_any s)
  rw [decide_eq_false hs] at HS
  clear hC hT hp hn hs
  go_enter Tryd.func17, Tryd.ntmps17
  go_wp2_with (first
    | (go_at_call 31; ((with_reducible refine HN.out.mono ?_); rintro e w1 ⟨rfl, hg1⟩; have HG1 := Lib.hid hg1; clear hg1))
    | (go_at_call 30; ((with_reducible refine (HS.out _).mono ?_); rintro e w2 ⟨rfl, rfl⟩)))
  go_ret
  exact ⟨rfl, HG1.out⟩
/-- A line of another state. -/
def Ln.state (l : Ln) (s : Int) : Ln := ⟨l.b, s, l.d, l.h⟩
theorem turn_ok (s : Int) (i : Nat) (l : Ln) (hn : p.1.findIdx? (isOf b) = some i) (hl : p.1[i]? = some l) (hs : 1 ≤ s ∧ s ≤ 3) : Calls Tryd.prog 17 #[.pointer (some ⟨K.b, 0, none⟩), .int .i64 b, .int .u8 s] w fun e w' => e = .returned (.int .i64 0) ∧ Cac w' K c (ss.set (setOf c b) (p.1.set i (l.state s), p.2)) ∧ Kept K.own w w' := by
  have HN := Lib.hid (where_any K c ss b p w hC hT hp)
  rw [way_some hn] at HN
  have HS := Lib.hid (isState_any s)
  rw [decide_eq_true hs] at HS
  obtain ⟨q, hq, hS⟩ := hC.seen hp
  have hi := idx_lt hn
  have HB : Hid (∀ w1, w.grownBy w1 none → (w1.cell? ⟨K.gs, setOf c b * 2, none⟩ = some (.slice (some ⟨q.1, 0, none⟩) p.1.length q.2) ∧ w1.cell? ⟨q.1, i * 18 + 1, none⟩ = some (.int .u8 l.s) ∧ w1.frozen? ⟨q.1, i * 18 + 1, none⟩ = false) ∧ Cac (w1.setCell ⟨q.1, i * 18 + 1, none⟩ (.int .u8 s)) K c (ss.set (setOf c b) (p.1.set i (l.state s), p.2)) ∧ Kept K.own w (w1.setCell ⟨q.1, i * 18 + 1, none⟩ (.int .u8 s))) := Lib.hid fun w1 hg =>
    have hr := hS.row.grown hg (by simp)
    ⟨⟨hg.cell hS.sl (by simp), hr.at_ i l hl 1 _ (ln1 l), (hr.there hi 1 (by omega)).2⟩, (hC.grown hg).setRow hp hq (grown_setCell _ _ _ _) (by simp) (hr.cell i hi l (l.state s) hl 1 (by omega) _ rfl), (Kept.of hg).trans (Kept.one (grown_setCell _ _ _ _) (.inr ⟨q, List.mem_of_getElem? hq, rfl⟩))⟩
  generalize ss.set (setOf c b) (p.1.set i (l.state s), p.2) = ss' at *
  generalize p.1.length = n at *
  generalize setOf c b = s0 at *
  clear hC hT hp hn hS hq hs hl
  go_enter Tryd.func17, Tryd.ntmps17
  go_wp2_with (first
    | (go_at_call 31; ((with_reducible refine HN.out.mono ?_); rintro e w1 ⟨rfl, hg1⟩; have HG1 := Lib.hid (HB.out _ hg1).2; obtain ⟨c1, c2, f2⟩ := (HB.out _ hg1).1; clear hg1))
    | (go_at_call 30; ((with_reducible refine (HS.out _).mono ?_); rintro e w2 ⟨rfl, rfl⟩)))
  go_ret
  exact ⟨rfl, HG1.out⟩
end
end Go.Proofs.YtjbapfjeildfoaaDoor.kk
