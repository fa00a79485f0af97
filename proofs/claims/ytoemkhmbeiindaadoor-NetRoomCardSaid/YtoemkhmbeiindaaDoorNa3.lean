/-
  What 'used' answers: contracts. No condition.
-/
import Derived.Test.YtoemkhmbeiindaaDoorNa2
namespace Go.Proofs.YtoemkhmbeiindaaDoor.tt
open Go Go.ChangeShapes Go.WideShapes Go.ChangeAt Go.RowKit
set_option linter.unusedVariables false

def usd (u : Int) (n : Nt) : Nt :=
  if u = 0 then bare n.k (-1) n.t n.b 0 0 false false
  else if u = 1 then bare n.k n.f (-1) n.b 0 0 false false
  else if u = 2 then bare n.k (-1) n.t n.b n.st 0 false false
  else if u = 3 then bare n.k n.f (-1) n.b n.st 0 false false
  else if u = 20 then ⟨n.k, -1, n.t, n.b, 0, n.s, true, false, n.d, n.hd⟩
  else if u = 25 then ⟨n.k, n.f, -1, n.b, 0, 0, true, n.q, n.d, n.hd⟩
  else if n.h = true then ⟨n.k, n.f, -1, n.b, 0, 0, true, false, n.d, n.hd⟩ else bare n.k n.f (-1) n.b 0 0 false false

theorem box (w : World) (n : Nt) (j : Nat) (v : Value) (h : (nt n)[j]? = some v) : (w.alloc (.cells (na n) 37)).cell? ⟨w.heap.size, j, none⟩ = some v := by
  have h := cell_at (range_of (heap_alloc_new w (.cells (na n) 37))) j v h
  exact h
theorem ret_nt {fn : Func} (hres : fn.results = #[.cell 4 37]) (w : World) (n : Nt) (B : Nat) (tmps : Array Value) (Q : Ending → World → Prop) (h4 : tmps.getD 4 undef = .pointer (some ⟨B, 0, none⟩))
    (hr : w.rangeAt B 0 (nt n)) (hQ : Q (.returned (.agg (na n))) w) : bodyPost Tryd.prog fn Q .ret { tmps := tmps, defers := [] } w := by
  refine bodyPost_ret (v := .agg (na n)) ?_ rfl hQ
  have := run_loadVar_mid (P := Tryd.prog) w B 0 37 (nt n) _ hr Tryd.underlying37 rfl (info31' n)
  have h4' : tmps[4]?.getD undef = .pointer (some ⟨B, 0, none⟩) := by simpa using h4
  simp [results, hres, h4', asAddr, this, na]

section
variable {w : World} {ops : Array Oper} {rest : List Oper} {a : Act} {Q : Exit → Act → World → Prop} {dst : Option Tmp} {ty : TypeId} {pos : String} {after : Array Edge}
theorem store_lit (n : Nt) (A : Array Value) (hA : na n = A) (c : Array Value) (x y : Tmp) (hx : a.eval (.tmp x) = .pointer (some ⟨w.heap.size, 0, none⟩)) (hy : a.eval (.tmp y) = .agg A) (hc : c.size = 24)
    (h : wpList Tryd.prog ops Q rest (a.put dst undef) (w.alloc (.cells A 37))) : wpList Tryd.prog ops Q (⟨dst, .store 37 (.tmp x) (.tmp y), ty, pos, after, none⟩ :: rest) a (w.alloc (.cells c 37)) := by
  subst hA; exact store_new n c x y hx hy hc h
theorem load_new (n : Nt) (A : Array Value) (hA : na n = A) (x : Tmp) (hx : a.eval (.tmp x) = .pointer (some ⟨w.heap.size, 0, none⟩))
    (h : wpList Tryd.prog ops Q rest (a.put dst (.agg (na n))) (w.alloc (.cells A 37))) : wpList Tryd.prog ops Q (⟨dst, .load 37 (.tmp x), ty, pos, after, none⟩ :: rest) a (w.alloc (.cells A 37)) := by
  subst hA; exact load_nt n x _ hx (range_of (heap_alloc_new _ _)) h
end
/-- The variables of 'used'. -/
structure Two (w w2 : World) (n : Nt) : Prop where
  grown : w.grownBy w2 none
  old : w2.heap[w.heap.size]? = some (.cells (na n) 37 (0, 0))
  res : w2.heap[w.heap.size + 1]? = some (.cells (na zn) 37 (0, 0))
  size : w2.heap.size = w.heap.size + 2
theorem two_of (w : World) (n : Nt) : ∃ w2, (w.alloc (.cells (na n) 37)).alloc (.cells (na zn) 37) = w2 ∧ Two w w2 n := by
  refine ⟨_, rfl, grown_alloc (grown_alloc (grown_refl _ _) _) _, (Below.heap_alloc _ _ _ (by simp)).trans (heap_alloc_new _ _), ?_, by simp⟩
  have h := heap_alloc_new (w.alloc (.cells (na n) 37)) (.cells (na zn) 37)
  rwa [show (w.alloc (.cells (na n) 37)).heap.size = w.heap.size + 1 by simp] at h
theorem Two.res1 {w w2 : World} {n : Nt} (h : Two w w2 n) (o : Obj) : (w2.alloc o).heap[w.heap.size + 1]? = some (.cells (na zn) 37 (0, 0)) :=
  (Below.heap_alloc _ _ _ (by rw [h.size]; omega)).trans h.res
theorem Two.end_ {w w2 : World} {n : Nt} (h : Two w w2 n) (o : Obj) (m : Nt) : ((w2.alloc o).setRow (w.heap.size + 1) (na m)).rangeAt (w.heap.size + 1) 0 (nt m) ∧ w.grownBy ((w2.alloc o).setRow (w.heap.size + 1) (na m)) none :=
  ⟨range_of (setRow_heap _ _ _ _ _ _ (h.res1 o)), grown_setRow (grown_alloc h.grown _) _ (by omega) _⟩
/-- A load and a store of a note's data in a region that draws its order. -/
theorem named29 : ∃ (t : TypeId) (m : Nat), Hid (Op.load 35 = Op.load t ∧ Op.store 35 = Op.store t) ∧ (∀ w, (isAgg t).run Tryd.prog w = .ok true w) ∧ (∀ w, (sizeOf t).run Tryd.prog w = .ok m w) ∧
    (∀ (g o : Nat) (d : List Int), d.length = 16 → ∀ w : World, w.rangeAt g o (d.map U) → (loadCellsFrom ⟨g, o, none⟩ 0 m #[]).run Tryd.prog w = .ok (row d) w) ∧ (∀ d : List Int, d.length = 16 → (row d).size = m) ∧
    (∀ (g o : Nat) (d : List Int), d.length = 16 → ∀ w : World, w.there g o 16 → (storeCells ⟨g, o, none⟩ (row d).toList 0).run Tryd.prog w = .ok () (w.setCells g o (d.map U))) :=
  ⟨35, 16, Lib.hid ⟨rfl, rfl⟩, Tryd.isAgg35, Tryd.sizeOf35, fun g o d hd w h => by
    have := run_loadCells_list (P := Tryd.prog) w ⟨g, o, none⟩ (d.map U) (fun j v hv => by rw [add_lit]; exact h j v hv)
    simpa [loadCells, hd, row] using this, fun d hd => by simp [row, hd], fun g o d hd w h => by
    have := run_storeCells_cells (P := Tryd.prog) g o (d.map U) 0 w (fun j hj => by simpa using (h j (by simpa [hd] using hj)).1) (fun j hj => by simpa using (h j (by simpa [hd] using hj)).2) (fun v hv => by
      obtain ⟨x, _, rfl⟩ := List.mem_map.1 hv; rfl)
    simpa [row] using this⟩
theorem range_d {w : World} {g : Nat} {n : Nt} (h : w.rangeAt g 0 (nt n)) : w.rangeAt g 8 (n.d.map U) := fun j v hv => by
  have := h (8 + j) v (by rw [nt_d]; simpa using hv)
  rwa [Nat.zero_add] at this
/-- What 'used' is told where it copies the data. -/
structure Three (w w2 w3 : World) (n m : Nt) : Prop where
  c6 : w3.cell? ⟨w2.heap.size, 6, none⟩ = some (.bool m.h)
  f6 : w3.frozen? ⟨w2.heap.size, 6, none⟩ = false
  k1 : w3.drew.rangeAt w.heap.size 8 (n.d.map U)
  k2 : (w3.drew.setCell ⟨w2.heap.size, 6, none⟩ (.bool true)).rangeAt w.heap.size 8 (n.d.map U) ∧ (w3.drew.setCell ⟨w2.heap.size, 6, none⟩ (.bool true)).there w2.heap.size 8 16
  k3 : ∀ f : Nt, f.k = m.k → f.f = m.f → f.t = m.t → f.b = m.b → f.st = m.st → f.s = m.s → f.h = true → f.q = m.q → f.d = n.d →
    ((w3.drew.setCell ⟨w2.heap.size, 6, none⟩ (.bool true)).setCells w2.heap.size 8 (n.d.map U)).rangeAt w2.heap.size 0 (nt f) ∧
    w.grownBy ((w3.drew.setCell ⟨w2.heap.size, 6, none⟩ (.bool true)).setCells w2.heap.size 8 (n.d.map U)) none ∧
    ((w3.drew.setCell ⟨w2.heap.size, 6, none⟩ (.bool true)).setCells w2.heap.size 8 (n.d.map U)).heap[w.heap.size + 1]? = some (.cells (na zn) 37 (0, 0))
theorem three_of {w w2 : World} {n : Nt} (h : Two w w2 n) (m : Nt) {A : Array Value} (hA : na m = A) : ∃ w3, w2.alloc (.cells A 37) = w3 ∧ Three w w2 w3 n m := by
  subst hA
  have hs := h.size
  have hb := heap_alloc_new w2 (.cells (na m) 37)
  have ho : (w2.alloc (.cells (na m) 37)).rangeAt w.heap.size 0 (nt n) := range_of ((Below.heap_alloc _ _ _ (by omega)).trans h.old)
  have hm : (w2.alloc (.cells (na m) 37)).rangeAt w2.heap.size 0 (nt m) := range_of hb
  have hd := range_d ho
  have ht := there_of hb (na_size m)
  have hg2 : w.grownBy (w2.alloc (.cells (na m) 37)) none := grown_alloc h.grown _
  have e1 : ∀ w : World, w.drew.setCell ⟨w2.heap.size, 6, none⟩ (.bool true) = w.drew.setCells w2.heap.size 6 [.bool true] := fun _ => rfl
  refine ⟨_, rfl, cell_at hm 6 _ rfl, ?_, hd, ?_, ?_⟩
  · exact (ht 6 (by omega)).2
  · rw [e1]
    refine ⟨range_grown (w := (w2.alloc (.cells (na m) 37)).drew) hd (own := some w2.heap.size) (grown_setCells _ _ _ _) (by rw [hs]; simp), ?_⟩
    have := World.there_setCells (w := (w2.alloc (.cells (na m) 37)).drew) (show (w2.alloc (.cells (na m) 37)).drew.there w2.heap.size 0 24 from ht) w2.heap.size 6 [.bool true]
    intro i hi
    have := this (8 + i) (by omega)
    rwa [Nat.zero_add] at this
  · intro f h0 h1 h2 h3 h4 h5 h6 h7 h8
    rw [e1]
    have hg3 : (w2.alloc (.cells (na m) 37)).grownBy (((w2.alloc (.cells (na m) 37)).drew.setCells w2.heap.size 6 [.bool true]).setCells w2.heap.size 8 (n.d.map U)) (some w2.heap.size) := grown_trans (grown_drew (grown_refl _ _)) (grown_trans (grown_setCells _ _ _ _) (grown_setCells _ _ _ _))
    have ht1 := World.there_setCells (w := (w2.alloc (.cells (na m) 37)).drew) (show (w2.alloc (.cells (na m) 37)).drew.there w2.heap.size 0 24 from ht) w2.heap.size 6 [.bool true]
    have h6' : ((w2.alloc (.cells (na m) 37)).drew.setCells w2.heap.size 6 [.bool true]).rangeAt w2.heap.size 6 [.bool true] := World.rangeAt_setCells_same _ _ _ _ (fun i hi => by
      have := ht (6 + i) (by simp at hi; omega); rwa [Nat.zero_add] at this)
    have part : ∀ (k : Nat) (v : Value), k < 8 → k ≠ 6 → (nt m)[k]? = some v → (((w2.alloc (.cells (na m) 37)).drew.setCells w2.heap.size 6 [.bool true]).setCells w2.heap.size 8 (n.d.map U)).cell? ⟨w2.heap.size, k, none⟩ = some v := fun k v hk hk6 hv => by
      have r0 : (w2.alloc (.cells (na m) 37)).drew.rangeAt w2.heap.size k [v] := fun j u hu => by
        match j, hu with
        | 0, hu => simp at hu; subst hu; have := hm k v hv; rwa [Nat.zero_add] at this
        | j + 1, hu => simp at hu
      have r1 := World.rangeAt_setCells_apart r0 w2.heap.size 6 [.bool true] (.inr (by simp; omega))
      have r2 := World.rangeAt_setCells_apart r1 w2.heap.size 8 (n.d.map U) (.inr (by simp; omega))
      exact r2 0 v rfl
    have six : (((w2.alloc (.cells (na m) 37)).drew.setCells w2.heap.size 6 [.bool true]).setCells w2.heap.size 8 (n.d.map U)).cell? ⟨w2.heap.size, 6, none⟩ = some (.bool true) :=
      World.rangeAt_setCells_apart h6' w2.heap.size 8 (n.d.map U) (.inr (by simp)) 0 _ rfl
    have dat : (((w2.alloc (.cells (na m) 37)).drew.setCells w2.heap.size 6 [.bool true]).setCells w2.heap.size 8 (n.d.map U)).rangeAt w2.heap.size 8 (n.d.map U) := World.rangeAt_setCells_same _ _ _ _ (fun i hi => by
      have := ht1 (8 + i) (by simp [n.hd] at hi; omega); rwa [Nat.zero_add] at this)
    refine ⟨?_, grown_new hg2 (by omega) hg3, (hg3.block (w.heap.size + 1) (by simp; omega) (by simp; omega)).trans (h.res1 _)⟩
    intro j v hv
    rw [Nat.zero_add]
    obtain ⟨fk, ff, ft, fb, fst, fs, fh, fq, fd, fhd⟩ := f
    simp only at h0 h1 h2 h3 h4 h5 h6 h7 h8
    subst h0 h1 h2 h3 h4 h5 h6 h7 h8
    match j, hv with
    | 0, hv => simp [nt] at hv; subst hv; exact part 0 _ (by omega) (by omega) rfl
    | 1, hv => simp [nt] at hv; subst hv; exact part 1 _ (by omega) (by omega) rfl
    | 2, hv => simp [nt] at hv; subst hv; exact part 2 _ (by omega) (by omega) rfl
    | 3, hv => simp [nt] at hv; subst hv; exact part 3 _ (by omega) (by omega) rfl
    | 4, hv => simp [nt] at hv; subst hv; exact part 4 _ (by omega) (by omega) rfl
    | 5, hv => simp [nt] at hv; subst hv; exact part 5 _ (by omega) (by omega) rfl
    | 6, hv => simp [nt] at hv; subst hv; exact six
    | 7, hv => simp [nt] at hv; subst hv; exact part 7 _ (by omega) (by omega) rfl
    | j + 8, hv =>
      rw [Nat.add_comm j 8] at hv ⊢
      exact dat j v (by rw [nt_d] at hv; simpa using hv)
set_option maxRecDepth 100000 in
set_option maxHeartbeats 1000000 in
theorem used_0 (n : Nt) (w : World) : Calls Tryd.prog 66 #[.agg (na n), .int .u8 0] w fun e w' => e = .returned (.agg (na (usd 0 n))) ∧ w.grownBy w' none := by
  have hE : usd 0 n = bare n.k (-1) n.t n.b 0 0 false false := rfl
  rw [hE]
  clear hE
  have H1 := Lib.hid (inc 0 1 false (by decide +kernel))
  have H2 := Lib.hid (inc 0 2 false (by decide +kernel))
  have H4 := Lib.hid (inc 0 4 false (by decide +kernel))
  have H8 := Lib.hid (inc 0 8 false (by decide +kernel))
  have H16 := Lib.hid (inc 0 16 false (by decide +kernel))
  have H32 := Lib.hid (inc 0 32 false (by decide +kernel))
  obtain ⟨w2, hw, h2⟩ := two_of w n
  have c0 := cell_at (range_of h2.old) 0 _ rfl
  have c1 := cell_at (range_of h2.old) 1 _ rfl
  have c2 := cell_at (range_of h2.old) 2 _ rfl
  have c3 := cell_at (range_of h2.old) 3 _ rfl
  have c4 := cell_at (range_of h2.old) 4 _ rfl
  have c5 := cell_at (range_of h2.old) 5 _ rfl
  have c6 := cell_at (range_of h2.old) 6 _ rfl
  have c7 := cell_at (range_of h2.old) 7 _ rfl
  have hlt : w.heap.size < w2.heap.size := by rw [h2.size]; omega
  have hne : ¬ w.heap.size = w2.heap.size := by omega
  have hz : na zn = _ := bare_na 0 0 0 0 0 0 false false
  rw [hz] at hw
  have HT := Lib.hid h2
  clear h2 hz
  have HY : Hid (na (bare n.k (-1) n.t n.b 0 0 false false) = _) := Lib.hid (bare_na n.k (-1) n.t n.b 0 0 false false)
  have HZ : Hid (na (bare n.k (-1) n.t n.b 0 0 false false) = _) := Lib.hid (bare_na n.k (-1) n.t n.b 0 0 false false)
  go_enter Tryd.func66, Tryd.ntmps66
  go_wp2_with (first
    | ((with_reducible refine store_lit _ _ HZ.out _ 5 12 ?_ ?_ ?_ ?_); (rfl); (rfl); (rfl))
    | ((with_reducible refine load_new _ _ HY.out 5 ?_ ?_); (rfl))
    | ((with_reducible refine store_any (bare n.k (-1) n.t n.b 0 0 false false) _ 4 48 (w.heap.size + 1) ?_ ?_ (HT.out.res1 _) ?_ ?_); (rfl); (rfl); (rfl))
    | (go_at_call 69; (first
      | ((with_reducible refine (H1.out _).mono ?_); rintro e w1 ⟨rfl, rfl⟩)
      | ((with_reducible refine (H2.out _).mono ?_); rintro e w1 ⟨rfl, rfl⟩)
      | ((with_reducible refine (H4.out _).mono ?_); rintro e w1 ⟨rfl, rfl⟩)
      | ((with_reducible refine (H8.out _).mono ?_); rintro e w1 ⟨rfl, rfl⟩)
      | ((with_reducible refine (H16.out _).mono ?_); rintro e w1 ⟨rfl, rfl⟩)
      | ((with_reducible refine (H32.out _).mono ?_); rintro e w1 ⟨rfl, rfl⟩))))
  exact ret_nt rfl _ (bare n.k (-1) n.t n.b 0 0 false false) (w.heap.size + 1) _ _ (by rfl) (HT.out.end_ _ _).1 ⟨rfl, (HT.out.end_ _ _).2⟩
set_option maxRecDepth 100000 in
set_option maxHeartbeats 1000000 in
theorem used_1 (n : Nt) (w : World) : Calls Tryd.prog 66 #[.agg (na n), .int .u8 1] w fun e w' => e = .returned (.agg (na (usd 1 n))) ∧ w.grownBy w' none := by
  have hE : usd 1 n = bare n.k n.f (-1) n.b 0 0 false false := rfl
  rw [hE]
  clear hE
  have H1 := Lib.hid (inc 1 1 true (by decide +kernel))
  have H2 := Lib.hid (inc 1 2 false (by decide +kernel))
  have H4 := Lib.hid (inc 1 4 false (by decide +kernel))
  have H8 := Lib.hid (inc 1 8 false (by decide +kernel))
  have H16 := Lib.hid (inc 1 16 false (by decide +kernel))
  have H32 := Lib.hid (inc 1 32 false (by decide +kernel))
  obtain ⟨w2, hw, h2⟩ := two_of w n
  have c0 := cell_at (range_of h2.old) 0 _ rfl
  have c1 := cell_at (range_of h2.old) 1 _ rfl
  have c2 := cell_at (range_of h2.old) 2 _ rfl
  have c3 := cell_at (range_of h2.old) 3 _ rfl
  have c4 := cell_at (range_of h2.old) 4 _ rfl
  have c5 := cell_at (range_of h2.old) 5 _ rfl
  have c6 := cell_at (range_of h2.old) 6 _ rfl
  have c7 := cell_at (range_of h2.old) 7 _ rfl
  have hlt : w.heap.size < w2.heap.size := by rw [h2.size]; omega
  have hne : ¬ w.heap.size = w2.heap.size := by omega
  have hz : na zn = _ := bare_na 0 0 0 0 0 0 false false
  rw [hz] at hw
  have HT := Lib.hid h2
  clear h2 hz
  have HY : Hid (na (bare n.k n.f (-1) n.b 0 0 false false) = _) := Lib.hid (bare_na n.k n.f (-1) n.b 0 0 false false)
  have HZ : Hid (na (bare n.k (-1) n.t n.b 0 0 false false) = _) := Lib.hid (bare_na n.k (-1) n.t n.b 0 0 false false)
  go_enter Tryd.func66, Tryd.ntmps66
  go_wp2_with (first
    | ((with_reducible refine store_lit _ _ HZ.out _ 5 12 ?_ ?_ ?_ ?_); (rfl); (rfl); (rfl))
    | ((with_reducible refine load_new _ _ HY.out 5 ?_ ?_); (rfl))
    | ((with_reducible refine store_any (bare n.k n.f (-1) n.b 0 0 false false) _ 4 48 (w.heap.size + 1) ?_ ?_ (HT.out.res1 _) ?_ ?_); (rfl); (rfl); (rfl))
    | (go_at_call 69; (first
      | ((with_reducible refine (H1.out _).mono ?_); rintro e w1 ⟨rfl, rfl⟩)
      | ((with_reducible refine (H2.out _).mono ?_); rintro e w1 ⟨rfl, rfl⟩)
      | ((with_reducible refine (H4.out _).mono ?_); rintro e w1 ⟨rfl, rfl⟩)
      | ((with_reducible refine (H8.out _).mono ?_); rintro e w1 ⟨rfl, rfl⟩)
      | ((with_reducible refine (H16.out _).mono ?_); rintro e w1 ⟨rfl, rfl⟩)
      | ((with_reducible refine (H32.out _).mono ?_); rintro e w1 ⟨rfl, rfl⟩))))
  exact ret_nt rfl _ (bare n.k n.f (-1) n.b 0 0 false false) (w.heap.size + 1) _ _ (by rfl) (HT.out.end_ _ _).1 ⟨rfl, (HT.out.end_ _ _).2⟩
set_option maxRecDepth 100000 in
set_option maxHeartbeats 1000000 in
theorem used_2 (n : Nt) (w : World) : Calls Tryd.prog 66 #[.agg (na n), .int .u8 2] w fun e w' => e = .returned (.agg (na (usd 2 n))) ∧ w.grownBy w' none := by
  have hE : usd 2 n = bare n.k (-1) n.t n.b n.st 0 false false := rfl
  rw [hE]
  clear hE
  have H1 := Lib.hid (inc 2 1 false (by decide +kernel))
  have H2 := Lib.hid (inc 2 2 true (by decide +kernel))
  have H4 := Lib.hid (inc 2 4 false (by decide +kernel))
  have H8 := Lib.hid (inc 2 8 false (by decide +kernel))
  have H16 := Lib.hid (inc 2 16 false (by decide +kernel))
  have H32 := Lib.hid (inc 2 32 false (by decide +kernel))
  obtain ⟨w2, hw, h2⟩ := two_of w n
  have c0 := cell_at (range_of h2.old) 0 _ rfl
  have c1 := cell_at (range_of h2.old) 1 _ rfl
  have c2 := cell_at (range_of h2.old) 2 _ rfl
  have c3 := cell_at (range_of h2.old) 3 _ rfl
  have c4 := cell_at (range_of h2.old) 4 _ rfl
  have c5 := cell_at (range_of h2.old) 5 _ rfl
  have c6 := cell_at (range_of h2.old) 6 _ rfl
  have c7 := cell_at (range_of h2.old) 7 _ rfl
  have hlt : w.heap.size < w2.heap.size := by rw [h2.size]; omega
  have hne : ¬ w.heap.size = w2.heap.size := by omega
  have hz : na zn = _ := bare_na 0 0 0 0 0 0 false false
  rw [hz] at hw
  have HT := Lib.hid h2
  clear h2 hz
  have HY : Hid (na (bare n.k (-1) n.t n.b n.st 0 false false) = _) := Lib.hid (bare_na n.k (-1) n.t n.b n.st 0 false false)
  have HZ : Hid (na (bare n.k (-1) n.t n.b 0 0 false false) = _) := Lib.hid (bare_na n.k (-1) n.t n.b 0 0 false false)
  go_enter Tryd.func66, Tryd.ntmps66
  go_wp2_with (first
    | ((with_reducible refine store_lit _ _ HZ.out _ 5 12 ?_ ?_ ?_ ?_); (rfl); (rfl); (rfl))
    | ((with_reducible refine load_new _ _ HY.out 5 ?_ ?_); (rfl))
    | ((with_reducible refine store_any (bare n.k (-1) n.t n.b n.st 0 false false) _ 4 48 (w.heap.size + 1) ?_ ?_ (HT.out.res1 _) ?_ ?_); (rfl); (rfl); (rfl))
    | (go_at_call 69; (first
      | ((with_reducible refine (H1.out _).mono ?_); rintro e w1 ⟨rfl, rfl⟩)
      | ((with_reducible refine (H2.out _).mono ?_); rintro e w1 ⟨rfl, rfl⟩)
      | ((with_reducible refine (H4.out _).mono ?_); rintro e w1 ⟨rfl, rfl⟩)
      | ((with_reducible refine (H8.out _).mono ?_); rintro e w1 ⟨rfl, rfl⟩)
      | ((with_reducible refine (H16.out _).mono ?_); rintro e w1 ⟨rfl, rfl⟩)
      | ((with_reducible refine (H32.out _).mono ?_); rintro e w1 ⟨rfl, rfl⟩))))
  exact ret_nt rfl _ (bare n.k (-1) n.t n.b n.st 0 false false) (w.heap.size + 1) _ _ (by rfl) (HT.out.end_ _ _).1 ⟨rfl, (HT.out.end_ _ _).2⟩
set_option maxRecDepth 100000 in
set_option maxHeartbeats 1000000 in
theorem used_3 (n : Nt) (w : World) : Calls Tryd.prog 66 #[.agg (na n), .int .u8 3] w fun e w' => e = .returned (.agg (na (usd 3 n))) ∧ w.grownBy w' none := by
  have hE : usd 3 n = bare n.k n.f (-1) n.b n.st 0 false false := rfl
  rw [hE]
  clear hE
  have H1 := Lib.hid (inc 3 1 true (by decide +kernel))
  have H2 := Lib.hid (inc 3 2 true (by decide +kernel))
  have H4 := Lib.hid (inc 3 4 false (by decide +kernel))
  have H8 := Lib.hid (inc 3 8 false (by decide +kernel))
  have H16 := Lib.hid (inc 3 16 false (by decide +kernel))
  have H32 := Lib.hid (inc 3 32 false (by decide +kernel))
  obtain ⟨w2, hw, h2⟩ := two_of w n
  have c0 := cell_at (range_of h2.old) 0 _ rfl
  have c1 := cell_at (range_of h2.old) 1 _ rfl
  have c2 := cell_at (range_of h2.old) 2 _ rfl
  have c3 := cell_at (range_of h2.old) 3 _ rfl
  have c4 := cell_at (range_of h2.old) 4 _ rfl
  have c5 := cell_at (range_of h2.old) 5 _ rfl
  have c6 := cell_at (range_of h2.old) 6 _ rfl
  have c7 := cell_at (range_of h2.old) 7 _ rfl
  have hlt : w.heap.size < w2.heap.size := by rw [h2.size]; omega
  have hne : ¬ w.heap.size = w2.heap.size := by omega
  have hz : na zn = _ := bare_na 0 0 0 0 0 0 false false
  rw [hz] at hw
  have HT := Lib.hid h2
  clear h2 hz
  have HY : Hid (na (bare n.k n.f (-1) n.b n.st 0 false false) = _) := Lib.hid (bare_na n.k n.f (-1) n.b n.st 0 false false)
  have HZ : Hid (na (bare n.k (-1) n.t n.b 0 0 false false) = _) := Lib.hid (bare_na n.k (-1) n.t n.b 0 0 false false)
  go_enter Tryd.func66, Tryd.ntmps66
  go_wp2_with (first
    | ((with_reducible refine store_lit _ _ HZ.out _ 5 12 ?_ ?_ ?_ ?_); (rfl); (rfl); (rfl))
    | ((with_reducible refine load_new _ _ HY.out 5 ?_ ?_); (rfl))
    | ((with_reducible refine store_any (bare n.k n.f (-1) n.b n.st 0 false false) _ 4 48 (w.heap.size + 1) ?_ ?_ (HT.out.res1 _) ?_ ?_); (rfl); (rfl); (rfl))
    | (go_at_call 69; (first
      | ((with_reducible refine (H1.out _).mono ?_); rintro e w1 ⟨rfl, rfl⟩)
      | ((with_reducible refine (H2.out _).mono ?_); rintro e w1 ⟨rfl, rfl⟩)
      | ((with_reducible refine (H4.out _).mono ?_); rintro e w1 ⟨rfl, rfl⟩)
      | ((with_reducible refine (H8.out _).mono ?_); rintro e w1 ⟨rfl, rfl⟩)
      | ((with_reducible refine (H16.out _).mono ?_); rintro e w1 ⟨rfl, rfl⟩)
      | ((with_reducible refine (H32.out _).mono ?_); rintro e w1 ⟨rfl, rfl⟩))))
  exact ret_nt rfl _ (bare n.k n.f (-1) n.b n.st 0 false false) (w.heap.size + 1) _ _ (by rfl) (HT.out.end_ _ _).1 ⟨rfl, (HT.out.end_ _ _).2⟩
set_option maxRecDepth 100000 in
set_option maxHeartbeats 1000000 in
theorem used_33n (n : Nt) (hh : n.h = false) (w : World) : Calls Tryd.prog 66 #[.agg (na n), .int .u8 33] w fun e w' => e = .returned (.agg (na (usd 33 n))) ∧ w.grownBy w' none := by
  have hE : usd 33 n = bare n.k n.f (-1) n.b 0 0 false false := by unfold usd; rw [hh]; rfl
  rw [hE]
  clear hE
  have H1 := Lib.hid (inc 33 1 true (by decide +kernel))
  have H2 := Lib.hid (inc 33 2 false (by decide +kernel))
  have H4 := Lib.hid (inc 33 4 false (by decide +kernel))
  have H8 := Lib.hid (inc 33 8 false (by decide +kernel))
  have H16 := Lib.hid (inc 33 16 false (by decide +kernel))
  have H32 := Lib.hid (inc 33 32 true (by decide +kernel))
  obtain ⟨w2, hw, h2⟩ := two_of w n
  have c0 := cell_at (range_of h2.old) 0 _ rfl
  have c1 := cell_at (range_of h2.old) 1 _ rfl
  have c2 := cell_at (range_of h2.old) 2 _ rfl
  have c3 := cell_at (range_of h2.old) 3 _ rfl
  have c4 := cell_at (range_of h2.old) 4 _ rfl
  have c5 := cell_at (range_of h2.old) 5 _ rfl
  have c6 := cell_at (range_of h2.old) 6 _ rfl
  have c7 := cell_at (range_of h2.old) 7 _ rfl
  rw [hh] at c6
  have hlt : w.heap.size < w2.heap.size := by rw [h2.size]; omega
  have hne : ¬ w.heap.size = w2.heap.size := by omega
  have hz : na zn = _ := bare_na 0 0 0 0 0 0 false false
  rw [hz] at hw
  have HT := Lib.hid h2
  clear h2 hz
  have HY : Hid (na (bare n.k n.f (-1) n.b 0 0 false false) = _) := Lib.hid (bare_na n.k n.f (-1) n.b 0 0 false false)
  have HZ : Hid (na (bare n.k (-1) n.t n.b 0 0 false false) = _) := Lib.hid (bare_na n.k (-1) n.t n.b 0 0 false false)
  go_enter Tryd.func66, Tryd.ntmps66
  go_wp2_with (first
    | ((with_reducible refine store_lit _ _ HZ.out _ 5 12 ?_ ?_ ?_ ?_); (rfl); (rfl); (rfl))
    | ((with_reducible refine load_new _ _ HY.out 5 ?_ ?_); (rfl))
    | ((with_reducible refine store_any (bare n.k n.f (-1) n.b 0 0 false false) _ 4 48 (w.heap.size + 1) ?_ ?_ (HT.out.res1 _) ?_ ?_); (rfl); (rfl); (rfl))
    | (go_at_call 69; (first
      | ((with_reducible refine (H1.out _).mono ?_); rintro e w1 ⟨rfl, rfl⟩)
      | ((with_reducible refine (H2.out _).mono ?_); rintro e w1 ⟨rfl, rfl⟩)
      | ((with_reducible refine (H4.out _).mono ?_); rintro e w1 ⟨rfl, rfl⟩)
      | ((with_reducible refine (H8.out _).mono ?_); rintro e w1 ⟨rfl, rfl⟩)
      | ((with_reducible refine (H16.out _).mono ?_); rintro e w1 ⟨rfl, rfl⟩)
      | ((with_reducible refine (H32.out _).mono ?_); rintro e w1 ⟨rfl, rfl⟩))))
  exact ret_nt rfl _ (bare n.k n.f (-1) n.b 0 0 false false) (w.heap.size + 1) _ _ (by rfl) (HT.out.end_ _ _).1 ⟨rfl, (HT.out.end_ _ _).2⟩
set_option maxRecDepth 100000 in
set_option maxHeartbeats 1000000 in
theorem used_20 (n : Nt) (w : World) : Calls Tryd.prog 66 #[.agg (na n), .int .u8 20] w fun e w' => e = .returned (.agg (na (usd 20 n))) ∧ w.grownBy w' none := by
  have hE : usd 20 n = ⟨n.k, -1, n.t, n.b, 0, n.s, true, false, n.d, n.hd⟩ := rfl
  rw [hE]
  clear hE
  have H1 := Lib.hid (inc 20 1 false (by decide +kernel))
  have H2 := Lib.hid (inc 20 2 false (by decide +kernel))
  have H4 := Lib.hid (inc 20 4 true (by decide +kernel))
  have H8 := Lib.hid (inc 20 8 false (by decide +kernel))
  have H16 := Lib.hid (inc 20 16 true (by decide +kernel))
  have H32 := Lib.hid (inc 20 32 false (by decide +kernel))
  obtain ⟨w2, hw, h2⟩ := two_of w n
  have c0 := cell_at (range_of h2.old) 0 _ rfl
  have c1 := cell_at (range_of h2.old) 1 _ rfl
  have c2 := cell_at (range_of h2.old) 2 _ rfl
  have c3 := cell_at (range_of h2.old) 3 _ rfl
  have c4 := cell_at (range_of h2.old) 4 _ rfl
  have c5 := cell_at (range_of h2.old) 5 _ rfl
  have c6 := cell_at (range_of h2.old) 6 _ rfl
  have c7 := cell_at (range_of h2.old) 7 _ rfl
  have hlt : w.heap.size < w2.heap.size := by rw [h2.size]; omega
  have hne : ¬ w.heap.size = w2.heap.size := by omega
  have hz : na zn = _ := bare_na 0 0 0 0 0 0 false false
  rw [hz] at hw
  have HT := Lib.hid h2
  clear h2 hz
  have HY : Hid (na (bare n.k (-1) n.t n.b 0 n.s false false) = _) := Lib.hid (bare_na n.k (-1) n.t n.b 0 n.s false false)
  have HZ : Hid (na (bare n.k (-1) n.t n.b 0 0 false false) = _) := Lib.hid (bare_na n.k (-1) n.t n.b 0 0 false false)
  go_enter Tryd.func66, Tryd.ntmps66
  go_wp2_with (first
    | ((with_reducible refine store_lit _ _ HZ.out _ 5 12 ?_ ?_ ?_ ?_); (rfl); (rfl); (rfl))
    | (go_at_call 69; (first
      | ((with_reducible refine (H1.out _).mono ?_); rintro e w1 ⟨rfl, rfl⟩)
      | ((with_reducible refine (H2.out _).mono ?_); rintro e w1 ⟨rfl, rfl⟩)
      | ((with_reducible refine (H4.out _).mono ?_); rintro e w1 ⟨rfl, rfl⟩)
      | ((with_reducible refine (H8.out _).mono ?_); rintro e w1 ⟨rfl, rfl⟩)
      | ((with_reducible refine (H16.out _).mono ?_); rintro e w1 ⟨rfl, rfl⟩)
      | ((with_reducible refine (H32.out _).mono ?_); rintro e w1 ⟨rfl, rfl⟩))))
  obtain ⟨w3, hw3, h3⟩ := three_of HT.out _ HY.out
  rw [hw3]
  obtain ⟨hc6, hf6, k1, k2, k3⟩ := h3
  have HK3 := Lib.hid k3
  clear k3 hw3 hw HZ HY c0 c1 c2 c3 c4 c5 c6 c7
  obtain ⟨t, m, HTT, hagg, hsize, hld, hsz, hst⟩ := named29
  have hsz := hsz n.d n.hd
  have hl1 := hld _ _ n.d n.hd _ k1
  have hl2 := hld _ _ n.d n.hd _ (show (w3.setCell ⟨w2.heap.size, 6, none⟩ (.bool true)).drew.rangeAt w.heap.size 8 (n.d.map U) from k2.1)
  have hs2 := hst _ _ n.d n.hd _ k2.2
  have hs3 := hst _ _ n.d n.hd _ (show (w3.setCell ⟨w2.heap.size, 6, none⟩ (.bool true)).drew.there w2.heap.size 8 16 from k2.2)
  clear hld hst k1 k2
  rw [HTT.out.1, HTT.out.2]
  go_region
  have HK4 := Lib.hid (HK3.out (⟨n.k, -1, n.t, n.b, 0, n.s, true, false, n.d, n.hd⟩) rfl rfl rfl rfl rfl rfl rfl rfl rfl)
  clear HK3 hl1 hl2 hs2 hs3 hc6 hf6
  obtain ⟨w4, hw4⟩ : ∃ w4, (w3.drew.setCell ⟨w2.heap.size, 6, none⟩ (.bool true)).setCells w2.heap.size 8 (n.d.map U) = w4 := ⟨_, rfl⟩
  rw [hw4] at HK4
  rw [show (w3.setCell ⟨w2.heap.size, 6, none⟩ (.bool true)).drew.setCells w2.heap.size 8 (n.d.map U) = w4 from hw4]
  clear hw4
  go_wp2_with (first
    | ((with_reducible refine load_nt (⟨n.k, -1, n.t, n.b, 0, n.s, true, false, n.d, n.hd⟩) 5 w2.heap.size ?_ HK4.out.1 ?_); (rfl))
    | ((with_reducible refine store_any (⟨n.k, -1, n.t, n.b, 0, n.s, true, false, n.d, n.hd⟩) _ 4 48 (w.heap.size + 1) ?_ ?_ HK4.out.2.2 ?_ ?_); (rfl); (rfl); (rfl)))
  exact ret_nt rfl _ (⟨n.k, -1, n.t, n.b, 0, n.s, true, false, n.d, n.hd⟩) (w.heap.size + 1) _ _ (by rfl) (range_of (setRow_heap _ _ _ _ _ _ HK4.out.2.2)) ⟨rfl, grown_setRow HK4.out.2.1 _ (by omega) _⟩
set_option maxRecDepth 100000 in
set_option maxHeartbeats 1000000 in
theorem used_25 (n : Nt) (w : World) : Calls Tryd.prog 66 #[.agg (na n), .int .u8 25] w fun e w' => e = .returned (.agg (na (usd 25 n))) ∧ w.grownBy w' none := by
  have hE : usd 25 n = ⟨n.k, n.f, -1, n.b, 0, 0, true, n.q, n.d, n.hd⟩ := rfl
  rw [hE]
  clear hE
  have H1 := Lib.hid (inc 25 1 true (by decide +kernel))
  have H2 := Lib.hid (inc 25 2 false (by decide +kernel))
  have H4 := Lib.hid (inc 25 4 false (by decide +kernel))
  have H8 := Lib.hid (inc 25 8 true (by decide +kernel))
  have H16 := Lib.hid (inc 25 16 true (by decide +kernel))
  have H32 := Lib.hid (inc 25 32 false (by decide +kernel))
  obtain ⟨w2, hw, h2⟩ := two_of w n
  have c0 := cell_at (range_of h2.old) 0 _ rfl
  have c1 := cell_at (range_of h2.old) 1 _ rfl
  have c2 := cell_at (range_of h2.old) 2 _ rfl
  have c3 := cell_at (range_of h2.old) 3 _ rfl
  have c4 := cell_at (range_of h2.old) 4 _ rfl
  have c5 := cell_at (range_of h2.old) 5 _ rfl
  have c6 := cell_at (range_of h2.old) 6 _ rfl
  have c7 := cell_at (range_of h2.old) 7 _ rfl
  have hlt : w.heap.size < w2.heap.size := by rw [h2.size]; omega
  have hne : ¬ w.heap.size = w2.heap.size := by omega
  have hz : na zn = _ := bare_na 0 0 0 0 0 0 false false
  rw [hz] at hw
  have HT := Lib.hid h2
  clear h2 hz
  have HY : Hid (na (bare n.k n.f (-1) n.b 0 0 false n.q) = _) := Lib.hid (bare_na n.k n.f (-1) n.b 0 0 false n.q)
  have HZ : Hid (na (bare n.k (-1) n.t n.b 0 0 false false) = _) := Lib.hid (bare_na n.k (-1) n.t n.b 0 0 false false)
  go_enter Tryd.func66, Tryd.ntmps66
  go_wp2_with (first
    | ((with_reducible refine store_lit _ _ HZ.out _ 5 12 ?_ ?_ ?_ ?_); (rfl); (rfl); (rfl))
    | (go_at_call 69; (first
      | ((with_reducible refine (H1.out _).mono ?_); rintro e w1 ⟨rfl, rfl⟩)
      | ((with_reducible refine (H2.out _).mono ?_); rintro e w1 ⟨rfl, rfl⟩)
      | ((with_reducible refine (H4.out _).mono ?_); rintro e w1 ⟨rfl, rfl⟩)
      | ((with_reducible refine (H8.out _).mono ?_); rintro e w1 ⟨rfl, rfl⟩)
      | ((with_reducible refine (H16.out _).mono ?_); rintro e w1 ⟨rfl, rfl⟩)
      | ((with_reducible refine (H32.out _).mono ?_); rintro e w1 ⟨rfl, rfl⟩))))
  obtain ⟨w3, hw3, h3⟩ := three_of HT.out _ HY.out
  rw [hw3]
  obtain ⟨hc6, hf6, k1, k2, k3⟩ := h3
  have HK3 := Lib.hid k3
  clear k3 hw3 hw HZ HY c0 c1 c2 c3 c4 c5 c6 c7
  obtain ⟨t, m, HTT, hagg, hsize, hld, hsz, hst⟩ := named29
  have hsz := hsz n.d n.hd
  have hl1 := hld _ _ n.d n.hd _ k1
  have hl2 := hld _ _ n.d n.hd _ (show (w3.setCell ⟨w2.heap.size, 6, none⟩ (.bool true)).drew.rangeAt w.heap.size 8 (n.d.map U) from k2.1)
  have hs2 := hst _ _ n.d n.hd _ k2.2
  have hs3 := hst _ _ n.d n.hd _ (show (w3.setCell ⟨w2.heap.size, 6, none⟩ (.bool true)).drew.there w2.heap.size 8 16 from k2.2)
  clear hld hst k1 k2
  rw [HTT.out.1, HTT.out.2]
  go_region
  have HK4 := Lib.hid (HK3.out (⟨n.k, n.f, -1, n.b, 0, 0, true, n.q, n.d, n.hd⟩) rfl rfl rfl rfl rfl rfl rfl rfl rfl)
  clear HK3 hl1 hl2 hs2 hs3 hc6 hf6
  obtain ⟨w4, hw4⟩ : ∃ w4, (w3.drew.setCell ⟨w2.heap.size, 6, none⟩ (.bool true)).setCells w2.heap.size 8 (n.d.map U) = w4 := ⟨_, rfl⟩
  rw [hw4] at HK4
  rw [show (w3.setCell ⟨w2.heap.size, 6, none⟩ (.bool true)).drew.setCells w2.heap.size 8 (n.d.map U) = w4 from hw4]
  clear hw4
  go_wp2_with (first
    | ((with_reducible refine load_nt (⟨n.k, n.f, -1, n.b, 0, 0, true, n.q, n.d, n.hd⟩) 5 w2.heap.size ?_ HK4.out.1 ?_); (rfl))
    | ((with_reducible refine store_any (⟨n.k, n.f, -1, n.b, 0, 0, true, n.q, n.d, n.hd⟩) _ 4 48 (w.heap.size + 1) ?_ ?_ HK4.out.2.2 ?_ ?_); (rfl); (rfl); (rfl)))
  exact ret_nt rfl _ (⟨n.k, n.f, -1, n.b, 0, 0, true, n.q, n.d, n.hd⟩) (w.heap.size + 1) _ _ (by rfl) (range_of (setRow_heap _ _ _ _ _ _ HK4.out.2.2)) ⟨rfl, grown_setRow HK4.out.2.1 _ (by omega) _⟩
set_option maxRecDepth 100000 in
set_option maxHeartbeats 1000000 in
theorem used_33h (n : Nt) (hh : n.h = true) (w : World) : Calls Tryd.prog 66 #[.agg (na n), .int .u8 33] w fun e w' => e = .returned (.agg (na (usd 33 n))) ∧ w.grownBy w' none := by
  have hE : usd 33 n = ⟨n.k, n.f, -1, n.b, 0, 0, true, false, n.d, n.hd⟩ := by unfold usd; rw [hh]; rfl
  rw [hE]
  clear hE
  have H1 := Lib.hid (inc 33 1 true (by decide +kernel))
  have H2 := Lib.hid (inc 33 2 false (by decide +kernel))
  have H4 := Lib.hid (inc 33 4 false (by decide +kernel))
  have H8 := Lib.hid (inc 33 8 false (by decide +kernel))
  have H16 := Lib.hid (inc 33 16 false (by decide +kernel))
  have H32 := Lib.hid (inc 33 32 true (by decide +kernel))
  obtain ⟨w2, hw, h2⟩ := two_of w n
  have c0 := cell_at (range_of h2.old) 0 _ rfl
  have c1 := cell_at (range_of h2.old) 1 _ rfl
  have c2 := cell_at (range_of h2.old) 2 _ rfl
  have c3 := cell_at (range_of h2.old) 3 _ rfl
  have c4 := cell_at (range_of h2.old) 4 _ rfl
  have c5 := cell_at (range_of h2.old) 5 _ rfl
  have c6 := cell_at (range_of h2.old) 6 _ rfl
  have c7 := cell_at (range_of h2.old) 7 _ rfl
  rw [hh] at c6
  have hlt : w.heap.size < w2.heap.size := by rw [h2.size]; omega
  have hne : ¬ w.heap.size = w2.heap.size := by omega
  have hz : na zn = _ := bare_na 0 0 0 0 0 0 false false
  rw [hz] at hw
  have HT := Lib.hid h2
  clear h2 hz
  have HY : Hid (na (bare n.k n.f (-1) n.b 0 0 false false) = _) := Lib.hid (bare_na n.k n.f (-1) n.b 0 0 false false)
  have HZ : Hid (na (bare n.k (-1) n.t n.b 0 0 false false) = _) := Lib.hid (bare_na n.k (-1) n.t n.b 0 0 false false)
  go_enter Tryd.func66, Tryd.ntmps66
  go_wp2_with (first
    | ((with_reducible refine store_lit _ _ HZ.out _ 5 12 ?_ ?_ ?_ ?_); (rfl); (rfl); (rfl))
    | (go_at_call 69; (first
      | ((with_reducible refine (H1.out _).mono ?_); rintro e w1 ⟨rfl, rfl⟩)
      | ((with_reducible refine (H2.out _).mono ?_); rintro e w1 ⟨rfl, rfl⟩)
      | ((with_reducible refine (H4.out _).mono ?_); rintro e w1 ⟨rfl, rfl⟩)
      | ((with_reducible refine (H8.out _).mono ?_); rintro e w1 ⟨rfl, rfl⟩)
      | ((with_reducible refine (H16.out _).mono ?_); rintro e w1 ⟨rfl, rfl⟩)
      | ((with_reducible refine (H32.out _).mono ?_); rintro e w1 ⟨rfl, rfl⟩))))
  obtain ⟨w3, hw3, h3⟩ := three_of HT.out _ HY.out
  rw [hw3]
  obtain ⟨hc6, hf6, k1, k2, k3⟩ := h3
  have HK3 := Lib.hid k3
  clear k3 hw3 hw HZ HY c0 c1 c2 c3 c4 c5 c6 c7
  obtain ⟨t, m, HTT, hagg, hsize, hld, hsz, hst⟩ := named29
  have hsz := hsz n.d n.hd
  have hl1 := hld _ _ n.d n.hd _ k1
  have hl2 := hld _ _ n.d n.hd _ (show (w3.setCell ⟨w2.heap.size, 6, none⟩ (.bool true)).drew.rangeAt w.heap.size 8 (n.d.map U) from k2.1)
  have hs2 := hst _ _ n.d n.hd _ k2.2
  have hs3 := hst _ _ n.d n.hd _ (show (w3.setCell ⟨w2.heap.size, 6, none⟩ (.bool true)).drew.there w2.heap.size 8 16 from k2.2)
  clear hld hst k1 k2
  rw [HTT.out.1, HTT.out.2]
  go_region
  have HK4 := Lib.hid (HK3.out (⟨n.k, n.f, -1, n.b, 0, 0, true, false, n.d, n.hd⟩) rfl rfl rfl rfl rfl rfl rfl rfl rfl)
  clear HK3 hl1 hl2 hs2 hs3 hc6 hf6
  obtain ⟨w4, hw4⟩ : ∃ w4, (w3.drew.setCell ⟨w2.heap.size, 6, none⟩ (.bool true)).setCells w2.heap.size 8 (n.d.map U) = w4 := ⟨_, rfl⟩
  rw [hw4] at HK4
  rw [show (w3.setCell ⟨w2.heap.size, 6, none⟩ (.bool true)).drew.setCells w2.heap.size 8 (n.d.map U) = w4 from hw4]
  clear hw4
  go_wp2_with (first
    | ((with_reducible refine load_nt (⟨n.k, n.f, -1, n.b, 0, 0, true, false, n.d, n.hd⟩) 5 w2.heap.size ?_ HK4.out.1 ?_); (rfl))
    | ((with_reducible refine store_any (⟨n.k, n.f, -1, n.b, 0, 0, true, false, n.d, n.hd⟩) _ 4 48 (w.heap.size + 1) ?_ ?_ HK4.out.2.2 ?_ ?_); (rfl); (rfl); (rfl)))
  exact ret_nt rfl _ (⟨n.k, n.f, -1, n.b, 0, 0, true, false, n.d, n.hd⟩) (w.heap.size + 1) _ _ (by rfl) (range_of (setRow_heap _ _ _ _ _ _ HK4.out.2.2)) ⟨rfl, grown_setRow HK4.out.2.1 _ (by omega) _⟩
theorem used_any (u : Int) (hu : us7 u) (n : Nt) (w : World) : Calls Tryd.prog 66 #[.agg (na n), .int .u8 u] w fun e w' => e = .returned (.agg (na (usd u n))) ∧ w.grownBy w' none := by
  rcases hu with rfl | rfl | rfl | rfl | rfl | rfl | rfl
  · exact used_0 n w
  · exact used_1 n w
  · exact used_2 n w
  · exact used_3 n w
  · exact used_20 n w
  · exact used_25 n w
  · cases hh : n.h
    · exact used_33n n hh w
    · exact used_33h n hh w
/-- The end of a note that is not to be the home. -/
def coreOf (u : Int) (n : Nt) : Int := if u = 0 ∨ u = 2 ∨ u = 20 then n.t else n.f
theorem coreOf_home (u : Int) (hu : (!(bits .and .u8 u 1 == 0)) = true) (n : Nt) (w : World) : Calls Tryd.prog 68 #[.agg (na n), .int .u8 u] w fun e w' => e = .returned (.int .i64 n.f) ∧ w.grownBy w' none := by
  have H1 := Lib.hid (inc u 1 _ hu)
  have c1 := box w n 1 _ rfl
  have hg := Lib.hid (grown_alloc (grown_refl w none) (.cells (na n) 37))
  clear hu
  go_enter Tryd.func68, Tryd.ntmps68
  go_wp2_with (go_at_call 69; ((with_reducible refine (H1.out _).mono ?_); rintro e w1 ⟨rfl, rfl⟩))
  go_ret
  exact ⟨rfl, hg.out⟩
theorem coreOf_core (u : Int) (hu : (!(bits .and .u8 u 1 == 0)) = false) (n : Nt) (w : World) : Calls Tryd.prog 68 #[.agg (na n), .int .u8 u] w fun e w' => e = .returned (.int .i64 n.t) ∧ w.grownBy w' none := by
  have H1 := Lib.hid (inc u 1 _ hu)
  have c1 := box w n 2 _ rfl
  have hg := Lib.hid (grown_alloc (grown_refl w none) (.cells (na n) 37))
  clear hu
  go_enter Tryd.func68, Tryd.ntmps68
  go_wp2_with (go_at_call 69; ((with_reducible refine (H1.out _).mono ?_); rintro e w1 ⟨rfl, rfl⟩))
  go_ret
  exact ⟨rfl, hg.out⟩
theorem coreOf_any (u : Int) (hu : us7 u) (n : Nt) (w : World) : Calls Tryd.prog 68 #[.agg (na n), .int .u8 u] w fun e w' => e = .returned (.int .i64 (coreOf u n)) ∧ w.grownBy w' none := by
  rcases hu with rfl | rfl | rfl | rfl | rfl | rfl | rfl
  · exact coreOf_core 0 (by decide +kernel) n w
  · exact coreOf_home 1 (by decide +kernel) n w
  · exact coreOf_core 2 (by decide +kernel) n w
  · exact coreOf_home 3 (by decide +kernel) n w
  · exact coreOf_core 20 (by decide +kernel) n w
  · exact coreOf_home 25 (by decide +kernel) n w
  · exact coreOf_home 33 (by decide +kernel) n w
end Go.Proofs.YtoemkhmbeiindaaDoor.tt
