/-
  A note as cells, loads and stores of one, the model's '==' at two notes: definitions and laws. No condition but the bounds that each theorem names.
-/
import Derived.Test.YtoemkhmbeiindaaDoorPl
import Derived.Laws.StructEq
import Derived.Deep.MidRow
import Derived.Deep.WholeRow
import Derived.Deep.RegionLaw
import Derived.Deep.RegionHeld
import Derived.Below
namespace Go.Proofs.YtoemkhmbeiindaaDoor.tt
open Go Go.ChangeShapes Go.WideShapes Go.ChangeAt Go.RowKit
set_option linter.unusedVariables false

theorem grown_drewN {w w' : World} {own : Option Nat} (h : w.grownBy w' own) (n : Nat) : w.grownBy (w'.drewN n) own := ⟨h.os, h.tape, h.output, h.size, h.block⟩
theorem below_of {w w' : World} (h : w.grownBy w' none) : Below w.heap.size w w' := ⟨h.os, h.tape, h.output, h.size, fun k hk => h.block k hk (by simp)⟩

def U (x : Int) : Value := .int .u32 x
/-- A note. -/
structure Nt where
  k : Int
  f : Int
  t : Int
  b : Int
  st : Int
  s : Int
  h : Bool
  q : Bool
  d : List Int
  hd : d.length = 16
deriving DecidableEq
def zd : List Int := List.replicate 16 0
/-- A note without data. -/
def bare (k f t b st s : Int) (h q : Bool) : Nt := ⟨k, f, t, b, st, s, h, q, zd, rfl⟩
def zn : Nt := bare 0 0 0 0 0 0 false false
theorem Nt.ext {x y : Nt} (h1 : x.k = y.k) (h2 : x.f = y.f) (h3 : x.t = y.t) (h4 : x.b = y.b) (h5 : x.st = y.st) (h6 : x.s = y.s) (h7 : x.h = y.h) (h8 : x.q = y.q) (h9 : x.d = y.d) : x = y := by
  obtain ⟨_, _, _, _, _, _, _, _, _, _⟩ := x; obtain ⟨_, _, _, _, _, _, _, _, _, _⟩ := y; simp at *; simp_all
/-- Its cells. -/
def nt (n : Nt) : List Value := .int .u8 n.k :: .int .i64 n.f :: .int .i64 n.t :: .int .i64 n.b :: .int .u64 n.st :: .int .u8 n.s :: .bool n.h :: .bool n.q :: n.d.map U
def na (n : Nt) : Array Value := (nt n).toArray
def row (x : List Int) : Array Value := (x.map U).toArray
theorem nt_len (n : Nt) : (nt n).length = 24 := by simp [nt, n.hd]
theorem na_size (n : Nt) : (na n).size = 24 := by simp [na, nt_len]
theorem nt_one (n : Nt) : ∀ v ∈ nt n, v.oneCell' = true := by
  intro v hv
  simp [nt, U] at hv
  rcases hv with rfl | rfl | rfl | rfl | rfl | rfl | rfl | rfl | ⟨x, _, rfl⟩ <;> rfl
theorem na_one (n : Nt) : (na n).all (·.oneCell') = true := all_oneCell_toArray (nt_one n)
theorem nt_d (n : Nt) (k : Nat) : (nt n)[8 + k]? = (n.d[k]?).map U := by
  rw [Nat.add_comm]; simp [nt]
theorem info31 : (Tryd.prog.info? 37).map (·.size) = some 24 := by kernel_rfl
theorem info31' (n : Nt) : (Tryd.prog.info? 37).map (·.size) = some (nt n).length := by rw [nt_len]; exact info31
theorem info31a (n : Nt) : (Tryd.prog.info? 37).map (·.size) = some (na n).size := by rw [na_size]; exact info31
theorem bare_na (k f t b st s : Int) (h q : Bool) : na (bare k f t b st s h q) = #[.int .u8 k, .int .i64 f, .int .i64 t, .int .i64 b, .int .u64 st, .int .u8 s, .bool h, .bool q, .int .u32 0, .int .u32 0, .int .u32 0, .int .u32 0, .int .u32 0, .int .u32 0, .int .u32 0, .int .u32 0, .int .u32 0, .int .u32 0, .int .u32 0, .int .u32 0, .int .u32 0, .int .u32 0, .int .u32 0, .int .u32 0] := rfl

theorem tyne {w : World} {k q : Nat} {c1 c2 : Array Value} {t1 t2 : TypeId} {f1 f2 : Nat × Nat} (h1 : w.heap[k]? = some (.cells c1 t1 f1)) (h2 : w.heap[q]? = some (.cells c2 t2 f2)) (h : t1 ≠ t2) : k ≠ q := fun e => by
  subst e; rw [h1] at h2; cases h2; exact h rfl
theorem add_lit (g off j : Nat) : (⟨g, off, none⟩ : Addr).add j = ⟨g, off + j, none⟩ := by unfold Addr.add; split <;> simp_all
theorem lt_of {w : World} {k : Nat} {o : Obj} (h : w.heap[k]? = some o) : k < w.heap.size := (Array.getElem?_eq_some_iff.1 h).1
theorem range_grown {w w' : World} {g o : Nat} {xs : List Value} (h : w.rangeAt g o xs) {own : Option Nat} (hg : w.grownBy w' own) (hn : some g ≠ own) : w'.rangeAt g o xs := fun j v hv => hg.cell (h j v hv) hn
theorem range_of {w : World} {g : Nat} {n : Nt} {t : TypeId} (h : w.heap[g]? = some (.cells (na n) t (0, 0))) : w.rangeAt g 0 (nt n) := fun j v hv => by
  rw [Nat.zero_add, cell_of_row _ _ j _ _ _ h]
  simpa [na] using hv
theorem cell_at {w : World} {g : Nat} {n : Nt} (h : w.rangeAt g 0 (nt n)) (j : Nat) (v : Value) (hv : (nt n)[j]? = some v) : w.cell? ⟨g, j, none⟩ = some v := by
  have := h j v hv; rwa [Nat.zero_add] at this
theorem there_of {w : World} {g : Nat} {c : Array Value} {t : TypeId} (h : w.heap[g]? = some (.cells c t (0, 0))) (hc : c.size = 24) : w.there g 0 24 := fun i hi => by
  refine ⟨?_, frozen_of_row _ _ _ _ _ h⟩
  rw [cell_of_row _ _ _ _ _ _ h, Nat.zero_add, Array.getElem?_eq_getElem (by omega)]; rfl
theorem setCells_rest (b : Nat) : ∀ (vs : List Value) (o : Nat) (w : World), (w.setCells b o vs).os = w.os ∧ (w.setCells b o vs).tape = w.tape ∧ (w.setCells b o vs).output = w.output ∧ (w.setCells b o vs).heap.size = w.heap.size
  | [], o, w => ⟨rfl, rfl, rfl, rfl⟩
  | v :: r, o, w => by
    obtain ⟨h1, h2, h3, h4⟩ := setCells_rest b r (o + 1) (w.setCell ⟨b, o, none⟩ v)
    exact ⟨h1, h2, h3, by rw [World.setCells, h4]; simp [World.setCell]⟩
theorem heap_setCells_other (b : Nat) (k : Nat) (hk : k ≠ b) : ∀ (vs : List Value) (o : Nat) (w : World), (w.setCells b o vs).heap[k]? = w.heap[k]?
  | [], _, _ => rfl
  | v :: r, o, w => by
    rw [World.setCells, heap_setCells_other b k hk r (o + 1)]
    exact Below.heap_setCell _ _ _ _ (by simpa using hk)
theorem grown_setCells (w : World) (b o : Nat) (vs : List Value) : w.grownBy (w.setCells b o vs) (some b) := by
  obtain ⟨h1, h2, h3, h4⟩ := setCells_rest b vs o w
  exact ⟨h1, h2, h3, by omega, fun k _ hk => heap_setCells_other b k (fun e => hk (by rw [e])) _ _ _⟩
theorem grown_setRow {w w1 : World} (h : w.grownBy w1 none) (g : Nat) (hg : w.heap.size ≤ g) (c : Array Value) : w.grownBy (w1.setRow g c) none :=
  ⟨h.os, h.tape, h.output, by have := h.size; simp; omega, fun k hk hn => (setRow_other _ _ _ _ (by omega)).trans (h.block k hk hn)⟩
theorem grown_new {w w1 w2 : World} {g : Nat} (h : w.grownBy w1 none) (hg : w.heap.size ≤ g) (k : w1.grownBy w2 (some g)) : w.grownBy w2 none :=
  ⟨k.os.trans h.os, k.tape.trans h.tape, k.output.trans h.output, Nat.le_trans h.size k.size, fun i hi hn => (k.block i (Nat.lt_of_lt_of_le hi h.size) (by simp; omega)).trans (h.block i hi hn)⟩

section
variable {w : World} {ops : Array Oper} {rest : List Oper} {a : Act} {Q : Exit → Act → World → Prop} {dst : Option Tmp} {ty : TypeId} {pos : String} {after : Array Edge}
/-- A note out of a variable. -/
theorem load_nt (n : Nt) (x : Tmp) (g : Nat) (hx : a.eval (.tmp x) = .pointer (some ⟨g, 0, none⟩)) (hg : w.rangeAt g 0 (nt n))
    (h : wpList Tryd.prog ops Q rest (a.put dst (.agg (na n))) w) : wpList Tryd.prog ops Q (⟨dst, .load 37 (.tmp x), ty, pos, after, none⟩ :: rest) a w :=
  wpList_load_mid rfl 37 (.tmp x) rfl g 0 hx (nt n) _ hg Tryd.underlying37 rfl (info31' n) h
/-- A note into a variable. -/
theorem store_any (n : Nt) (c : Array Value) (x y : Tmp) (g : Nat) (hx : a.eval (.tmp x) = .pointer (some ⟨g, 0, none⟩)) (hy : a.eval (.tmp y) = .agg (na n)) (hg : w.heap[g]? = some (.cells c 37 (0, 0))) (hc : c.size = 24)
    (h : wpList Tryd.prog ops Q rest (a.put dst undef) (w.setRow g (na n))) : wpList Tryd.prog ops Q (⟨dst, .store 37 (.tmp x) (.tmp y), ty, pos, after, none⟩ :: rest) a w :=
  wpList_store_row rfl 37 (.tmp x) (.tmp y) rfl g (na n) hx hy 37 _ hg (info31a n) (by rw [na_size, hc]) (na_one n) h
/-- A note into the variable that was made last. -/
theorem store_new (n : Nt) (c : Array Value) (x y : Tmp) (hx : a.eval (.tmp x) = .pointer (some ⟨w.heap.size, 0, none⟩)) (hy : a.eval (.tmp y) = .agg (na n)) (hc : c.size = 24)
    (h : wpList Tryd.prog ops Q rest (a.put dst undef) (w.alloc (.cells (na n) 37))) : wpList Tryd.prog ops Q (⟨dst, .store 37 (.tmp x) (.tmp y), ty, pos, after, none⟩ :: rest) a (w.alloc (.cells c 37)) := by
  refine wpList_store_row rfl 37 (.tmp x) (.tmp y) rfl w.heap.size (na n) hx hy 37 _ (heap_alloc_new _ _) (info31a n) (by rw [na_size, hc]) (na_one n) ?_
  rw [World.setRow_alloc_new]; exact h
end

/-- A load and a store of a note in a region that draws its order: type and size kept under names. -/
theorem named : ∃ (t : TypeId) (m : Nat), Hid (Op.load 37 = Op.load t) ∧ (∀ w, (isAgg t).run Tryd.prog w = .ok true w) ∧ (∀ w, (sizeOf t).run Tryd.prog w = .ok m w) ∧
    ∀ (g : Nat) (n : Nt) (w : World), w.rangeAt g 0 (nt n) → (loadCellsFrom ⟨g, 0, none⟩ 0 m #[]).run Tryd.prog w = .ok (na n) w :=
  ⟨37, 24, Lib.hid rfl, Tryd.isAgg37, Tryd.sizeOf37, fun g n w h => by
    have := run_loadCells_list (P := Tryd.prog) w ⟨g, 0, none⟩ (nt n) (fun j v hv => by rw [add_lit]; exact h j v hv)
    simpa [loadCells, nt_len, na] using this⟩

theorem all_range_eqU : ∀ (xs ys : List Int), xs.length = ys.length → ((List.range xs.length).all fun i => xs.getD i 0 == ys.getD i 0) = (xs == ys)
  | [], [], _ => rfl
  | x :: xs, y :: ys, h => by
    have ih := all_range_eqU xs ys (by simpa using h)
    rw [List.length_cons, List.range_succ_eq_map, List.all_cons, List.all_map]
    simp only [List.getD_cons_zero, Function.comp_def, List.getD_cons_succ, ih]
    simp [List.cons_beq_cons]
  | [], _ :: _, h => by simp at h
  | _ :: _, [], h => by simp at h

theorem eq29 (w : World) (d : Nat) (xs ys : List Int) (hx : xs.length = 16) (hy : ys.length = 16) :
    (Op.equalIn (d + 2) 35 (.agg (row xs)) (.agg (row ys))).run Tryd.prog w = .ok (xs == ys) w := by
  rw [← all_range_eqU xs ys (hx.trans hy.symm), hx, List.range_eq_range', Op.equalIn]
  simp only [Sem.run_bind, run_underlying Tryd.underlying35, Result.andThen_ok, Tryd.sizeOf33, Std.Legacy.Range.forIn_eq_forIn_range', Std.Legacy.Range.size, Nat.sub_zero, Nat.add_sub_cancel, Nat.div_one]
  have hl : ∀ i ∈ List.range' 0 16 1, i < 16 := fun i hi => by simpa using (List.mem_range'_1.1 hi).2
  generalize List.range' 0 16 1 = l at hl ⊢
  induction l with
  | nil => simp
  | cons i l ih =>
    have hi : i < 16 := hl i (by simp)
    have px : (part 33 (row xs) (i * 1)).run Tryd.prog w = .ok (U (xs.getD i 0)) w := by
      simp [part, isAgg, run_underlying Tryd.underlying33, row, List.getD, List.getElem?_eq_getElem (show i < xs.length by omega)]
    have py : (part 33 (row ys) (i * 1)).run Tryd.prog w = .ok (U (ys.getD i 0)) w := by
      simp [part, isAgg, run_underlying Tryd.underlying33, row, List.getD, List.getElem?_eq_getElem (show i < ys.length by omega)]
    have pe : (Op.equalIn (d + 1) 33 (U (xs.getD i 0)) (U (ys.getD i 0))).run Tryd.prog w = .ok (xs.getD i 0 == ys.getD i 0) w := by
      rw [U, U, run_equalIn_int w d 33 .u32 .u32 _ _ Tryd.underlying33]
    simp only [List.forIn_cons, Sem.run_bind, px, py, pe, Result.andThen_ok, List.all_cons]
    cases hb : (xs.getD i 0 == ys.getD i 0)
    · simp
    · simp only [Bool.not_true, Bool.false_eq_true, if_false, Sem.run_pure, Result.andThen_ok, Bool.true_and]
      exact ih fun j hj => hl j (by simp [hj])
theorem eq29k (k : Nat) (hk : 2 ≤ k) (w : World) (xs ys : List Int) (hx : xs.length = 16) (hy : ys.length = 16) : (Op.equalIn k 35 (.agg (row xs)) (.agg (row ys))).run Tryd.prog w = .ok (xs == ys) w := by
  obtain ⟨d, rfl⟩ : ∃ d, k = d + 2 := ⟨k - 2, by omega⟩
  exact eq29 w d xs ys hx hy
theorem eqIk (k : Nat) (hk : 1 ≤ k) (w : World) (t : TypeId) (q : IntKind) (a b : Int) (h : Tryd.prog.underlying t = some (.int q)) : (Op.equalIn k t (.int q a) (.int q b)).run Tryd.prog w = .ok (a == b) w := by
  obtain ⟨d, rfl⟩ : ∃ d, k = d + 1 := ⟨k - 1, by omega⟩
  exact run_equalIn_int w d t q q a b h
theorem eqBk (k : Nat) (hk : 1 ≤ k) (w : World) (a b : Bool) : (Op.equalIn k 4 (.bool a) (.bool b)).run Tryd.prog w = .ok (a == b) w := by
  obtain ⟨d, rfl⟩ : ∃ d, k = d + 1 := ⟨k - 1, by omega⟩
  simp [Op.equalIn, run_underlying Tryd.underlying4]
theorem part29 (w : World) (n : Nt) : (part 35 (na n) 8).run Tryd.prog w = .ok (.agg (row n.d)) w := by
  have h : (na n).extract 8 24 = row n.d := by
    apply Array.ext'
    simp [na, nt, row]
    rw [List.take_of_length_le (by simp [n.hd])]
  have h29 := Tryd.isAgg35
  have hs := Tryd.sizeOf35
  simp [part, h29, hs, h]
theorem stood31 : Tryd.prog.stoodInHeld 37 = false := by kernel_rfl
theorem fields31 : Tryd.prog.underlying 37 = some (.struct (Tryd.prog.fieldsOf 37)) := by kernel_rfl
theorem eq31k (k : Nat) (hk : 3 ≤ k) (x y : Nt) (w : World) : (Op.equalIn k 37 (.agg (na x)) (.agg (na y))).run Tryd.prog w = .ok (decide (x = y)) w := by
  obtain ⟨d, rfl⟩ : ∃ d, k = d + 1 := ⟨k - 1, by omega⟩
  rw [run_equalIn_agg w d 37 _ _ fields31 stood31]
  simp only [Program.fieldsOf, Tryd.underlying37]
  have p0 : ∀ n : Nt, (part 5 (na n) 0).run Tryd.prog w = .ok (.int .u8 n.k) w := fun l => by simp [part, isAgg, run_underlying Tryd.underlying5, na, nt]
  have p1 : ∀ n : Nt, (part 3 (na n) 1).run Tryd.prog w = .ok (.int .i64 n.f) w := fun l => by simp [part, isAgg, run_underlying Tryd.underlying3, na, nt]
  have p2 : ∀ n : Nt, (part 3 (na n) 2).run Tryd.prog w = .ok (.int .i64 n.t) w := fun l => by simp [part, isAgg, run_underlying Tryd.underlying3, na, nt]
  have p3 : ∀ n : Nt, (part 3 (na n) 3).run Tryd.prog w = .ok (.int .i64 n.b) w := fun l => by simp [part, isAgg, run_underlying Tryd.underlying3, na, nt]
  have p4 : ∀ n : Nt, (part 31 (na n) 4).run Tryd.prog w = .ok (.int .u64 n.st) w := fun l => by simp [part, isAgg, run_underlying Tryd.underlying31, na, nt]
  have p5 : ∀ n : Nt, (part 32 (na n) 5).run Tryd.prog w = .ok (.int .u8 n.s) w := fun l => by simp [part, isAgg, run_underlying Tryd.underlying32, na, nt]
  have p6 : ∀ n : Nt, (part 4 (na n) 6).run Tryd.prog w = .ok (.bool n.h) w := fun l => by simp [part, isAgg, run_underlying Tryd.underlying4, na, nt]
  have p7 : ∀ n : Nt, (part 4 (na n) 7).run Tryd.prog w = .ok (.bool n.q) w := fun l => by simp [part, isAgg, run_underlying Tryd.underlying4, na, nt]
  have p8 := part29 w
  have e0 := eqIk d (by omega) w 5 .u8 x.k y.k Tryd.underlying5
  have e1 := eqIk d (by omega) w 3 .i64 x.f y.f Tryd.underlying3
  have e2 := eqIk d (by omega) w 3 .i64 x.t y.t Tryd.underlying3
  have e3 := eqIk d (by omega) w 3 .i64 x.b y.b Tryd.underlying3
  have e4 := eqIk d (by omega) w 31 .u64 x.st y.st Tryd.underlying31
  have e5 := eqIk d (by omega) w 32 .u8 x.s y.s Tryd.underlying32
  have e6 := eqBk d (by omega) w x.h y.h
  have e7 := eqBk d (by omega) w x.q y.q
  have e8 := eq29k d (by omega) w x.d y.d x.hd y.hd
  simp [Op.eqFields, Sem.run_bind, p0, p1, p2, p3, p4, p5, p6, p7, p8, e0, e1, e2, e3, e4, e5, e6, e7, e8]
  have hx : (x = y) ↔ (x.k = y.k ∧ x.f = y.f ∧ x.t = y.t ∧ x.b = y.b ∧ x.st = y.st ∧ x.s = y.s ∧ x.h = y.h ∧ x.q = y.q ∧ x.d = y.d) :=
    ⟨fun h => by subst h; simp, fun ⟨h1, h2, h3, h4, h5, h6, h7, h8, h9⟩ => Nt.ext h1 h2 h3 h4 h5 h6 h7 h8 h9⟩
  by_cases h1 : x.k = y.k
  · by_cases h2 : x.f = y.f
    · by_cases h3 : x.t = y.t
      · by_cases h4 : x.b = y.b
        · by_cases h5 : x.st = y.st
          · by_cases h6 : x.s = y.s
            · by_cases h7 : x.h = y.h
              · by_cases h8 : x.q = y.q
                · by_cases h9 : x.d = y.d <;> simp [hx, h1, h2, h3, h4, h5, h6, h7, h8, h9]
                · simp [hx, h1, h2, h3, h4, h5, h6, h7, h8]
              · simp [hx, h1, h2, h3, h4, h5, h6, h7]
            · simp [hx, h1, h2, h3, h4, h5, h6]
          · simp [hx, h1, h2, h3, h4, h5]
        · simp [hx, h1, h2, h3, h4]
      · simp [hx, h1, h2, h3]
    · simp [hx, h1, h2]
  · simp [hx, h1]
theorem q31e (x y : Nt) (w : World) : (binOp .eql 37 (.agg (na x)) (.agg (na y))).run Tryd.prog w = .ok (.bool (decide (x = y))) w := by
  rw [run_eql_struct, eq31k 10000 (by omega) x y w]
  rfl
theorem q31n (x y : Nt) (w : World) : (binOp .neq 37 (.agg (na x)) (.agg (na y))).run Tryd.prog w = .ok (.bool (!decide (x = y))) w := by
  rw [run_neq_struct, eq31k 10000 (by omega) x y w]
  rfl
theorem eql29k (xs ys : List Int) (hx : xs.length = 16) (hy : ys.length = 16) (w : World) : (Op.equalIn 10000 35 (.agg (row xs)) (.agg (row ys))).run Tryd.prog w = .ok (xs == ys) w := eq29k 10000 (by omega) w xs ys hx hy
end Go.Proofs.YtoemkhmbeiindaaDoor.tt
