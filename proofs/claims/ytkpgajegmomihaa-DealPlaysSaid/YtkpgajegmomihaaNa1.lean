/-
  A note as cells, loads and stores of one, the model's '==' at two notes: definitions and laws. No condition but the bounds that each theorem names.
-/
import Derived.Test.YtkpgajegmomihaaPl
import Derived.Laws.StructEq
import Derived.Deep.MidRow
import Derived.Deep.WholeRow
import Derived.Deep.RegionLaw
import Derived.Deep.RegionHeld
import Derived.Below
namespace Go.Proofs.Ytkpgajegmomihaa.tt
open Go Go.ChangeShapes Go.WideShapes Go.ChangeAt Go.RowKit
set_option linter.unusedVariables false

theorem grown_drewN {w w' : World} {own : Option Nat} (h : w.grownBy w' own) (n : Nat) : w.grownBy (w'.drewN n) own := ⟨h.os, h.tape, h.output, h.size, h.block⟩
theorem below_of {w w' : World} (h : w.grownBy w' none) : Below w.heap.size w w' := ⟨h.os, h.tape, h.output, h.size, fun k hk => h.block k hk (by simp)⟩

def U (x : Int) : Value := .int .u32 x
/-- A note. -/
structure Nt where
  k : Int
  f : Int
  t : Int
  b : Int
  st : Int
  s : Int
  h : Bool
  q : Bool
  d : List Int
  hd : d.length = 16
deriving DecidableEq
def zd : List Int := List.replicate 16 0
/-- A note without data. -/
def bare (k f t b st s : Int) (h q : Bool) : Nt := ⟨k, f, t, b, st, s, h, q, zd, rfl⟩
def zn : Nt := bare 0 0 0 0 0 0 false false
theorem Nt.ext {x y : Nt} (h1 : x.k = y.k) (h2 : x.f = y.f) (h3 : x.t = y.t) (h4 : x.b = y.b) (h5 : x.st = y.st) (h6 : x.s = y.s) (h7 : x.h = y.h) (h8 : x.q = y.q) (h9 : x.d = y.d) : x = y := by
  obtain ⟨_, _, _, _, _, _, _, _, _, _⟩ := x; obtain ⟨_, _, _, _, _, _, _, _, _, _⟩ := y; simp at *; simp_all
/-- Its cells. -/
def nt (n : Nt) : List Value := .int .u8 n.k :: .int .i64 n.f :: .int .i64 n.t :: .int .i64 n.b :: .int .u64 n.st :: .int .u8 n.s :: .bool n.h :: .bool n.q :: n.d.map U
def na (n : Nt) : Array Value := (nt n).toArray
def row (x : List Int) : Array Value := (x.map U).toArray
theorem nt_len (n : Nt) : (nt n).length = 24 := by simp [nt, n.hd]
theorem na_size (n : Nt) : (na n).size = 24 := by simp [na, nt_len]
theorem nt_one (n : Nt) : ∀ v ∈ nt n, v.oneCell' = true := by
  intro v hv
  simp [nt, U] at hv
  rcases hv with rfl | rfl | rfl | rfl | rfl | rfl | rfl | rfl | ⟨x, _, rfl⟩ <;> rfl
theorem na_one (n : Nt) : (na n).all (·.oneCell') = true := all_oneCell_toArray (nt_one n)
theorem nt_d (n : Nt) (k : Nat) : (nt n)[8 + k]? = (n.d[k]?).map U := by
  rw [Nat.add_comm]; simp [nt]
theorem bare_na (k f t b st s : Int) (h q : Bool) : na (bare k f t b st s h q) = #[.int .u8 k, .int .i64 f, .int .i64 t, .int .i64 b, .int .u64 st, .int .u8 s, .bool h, .bool q, .int .u32 0, .int .u32 0, .int .u32 0, .int .u32 0, .int .u32 0, .int .u32 0, .int .u32 0, .int .u32 0, .int .u32 0, .int .u32 0, .int .u32 0, .int .u32 0, .int .u32 0, .int .u32 0, .int .u32 0, .int .u32 0] := rfl

theorem tyne {w : World} {k q : Nat} {c1 c2 : Array Value} {t1 t2 : TypeId} {f1 f2 : Nat × Nat} (h1 : w.heap[k]? = some (.cells c1 t1 f1)) (h2 : w.heap[q]? = some (.cells c2 t2 f2)) (h : t1 ≠ t2) : k ≠ q := fun e => by
  subst e; rw [h1] at h2; cases h2; exact h rfl
theorem add_lit (g off j : Nat) : (⟨g, off, none⟩ : Addr).add j = ⟨g, off + j, none⟩ := by unfold Addr.add; split <;> simp_all
theorem lt_of {w : World} {k : Nat} {o : Obj} (h : w.heap[k]? = some o) : k < w.heap.size := (Array.getElem?_eq_some_iff.1 h).1
theorem range_grown {w w' : World} {g o : Nat} {xs : List Value} (h : w.rangeAt g o xs) {own : Option Nat} (hg : w.grownBy w' own) (hn : some g ≠ own) : w'.rangeAt g o xs := fun j v hv => hg.cell (h j v hv) hn
theorem range_of {w : World} {g : Nat} {n : Nt} {t : TypeId} (h : w.heap[g]? = some (.cells (na n) t (0, 0))) : w.rangeAt g 0 (nt n) := fun j v hv => by
  rw [Nat.zero_add, cell_of_row _ _ j _ _ _ h]
  simpa [na] using hv
theorem cell_at {w : World} {g : Nat} {n : Nt} (h : w.rangeAt g 0 (nt n)) (j : Nat) (v : Value) (hv : (nt n)[j]? = some v) : w.cell? ⟨g, j, none⟩ = some v := by
  have := h j v hv; rwa [Nat.zero_add] at this
theorem there_of {w : World} {g : Nat} {c : Array Value} {t : TypeId} (h : w.heap[g]? = some (.cells c t (0, 0))) (hc : c.size = 24) : w.there g 0 24 := fun i hi => by
  refine ⟨?_, frozen_of_row _ _ _ _ _ h⟩
  rw [cell_of_row _ _ _ _ _ _ h, Nat.zero_add, Array.getElem?_eq_getElem (by omega)]; rfl
theorem setCells_rest (b : Nat) : ∀ (vs : List Value) (o : Nat) (w : World), (w.setCells b o vs).os = w.os ∧ (w.setCells b o vs).tape = w.tape ∧ (w.setCells b o vs).output = w.output ∧ (w.setCells b o vs).heap.size = w.heap.size
  | [], o, w => ⟨rfl, rfl, rfl, rfl⟩
  | v :: r, o, w => by
    obtain ⟨h1, h2, h3, h4⟩ := setCells_rest b r (o + 1) (w.setCell ⟨b, o, none⟩ v)
    exact ⟨h1, h2, h3, by rw [World.setCells, h4]; simp [World.setCell]⟩
theorem heap_setCells_other (b : Nat) (k : Nat) (hk : k ≠ b) : ∀ (vs : List Value) (o : Nat) (w : World), (w.setCells b o vs).heap[k]? = w.heap[k]?
  | [], _, _ => rfl
  | v :: r, o, w => by
    rw [World.setCells, heap_setCells_other b k hk r (o + 1)]
    exact Below.heap_setCell _ _ _ _ (by simpa using hk)
theorem grown_setCells (w : World) (b o : Nat) (vs : List Value) : w.grownBy (w.setCells b o vs) (some b) := by
  obtain ⟨h1, h2, h3, h4⟩ := setCells_rest b vs o w
  exact ⟨h1, h2, h3, by omega, fun k _ hk => heap_setCells_other b k (fun e => hk (by rw [e])) _ _ _⟩
theorem grown_setRow {w w1 : World} (h : w.grownBy w1 none) (g : Nat) (hg : w.heap.size ≤ g) (c : Array Value) : w.grownBy (w1.setRow g c) none :=
  ⟨h.os, h.tape, h.output, by have := h.size; simp; omega, fun k hk hn => (setRow_other _ _ _ _ (by omega)).trans (h.block k hk hn)⟩
theorem grown_new {w w1 w2 : World} {g : Nat} (h : w.grownBy w1 none) (hg : w.heap.size ≤ g) (k : w1.grownBy w2 (some g)) : w.grownBy w2 none :=
  ⟨k.os.trans h.os, k.tape.trans h.tape, k.output.trans h.output, Nat.le_trans h.size k.size, fun i hi hn => (k.block i (Nat.lt_of_lt_of_le hi h.size) (by simp; omega)).trans (h.block i hi hn)⟩

section
variable {w : World} {ops : Array Oper} {rest : List Oper} {a : Act} {Q : Exit → Act → World → Prop} {dst : Option Tmp} {ty : TypeId} {pos : String} {after : Array Edge}
end

theorem all_range_eqU : ∀ (xs ys : List Int), xs.length = ys.length → ((List.range xs.length).all fun i => xs.getD i 0 == ys.getD i 0) = (xs == ys)
  | [], [], _ => rfl
  | x :: xs, y :: ys, h => by
    have ih := all_range_eqU xs ys (by simpa using h)
    rw [List.length_cons, List.range_succ_eq_map, List.all_cons, List.all_map]
    simp only [List.getD_cons_zero, Function.comp_def, List.getD_cons_succ, ih]
    simp [List.cons_beq_cons]
  | [], _ :: _, h => by simp at h
  | _ :: _, [], h => by simp at h

theorem eqIk (k : Nat) (hk : 1 ≤ k) (w : World) (t : TypeId) (q : IntKind) (a b : Int) (h : Try.prog.underlying t = some (.int q)) : (Op.equalIn k t (.int q a) (.int q b)).run Try.prog w = .ok (a == b) w := by
  obtain ⟨d, rfl⟩ : ∃ d, k = d + 1 := ⟨k - 1, by omega⟩
  exact run_equalIn_int w d t q q a b h
theorem eqBk (k : Nat) (hk : 1 ≤ k) (w : World) (a b : Bool) : (Op.equalIn k 4 (.bool a) (.bool b)).run Try.prog w = .ok (a == b) w := by
  obtain ⟨d, rfl⟩ : ∃ d, k = d + 1 := ⟨k - 1, by omega⟩
  simp [Op.equalIn, run_underlying Try.underlying4]
end Go.Proofs.Ytkpgajegmomihaa.tt
