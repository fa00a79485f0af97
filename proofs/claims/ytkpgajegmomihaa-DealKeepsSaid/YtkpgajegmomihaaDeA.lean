/-
  A transaction (a deal) and what it saves as cells; loads and stores of both; '==' of what is saved; a scope that is left by a goto: definitions and laws. No condition but the bounds that each theorem names.
-/
import Derived.Test.YtkpgajegmomihaaSl
import Derived.Test.YtkpgajegmomihaaOdA
namespace Go.Proofs.Ytkpgajegmomihaa.de
open Go Go.ChangeShapes Go.WideShapes Go.ChangeAt Go.RowKit
open Go.Proofs.Ytkpgajegmomihaa.tt (U zd row tyne add_lit lt_of range_grown setCells_rest heap_setCells heap_setCells_other grown_setCells grown_setRow grown_new grown_drewN below_of grown_alloc grown_refl grown_trans grown_drew eqIk eqBk all_range_eqU)
open Go.Proofs.Ytkpgajegmomihaa.oo (ref flag' gives older)
set_option linter.unusedVariables false
set_option maxRecDepth 1000000

/-- What a transaction goes back to: its registers, its handler. -/
structure Sv where
  r : List Int
  h : Int
  hr : r.length = 16
deriving DecidableEq
def zs : Sv := ⟨zd, 0, rfl⟩
theorem Sv.ext {x y : Sv} (h1 : x.r = y.r) (h2 : x.h = y.h) : x = y := by
  obtain ⟨_, _, _⟩ := x; obtain ⟨_, _, _⟩ := y; simp at *; simp_all
theorem Sv.lit (s : Sv) : ∃ r0 r1 r2 r3 r4 r5 r6 r7 r8 r9 r10 r11 r12 r13 r14 r15 h, s = ⟨[r0, r1, r2, r3, r4, r5, r6, r7, r8, r9, r10, r11, r12, r13, r14, r15], h, rfl⟩ := by
  obtain ⟨r, h, hr⟩ := s
  match r, hr with
  | [r0, r1, r2, r3, r4, r5, r6, r7, r8, r9, r10, r11, r12, r13, r14, r15], _ => exact ⟨r0, r1, r2, r3, r4, r5, r6, r7, r8, r9, r10, r11, r12, r13, r14, r15, h, rfl⟩
def sl (s : Sv) : List Value := s.r.map U ++ [.int .i64 s.h]
def sa (s : Sv) : Array Value := (sl s).toArray
theorem sl_len (s : Sv) : (sl s).length = 17 := by simp [sl, s.hr]
theorem sa_size (s : Sv) : (sa s).size = 17 := by simp [sa, sl_len]
theorem sa_list (s : Sv) : (sa s).toList = sl s := rfl
theorem sl_one (s : Sv) : ∀ v ∈ sl s, v.oneCell' = true := by
  intro v hv
  simp [sl, U] at hv
  rcases hv with ⟨x, _, rfl⟩ | rfl <;> rfl
theorem sa_one (s : Sv) : (sa s).all (·.oneCell') = true := all_oneCell_toArray (sl_one s)
theorem infoS : (Try.prog.info? 31).map (·.size) = some 17 := by kernel_rfl
theorem infoSl (s : Sv) : (Try.prog.info? 31).map (·.size) = some (sl s).length := by rw [sl_len]; exact infoS
theorem infoSa (s : Sv) : (Try.prog.info? 31).map (·.size) = some (sa s).size := by rw [sa_size]; exact infoS
theorem zs_sa : sa zs = #[.int .u32 0, .int .u32 0, .int .u32 0, .int .u32 0, .int .u32 0, .int .u32 0, .int .u32 0, .int .u32 0, .int .u32 0, .int .u32 0, .int .u32 0, .int .u32 0, .int .u32 0, .int .u32 0, .int .u32 0, .int .u32 0, .int .i64 0] := rfl

/-- A transaction, or none that is open: how deep it may be, how deep it is, what it saved, its stamp, its flag, whether it is failing, for which cause. -/
structure Dl where
  ne : Int
  de : Int
  s : Sv
  st : Int
  fl : Bool
  fa : Bool
  ca : Int
def dl (d : Dl) : List Value := .int .i64 d.ne :: .int .i64 d.de :: (sl d.s ++ [.int .u64 d.st, .bool d.fl, .bool d.fa, .int .u32 d.ca])
def da (d : Dl) : Array Value := (dl d).toArray
theorem dl_len (d : Dl) : (dl d).length = 23 := by simp [dl, sl_len]
theorem da_size (d : Dl) : (da d).size = 23 := by simp [da, dl_len]
theorem dl_one (d : Dl) : ∀ v ∈ dl d, v.oneCell' = true := by
  intro v hv
  simp only [dl, List.mem_cons, List.mem_append, List.not_mem_nil, or_false] at hv
  rcases hv with rfl | rfl | h | rfl | rfl | rfl | rfl <;> first | rfl | exact sl_one d.s v h
theorem da_one (d : Dl) : (da d).all (·.oneCell') = true := all_oneCell_toArray (dl_one d)
theorem da_get (d : Dl) : (da d)[0]? = some (.int .i64 d.ne) ∧ (da d)[1]? = some (.int .i64 d.de) ∧ (da d)[19]? = some (.int .u64 d.st) ∧ (da d)[20]? = some (.bool d.fl) ∧ (da d)[21]? = some (.bool d.fa) ∧ (da d)[22]? = some (.int .u32 d.ca) := by
  obtain ⟨ne, de, s, st, fl, fa, ca⟩ := d
  obtain ⟨r0, r1, r2, r3, r4, r5, r6, r7, r8, r9, r10, r11, r12, r13, r14, r15, h, rfl⟩ := s.lit
  exact ⟨rfl, rfl, rfl, rfl, rfl, rfl⟩
theorem da_s (d : Dl) (k : Nat) (v : Value) (h : (sl d.s)[k]? = some v) : (da d)[2 + k]? = some v := by
  have hk : k < 17 := by have := (List.getElem?_eq_some_iff.1 h).1; rwa [sl_len] at this
  simp only [da, dl, List.getElem?_toArray]
  rw [Nat.add_comm, List.getElem?_cons_succ, List.getElem?_cons_succ, List.getElem?_append_left (by rw [sl_len]; exact hk)]
  exact h
theorem da_de (d : Dl) (x : Int) : (da d).setIfInBounds 1 (.int .i64 x) = da { d with de := x } := by
  obtain ⟨ne, de, s, st, fl, fa, ca⟩ := d
  obtain ⟨r0, r1, r2, r3, r4, r5, r6, r7, r8, r9, r10, r11, r12, r13, r14, r15, h, rfl⟩ := s.lit
  rfl
theorem da_st (d : Dl) (x : Int) : (da d).setIfInBounds 19 (.int .u64 x) = da { d with st := x } := by
  obtain ⟨ne, de, s, st, fl, fa, ca⟩ := d
  obtain ⟨r0, r1, r2, r3, r4, r5, r6, r7, r8, r9, r10, r11, r12, r13, r14, r15, h, rfl⟩ := s.lit
  rfl
theorem da_fl (d : Dl) (x : Bool) : (da d).setIfInBounds 20 (.bool x) = da { d with fl := x } := by
  obtain ⟨ne, de, s, st, fl, fa, ca⟩ := d
  obtain ⟨r0, r1, r2, r3, r4, r5, r6, r7, r8, r9, r10, r11, r12, r13, r14, r15, h, rfl⟩ := s.lit
  rfl
theorem da_fa (d : Dl) (x : Bool) : (da d).setIfInBounds 21 (.bool x) = da { d with fa := x } := by
  obtain ⟨ne, de, s, st, fl, fa, ca⟩ := d
  obtain ⟨r0, r1, r2, r3, r4, r5, r6, r7, r8, r9, r10, r11, r12, r13, r14, r15, h, rfl⟩ := s.lit
  rfl
theorem da_ca (d : Dl) (x : Int) : (da d).setIfInBounds 22 (.int .u32 x) = da { d with ca := x } := by
  obtain ⟨ne, de, s, st, fl, fa, ca⟩ := d
  obtain ⟨r0, r1, r2, r3, r4, r5, r6, r7, r8, r9, r10, r11, r12, r13, r14, r15, h, rfl⟩ := s.lit
  rfl

theorem grown_setCell (w : World) (b o : Nat) (v : Value) : w.grownBy (w.setCell ⟨b, o, none⟩ v) (some b) :=
  ⟨rfl, rfl, rfl, by simp [World.setCell], fun k _ hn => Below.heap_setCell _ _ _ _ (fun e => hn (by rw [e]))⟩
theorem set_heap {w : World} {b : Nat} {T : TypeId} {cs : Array Value} (h : w.heap[b]? = some (.cells cs T (0, 0))) (i : Nat) (u : Value) : (w.setCell ⟨b, i, none⟩ u).heap[b]? = some (.cells (cs.setIfInBounds i u) T (0, 0)) := by
  obtain ⟨hlt, hk⟩ := Array.getElem?_eq_some_iff.1 h
  show (w.heap.modify b _)[b]? = _
  rw [Array.getElem?_eq_getElem (by rw [Array.size_modify]; exact hlt), Array.getElem_modify_self, hk]
  simp
theorem grown_row {w : World} (g : Nat) (c : Array Value) : w.grownBy (w.setRow g c) (some g) :=
  ⟨rfl, rfl, rfl, by simp, fun k _ hn => setRow_other _ _ _ _ (fun e => hn (by rw [e]))⟩
theorem grown_to {w w1 : World} {own : Option Nat} (h : w.grownBy w1 none) : w.grownBy w1 own := ⟨h.os, h.tape, h.output, h.size, fun k hk _ => h.block k hk (by simp)⟩

/-- The transaction d lies in block g, in a variable of type t. -/
structure DAt (t : TypeId) (w : World) (g : Nat) (d : Dl) : Prop where
  blk : w.heap[g]? = some (.cells (da d) t (0, 0))
section
variable {t : TypeId} {w w' : World} {g : Nat} {d : Dl}
theorem DAt.lt (h : DAt t w g d) : g < w.heap.size := lt_of h.blk
theorem DAt.same (h : DAt t w g d) (hb : w'.heap[g]? = w.heap[g]?) : DAt t w' g d := ⟨hb.trans h.blk⟩
theorem DAt.grown (h : DAt t w g d) {own : Option Nat} (hg : w.grownBy w' own) (hn : some g ≠ own) : DAt t w' g d := h.same (hg.block g h.lt hn)
theorem DAt.cells (h : DAt t w g d) : w.cell? ⟨g, 0, none⟩ = some (.int .i64 d.ne) ∧ w.cell? ⟨g, 1, none⟩ = some (.int .i64 d.de) ∧ w.cell? ⟨g, 19, none⟩ = some (.int .u64 d.st) ∧ w.cell? ⟨g, 20, none⟩ = some (.bool d.fl) ∧ w.cell? ⟨g, 21, none⟩ = some (.bool d.fa) ∧ w.cell? ⟨g, 22, none⟩ = some (.int .u32 d.ca) := by
  obtain ⟨h0, h1, h2, h3, h4, h5⟩ := da_get d
  exact ⟨(cell_of_row _ _ _ _ _ _ h.blk).trans h0, (cell_of_row _ _ _ _ _ _ h.blk).trans h1, (cell_of_row _ _ _ _ _ _ h.blk).trans h2, (cell_of_row _ _ _ _ _ _ h.blk).trans h3, (cell_of_row _ _ _ _ _ _ h.blk).trans h4, (cell_of_row _ _ _ _ _ _ h.blk).trans h5⟩
theorem DAt.free (h : DAt t w g d) (j : Nat) : w.frozen? ⟨g, j, none⟩ = false := frozen_of_row _ _ _ _ _ h.blk
theorem DAt.all (h : DAt t w g d) : w.rangeAt g 0 (dl d) := fun j v hv => by
  rw [Nat.zero_add, cell_of_row _ _ j _ _ _ h.blk]
  simpa [da] using hv
theorem DAt.save (h : DAt t w g d) : w.rangeAt g 2 (sl d.s) := fun j v hv => by
  rw [cell_of_row _ _ _ _ _ _ h.blk]
  exact da_s d j v hv
theorem DAt.there (h : DAt t w g d) : w.there g 2 17 := fun i hi => by
  refine ⟨?_, h.free _⟩
  rw [cell_of_row _ _ _ _ _ _ h.blk, Array.getElem?_eq_getElem (by rw [da_size]; omega)]; rfl
theorem DAt.put_de (h : DAt t w g d) (x : Int) : DAt t (w.setCell ⟨g, 1, none⟩ (.int .i64 x)) g { d with de := x } := ⟨by rw [set_heap h.blk, da_de]⟩
theorem DAt.put_st (h : DAt t w g d) (x : Int) : DAt t (w.setCell ⟨g, 19, none⟩ (.int .u64 x)) g { d with st := x } := ⟨by rw [set_heap h.blk, da_st]⟩
theorem DAt.put_fl (h : DAt t w g d) (x : Bool) : DAt t (w.setCell ⟨g, 20, none⟩ (.bool x)) g { d with fl := x } := ⟨by rw [set_heap h.blk, da_fl]⟩
theorem DAt.put_fa (h : DAt t w g d) (x : Bool) : DAt t (w.setCell ⟨g, 21, none⟩ (.bool x)) g { d with fa := x } := ⟨by rw [set_heap h.blk, da_fa]⟩
theorem DAt.put_ca (h : DAt t w g d) (x : Int) : DAt t (w.setCell ⟨g, 22, none⟩ (.int .u32 x)) g { d with ca := x } := ⟨by rw [set_heap h.blk, da_ca]⟩
theorem DAt.put_s (h : DAt t w g d) (s : Sv) : DAt t (w.setCells g 2 (sl s)) g { d with s := s } := by
  obtain ⟨cur, h1, h2, h3, h4⟩ := heap_setCells g t (sl s) 2 w _ h.blk (by rw [sl_len, da_size]; omega)
  refine ⟨?_⟩
  rw [h1]
  have : cur = da { d with s := s } := by
    rw [da_size] at h2
    refine Array.ext_getElem? fun i => ?_
    by_cases hi : i < 2 ∨ 19 ≤ i
    · rw [h3 i (by rw [sl_len]; omega)]
      obtain ⟨a0, a1, a2, a3, a4, a5⟩ := da_get d
      obtain ⟨b0, b1, b2, b3, b4, b5⟩ := da_get { d with s := s }
      by_cases hj : 23 ≤ i
      · rw [Array.getElem?_eq_none (by rw [da_size]; exact hj), Array.getElem?_eq_none (by rw [da_size]; exact hj)]
      · obtain rfl | rfl | rfl | rfl | rfl | rfl : i = 0 ∨ i = 1 ∨ i = 19 ∨ i = 20 ∨ i = 21 ∨ i = 22 := by omega
        · rw [a0, b0]
        · rw [a1, b1]
        · rw [a2, b2]
        · rw [a3, b3]
        · rw [a4, b4]
        · rw [a5, b5]
    · obtain ⟨j, rfl⟩ : ∃ j, i = 2 + j := ⟨i - 2, by omega⟩
      have hj : j < (sl s).length := by rw [sl_len]; omega
      have hv : (sl s)[j]? = some (sl s)[j] := List.getElem?_eq_getElem hj
      rw [h4 j _ hv, da_s { d with s := s } j _ hv]
  rw [this]
end

section
variable {w : World} {ops : Array Oper} {rest : List Oper} {a : Act} {Q : Exit → Act → World → Prop} {dst : Option Tmp} {ty : TypeId} {pos : String} {after : Array Edge}
/-- What is saved, out of a variable, or out of the middle of one. -/
theorem load_sv (s : Sv) (x : Tmp) (g o : Nat) (hx : a.eval (.tmp x) = .pointer (some ⟨g, o, none⟩)) (hg : w.rangeAt g o (sl s))
    (h : wpList Try.prog ops Q rest (a.put dst (.agg (sa s))) w) : wpList Try.prog ops Q (⟨dst, .load 31 (.tmp x), ty, pos, after, none⟩ :: rest) a w :=
  wpList_load_mid rfl 31 (.tmp x) rfl g o hx (sl s) _ hg Try.underlying31 rfl (infoSl s) h
/-- What is saved, into the middle of a variable. -/
theorem store_mid (s : Sv) (x y : Tmp) (g o : Nat) (hx : a.eval (.tmp x) = .pointer (some ⟨g, o, none⟩)) (hy : a.eval (.tmp y) = .agg (sa s)) (hg : w.there g o 17)
    (h : wpList Try.prog ops Q rest (a.put dst undef) (w.setCells g o (sl s))) : wpList Try.prog ops Q (⟨dst, .store 31 (.tmp x) (.tmp y), ty, pos, after, none⟩ :: rest) a w :=
  wpList_store_mid rfl 31 (.tmp x) (.tmp y) rfl g o (sa s) hx hy (by rw [sa_size]; exact hg) (infoSa s) (sa_one s) h
/-- What is saved, into a variable of its own. -/
theorem store_sv (s : Sv) (c : Array Value) (x y : Tmp) (g : Nat) (hx : a.eval (.tmp x) = .pointer (some ⟨g, 0, none⟩)) (hy : a.eval (.tmp y) = .agg (sa s)) (hg : w.heap[g]? = some (.cells c 31 (0, 0))) (hc : c.size = 17)
    (h : wpList Try.prog ops Q rest (a.put dst undef) (w.setRow g (sa s))) : wpList Try.prog ops Q (⟨dst, .store 31 (.tmp x) (.tmp y), ty, pos, after, none⟩ :: rest) a w :=
  wpList_store_row rfl 31 (.tmp x) (.tmp y) rfl g (sa s) hx hy 31 _ hg (infoSa s) (by rw [sa_size, hc]) (sa_one s) h
/-- What is saved, into the variable that was made last. -/
theorem store_svN (s : Sv) (c : Array Value) (x y : Tmp) (hx : a.eval (.tmp x) = .pointer (some ⟨w.heap.size, 0, none⟩)) (hy : a.eval (.tmp y) = .agg (sa s)) (hc : c.size = 17)
    (h : wpList Try.prog ops Q rest (a.put dst undef) (w.alloc (.cells (sa s) 31))) : wpList Try.prog ops Q (⟨dst, .store 31 (.tmp x) (.tmp y), ty, pos, after, none⟩ :: rest) a (w.alloc (.cells c 31)) := by
  refine wpList_store_row rfl 31 (.tmp x) (.tmp y) rfl w.heap.size (sa s) hx hy 31 _ (heap_alloc_new _ _) (infoSa s) (by rw [sa_size, hc]) (sa_one s) ?_
  rw [World.setRow_alloc_new]; exact h
theorem store_svL (s : Sv) (A : Array Value) (hA : sa s = A) (c : Array Value) (x y : Tmp) (hx : a.eval (.tmp x) = .pointer (some ⟨w.heap.size, 0, none⟩)) (hy : a.eval (.tmp y) = .agg A) (hc : c.size = 17)
    (h : wpList Try.prog ops Q rest (a.put dst undef) (w.alloc (.cells (sa s) 31))) : wpList Try.prog ops Q (⟨dst, .store 31 (.tmp x) (.tmp y), ty, pos, after, none⟩ :: rest) a (w.alloc (.cells c 31)) :=
  store_svN s c x y hx (hA ▸ hy) hc h
end
theorem sv_at {w : World} {g : Nat} {s : Sv} {t : TypeId} (h : w.heap[g]? = some (.cells (sa s) t (0, 0))) : w.rangeAt g 0 (sl s) := fun j v hv => by
  rw [Nat.zero_add, cell_of_row _ _ j _ _ _ h]
  simpa [sa] using hv
theorem sv_new (w : World) (s : Sv) (t : TypeId) : (w.alloc (.cells (sa s) t)).rangeAt w.heap.size 0 (sl s) := sv_at (heap_alloc_new _ _)

/-- A load and a store of what is saved in a region that draws its order: type and size kept under names. -/
theorem named : ∃ (t : TypeId) (m : Nat), Hid (Op.load 31 = Op.load t ∧ Op.store 31 = Op.store t) ∧ (∀ w, (isAgg t).run Try.prog w = .ok true w) ∧ (∀ w, (sizeOf t).run Try.prog w = .ok m w) ∧
    (∀ (g o : Nat) (s : Sv) (w : World), w.rangeAt g o (sl s) → (loadCellsFrom ⟨g, o, none⟩ 0 m #[]).run Try.prog w = .ok (sa s) w) ∧ (∀ s : Sv, (sa s).size = m) ∧
    (∀ (g o : Nat) (s : Sv) (w : World), w.there g o 17 → (storeCells ⟨g, o, none⟩ (sa s).toList 0).run Try.prog w = .ok () (w.setCells g o (sl s))) :=
  ⟨31, 17, Lib.hid ⟨rfl, rfl⟩, Try.isAgg31, Try.sizeOf31, fun g o s w h => by
    have := run_loadCells_list (P := Try.prog) w ⟨g, o, none⟩ (sl s) (fun j v hv => by rw [add_lit]; exact h j v hv)
    simpa [loadCells, sl_len, sa] using this, sa_size, fun g o s w h => by
    have := run_storeCells_cells (P := Try.prog) g o (sl s) 0 w (fun j hj => by simpa using (h j (by rw [sl_len] at hj; exact hj)).1) (fun j hj => by simpa using (h j (by rw [sl_len] at hj; exact hj)).2) (sl_one s)
    simpa [sa] using this⟩
/-- A result: what is saved out of its variable, and two values. -/
theorem ret_sv3 {fn : Func} {p q r : Tmp} (hres : fn.results = #[.cell p 31, .tmp q, .tmp r]) (w : World) (s : Sv) (u v : Value) (B : Nat) (tmps : Array Value) (Q : Ending → World → Prop) (h4 : tmps.getD p undef = .pointer (some ⟨B, 0, none⟩)) (h5 : tmps.getD q undef = u) (h6 : tmps.getD r undef = v)
    (hr : w.rangeAt B 0 (sl s)) (hQ : Q (.returned (.tuple #[.agg (sa s), u, v])) w) : bodyPost Try.prog fn Q .ret { tmps := tmps, defers := [] } w := by
  refine bodyPost_ret (v := .tuple #[.agg (sa s), u, v]) ?_ rfl hQ
  have := run_loadVar_mid (P := Try.prog) w B 0 31 (sl s) _ hr Try.underlying31 rfl (infoSl s)
  have h4' : tmps[p]?.getD undef = .pointer (some ⟨B, 0, none⟩) := by simpa using h4
  have h5' : tmps[q]?.getD undef = u := by simpa using h5
  have h6' : tmps[r]?.getD undef = v := by simpa using h6
  have hsa : (sl s).toArray = sa s := rfl
  rw [hsa] at this
  simp [results, hres, h4', h5', h6', asAddr, this]
theorem ret_sv1 {fn : Func} {p : Tmp} (hres : fn.results = #[.cell p 31]) (w : World) (s : Sv) (B : Nat) (tmps : Array Value) (Q : Ending → World → Prop) (h4 : tmps.getD p undef = .pointer (some ⟨B, 0, none⟩))
    (hr : w.rangeAt B 0 (sl s)) (hQ : Q (.returned (.agg (sa s))) w) : bodyPost Try.prog fn Q .ret { tmps := tmps, defers := [] } w := by
  refine bodyPost_ret (v := .agg (sa s)) ?_ rfl hQ
  have := run_loadVar_mid (P := Try.prog) w B 0 31 (sl s) _ hr Try.underlying31 rfl (infoSl s)
  have h4' : tmps[p]?.getD undef = .pointer (some ⟨B, 0, none⟩) := by simpa using h4
  have hsa : (sl s).toArray = sa s := rfl
  rw [hsa] at this
  simp [results, hres, h4', asAddr, this]
theorem grown_new2 {w w3 w4 : World} {own : Option Nat} {R : Nat} (h : w.grownBy w3 own) (hR : w.heap.size ≤ R) (k : w3.grownBy w4 (some R)) : w.grownBy w4 own :=
  ⟨k.os.trans h.os, k.tape.trans h.tape, k.output.trans h.output, Nat.le_trans h.size k.size, fun i hi hn => (k.block i (Nat.lt_of_lt_of_le hi h.size) (by simp; omega)).trans (h.block i hi hn)⟩
theorem there_new {w : World} {g : Nat} {c : Array Value} {t : TypeId} (h : w.heap[g]? = some (.cells c t (0, 0))) (hc : c.size = 17) : w.there g 0 17 := fun i hi => by
  refine ⟨?_, frozen_of_row _ _ _ _ _ h⟩
  rw [cell_of_row _ _ _ _ _ _ h, Nat.zero_add, Array.getElem?_eq_getElem (by omega)]; rfl

/-- '==' of registers, of what is saved. -/
theorem eqR (w : World) (d : Nat) (xs ys : List Int) (hx : xs.length = 16) (hy : ys.length = 16) :
    (Op.equalIn (d + 2) 29 (.agg (row xs)) (.agg (row ys))).run Try.prog w = .ok (xs == ys) w := by
  rw [← all_range_eqU xs ys (hx.trans hy.symm), hx, List.range_eq_range', Op.equalIn]
  simp only [Sem.run_bind, run_underlying Try.underlying29, Result.andThen_ok, Try.sizeOf28, Std.Legacy.Range.forIn_eq_forIn_range', Std.Legacy.Range.size, Nat.sub_zero, Nat.add_sub_cancel, Nat.div_one]
  have hl : ∀ i ∈ List.range' 0 16 1, i < 16 := fun i hi => by simpa using (List.mem_range'_1.1 hi).2
  generalize List.range' 0 16 1 = l at hl ⊢
  induction l with
  | nil => simp
  | cons i l ih =>
    have hi : i < 16 := hl i (by simp)
    have px : (part 28 (row xs) (i * 1)).run Try.prog w = .ok (U (xs.getD i 0)) w := by
      simp [part, isAgg, run_underlying Try.underlying28, row, List.getD, List.getElem?_eq_getElem (show i < xs.length by omega)]
    have py : (part 28 (row ys) (i * 1)).run Try.prog w = .ok (U (ys.getD i 0)) w := by
      simp [part, isAgg, run_underlying Try.underlying28, row, List.getD, List.getElem?_eq_getElem (show i < ys.length by omega)]
    have pe : (Op.equalIn (d + 1) 28 (U (xs.getD i 0)) (U (ys.getD i 0))).run Try.prog w = .ok (xs.getD i 0 == ys.getD i 0) w := by
      rw [U, U, run_equalIn_int w d 28 .u32 .u32 _ _ Try.underlying28]
    simp only [List.forIn_cons, Sem.run_bind, px, py, pe, Result.andThen_ok, List.all_cons]
    cases hb : (xs.getD i 0 == ys.getD i 0)
    · simp
    · simp only [Bool.not_true, Bool.false_eq_true, if_false, Sem.run_pure, Result.andThen_ok, Bool.true_and]
      exact ih fun j hj => hl j (by simp [hj])
theorem eqRk (k : Nat) (hk : 2 ≤ k) (w : World) (xs ys : List Int) (hx : xs.length = 16) (hy : ys.length = 16) : (Op.equalIn k 29 (.agg (row xs)) (.agg (row ys))).run Try.prog w = .ok (xs == ys) w := by
  obtain ⟨d, rfl⟩ : ∃ d, k = d + 2 := ⟨k - 2, by omega⟩
  exact eqR w d xs ys hx hy
theorem partR (w : World) (s : Sv) : (part 29 (sa s) 0).run Try.prog w = .ok (.agg (row s.r)) w := by
  have h : (sa s).extract 0 16 = row s.r := by
    apply Array.ext'
    simp [sa, sl, row]
    rw [List.take_append_of_le_length (by simp [s.hr]), List.take_of_length_le (by simp [s.hr])]
  have h29 := Try.isAgg29
  have hs := Try.sizeOf29
  simp [part, h29, hs, h]
theorem stoodS : Try.prog.stoodInHeld 31 = false := by kernel_rfl
theorem fieldsS : Try.prog.underlying 31 = some (.struct (Try.prog.fieldsOf 31)) := by kernel_rfl
theorem eqSk (k : Nat) (hk : 3 ≤ k) (x y : Sv) (w : World) : (Op.equalIn k 31 (.agg (sa x)) (.agg (sa y))).run Try.prog w = .ok (decide (x = y)) w := by
  obtain ⟨d, rfl⟩ : ∃ d, k = d + 1 := ⟨k - 1, by omega⟩
  rw [run_equalIn_agg w d 31 _ _ fieldsS stoodS]
  simp only [Program.fieldsOf, Try.underlying31]
  have p0 := partR w
  have p1 : ∀ n : Sv, (part 3 (sa n) 16).run Try.prog w = .ok (.int .i64 n.h) w := fun n => by
    obtain ⟨r0, r1, r2, r3, r4, r5, r6, r7, r8, r9, r10, r11, r12, r13, r14, r15, h, rfl⟩ := n.lit
    simp [part, isAgg, run_underlying Try.underlying3, sa, sl]
  have e0 := eqRk d (by omega) w x.r y.r x.hr y.hr
  have e1 := eqIk d (by omega) w 3 .i64 x.h y.h Try.underlying3
  simp [Op.eqFields, Sem.run_bind, p0, p1, e0, e1]
  have hx : (x = y) ↔ (x.r = y.r ∧ x.h = y.h) := ⟨fun h => by subst h; simp, fun ⟨h1, h2⟩ => Sv.ext h1 h2⟩
  by_cases h1 : x.r = y.r
  · by_cases h2 : x.h = y.h <;> simp [hx, h1, h2]
  · simp [hx, h1]
theorem eqS (x y : Sv) (w : World) : (binOp .eql 31 (.agg (sa x)) (.agg (sa y))).run Try.prog w = .ok (.bool (decide (x = y))) w := by
  rw [run_eql_struct, eqSk 10000 (by omega) x y w]
  rfl
theorem neS (x y : Sv) (w : World) : (binOp .neq 31 (.agg (sa x)) (.agg (sa y))).run Try.prog w = .ok (.bool (!decide (x = y))) w := by
  rw [run_neq_struct, eqSk 10000 (by omega) x y w]
  rfl

/-- A scope that is left by gotos to one label, each of which goes on there and jumps no more. -/
theorem wp_mono {P : Program} {c : Code} {Q R : Exit → Act → World → Prop} {a : Act} {w : World} (h : c.wp P Q a w) (hi : ∀ e a w, Q e a w → R e a w) : c.wp P R a w := by
  intro b k cs
  obtain ⟨e, a₁, w₁, hq, harr⟩ := h b k cs
  exact ⟨e, a₁, w₁, hi _ _ _ hq, harr⟩
theorem wp_scope_tail {P : Program} {a : Act} {w : World} {Q : Exit → Act → World → Prop} {c rest : Code} (l : Nat) (hf : findLabel c l = some rest)
    (first : c.wp P (Exit.jump l (fun a w => rest.wp P (Exit.jump l (fun _ _ => False) Q) a w) Q) a w) : (Code.scope c).wp P Q a w :=
  wp_scope_jumps l (fun a w => rest.wp P (Exit.jump l (fun _ _ => False) Q) a w) (fun _ _ => 0) hf first fun a w h => wp_mono h fun e a w hq => by
    cases e with
    | goto l' => exact hq.2.elim
    | _ => exact hq
end Go.Proofs.Ytkpgajegmomihaa.de
