/-
  Registers: sixteen words as a row of cells; two rows held against each other; one that is put, one that is got: contracts. No condition but the bounds that each theorem names.
-/
import Derived.Test.YtmfckkioccmblaaDoorCdB
namespace Go.Proofs.YtmfckkioccmblaaDoor.sg
open Go Go.ChangeShapes Go.WideShapes Go.ChangeAt Go.RowKit Go.Proofs.YtmfckkioccmblaaDoor.cd
set_option linter.unusedVariables false
set_option maxRecDepth 1000000

/-- A word, and the registers' cells. -/
def U (x : Int) : Value := .int .u32 x
def row (x : List Int) : Array Value := (x.map U).toArray
def zero : List Int := List.replicate 16 0
theorem row_size (x : List Int) : (row x).size = x.length := by simp [row]
theorem row_get (x : List Int) (k : Nat) : (row x)[k]? = (x[k]?).map U := by simp [row]
theorem row_set (x : List Int) (k : Nat) (y : Int) : (row x).setIfInBounds k (U y) = row (x.set k y) := by simp [row]
theorem row_one (x : List Int) : (row x).all (·.oneCell') = true := by
  simp [row, U, Value.oneCell']
theorem zero_size : zero.length = 16 := rfl
theorem infoR : (Tryd.prog.info? 23).map (·.size) = some 16 := by kernel_rfl
theorem infoR' (x : List Int) (h : x.length = 16) : (Tryd.prog.info? 23).map (·.size) = some (row x).size := by rw [row_size, h]; exact infoR

theorem all_range_eqU : ∀ (xs ys : List Int), xs.length = ys.length → ((List.range xs.length).all fun i => xs.getD i 0 == ys.getD i 0) = (xs == ys)
  | [], [], _ => rfl
  | x :: xs, y :: ys, h => by
    have ih := all_range_eqU xs ys (by simpa using h)
    rw [List.length_cons, List.range_succ_eq_map, List.all_cons, List.all_map]
    simp only [List.getD_cons_zero, Function.comp_def, List.getD_cons_succ, ih]
    simp [List.cons_beq_cons]
  | [], _ :: _, h => by simp at h
  | _ :: _, [], h => by simp at h
theorem eqR (w : World) (d : Nat) (xs ys : List Int) (hx : xs.length = 16) (hy : ys.length = 16) :
    (Op.equalIn (d + 2) 23 (.agg (row xs)) (.agg (row ys))).run Tryd.prog w = .ok (xs == ys) w := by
  rw [← all_range_eqU xs ys (hx.trans hy.symm), hx, List.range_eq_range', Op.equalIn]
  simp only [Sem.run_bind, run_underlying Tryd.underlying23, Result.andThen_ok, Tryd.sizeOf22, Std.Legacy.Range.forIn_eq_forIn_range', Std.Legacy.Range.size, Nat.sub_zero, Nat.add_sub_cancel, Nat.div_one]
  have hl : ∀ i ∈ List.range' 0 16 1, i < 16 := fun i hi => by simpa using (List.mem_range'_1.1 hi).2
  generalize List.range' 0 16 1 = l at hl ⊢
  induction l with
  | nil => simp
  | cons i l ih =>
    have hi : i < 16 := hl i (by simp)
    have px : (part 22 (row xs) (i * 1)).run Tryd.prog w = .ok (U (xs.getD i 0)) w := by
      simp [part, isAgg, run_underlying Tryd.underlying22, row, List.getD, List.getElem?_eq_getElem (show i < xs.length by omega)]
    have py : (part 22 (row ys) (i * 1)).run Tryd.prog w = .ok (U (ys.getD i 0)) w := by
      simp [part, isAgg, run_underlying Tryd.underlying22, row, List.getD, List.getElem?_eq_getElem (show i < ys.length by omega)]
    have pe : (Op.equalIn (d + 1) 22 (U (xs.getD i 0)) (U (ys.getD i 0))).run Tryd.prog w = .ok (xs.getD i 0 == ys.getD i 0) w := by
      rw [U, U, run_equalIn_int w d 22 .u32 .u32 _ _ Tryd.underlying22]
    simp only [List.forIn_cons, Sem.run_bind, px, py, pe, Result.andThen_ok, List.all_cons]
    cases hb : (xs.getD i 0 == ys.getD i 0)
    · simp
    · simp only [Bool.not_true, Bool.false_eq_true, if_false, Sem.run_pure, Result.andThen_ok, Bool.true_and]
      exact ih fun j hj => hl j (by simp [hj])
theorem neR (w : World) (x y : List Int) (hx : x.length = 16) (hy : y.length = 16) : (binOp .neq 23 (.agg (row x)) (.agg (row y))).run Tryd.prog w = .ok (.bool (!(x == y))) w := by
  rw [run_neq_struct, eqR w 9998 x y hx hy]
  rfl
theorem eqRe (w : World) (x y : List Int) (hx : x.length = 16) (hy : y.length = 16) : (binOp .eql 23 (.agg (row x)) (.agg (row y))).run Tryd.prog w = .ok (.bool (x == y)) w := by
  rw [run_eql_struct, eqR w 9998 x y hx hy]
  rfl

section
variable {w : World} {ops : Array Oper} {rest : List Oper} {a : Act} {Q : Exit → Act → World → Prop} {dst : Option Tmp} {ty : TypeId} {pos : String} {after : Array Edge}

/-- Registers into the variable that was made last. -/
theorem store_new (c : List Int) (x y : Tmp) (hx : a.eval (.tmp x) = .pointer (some ⟨w.heap.size, 0, none⟩)) (hy : a.eval (.tmp y) = .agg (row c)) (hc : c.length = 16)
    (h : wpList Tryd.prog ops Q rest (a.put dst undef) (w.alloc (.cells (row c) 23))) : wpList Tryd.prog ops Q (⟨dst, .store 23 (.tmp x) (.tmp y), ty, pos, after, none⟩ :: rest) a (w.alloc (.cells (row zero) 23)) := by
  refine wpList_store_row rfl 23 (.tmp x) (.tmp y) rfl w.heap.size (row c) hx hy 23 _ (heap_alloc_new _ _) (infoR' _ hc) (by rw [row_size, row_size, hc]; rfl) (row_one c) ?_
  rw [World.setRow_alloc_new]; exact h
theorem store_new' (c : List Int) (x y : Tmp) (hx : a.eval (.tmp x) = .pointer (some ⟨w.heap.size, 0, none⟩)) (hy : a.eval (.tmp y) = .agg (row c)) (hc : c.length = 16)
    (h : wpList Tryd.prog ops Q rest (a.put dst undef) (w.alloc (.cells (row c) 23))) : wpList Tryd.prog ops Q (⟨dst, .store 23 (.tmp x) (.tmp y), ty, pos, after, none⟩ :: rest) a (w.alloc (.cells #[.int .u32 0, .int .u32 0, .int .u32 0, .int .u32 0, .int .u32 0, .int .u32 0, .int .u32 0, .int .u32 0, .int .u32 0, .int .u32 0, .int .u32 0, .int .u32 0, .int .u32 0, .int .u32 0, .int .u32 0, .int .u32 0] 23)) :=
  store_new c x y hx hy hc h
/-- Registers into any variable. -/
theorem store_any (c c' : List Int) (x y : Tmp) (g : Nat) (hx : a.eval (.tmp x) = .pointer (some ⟨g, 0, none⟩)) (hy : a.eval (.tmp y) = .agg (row c)) (hc : c.length = 16)
    (hg : w.heap[g]? = some (.cells (row c') 23 (0, 0))) (hc' : c'.length = 16)
    (h : wpList Tryd.prog ops Q rest (a.put dst undef) (w.setRow g (row c))) : wpList Tryd.prog ops Q (⟨dst, .store 23 (.tmp x) (.tmp y), ty, pos, after, none⟩ :: rest) a w :=
  wpList_store_row rfl 23 (.tmp x) (.tmp y) rfl g (row c) hx hy 23 _ hg (infoR' _ hc) (by rw [row_size, row_size, hc, hc']) (row_one c) h
/-- Registers out of a variable. -/
theorem load_any (c : List Int) (x : Tmp) (g : Nat) (hx : a.eval (.tmp x) = .pointer (some ⟨g, 0, none⟩)) (hg : w.heap[g]? = some (.cells (row c) 23 (0, 0))) (hc : c.length = 16)
    (h : wpList Tryd.prog ops Q rest (a.put dst (.agg (row c))) w) : wpList Tryd.prog ops Q (⟨dst, .load 23 (.tmp x), ty, pos, after, none⟩ :: rest) a w :=
  wpList_load_row rfl 23 (.tmp x) rfl g hx 23 (row c) (0, 0) _ hg Tryd.underlying23 rfl (infoR' _ hc) h
end

/-- A function whose one result is a variable of registers. -/
theorem retR {fn : Func} {p : Tmp} (h : fn.results = #[.cell p 23]) {tmps : Array Value} {w : World} {g : Nat} {t : TypeId} {x : List Int} {fr : Nat × Nat} {Q : Ending → World → Prop}
    (hx : x.length = 16) (hp : tmps.getD p undef = .pointer (some ⟨g, 0, none⟩)) (hg : w.heap[g]? = some (.cells (row x) t fr)) (hQ : Q (.returned (.agg (row x))) w) : bodyPost Tryd.prog fn Q .ret { tmps := tmps, defers := [] } w :=
  bodyPost_ret (v := .agg (row x)) (results_cell_row h _ _ g t (row x) fr _ hp hg Tryd.underlying23 rfl (infoR' _ hx)) rfl hQ
/-- A function whose results are a variable of registers and two words. -/
theorem retR3 {fn : Func} {p u v : Tmp} (h : fn.results = #[.cell p 23, .tmp u, .tmp v]) {tmps : Array Value} {w : World} {g : Nat} {t : TypeId} {x : List Int} {y z : Value} {fr : Nat × Nat} {Q : Ending → World → Prop}
    (hx : x.length = 16) (hp : tmps.getD p undef = .pointer (some ⟨g, 0, none⟩)) (hu : tmps.getD u undef = y) (hv : tmps.getD v undef = z) (hg : w.heap[g]? = some (.cells (row x) t fr)) (hQ : Q (.returned (.tuple #[.agg (row x), y, z])) w) : bodyPost Tryd.prog fn Q .ret { tmps := tmps, defers := [] } w := by
  refine bodyPost_ret (v := .tuple #[.agg (row x), y, z]) ?_ rfl hQ
  have hl := run_loadVar_row (P := Tryd.prog) w g t 23 (row x) fr _ hg Tryd.underlying23 rfl (infoR' _ hx)
  have hp' : tmps[p]?.getD undef = .pointer (some ⟨g, 0, none⟩) := by simpa using hp
  have hu' : tmps[u]?.getD undef = y := by simpa using hu
  have hv' : tmps[v]?.getD undef = z := by simpa using hv
  simp [results, h, hp', hu', hv', asAddr, hl]

/-- One register; the registers with another one. -/
def gt (x : List Int) (n : Int) : Int := if 0 < n ∧ n < 16 then x.getD n.toNat 0 else 0
def pt (x : List Int) (n v : Int) : List Int := if 0 < n ∧ n < 16 then x.set n.toNat v else x
theorem pt_len {x : List Int} (h : x.length = 16) (n v : Int) : (pt x n v).length = 16 := by unfold pt; split <;> simp [h]
/-- Words: numbers from 0 to 2^32 - 1. -/
def Wd (x : List Int) : Prop := ∀ v ∈ x, 0 ≤ v ∧ v < 4294967296
theorem Wd.at {x : List Int} (h : Wd x) (k : Nat) : 0 ≤ x.getD k 0 ∧ x.getD k 0 < 4294967296 := by
  rw [List.getD_eq_getElem?_getD]
  cases hk : x[k]? with
  | none => simp
  | some v => exact h v (List.mem_of_getElem? hk)
theorem Wd.gt {x : List Int} (h : Wd x) (n : Int) : 0 ≤ gt x n ∧ gt x n < 4294967296 := by
  unfold sg.gt; split
  · exact h.at _
  · omega
theorem Wd.set {x : List Int} (h : Wd x) (k : Nat) {v : Int} (h0 : 0 ≤ v) (h1 : v < 4294967296) : Wd (x.set k v) := fun y hy => by
  rcases List.mem_or_eq_of_mem_set hy with hy | rfl
  · exact h y hy
  · exact ⟨h0, h1⟩
theorem cellR {w : World} {g : Nat} {x : List Int} {t : TypeId} {fr : Nat × Nat} (h : w.heap[g]? = some (.cells (row x) t fr)) {k : Nat} (hk : k < x.length) : w.cell? ⟨g, k, none⟩ = some (.int .u32 (x.getD k 0)) := by
  rw [cell_of_row _ _ k _ _ _ h, row_get, List.getElem?_eq_getElem hk]
  simp [U, List.getD_eq_getElem?_getD, List.getElem?_eq_getElem hk]

theorem get_any (x : List Int) (hx : x.length = 16) (n : Int) (w : World) : Calls Tryd.prog 15 #[.agg (row x), .int .i64 n] w fun e w' => e = .returned (.int .u32 (gt x n)) ∧ w.grownBy w' none := by
  have HG : Hid (w.grownBy (w.alloc (.cells (row x) 23)) none) := Lib.hid (grown_alloc (grown_refl _ _) _)
  by_cases h0 : 0 < n
  · by_cases h1 : n < 16
    · rw [show gt x n = x.getD n.toNat 0 from if_pos ⟨h0, h1⟩]
      obtain ⟨k, rfl⟩ : ∃ k : Nat, n = (k : Int) := ⟨n.toNat, by omega⟩
      have hc := cellR (heap_alloc_new w (.cells (row x) 23)) (k := k) (by omega)
      simp only [Int.toNat_natCast]
      generalize x.getD k 0 = v at hc ⊢
      clear hx
      go_enter Tryd.func15, Tryd.ntmps15
      go_wp2
      go_ret
      exact ⟨rfl, HG.out⟩
    · rw [show gt x n = 0 from if_neg (fun h => h1 h.2)]
      go_enter Tryd.func15, Tryd.ntmps15
      go_wp2
      go_ret
      exact ⟨rfl, HG.out⟩
  · rw [show gt x n = 0 from if_neg (fun h => h0 h.1)]
    go_enter Tryd.func15, Tryd.ntmps15
    go_wp2
    go_ret
    exact ⟨rfl, HG.out⟩
theorem rget_any (x : List Int) (hx : x.length = 16) (n : Int) (w : World) : Calls Tryd.prog 16 #[.agg (row x), .int .i64 n] w fun e w' => e = .returned (.int .u32 (gt x n)) ∧ w.grownBy w' none := by
  have HG : Hid (w.grownBy (w.alloc (.cells (row x) 23)) none) := Lib.hid (grown_alloc (grown_refl _ _) _)
  by_cases h0 : 0 < n
  · by_cases h1 : n < 16
    · rw [show gt x n = x.getD n.toNat 0 from if_pos ⟨h0, h1⟩]
      obtain ⟨k, rfl⟩ : ∃ k : Nat, n = (k : Int) := ⟨n.toNat, by omega⟩
      have hc := cellR (heap_alloc_new w (.cells (row x) 23)) (k := k) (by omega)
      simp only [Int.toNat_natCast]
      generalize x.getD k 0 = v at hc ⊢
      clear hx
      go_enter Tryd.func16, Tryd.ntmps16
      go_wp2
      go_ret
      exact ⟨rfl, HG.out⟩
    · rw [show gt x n = 0 from if_neg (fun h => h1 h.2)]
      go_enter Tryd.func16, Tryd.ntmps16
      go_wp2
      go_ret
      exact ⟨rfl, HG.out⟩
  · rw [show gt x n = 0 from if_neg (fun h => h0 h.1)]
    go_enter Tryd.func16, Tryd.ntmps16
    go_wp2
    go_ret
    exact ⟨rfl, HG.out⟩
end Go.Proofs.YtmfckkioccmblaaDoor.sg
