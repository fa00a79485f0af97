/-
  A net and the document's net side by side; a call of a script in a variable: definitions and laws. No condition but what each theorem names.
-/
import Derived.Test.YtoemkhmbeiindaaDoorKb0
import Derived.Test.YtoemkhmbeiindaaDoorRc
namespace Go.Proofs.YtoemkhmbeiindaaDoor.tt
open Go Go.ChangeShapes Go.WideShapes Go.ChangeAt Go.RowKit Go.Shelf
set_option linter.unusedVariables false

structure Duo (w0 w : World) (t p : Nat) (c : Cfg) (r : Nat) (v : Value) (ns : List Nt) (h : Int) (q : Nat) (u : Value) (ms : List Nt) (g : Int) : Prop where
  own : Own w0 w t p c r v ns h
  ref : RNet w q c r u ms g
  new : w0.heap.size ≤ q
  apart : ∀ k, u.ownBlock = some k → some k ≠ v.ownBlock
section
variable {w0 w w' : World} {t p q r : Nat} {c : Cfg} {v v' u u' : Value} {ns ns' ms ms' : List Nt} {h h' g g' : Int}
theorem Duo.grown (D : Duo w0 w t p c r v ns h q u ms g) (hg : w.grownBy w' none) : Duo w0 w' t p c r v ns h q u ms g := ⟨D.own.grown hg, D.ref.grown hg, D.new, D.apart⟩
theorem Duo.qt (D : Duo w0 w t p c r v ns h q u ms g) : q ≠ t ∧ q ≠ p ∧ some q ≠ v.ownBlock := ⟨tyne D.ref.blk D.own.net.blk (by decide), tyne D.ref.blk D.own.net.pool.blk (by decide), fun e => by
  obtain ⟨cur, hc⟩ := D.own.net.pool.sl.type q e.symm
  exact tyne D.ref.blk hc (by decide) rfl⟩
theorem Duo.ref_turn (D : Duo w0 w t p c r v ns h q u ms g) (hT : NTurn w w' t p v v') : RNet w' q c r u ms g := by
  have hq := D.qt
  refine D.ref.of_block (hT.block q D.ref.lt hq.1 hq.2.1 hq.2.2) (fun k hk => ?_)
  obtain ⟨cur, hc⟩ := D.ref.sl.type k hk
  exact hT.block k (lt_of hc) (tyne hc D.own.net.blk (by decide)) (tyne hc D.own.net.pool.blk (by decide)) (D.apart k hk)
theorem Duo.turn (D : Duo w0 w t p c r v ns h q u ms g) (ho : Own w0 w' t p c r v' ns' h') (hT : NTurn w w' t p v v') : Duo w0 w' t p c r v' ns' h' q u ms g :=
  ⟨ho, D.ref_turn hT, D.new, fun k hk => hT.next.ne (D.ref.sl.lt k hk) (D.apart k hk)⟩
theorem Duo.turnR (D : Duo w0 w t p c r v ns h q u ms g) (hr : RNet w' q c r u' ms' g') (hg : w.grownBy w' (some q)) (hn : Next w w' u u') : Duo w0 w' t p c r v ns h q u' ms' g' := by
  have hq := D.qt
  refine ⟨D.own.beside hg (fun k e => by cases e; exact D.new) (fun e => hq.1 (Option.some.inj e).symm) (fun e => hq.2.1 (Option.some.inj e).symm) (fun k hk e => hq.2.2 (by rw [hk, Option.some.inj e])), hr, D.new, fun k hk => ?_⟩
  rcases hn with e | e
  · exact D.apart k (e ▸ hk)
  · intro e'
    have h1 := e k hk
    have h2 := D.own.net.pool.sl.lt k e'.symm
    omega
/-- A copy takes the net's place; from the net a note is taken. -/
theorem Duo.copy {w1 w2 : World} {t2 p2 : Nat} {v2 : Value} (D : Duo w0 w t p c r v ns h q u ms g) (ho : Own w w1 t2 p2 c r v2 ns h) (hT : NTurn w1 w2 t p v v') : Duo w0 w2 t2 p2 c r v2 ns h q u ms g := by
  have D1 := D.grown ho.old
  have hl : t < w.heap.size ∧ p < w.heap.size ∧ ∀ k, v.ownBlock = some k → k < w.heap.size := ⟨D.own.net.lt, D.own.net.pool.lt, D.own.net.pool.sl.lt⟩
  have h1 := ho.t
  have h2 := ho.p
  have hb : ∀ k, w.heap.size ≤ k → k < w1.heap.size → w2.heap[k]? = w1.heap[k]? := fun k hk hk' => hT.block k hk' (by omega) (by omega) (fun e => by have := hl.2.2 k e.symm; omega)
  have hg := hT.new D1.own.old D1.own.t D1.own.p D1.own.v
  refine ⟨⟨ho.net.of_block (hb t2 h1 ho.net.lt) (hb p2 h2 ho.net.pool.lt) (fun k hk => hb k (ho.v k hk) (ho.net.pool.sl.lt k hk)), hg.1, Nat.le_trans D.own.old.size h1, Nat.le_trans D.own.old.size h2, fun k hk => Nat.le_trans D.own.old.size (ho.v k hk)⟩, D1.ref_turn hT, D.new, fun k hk e => ?_⟩
  have h3 := ho.v k e.symm
  have h4 := D.ref.sl.lt k hk
  omega
theorem grown_row {k : Nat} {cs : Array Value} {ty : TypeId} (hr : w.heap[k]? = some (.cells cs ty (0, 0))) (hg : w.grownBy w' (some q)) (hne : k ≠ q) : w'.heap[k]? = some (.cells cs ty (0, 0)) := (hg.block k (lt_of hr) (fun e => hne (Option.some.inj e))).trans hr
theorem NTurn.row {k : Nat} {cs : Array Value} {ty : TypeId} (hT : NTurn w w' t p v v') (hr : w.heap[k]? = some (.cells cs ty (0, 0))) (hne : k ≠ t ∧ k ≠ p ∧ some k ≠ v.ownBlock) : w'.heap[k]? = some (.cells cs ty (0, 0)) := (hT.block k (lt_of hr) hne.1 hne.2.1 hne.2.2).trans hr
theorem row_set {k b : Nat} {cs ds : Array Value} {ty : TypeId} (hr : w.heap[k]? = some (.cells cs ty (0, 0))) (hne : k ≠ b) : (w.setRow b ds).heap[k]? = some (.cells cs ty (0, 0)) := (setRow_other _ _ _ _ hne).trans hr
/-- A store into a variable that is none of the two nets'. -/
theorem Duo.set {b : Nat} {cs : Array Value} (D : Duo w0 w t p c r v ns h q u ms g) (h0 : w0.heap.size ≤ b) (hb : b ≠ t ∧ b ≠ p ∧ some b ≠ v.ownBlock) (hq : b ≠ q) (hu : some b ≠ u.ownBlock) : Duo w0 (w.setRow b cs) t p c r v ns h q u ms g := by
  have hg : w.grownBy (w.setRow b cs) (some b) := ⟨rfl, rfl, rfl, by simp, fun k hk hn => setRow_other _ _ _ _ (fun e => hn (by rw [e]))⟩
  exact ⟨D.own.beside hg (fun k e => by cases e; exact h0) (fun e => hb.1 (Option.some.inj e).symm) (fun e => hb.2.1 (Option.some.inj e).symm) (fun k hk e => hb.2.2 (by rw [hk, Option.some.inj e])), D.ref.of_block (setRow_other _ _ _ _ (Ne.symm hq)) (fun k hk => setRow_other _ _ _ _ (fun e => hu (by rw [hk, e]))), D.new, D.apart⟩
end

/-- A call of a script as a value. -/
def oa (q : OpX) : Array Value := (opc q).toArray
theorem opc_len (q : OpX) : (opc q).length = 27 := by simp [opc, nt_len]
theorem infoO (q : OpX) : (Tryd.prog.info? 49).map (·.size) = some (opc q).length := by rw [opc_len]; kernel_rfl
theorem infoOa (q : OpX) : (Tryd.prog.info? 49).map (·.size) = some (oa q).size := by rw [show (oa q).size = 27 from by simp [oa, opc_len]]; kernel_rfl
theorem opc_one (q : OpX) : ∀ v ∈ opc q, v.oneCell' = true := by
  intro v hv
  simp only [opc, List.mem_cons] at hv
  rcases hv with rfl | rfl | rfl | hv
  · rfl
  · rfl
  · rfl
  · exact nt_one q.n v hv
section
variable {w : World} {ops : Array Oper} {rest : List Oper} {a : Act} {Q : Exit → Act → World → Prop} {dst : Option Tmp} {ty : TypeId} {pos : String} {after : Array Edge}
theorem load_op (q : OpX) (x : Tmp) (g o : Nat) (hx : a.eval (.tmp x) = .pointer (some ⟨g, o, none⟩)) (hg : w.rangeAt g o (opc q))
    (h : wpList Tryd.prog ops Q rest (a.put dst (.agg (oa q))) w) : wpList Tryd.prog ops Q (⟨dst, .load 49 (.tmp x), ty, pos, after, none⟩ :: rest) a w :=
  wpList_load_mid rfl 49 (.tmp x) rfl g o hx (opc q) _ hg Tryd.underlying49 rfl (infoO q) h
theorem store_op (q : OpX) (cs : Array Value) (x y : Tmp) (hx : a.eval (.tmp x) = .pointer (some ⟨w.heap.size, 0, none⟩)) (hy : a.eval (.tmp y) = .agg (oa q)) (hc : cs.size = 27)
    (h : wpList Tryd.prog ops Q rest (a.put dst undef) (w.alloc (.cells (oa q) 49))) : wpList Tryd.prog ops Q (⟨dst, .store 49 (.tmp x) (.tmp y), ty, pos, after, none⟩ :: rest) a (w.alloc (.cells cs 49)) := by
  refine wpList_store_row rfl 49 (.tmp x) (.tmp y) rfl w.heap.size (oa q) hx hy 49 _ (heap_alloc_new _ _) (infoOa q) (by rw [show (oa q).size = 27 from by simp [oa, opc_len], hc]) (all_oneCell_toArray (opc_one q)) ?_
  rw [World.setRow_alloc_new]; exact h
end
/-- The note of a call in its variable. -/
theorem op_note {w : World} {b : Nat} {q : OpX} (h : w.heap[b]? = some (.cells (oa q) 49 (0, 0))) : w.rangeAt b 3 (nt q.n) := fun j v hv => by
  rw [cell_of_row _ _ _ _ _ _ h, Nat.add_comm]
  simpa [oa, opc] using hv
theorem op_cell {w : World} {b : Nat} {q : OpX} (h : w.heap[b]? = some (.cells (oa q) 49 (0, 0))) : w.cell? ⟨b, 0, none⟩ = some (.int .i64 q.kind) ∧ w.cell? ⟨b, 1, none⟩ = some (.int .i64 q.i) ∧ w.cell? ⟨b, 2, none⟩ = some (.int .i64 q.j) :=
  ⟨(cell_of_row _ _ _ _ _ _ h).trans rfl, (cell_of_row _ _ _ _ _ _ h).trans rfl, (cell_of_row _ _ _ _ _ _ h).trans rfl⟩
/-- A load and a store of a note in a region that draws its order. -/
theorem namedLS : ∃ (t : TypeId) (m : Nat), Hid (Op.load 37 = Op.load t ∧ Op.store 37 = Op.store t) ∧ (∀ w, (isAgg t).run Tryd.prog w = .ok true w) ∧ (∀ w, (sizeOf t).run Tryd.prog w = .ok m w) ∧ (∀ n : Nt, (na n).size = m) ∧
    (∀ (g o : Nat) (n : Nt) (w : World), w.rangeAt g o (nt n) → (loadCellsFrom ⟨g, o, none⟩ 0 m #[]).run Tryd.prog w = .ok (na n) w) ∧
    (∀ (g : Nat) (n : Nt) (w : World), w.there g 0 24 → (storeCells ⟨g, 0, none⟩ (na n).toList 0).run Tryd.prog w = .ok () (w.setCells g 0 (nt n))) :=
  ⟨37, 24, Lib.hid ⟨rfl, rfl⟩, Tryd.isAgg37, Tryd.sizeOf37, na_size, fun g o n w h => by
    have := run_loadCells_list (P := Tryd.prog) w ⟨g, o, none⟩ (nt n) (fun j v hv => by rw [add_lit]; exact h j v hv)
    simpa [loadCells, nt_len, na] using this, fun g n w h => by
    have := run_storeCells_cells (P := Tryd.prog) g 0 (nt n) 0 w (fun j hj => by simpa using (h j (by rw [nt_len] at hj; exact hj)).1) (fun j hj => by simpa using (h j (by rw [nt_len] at hj; exact hj)).2) (nt_one n)
    simpa [na] using this⟩
theorem row_setCells {w : World} {b : Nat} {cs : Array Value} (n : Nt) (h : w.heap[b]? = some (.cells cs 37 (0, 0))) (hc : cs.size = 24) : (w.setCells b 0 (nt n)).heap[b]? = some (.cells (na n) 37 (0, 0)) := by
  obtain ⟨cur', h1, h2, h3, h4⟩ := heap_setCells b 37 (nt n) 0 w cs h (by rw [nt_len, hc]; omega)
  have : cur' = na n := by
    apply Array.ext_getElem?
    intro i
    by_cases hi : i < 24
    · obtain ⟨v, hv⟩ : ∃ v, (nt n)[i]? = some v := ⟨_, List.getElem?_eq_getElem (by rw [nt_len]; exact hi)⟩
      have := h4 i v hv
      rw [Nat.zero_add] at this
      rw [this]; simpa [na] using hv.symm
    · rw [Array.getElem?_eq_none (by omega), Array.getElem?_eq_none (by rw [na_size]; omega)]
  rw [h1, this]
theorem grown_cells (w : World) (b : Nat) (n : Nt) : w.grownBy (w.setCells b 0 (nt n)) (some b) := grown_setCells w b 0 (nt n)
theorem threez (w : World) (o : OpX) : ∃ w3, ((w.alloc (.cells (oa o) 49)).alloc (.cells (na zn) 37)).alloc (.cells (na zn) 37) = w3 ∧ w.grownBy w3 none ∧ w3.heap[w.heap.size]? = some (.cells (oa o) 49 (0, 0)) ∧ w3.heap[w.heap.size + 1]? = some (.cells (na zn) 37 (0, 0)) ∧ w3.heap[w.heap.size + 1 + 1]? = some (.cells (na zn) 37 (0, 0)) := by
  refine ⟨_, rfl, grown_alloc (grown_alloc (grown_alloc (grown_refl _ _) _) _) _, ?_, ?_, ?_⟩
  · exact (Below.heap_alloc _ _ _ (by simp; omega)).trans ((Below.heap_alloc _ _ _ (by simp)).trans (heap_alloc_new _ _))
  · have := heap_alloc_new (w.alloc (.cells (oa o) 49)) (.cells (na zn) 37)
    rw [World.size_alloc] at this
    exact (Below.heap_alloc _ _ _ (by simp)).trans this
  · have := heap_alloc_new ((w.alloc (.cells (oa o) 49)).alloc (.cells (na zn) 37)) (.cells (na zn) 37)
    rwa [World.size_alloc, World.size_alloc] at this
end Go.Proofs.YtoemkhmbeiindaaDoor.tt
