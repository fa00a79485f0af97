/-
  A script's call in a variable; the state of a law's round. Conditions: as NlA names them.
-/
import Derived.Test.YtinogiidiommkaaGreatDoorNlS
import Derived.Test.YtinogiidiommkaaGreatDoorNlT
namespace Go.Proofs.YtinogiidiommkaaGreatDoor.nl
open Go Go.ChangeShapes Go.WideShapes Go.ChangeAt Go.RowKit Go.Shelf
open Go.Proofs.YtinogiidiommkaaGreatDoor.nr
open Go.Proofs.YtinogiidiommkaaGreatDoor.tt (OpX opc OpsAt cfg_at CfgAt Cfg Nt na nt zn bare zd fits row tyne lt_of U Tab TabK grown_refl grown_trans grown_alloc grown_setCells grown_drew grown_drewN yes Sl Next flat)
open Go.Proofs.YtinogiidiommkaaGreatDoor.kk (Ln St zl la ln cfind cdrop cuse cgoes cwrite cturn cput setAt setOf live fF Shp Cac Kept)
open Go.Proofs.YtinogiidiommkaaGreatDoor.bk (Bk rem kills puts putE fd fl Nd Rg dead fresh BkAt)
open Go.Proofs.YtinogiidiommkaaGreatDoor.mrk (Ms rdS wrS meets addE Dom MkAt)
open Go.Proofs.YtinogiidiommkaaGreatDoor.de (Dl sT gE rF aD LAt)
open Go.Proofs.YtinogiidiommkaaGreatDoor.oo (ref)
set_option linter.unusedVariables false
set_option maxRecDepth 1000000
set_option maxHeartbeats 4000000


def opa (q : OpX) : Array Value := (opc q).toArray
theorem opc_len (q : OpX) : (opc q).length = 29 := by simp [opc, tt.nt_len]
theorem opa_size (q : OpX) : (opa q).size = 29 := by simp [opa, opc_len]
theorem opc_one (q : OpX) : ∀ v ∈ opc q, v.oneCell' = true := by
  intro v hv
  simp only [opc, List.mem_cons] at hv
  rcases hv with rfl | rfl | rfl | rfl | rfl | hv
  · rfl
  · rfl
  · rfl
  · rfl
  · rfl
  · exact tt.nt_one q.n v hv
theorem infoOp : (Tryz.prog.info? 65).map (·.size) = some 29 := by kernel_rfl
abbrev oq (q : OpX) : Obj := .cells (opa q) 65
def opz : OpX := ⟨0, 0, 0, false, 0, zn⟩
theorem opz_na : opa opz = #[.int .i64 0, .int .i64 0, .int .i64 0, .bool false, .int .u32 0, .int .u8 0, .int .i64 0, .int .i64 0, .int .i64 0, .int .u64 0, .int .u8 0, .bool false, .bool false, .int .u32 0, .int .u32 0, .int .u32 0, .int .u32 0, .int .u32 0, .int .u32 0, .int .u32 0, .int .u32 0, .int .u32 0, .int .u32 0, .int .u32 0, .int .u32 0, .int .u32 0, .int .u32 0, .int .u32 0, .int .u32 0] := rfl
section
variable {w : World} {ops : Array Oper} {rest : List Oper} {a : Act} {Q : Exit → Act → World → Prop} {dst : Option Tmp} {ty : TypeId} {pos : String} {after : Array Edge}
theorem load_op (q : OpX) (x : Tmp) (g o : Nat) (hx : a.eval (.tmp x) = .pointer (some ⟨g, o, none⟩)) (hr : w.rangeAt g o (opc q)) (h : wpList Tryz.prog ops Q rest (a.put dst (.agg (opa q))) w) : wpList Tryz.prog ops Q (⟨dst, .load 65 (.tmp x), ty, pos, after, none⟩ :: rest) a w :=
  wpList_load_mid rfl 65 (.tmp x) rfl g o hx (opc q) _ hr Tryz.underlying65 rfl (by rw [opc_len]; exact infoOp) h
theorem store_op (q : OpX) (x y : Tmp) (g : Nat) (hx : a.eval (.tmp x) = .pointer (some ⟨g, 0, none⟩)) (hy : a.eval (.tmp y) = .agg (opa q)) (hg : ∃ c : Array Value, w.heap[g]? = some (.cells c 65 (0, 0)) ∧ c.size = 29) (h : wpList Tryz.prog ops Q rest (a.put dst undef) (w.setCells g 0 (opc q))) : wpList Tryz.prog ops Q (⟨dst, .store 65 (.tmp x) (.tmp y), ty, pos, after, none⟩ :: rest) a w := by
  obtain ⟨c, hb, hc⟩ := hg
  refine wpList_store_mid rfl 65 (.tmp x) (.tmp y) rfl g 0 (opa q) hx hy (by rw [opa_size]; exact there_at hb (by omega)) (by rw [opa_size]; exact infoOp) (all_oneCell_toArray (opc_one q)) ?_
  exact h
end
/-- The state of a round: the near; the call's variable; the notes' variables. -/
structure St (w W : World) (L : LL) (P : Pm) (k : Nr) (X : Nat) (q : OpX) (Ns : List (Nat × Nt)) : Prop where
  own : Own w W L P k
  bx : W.heap[X]? = some (oq q)
  ns : ∀ p ∈ Ns, W.heap[p.1]? = some (on p.2)
section
variable {w W W' : World} {L : LL} {P : Pm} {k k' : Nr} {X : Nat} {q : OpX} {Ns : List (Nat × Nt)} (s : St w W L P k X q Ns)
include s
theorem St.grown (hg : W.grownBy W' none) : St w W' L P k X q Ns := ⟨s.own.grown hg, (hg.block _ (lt_of s.bx) (by simp)).trans s.bx, fun p hp => (hg.block _ (lt_of (s.ns p hp)) (by simp)).trans (s.ns p hp)⟩
theorem St.far (o : Own w W' L P k') (f : Far L W W') : St w W' L P k' X q Ns := ⟨o, f.cs _ _ _ _ s.bx (by decide), fun p hp => f.cs _ _ _ _ (s.ns p hp) (by decide)⟩
theorem St.varN (n : Nt) : St w ((W.alloc (.cells (na zn) 37)).setRow W.heap.size (na n)) L P k X q ((W.heap.size, n) :: Ns) := by
  have hg : W.grownBy ((W.alloc (.cells (na zn) 37)).setRow W.heap.size (na n)) none := tt.grown_setRow (grown_alloc (grown_refl _ _) _) _ (Nat.le_refl _) _
  have s2 := s.grown hg
  refine ⟨s2.own, s2.bx, fun p hp => ?_⟩
  rcases List.mem_cons.1 hp with rfl | hp
  · exact setRow_heap _ _ _ _ _ _ (heap_alloc_new _ _)
  · exact s2.ns p hp
theorem St.cell (i : Nat) (v : Value) (hv : (opc q)[i]? = some v) : W.cell? ⟨X, i, none⟩ = some v := (cell_of_row _ _ _ _ _ _ s.bx).trans (by rw [opa, List.getElem?_toArray]; exact hv)
theorem St.cells : W.cell? ⟨X, 0, none⟩ = some (.int .i64 q.kd) ∧ W.cell? ⟨X, 1, none⟩ = some (.int .i64 q.b) ∧ W.cell? ⟨X, 2, none⟩ = some (.int .i64 q.w) ∧ W.cell? ⟨X, 3, none⟩ = some (.bool q.y) ∧ W.cell? ⟨X, 4, none⟩ = some (.int .u32 q.x) ∧ W.cell? ⟨X, 5, none⟩ = some (.int .u8 q.n.k) ∧ W.cell? ⟨X, 8, none⟩ = some (.int .i64 q.n.b) :=
  ⟨s.cell 0 _ rfl, s.cell 1 _ rfl, s.cell 2 _ rfl, s.cell 3 _ rfl, s.cell 4 _ rfl, s.cell 5 _ rfl, s.cell 8 _ rfl⟩
theorem St.note : W.rangeAt X 5 (nt q.n) := fun j v hv => s.cell (5 + j) v (by rw [opc, show 5 + j = j + 5 from Nat.add_comm _ _]; exact hv)
theorem St.rangeN {g : Nat} {n : Nt} (hm : (g, n) ∈ Ns) : W.rangeAt g 0 (nt n) := tt.range_of (s.ns _ hm)
theorem St.cellN {g : Nat} {n : Nt} (hm : (g, n) ∈ Ns) (i : Nat) (v : Value) (hv : (nt n)[i]? = some v) : W.cell? ⟨g, i, none⟩ = some v := tt.cell_at (s.rangeN hm) i v hv
end
theorem St.new {w W : World} {L : LL} {P : Pm} {k : Nr} (o : Own w W L P k) (q : OpX) : (∃ c : Array Value, (W.alloc (.cells (opa opz) 65)).heap[W.heap.size]? = some (.cells c 65 (0, 0)) ∧ c.size = 29) ∧ St w ((W.alloc (.cells (opa opz) 65)).setCells W.heap.size 0 (opc q)) L P k W.heap.size q [] := by
  have hg : W.grownBy ((W.alloc (.cells (opa opz) 65)).setCells W.heap.size 0 (opc q)) none := tt.grown_new (grown_alloc (grown_refl _ _) _) (Nat.le_refl _) (grown_setCells _ _ _ _)
  refine ⟨⟨_, heap_alloc_new _ _, opa_size _⟩, o.grown hg, ?_, by simp⟩
  have := filled (heap_alloc_new W (.cells (opa opz) 65)) (vs := opc q) (by rw [opc_len, opa_size])
  exact this
end Go.Proofs.YtinogiidiommkaaGreatDoor.nl
