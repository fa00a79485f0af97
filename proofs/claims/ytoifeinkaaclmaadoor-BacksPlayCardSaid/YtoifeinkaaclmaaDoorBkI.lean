/-
  Who goes over a pool of backs is told places and notes, in order, until a round says 'no more': contracts. No condition but the bounds that each theorem names.
-/
import Derived.Test.YtoifeinkaaclmaaDoorBkQ
import Derived.RangeFuncBox
import Derived.RangeFuncLeaves
import Derived.RangeFuncBound
import Derived.RangeFuncCalls
import Derived.Shelf.Abstract
import Derived.OwnWalkIn
import Derived.TacticsInMore
import Derived.LoopNIn
import Derived.LoopIn
namespace Go.Proofs.YtoifeinkaaclmaaDoor.bk
open Go Go.RowKit Go.Shelf
open Go.Proofs.YtoifeinkaaclmaaDoor.tt (U zd row tyne add_lit lt_of range_grown setCells_rest heap_setCells_other grown_setCells grown_setRow grown_new grown_drewN below_of grown_alloc grown_refl grown_trans grown_drew Sl run_append_sl append_sl step_append_sl tail_sl head_sl Pool Turn Next src_one src_one' flat flat_len flat_at flat_take flat_drop flat_append flat_one flat_single flat_erase heap_setCells)
set_option linter.unusedVariables false
attribute [local go_sem] Oper.semAt_some

/-- The block that the slice v lies in is as it was. -/
def Same (v : Value) (A B : World) : Prop := ∀ k, v.ownBlock = some k → B.heap[k]? = A.heap[k]?
theorem Same.refl (v : Value) (A : World) : Same v A A := fun _ _ => rfl
theorem Same.trans {v : Value} {A B C : World} (h : Same v A B) (k : Same v B C) : Same v A C := fun i hi => (k i hi).trans (h i hi)
theorem Same.put {v : Value} {w : World} (hv : ∀ k, v.ownBlock = some k → k < w.heap.size) (W : World) (l : Nat) (o o' : Obj) (hl : w.heap.size ≤ l) (h : W.heap[l]? = some o) (_ : o.isCells = false) (_ : o.isWalk = false) : Same v W (W.putObj l o') :=
  fun k hk => World.putObj_heap_other (by have := hv k hk; omega)
theorem Same.of_grown {v : Value} {A B : World} (hv : ∀ k, v.ownBlock = some k → k < A.heap.size) (h : A.grownBy B none) : Same v A B := fun k hk => h.block k (hv k hk) (by simp)

theorem take_snoc {α : Type} (l : List α) (k : Nat) (x : α) (h : l[k]? = some x) : l.take (k + 1) = l.take k ++ [x] := by
  rw [List.take_add_one, h]; rfl
theorem wide_fn (f : FuncId) : Fence.wide.fn f = True := rfl
attribute [local simp] wide_fn

section
variable {F : Fence} {n : Nat} {w : World} {ops : Array Oper} {rest : List Oper} {a : Act} {Q : Exit → Act → World → Prop} {dst : Option Tmp} {ty : TypeId} {pos : String} {after : Array Edge}
theorem load_baI (l : Bk) (x : Tmp) (g o : Nat) (hx : a.eval (.tmp x) = .pointer (some ⟨g, o, none⟩)) (hg : w.rangeAt g o (bt l))
    (h : wpListIn F n Tryd.prog ops Q rest (a.put dst (.agg (ba l))) w) : wpListIn F n Tryd.prog ops Q (⟨dst, .load 57 (.tmp x), ty, pos, after, none⟩ :: rest) a w := by
  refine wpListIn_plain rfl fun K hK' => ?_
  have hrun := run_loadAt_mid (P := Tryd.prog) w g o 57 (bt l) _ hg Tryd.underlying57 rfl (info31' l)
  unfold Oper.wpIn
  refine ⟨?_, ?_⟩
  · intro f hf; simp [Oper.about] at hf
  · rw [Oper.semAt_plain F _ _ (by intro c hc'; cases hc')]
    simp only [execOp, hx, Sem.run_bind, hrun, Result.andThen_ok, Sem.run_pure]
    exact hK' _ _ h
theorem store_newI (l : Bk) (A : Array Value) (hA : ba zb = A) (x y : Tmp) (hx : a.eval (.tmp x) = .pointer (some ⟨w.heap.size, 0, none⟩)) (hy : a.eval (.tmp y) = .agg (ba l))
    (h : wpListIn F n Tryd.prog ops Q rest (a.put dst undef) (w.alloc (.cells (ba l) 57))) : wpListIn F n Tryd.prog ops Q (⟨dst, .store 57 (.tmp x) (.tmp y), ty, pos, after, none⟩ :: rest) a (w.alloc (.cells A 57)) := by
  subst hA
  refine wpListIn_plain rfl fun K hK' => ?_
  have hrun := run_storeAt_new (P := Tryd.prog) w 57 (ba zb) (ba l) (info31a l) (by rw [ba_size, ba_size]) (ba_one l)
  unfold Oper.wpIn
  refine ⟨?_, ?_⟩
  · intro f hf; simp [Oper.about] at hf
  · rw [Oper.semAt_plain F _ _ (by intro c hc'; cases hc')]
    simp only [execOp, hx, hy, Sem.run_bind, hrun, Result.andThen_ok, Sem.run_pure]
    exact hK' _ _ h
end

def encB (p : Bk × Nat) : Array Value := #[.int .i64 (p.2 : Int), .agg (ba p.1)]

set_option maxRecDepth 1000000 in
set_option maxHeartbeats 4000000 in
theorem pall1_in (n : Nat) (hn : 1 ≤ n) (l Bn b B0 : Nat) (v : Value) (ns : List Bk) (J Jx : List (Bk × Nat) → World → Prop) (hl : ns.length ≤ 65536) (hA : AbidesFrom B0 J)
    (hY : ∀ (pre : List (Bk × Nat)) (x : Bk × Nat) W, J pre W → pre.length < ns.length → YieldAt Fence.wide (n - 1) Tryd.prog l (encB x) W fun e W' =>
      (e = .returned (.bool true) ∧ J (pre ++ [x]) W' ∧ Same v W W') ∨ (e = .returned (.bool false) ∧ Jx (pre ++ [x]) W'))
    (W : World) (hBn : W.cell? ⟨Bn, 0, none⟩ = some (.pointer (some ⟨b, 0, none⟩))) (hb : W.cell? ⟨b, 0, none⟩ = some v) (hs : BSl W v ns) (h0 : J [] W) :
    CallsIn Fence.wide n Tryd.prog 47 #[.func (.yield l) #[] #[], .pointer (some ⟨Bn, 0, none⟩)] W fun e W' => (∃ v, e = .returned v) ∧
      ((∃ ys, ys = ns.zipIdx ∧ J ys W') ∨ (∃ pre, pre <+: ns.zipIdx ∧ Jx pre W')) := by
  obtain ⟨ad, cap, hv⟩ := hs.form
  obtain ⟨q, hq⟩ : ∃ q, q = ns.length := ⟨_, rfl⟩
  rw [← hq] at hv hl hY
  have HQ := Lib.hid hq
  have HS := Lib.hid hs
  have HJ : Hid (∀ s W W', J s W → W.grownBy W' none → J s W') := Lib.hid fun s W W' h1 h2 => hA s W W' none h1 h2 (fun r e => by cases e)
  have HV : Hid (∀ k, v.ownBlock = some k → k < W.heap.size) := Lib.hid hs.lt
  have HZ : Hid (ba zb = _) := Lib.hid (zb_ba)
  clear hq hs hA
  subst hv
  refine callsIn_of_wp Tryd.func47 rfl trivial ?_ rfl
  simp only [Tryd.ntmps47, List.size_toArray, List.length_cons, List.length_nil, Nat.reduceAdd, Nat.reduceSub, Array.replicate_succ, Array.replicate_zero, List.push_toArray, List.append_toArray, List.nil_append, List.cons_append]
  gi_wp2
  gi_loopw [12] (fun i wr => ∃ (k : Nat), k ≤ q ∧ i = .int .i64 (k : Int) ∧ BSl wr (.slice ad q cap) ns ∧ J (ns.zipIdx.take k) wr)
    (fun i _ => q - (intOf i).toNat)
  case atStart =>
    exact ⟨0, Nat.zero_le _, rfl, HS.out, h0⟩
  case round =>
    obtain ⟨k, hk, rfl, hsr, hJ⟩ := hrel
    by_cases hlt : k < q
    · obtain ⟨x, hx⟩ : ∃ x, ns[k]? = some x := ⟨_, List.getElem?_eq_getElem (by have := HQ.out; omega)⟩
      obtain ⟨g, off, rfl, hqq, hr⟩ := bsl_at hsr k x hx
      clear hqq
      have hz : ns.zipIdx[k]? = some (x, k) := by simp [List.getElem?_zipIdx, hx]
      have hg1 : wr.grownBy (wr.alloc (.cells (ba x) 57)) none := grown_alloc (grown_refl _ _) _
      obtain ⟨fn, tmps, assign, body, hy, hR⟩ := hY (ns.zipIdx.take k) (x, k) _ (HJ.out _ _ _ hJ hg1) (by rw [List.length_take]; omega)
      have HZ2 := Lib.hid (take_snoc ns.zipIdx k (x, k) hz)
      have HSR := Lib.hid (hsr.grown hg1)
      have HRX := Lib.hid hr
      have HN : Hid ((wr.alloc (.cells (ba x) 57)).rangeAt wr.heap.size 0 (bt x)) := Lib.hid (range_of (heap_alloc_new _ _))
      unfold encB at hy
      dsimp only at hy
      clear hx hz hsr hY hr hg1
      gi_wp2_with (first
        | ((with_reducible refine load_baI x _ g (off + k * 18) ?_ HRX.out ?_); (rfl))
        | ((with_reducible refine store_newI x _ HZ.out _ _ ?_ ?_ ?_); (rfl); (rfl))
        | ((with_reducible refine load_baI x _ wr.heap.size 0 ?_ HN.out ?_); (rfl)))
      refine hR.mono ?_
      rintro e W3 (⟨rfl, hJ3, hk3⟩ | ⟨rfl, hJx3⟩)
      · have HS3 := Lib.hid (HSR.out.of_block hk3)
        gi_wp2
        go_roundw
        case rel => exact ⟨k + 1, by omega, by go_num, HS3.out, by rw [HZ2.out]; exact hJ3⟩
        case measure => simp [intOf]; omega
      · gi_wp2
        refine bodyPost_ret (results_none rfl _ _ _) rfl ?_
        exact ⟨⟨_, rfl⟩, .inr ⟨_, by rw [← HZ2.out]; exact List.take_prefix _ _, hJx3⟩⟩
    · have hkn : k = q := by omega
      subst hkn
      gi_wp2
      go_end0
      exact ⟨⟨_, rfl⟩, .inl ⟨_, by rw [List.take_of_length_le (by rw [List.length_zipIdx]; have := HQ.out; omega)], hJ⟩⟩

set_option maxHeartbeats 1000000 in
/-- All: the pool is boxed; the function value captures the box. -/
theorem pall_in (n : Nat) (b : Nat) (w : World) :
    CallsIn Fence.wide n Tryd.prog 45 #[.pointer (some ⟨b, 0, none⟩)] w fun e w' => e = .returned (.func (.func 47) #[] #[.pointer (some ⟨w.heap.size, 0, none⟩)]) ∧ w' = w.alloc (.cells #[.pointer (some ⟨b, 0, none⟩)] 53) := by
  refine callsIn_of_wp Tryd.func45 rfl trivial ?_ rfl
  simp only [Tryd.ntmps45, List.size_toArray, List.length_cons, List.length_nil, Nat.reduceAdd, Nat.reduceSub, Array.replicate_succ, Array.replicate_zero, List.push_toArray, List.append_toArray, List.nil_append, List.cons_append]
  gi_wp2
  go_ret
  exact ⟨rfl, rfl⟩

theorem pall_stops (n : Nat) (hn : 1 ≤ n) (Bn b : Nat) (v : Value) (room : Nat) (ns : List Bk) (w : World) (hP : BPool w b v room ns) (hl : ns.length ≤ 65536) (hc : w.cell? ⟨Bn, 0, none⟩ = some (.pointer (some ⟨b, 0, none⟩))) :
    SeqStopsK Fence.wide n Tryd.prog 47 #[.pointer (some ⟨Bn, 0, none⟩)] encB (Same v) (fun ys => ys = ns.zipIdx) (fun pre => pre <+: ns.zipIdx) ns.length w := fun l J Jx W hW hJ _ hY h0 =>
  pall1_in n hn l Bn b W.heap.size v ns J Jx hl hJ hY W ((hW.cell (p := ⟨Bn, 0, none⟩) (World.block_lt_of_cell? w _ hc)).trans hc) ((hW.cell (p := ⟨b, 0, none⟩) hP.lt).trans hP.cell0) (hP.sl.of_block fun g hg => hW.block g (hP.sl.lt g hg)) h0
end Go.Proofs.YtoifeinkaaclmaaDoor.bk
