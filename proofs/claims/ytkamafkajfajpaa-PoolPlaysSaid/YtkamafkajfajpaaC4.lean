/-
  Who goes over a pool of ints is told places and things, in order, until a round says 'no more': contracts. No condition but the bounds that each theorem names.
-/
import Derived.Test.YtkamafkajfajpaaC3
import Derived.RangeFuncBox
import Derived.RangeFuncLeaves
import Derived.RangeFuncBound
import Derived.Shelf.Abstract
import Derived.OwnWalkIn
import Derived.TacticsInMore
import Derived.LoopNIn
import Derived.LoopIn
namespace Go.Proofs.Ytkamafkajfajpaa.pp
open Go Go.RowKit Go.Shelf
set_option linter.unusedVariables false
attribute [local go_sem] Oper.semAt_some

/-- The block that the slice v lies in is as it was. -/
def Same (v : Value) (A B : World) : Prop := ∀ k, v.ownBlock = some k → B.heap[k]? = A.heap[k]?
theorem Same.refl (v : Value) (A : World) : Same v A A := fun _ _ => rfl
theorem Same.trans {v : Value} {A B C : World} (h : Same v A B) (k : Same v B C) : Same v A C := fun i hi => (k i hi).trans (h i hi)
theorem Same.put {v : Value} {w : World} (hv : ∀ k, v.ownBlock = some k → k < w.heap.size) (W : World) (l : Nat) (o o' : Obj) (hl : w.heap.size ≤ l) (h : W.heap[l]? = some o) (_ : o.isCells = false) (_ : o.isWalk = false) : Same v W (W.putObj l o') :=
  fun k hk => World.putObj_heap_other (by have := hv k hk; omega)

theorem take_snoc {α : Type} (l : List α) (k : Nat) (x : α) (h : l[k]? = some x) : l.take (k + 1) = l.take k ++ [x] := by
  rw [List.take_add_one, h]; rfl

def enc (p : Int × Nat) : Array Value := #[.int .i64 (p.2 : Int), .int .i64 p.1]

set_option maxRecDepth 100000 in
set_option maxHeartbeats 1000000 in
theorem all1_in (n : Nat) (hn : 1 ≤ n) (l Bn b : Nat) (v : Value) (xs : List Int) (J Jx : List (Int × Nat) → World → Prop) (hl : xs.length ≤ 65536)
    (hY : ∀ (pre : List (Int × Nat)) (x : Int × Nat) W, J pre W → pre.length < xs.length → YieldAt Fence.wide (n - 1) Try.prog l (enc x) W fun e W' =>
      (e = .returned (.bool true) ∧ J (pre ++ [x]) W' ∧ Same v W W') ∨ (e = .returned (.bool false) ∧ Jx (pre ++ [x]) W'))
    (W : World) (hBn : W.cell? ⟨Bn, 0, none⟩ = some (.pointer (some ⟨b, 0, none⟩))) (hb : W.cell? ⟨b, 0, none⟩ = some v) (hs : Sl W 3 v (xs.map I)) (h0 : J [] W) :
    CallsIn Fence.wide n Try.prog 32 #[.func (.yield l) #[] #[], .pointer (some ⟨Bn, 0, none⟩)] W fun e W' => (∃ v, e = .returned v) ∧
      ((∃ ys, ys = xs.zipIdx ∧ J ys W') ∨ (∃ pre, pre <+: xs.zipIdx ∧ Jx pre W')) := by
  obtain ⟨ad, cap, hv⟩ := hs.form
  rw [List.length_map] at hv
  obtain ⟨q, hq⟩ : ∃ q, q = xs.length := ⟨_, rfl⟩
  rw [← hq] at hv hl hY
  have HQ := Lib.hid hq
  have HS := Lib.hid hs
  clear hq hs
  subst hv
  refine callsIn_of_wp Try.func32 rfl trivial ?_ rfl
  simp only [Try.ntmps32, List.size_toArray, List.length_cons, List.length_nil, Nat.reduceAdd, Nat.reduceSub, Array.replicate_succ, Array.replicate_zero, List.push_toArray, List.append_toArray, List.nil_append, List.cons_append]
  gi_wp2
  gi_loopw [12] (fun i wr => ∃ (k : Nat), k ≤ q ∧ i = .int .i64 (k : Int) ∧ Sl wr 3 (.slice ad q cap) (xs.map I) ∧ J (xs.zipIdx.take k) wr)
    (fun i _ => q - (intOf i).toNat)
  case atStart =>
    exact ⟨0, Nat.zero_le _, rfl, HS.out, h0⟩
  case round =>
    obtain ⟨k, hk, rfl, hsr, hJ⟩ := hrel
    by_cases hlt : k < q
    · obtain ⟨x, hx⟩ : ∃ x, xs[k]? = some x := ⟨_, List.getElem?_eq_getElem (by have := HQ.out; omega)⟩
      obtain ⟨g, off, rfl, hcell⟩ := hsr.cellAt k (I x) (by simp [hx])
      have hz : xs.zipIdx[k]? = some (x, k) := by simp [List.getElem?_zipIdx, hx]
      obtain ⟨fn, tmps, assign, body, hy, hR⟩ := hY (xs.zipIdx.take k) (x, k) wr hJ (by rw [List.length_take]; omega)
      have HZ := Lib.hid (take_snoc xs.zipIdx k (x, k) hz)
      have HSR := Lib.hid hsr
      unfold I at hcell
      unfold enc at hy
      clear hx hz hsr hY
      gi_wp2
      refine hR.mono ?_
      rintro e W3 (⟨rfl, hJ3, hk3⟩ | ⟨rfl, hJx3⟩)
      · have HS3 := Lib.hid (HSR.out.of_block hk3)
        gi_wp2
        go_roundw
        case rel => exact ⟨k + 1, by omega, by go_num, HS3.out, by rw [HZ.out]; exact hJ3⟩
        case measure => simp [intOf]; omega
      · gi_wp2
        refine bodyPost_ret (results_none rfl _ _ _) rfl ?_
        exact ⟨⟨_, rfl⟩, .inr ⟨_, by rw [← HZ.out]; exact List.take_prefix _ _, hJx3⟩⟩
    · have hkn : k = q := by omega
      subst hkn
      gi_wp2
      go_end0
      exact ⟨⟨_, rfl⟩, .inl ⟨_, by rw [List.take_of_length_le (by rw [List.length_zipIdx]; have := HQ.out; omega)], hJ⟩⟩

set_option maxHeartbeats 1000000 in
/-- All: the pool is boxed; the function value captures the box. -/
theorem all_in (n : Nat) (b : Nat) (w : World) :
    CallsIn Fence.wide n Try.prog 22 #[.pointer (some ⟨b, 0, none⟩)] w fun e w' => e = .returned (.func (.func 32) #[] #[.pointer (some ⟨w.heap.size, 0, none⟩)]) ∧ w' = w.alloc (.cells #[.pointer (some ⟨b, 0, none⟩)] 22) := by
  refine callsIn_of_wp Try.func22 rfl trivial ?_ rfl
  simp only [Try.ntmps22, List.size_toArray, List.length_cons, List.length_nil, Nat.reduceAdd, Nat.reduceSub, Array.replicate_succ, Array.replicate_zero, List.push_toArray, List.append_toArray, List.nil_append, List.cons_append]
  gi_wp2
  go_ret
  exact ⟨rfl, rfl⟩

theorem all_stops (n : Nat) (hn : 1 ≤ n) (Bn b : Nat) (v : Value) (room : Nat) (xs : List Int) (w : World) (hP : IPool w b v room xs) (hl : xs.length ≤ 65536) (hc : w.cell? ⟨Bn, 0, none⟩ = some (.pointer (some ⟨b, 0, none⟩))) :
    SeqStopsK Fence.wide n Try.prog 32 #[.pointer (some ⟨Bn, 0, none⟩)] enc (Same v) (fun ys => ys = xs.zipIdx) (fun pre => pre <+: xs.zipIdx) xs.length w := fun l J Jx W hW _ _ hY h0 =>
  all1_in n hn l Bn b v xs J Jx hl hY W ((hW.cell (p := ⟨Bn, 0, none⟩) (World.block_lt_of_cell? w _ hc)).trans hc) ((hW.cell (p := ⟨b, 0, none⟩) hP.lt).trans hP.cell0) (hP.sl.of_block fun g hg => hW.block g (hP.sl.lt g hg)) h0
end Go.Proofs.Ytkamafkajfajpaa.pp
