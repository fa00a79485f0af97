/-
  Who goes over a set is told its numbers, rising, until a round says 'no more'; List makes the row of them: contracts. No condition beyond that the set has 32 bits and that the library's table lies in its variable.
-/
import Derived.Test.YtplebmafdfciaaaDoorMaC2
import Derived.RangeFuncBox
import Derived.RangeFuncLeaves
import Derived.Shelf.Abstract
import Derived.OwnWalkIn
import Derived.TacticsInMore
import Derived.LoopNIn
import Derived.LoopIn
import Derived.Maps.AppendAt
namespace Go.Proofs.YtplebmafdfciaaaDoor.mm
open Go Go.RowKit Go.Shelf
set_option linter.unusedVariables false
attribute [local go_sem] Oper.semAt_some

theorem ones_nil {m : Nat} (h : m < 4294967296) (he : ones m = []) : m = 0 := by
  by_cases h0 : m = 0
  · exact h0
  · rw [(ones_cons m (by omega) h).1] at he; cases he

set_option maxRecDepth 100000 in
set_option maxHeartbeats 1000000 in
theorem all1_in (n : Nat) (hn : 1 ≤ n) (l Bn n₀ m : Nat) (hm : m < 4294967296) (J Jx : List Nat → World → Prop)
    (hY : ∀ (pre : List Nat) (x : Nat) W, J pre W → pre.length < (ones m).length → YieldAt Fence.wide (n - 1) Tryd.prog l #[.int .i64 (x : Int)] W fun e W' =>
      (e = .returned (.bool true) ∧ J (pre ++ [x]) W' ∧ Below n₀ W W') ∨ (e = .returned (.bool false) ∧ Jx (pre ++ [x]) W'))
    (W : World) (hn0 : 0 < n₀) (hBn : W.cell? ⟨Bn, 0, none⟩ = some (.int .u32 (m : Int))) (hT : Tab W) (h0 : J [] W) :
    CallsIn Fence.wide n Tryd.prog 37 #[.func (.yield l) #[] #[], .pointer (some ⟨Bn, 0, none⟩)] W fun e W' => (∃ v, e = .returned v) ∧
      ((∃ ys, ys = ones m ∧ J ys W') ∨ (∃ pre, pre <+: ones m ∧ Jx pre W')) := by
  refine callsIn_of_wp Tryd.func37 rfl trivial ?_ rfl
  simp only [Tryd.ntmps37, List.size_toArray, List.length_cons, List.length_nil, Nat.reduceAdd, Nat.reduceSub, Array.replicate_succ, Array.replicate_zero, List.push_toArray, List.append_toArray, List.nil_append, List.cons_append]
  have hT0 := Lib.hid hT
  clear hT
  gi_wp2
  gi_loopw [3] (fun p wr => ∃ (pre : List Nat) (r : Nat), r < 4294967296 ∧ p = .int .u32 (r : Int) ∧ ones m = pre ++ ones r ∧ Tab wr ∧ J pre wr)
    (fun p _ => (ones (intOf p).toNat).length)
  case atStart =>
    exact ⟨[], m, hm, rfl, rfl, hT0.out, h0⟩
  case round =>
    obtain ⟨pre, r, hr, rfl, hx, hTr, hJs⟩ := hrel
    by_cases hz : r = 0
    · subst hz
      gi_wp2
      go_end0
      exact ⟨⟨_, rfl⟩, .inl ⟨pre, by rw [hx, ones_zero]; simp, hJs⟩⟩
    · obtain ⟨hc, hk, hlt⟩ := ones_cons r (by omega) hr
      obtain ⟨fn, tmps, assign, body, hy, hR⟩ := hY pre (Lib.ctz 32 r) wr hJs (by rw [hx, hc]; simp)
      have hle := least_any r wr hr hTr
      unfold least at hle
      rw [if_neg hz] at hle
      have HL := Lib.hid hle
      have hne : ((r : Int) != 0) = true := by simp; omega
      obtain ⟨x, hxx⟩ : ∃ x, x = Lib.ctz 32 r := ⟨_, rfl⟩
      rw [← hxx] at hc hk HL hy hR
      obtain ⟨y, hyy⟩ : ∃ y, y = r &&& (r - 1) := ⟨_, rfl⟩
      rw [← hyy] at hc hlt
      have hand : bits .and .u32 (r : Int) ((r : Int) - 1) = (y : Int) := by
        have := u32_and_nat r (r - 1) hr (by omega)
        rw [← hyy, show ((r - 1 : Nat) : Int) = (r : Int) - 1 by omega] at this
        exact this
      have hr1 : 1 ≤ (r : Int) := by omega
      have HX := Lib.hid hx
      have HC := Lib.hid hc
      clear hx hc hyy hxx hle hz hY
      gi_wp2_with (refine ⟨trivial, ?_⟩; gi_at_call 38; refine (callsIn_wide.2 HL.out).mono ?_; rintro e w' ⟨rfl, rfl⟩)
      refine hR.mono ?_
      rintro e W3 (⟨rfl, hJ3, hk3⟩ | ⟨rfl, hJx3⟩)
      · have HT3 := Lib.hid (hTr.below hk3 hn0)
        clear hTr
        gi_wp2
        go_roundw
        case rel => exact ⟨pre ++ [x], y, hlt, rfl, by rw [HX.out, HC.out]; simp, HT3.out, hJ3⟩
        case measure => simp [intOf, HC.out]
      · gi_wp2
        refine bodyPost_ret (results_none rfl _ _ _) rfl ?_
        exact ⟨⟨_, rfl⟩, .inr ⟨pre ++ [x], ⟨ones y, by rw [HX.out, HC.out]; simp⟩, hJx3⟩⟩

set_option maxHeartbeats 1000000 in
/-- All: m is boxed; the function value captures the box. -/
theorem all_in (n m : Nat) (w : World) :
    CallsIn Fence.wide n Tryd.prog 34 #[.int .u32 (m : Int)] w fun e w' => e = .returned (.func (.func 37) #[] #[.pointer (some ⟨w.heap.size, 0, none⟩)]) ∧ w' = w.alloc (.cells #[.int .u32 (m : Int)] 23) := by
  refine callsIn_of_wp Tryd.func34 rfl trivial ?_ rfl
  simp only [Tryd.ntmps34, List.size_toArray, List.length_cons, List.length_nil, Nat.reduceAdd, Nat.reduceSub, Array.replicate_succ, Array.replicate_zero, List.push_toArray, List.append_toArray, List.nil_append, List.cons_append]
  gi_wp2
  go_ret
  exact ⟨rfl, rfl⟩

theorem all_stops (n : Nat) (hn : 1 ≤ n) (Bn n₀ m : Nat) (hm : m < 4294967296) (w : World) (hBn : Bn < w.heap.size) (hn0 : 0 < n₀)
    (hc : w.cell? ⟨Bn, 0, none⟩ = some (.int .u32 (m : Int))) (hT : Tab w) :
    SeqStopsK Fence.wide n Tryd.prog 37 #[.pointer (some ⟨Bn, 0, none⟩)] (fun x : Nat => #[Value.int .i64 (x : Int)]) (Below n₀) (fun ys => ys = ones m) (fun pre => pre <+: ones m) (ones m).length w := fun l J Jx W hW _ _ hY h0 =>
  all1_in n hn l Bn n₀ m hm J Jx hY W hn0 ((hW.cell (p := ⟨Bn, 0, none⟩) hBn).trans hc) (hT.below hW hT.lt) h0

theorem Tryd.info3 : (Tryd.prog.info? 3).map (fun i => (i.zero, i.size, i.bytes)) = some (some (.int .i64 0), 1, 8) := by kernel_rfl

def row (l : List Nat) : List Value := l.map fun x : Nat => Value.int .i64 (x : Int)
theorem row_snoc (l : List Nat) (x : Nat) : row (l ++ [x]) = row l ++ [.int .i64 (x : Int)] := by simp [row]
theorem row_len (l : List Nat) : (row l).length = l.length := by simp [row]

end Go.Proofs.YtplebmafdfciaaaDoor.mm
