/-
  Who goes over a set is told its numbers, rising, until a round says 'no more'; List makes the row of them: contracts. No condition beyond that the set has 32 bits and that the library's table lies in its variable.
-/
import Derived.Test.YtaoeebleapmgkaaDoorC2
import Derived.RangeFuncBox
import Derived.RangeFuncLeaves
import Derived.Shelf.Abstract
import Derived.OwnWalkIn
import Derived.TacticsInMore
import Derived.LoopNIn
import Derived.LoopIn
import Derived.Maps.AppendAt
namespace Go.Proofs.YtaoeebleapmgkaaDoor.mm
open Go Go.RowKit Go.Shelf
set_option linter.unusedVariables false
attribute [local go_sem] Oper.semAt_some

theorem ones_nil {m : Nat} (h : m < 4294967296) (he : ones m = []) : m = 0 := by
  by_cases h0 : m = 0
  · exact h0
  · rw [(ones_cons m (by omega) h).1] at he; cases he

set_option maxRecDepth 100000 in
set_option maxHeartbeats 1000000 in
theorem all1_in (n : Nat) (hn : 1 ≤ n) (l Bn n₀ m : Nat) (hm : m < 4294967296) (J Jx : List Nat → World → Prop)
    (hY : ∀ (pre : List Nat) (x : Nat) W, J pre W → pre.length < (ones m).length → YieldAt Fence.wide (n - 1) Tryd.prog l #[.int .i64 (x : Int)] W fun e W' =>
      (e = .returned (.bool true) ∧ J (pre ++ [x]) W' ∧ Below n₀ W W') ∨ (e = .returned (.bool false) ∧ Jx (pre ++ [x]) W'))
    (W : World) (hn0 : 0 < n₀) (hBn : W.cell? ⟨Bn, 0, none⟩ = some (.int .u32 (m : Int))) (hT : Tab W) (h0 : J [] W) :
    CallsIn Fence.wide n Tryd.prog 29 #[.func (.yield l) #[] #[], .pointer (some ⟨Bn, 0, none⟩)] W fun e W' => (∃ v, e = .returned v) ∧
      ((∃ ys, ys = ones m ∧ J ys W') ∨ (∃ pre, pre <+: ones m ∧ Jx pre W')) := by
  refine callsIn_of_wp Tryd.func29 rfl trivial ?_ rfl
  simp only [Tryd.ntmps29, List.size_toArray, List.length_cons, List.length_nil, Nat.reduceAdd, Nat.reduceSub, Array.replicate_succ, Array.replicate_zero, List.push_toArray, List.append_toArray, List.nil_append, List.cons_append]
  have hT0 := Lib.hid hT
  clear hT
  gi_wp2
  gi_loopw [3] (fun p wr => ∃ (pre : List Nat) (r : Nat), r < 4294967296 ∧ p = .int .u32 (r : Int) ∧ ones m = pre ++ ones r ∧ Tab wr ∧ J pre wr)
    (fun p _ => (ones (intOf p).toNat).length)
  case atStart =>
    exact ⟨[], m, hm, rfl, rfl, hT0.out, h0⟩
  case round =>
    obtain ⟨pre, r, hr, rfl, hx, hTr, hJs⟩ := hrel
    by_cases hz : r = 0
    · subst hz
      gi_wp2
      go_end0
      exact ⟨⟨_, rfl⟩, .inl ⟨pre, by rw [hx, ones_zero]; simp, hJs⟩⟩
    · obtain ⟨hc, hk, hlt⟩ := ones_cons r (by omega) hr
      obtain ⟨fn, tmps, assign, body, hy, hR⟩ := hY pre (Lib.ctz 32 r) wr hJs (by rw [hx, hc]; simp)
      have hle := least_any r wr hr hTr
      unfold least at hle
      rw [if_neg hz] at hle
      have HL := Lib.hid hle
      have hne : ((r : Int) != 0) = true := by simp; omega
      obtain ⟨x, hxx⟩ : ∃ x, x = Lib.ctz 32 r := ⟨_, rfl⟩
      rw [← hxx] at hc hk HL hy hR
      obtain ⟨y, hyy⟩ : ∃ y, y = r &&& (r - 1) := ⟨_, rfl⟩
      rw [← hyy] at hc hlt
      have hand : bits .and .u32 (r : Int) ((r : Int) - 1) = (y : Int) := by
        have := u32_and_nat r (r - 1) hr (by omega)
        rw [← hyy, show ((r - 1 : Nat) : Int) = (r : Int) - 1 by omega] at this
        exact this
      have hr1 : 1 ≤ (r : Int) := by omega
      have HX := Lib.hid hx
      have HC := Lib.hid hc
      clear hx hc hyy hxx hle hz hY
      gi_wp2_with (refine ⟨trivial, ?_⟩; gi_at_call 11; refine (callsIn_wide.2 HL.out).mono ?_; rintro e w' ⟨rfl, rfl⟩)
      refine hR.mono ?_
      rintro e W3 (⟨rfl, hJ3, hk3⟩ | ⟨rfl, hJx3⟩)
      · have HT3 := Lib.hid (hTr.below hk3 hn0)
        clear hTr
        gi_wp2
        go_roundw
        case rel => exact ⟨pre ++ [x], y, hlt, rfl, by rw [HX.out, HC.out]; simp, HT3.out, hJ3⟩
        case measure => simp [intOf, HC.out]
      · gi_wp2
        refine bodyPost_ret (results_none rfl _ _ _) rfl ?_
        exact ⟨⟨_, rfl⟩, .inr ⟨pre ++ [x], ⟨ones y, by rw [HX.out, HC.out]; simp⟩, hJx3⟩⟩

set_option maxHeartbeats 1000000 in
/-- All: m is boxed; the function value captures the box. -/
theorem all_in (n m : Nat) (w : World) :
    CallsIn Fence.wide n Tryd.prog 23 #[.int .u32 (m : Int)] w fun e w' => e = .returned (.func (.func 29) #[] #[.pointer (some ⟨w.heap.size, 0, none⟩)]) ∧ w' = w.alloc (.cells #[.int .u32 (m : Int)] 23) := by
  refine callsIn_of_wp Tryd.func23 rfl trivial ?_ rfl
  simp only [Tryd.ntmps23, List.size_toArray, List.length_cons, List.length_nil, Nat.reduceAdd, Nat.reduceSub, Array.replicate_succ, Array.replicate_zero, List.push_toArray, List.append_toArray, List.nil_append, List.cons_append]
  gi_wp2
  go_ret
  exact ⟨rfl, rfl⟩

theorem all_stops (n : Nat) (hn : 1 ≤ n) (Bn n₀ m : Nat) (hm : m < 4294967296) (w : World) (hBn : Bn < w.heap.size) (hn0 : 0 < n₀)
    (hc : w.cell? ⟨Bn, 0, none⟩ = some (.int .u32 (m : Int))) (hT : Tab w) :
    SeqStopsK Fence.wide n Tryd.prog 29 #[.pointer (some ⟨Bn, 0, none⟩)] (fun x : Nat => #[Value.int .i64 (x : Int)]) (Below n₀) (fun ys => ys = ones m) (fun pre => pre <+: ones m) (ones m).length w := fun l J Jx W hW _ _ hY h0 =>
  all1_in n hn l Bn n₀ m hm J Jx hY W hn0 ((hW.cell (p := ⟨Bn, 0, none⟩) hBn).trans hc) (hT.below hW hT.lt) h0

theorem Tryd.info3 : (Tryd.prog.info? 3).map (fun i => (i.zero, i.size, i.bytes)) = some (some (.int .i64 0), 1, 8) := by kernel_rfl

def row (l : List Nat) : List Value := l.map fun x : Nat => Value.int .i64 (x : Int)
theorem row_snoc (l : List Nat) (x : Nat) : row (l ++ [x]) = row l ++ [.int .i64 (x : Int)] := by simp [row]
theorem row_len (l : List Nat) : (row l).length = l.length := by simp [row]

set_option maxRecDepth 100000 in
set_option maxHeartbeats 2000000 in
theorem list_any (m : Nat) (w : World) (hm : m < 4294967296) (hT : Tab w) :
    Calls Tryd.prog 22 #[.int .u32 (m : Int)] w fun e W' => ∃ v, e = .returned v ∧ W'.ownsRow w.heap.size 3 1 v (ones m).length (row (ones m)) ∧ Below w.heap.size w W' := by
  refine (callsIn_wide (n := 5)).1 ?_
  obtain ⟨i0, hi, hz0, hz1, hz2⟩ := info_parts Tryd.info3
  have hle := pop_le m 32
  have HLEN := Lib.hid (ones_len m)
  have HT := Lib.hid hT
  have HC := Lib.hid (count_any m w hm)
  have h0w := hT.lt
  have HM := Lib.hid hm
  clear hT hm
  refine callsIn_of_wp_marks Tryd.func22 rfl trivial ?_ rfl
  simp only [Tryd.ntmps22, List.size_toArray, List.length_cons, List.length_nil, Nat.reduceAdd, Nat.reduceSub, Array.replicate_succ, Array.replicate_zero, List.push_toArray, List.append_toArray, List.nil_append, List.cons_append]
  gi_wp2_with (first
    | (refine ⟨trivial, ?_⟩; gi_at_call 12; refine (callsIn_wide.2 HC.out).mono ?_; rintro e w' ⟨rfl, nq, rfl⟩)
    | (gi_at_make; refine wpListIn_make_own _ rfl _ _ 29 rfl w.heap.size 3 i0 (.int .i64 0) 1 Tryd.underlying29 hi hz0 hz1 .i64 .i64 _ (pop m 32) rfl rfl rfl (by rw [hz2]; omega) (by unfold maxLen; omega) (by simp) ?_; intro w1 hown1 hgrow1)
    | (refine ⟨trivial, ?_⟩; gi_at_call 23; refine (all_in _ _ _).mono ?_; rintro e w' ⟨rfl, rfl⟩))
  have hown2 : w1.ownsRow w.heap.size 3 1 (.slice (some ⟨w.heap.size, 0, none⟩) 0 (pop m 32)) 0 (row []) := by simpa [row] using hown1
  have hB1 : Below w.heap.size w w1 := (below_drewN (Below.refl _ w) nq).grown hgrow1 (by simp) (fun k e => by cases e)
  clear hown1 hgrow1
  have hs1 := hB1.size
  have bO := Boxed.new w1 29 (.slice (some ⟨w.heap.size, 0, none⟩) 0 (pop m 32))
  have bN := Boxed.new (w1.alloc (.cells #[.slice (some ⟨w.heap.size, 0, none⟩) 0 (pop m 32)] 29)) 23 (.int .u32 (m : Int))
  rw [World.size_alloc] at bN
  have hB0 : Below w.heap.size w ((w1.alloc (.cells #[.slice (some ⟨w.heap.size, 0, none⟩) 0 (pop m 32)] 29)).alloc (.cells #[.int .u32 (m : Int)] 23)) := (hB1.alloc hs1 _).alloc (by simp; omega) _
  refine wpIn_rangeFunc_ownG rfl (by omega) (gf := 29) (lb := #[.pointer (some ⟨w1.heap.size + 1, 0, none⟩)]) rfl trivial (enters_of Tryd.func29 (by kernel_rfl) rfl)
    (all_stops (5 - 1) (by omega) (w1.heap.size + 1) w.heap.size m HM.out _ (by simp) h0w bN.cell (HT.out.below hB0 h0w)) belowK_t (belowK_b (by simp; omega)) (Below.refl _ _) (fun _ => rfl)
    (fun pre W => (∃ v, Boxed W w1.heap.size 29 v ∧ W.ownsRow w.heap.size 3 1 v pre.length (row pre) ∧ True) ∧ Below w.heap.size w W)
    (fun _ _ _ => False)
    (OwnFrom.and (Own.from (holdsRow_own w.heap.size w1.heap.size 29 3 1 (fun pre : List Nat => pre.length) (fun pre => row pre) (fun _ _ => True)) _) (ownFrom_below (Nat.le_refl _) (by simp; omega)))
    (fun _ _ _ _ _ hs _ _ => hs)
    ⟨⟨_, bO.alloc _, (hown2.alloc _).alloc _, trivial⟩, hB0⟩
    (fun x => { tmps := #[.int .u32 (m : Int), undef, .slice none 0 0, .pointer (some ⟨w1.heap.size, 0, none⟩), .int .i64 (x : Int), .int .u32 (m : Int), .int .i64 (pop m 32 : Nat), .slice (some ⟨w.heap.size, 0, none⟩) 0 (pop m 32), .int .u32 (m : Int), .func (.func 29) #[] #[.pointer (some ⟨w1.heap.size + 1, 0, none⟩)], .int .i64 (x : Int), undef, undef, undef, undef, undef], defers := [] }) ?assign ?body ?done ?stop
  case assign =>
    intro l x W K hK
    gi_wp2
    exact hK
  case body =>
    rintro l pre x W ⟨⟨v, hv, hrow, _⟩, hB⟩ hlt
    have hc := hv.cell
    have hl32 : pre.length < 32 := by have := HLEN.out; omega
    gi_wp2_with (gi_at_builtin; refine wpListIn_append_own _ rfl _ _ 29 rfl w.heap.size 3 i0 (.int .i64 0) 1 8 Tryd.underlying29 hi hz0 hz1 hz2 rfl (by decide) _ _ _ rfl (hrow.alloc _) ⟨W.heap.size, 0, none⟩ 1 1 [.int .i64 (x : Int)] rfl rfl (cell_one_new _ _ _) (by simp [Value.oneCell']) (by unfold maxLen; omega) (by omega) (by have := hB.size; simp; omega) ?_; intro v' w2 hown' hgrow _; obtain ⟨g', cap', rfl⟩ := ownsRow_succ hown'; obtain ⟨hv1, hv2, hr2, hk2, hb2⟩ := hv.appended (by decide) hrow hB.size (by omega) hown' hgrow; have hc1 := hv1.cell; have hf1 := hv1.frozen)
    exact ⟨hk2.from _, hb2, ⟨_, hv2, by rw [row_snoc, List.length_append]; exact hr2, trivial⟩, hB.trans hb2⟩
  case done =>
    rintro D ys W hD rfl ⟨⟨v, hv, hrow, _⟩, hB⟩ hK
    have hc := hv.cell
    gi_wp2
    refine ⟨by simp, .inl ⟨_, _, rfl, run_takeDeferred hK, ?_⟩⟩
    exact ⟨_, results_tmp rfl _ _ _, v, rfl, ownsRow_putObj hrow _ hK rfl, hB.trans (belowK_b (w := w) (Nat.le_refl _) W D _ _ (by simp at hD; omega) hK rfl rfl)⟩
  case stop =>
    rintro D c pre W _ _ h _
    exact h.elim
end Go.Proofs.YtaoeebleapmgkaaDoor.mm
