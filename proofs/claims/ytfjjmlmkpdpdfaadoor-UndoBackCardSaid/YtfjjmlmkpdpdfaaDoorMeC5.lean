/-
  What New, Copy answer, and the memories that they make: contracts. No condition but the bounds that each theorem names.
-/
import Derived.Test.YtfjjmlmkpdpdfaaDoorMeC4
namespace Go.Proofs.YtfjjmlmkpdpdfaaDoor.pp
open Go Go.ChangeShapes Go.WideShapes Go.ChangeAt Go.RowKit
set_option linter.unusedVariables false

theorem new_err (n : Int) (w : World) (h : n < 1 ∨ 256 < n) : Calls Tryd.prog 8 #[.int .i64 n] w fun e w' => e = .returned (.tuple #[.pointer none, .int .i64 2]) ∧ w = w' := by
  by_cases h0 : n < 1
  · clear h
    go_enter Tryd.func8, Tryd.ntmps8
    go_wp2
    go_ret2
    exact ⟨rfl, rfl⟩
  · have h1 : decide (n < 1) = false := by simp; omega
    have h3 : decide (256 < n) = true := by simp; omega
    clear h h0
    go_enter Tryd.func8, Tryd.ntmps8
    go_wp2
    go_ret2
    exact ⟨rfl, rfl⟩

/-- A memory whose blocks are one. -/
theorem Mem.made {w : World} {b g q n : Nat} (hb : w.heap[b]? = some (.cells #[.slice (some ⟨g, 0, none⟩) n n] 76 (0, 0))) (hg : w.heap[g]? = some (.cells (rep q n n).toArray 74 (0, 0))) (hq : w.heap[q]? = some (.cells (row zero) 56 (0, 0))) (hn : n ≤ 256) :
    Mem w b (.slice (some ⟨g, 0, none⟩) n n) (List.replicate n zero) := by
  refine ⟨hb, ⟨List.replicate n q, .inr ⟨g, 0, n, _, by simp, hg, by simp, by unfold maxLen; omega, by simp [rep], fun k x hk => ?_⟩, by simp, fun i p x hp hx => ?_⟩, fun x hx => ?_⟩
  · rw [List.map_replicate] at hk
    rw [Nat.zero_add, List.getElem?_toArray, rep, Nat.sub_self, List.replicate_zero, List.append_nil]
    exact hk
  · rw [List.getElem?_replicate] at hp hx
    by_cases hi : i < n
    · rw [if_pos hi] at hp hx
      cases hp; cases hx
      exact hq
    · rw [if_neg hi] at hp
      cases hp
  · rw [List.eq_of_mem_replicate hx]; rfl

theorem new_ok (n : Nat) (w : World) (h1 : 1 ≤ n) (h2 : n ≤ 256) : Calls Tryd.prog 8 #[.int .i64 (n : Int)] w fun e w' => ∃ b v, e = .returned (.tuple #[.pointer (some ⟨b, 0, none⟩), .int .i64 0]) ∧ Mem w' b v (List.replicate n zero) ∧ w.grownBy w' none ∧ w.heap.size ≤ b ∧ ∀ k, v.ownBlock = some k → w.heap.size ≤ k := by
  have hd1 : decide ((n : Int) < 1) = false := by simp; omega
  have hd2 : decide (256 < (n : Int)) = false := by simp; omega
  have HR := Lib.hid (repeat_any w.heap.size n h1 h2 ((w.alloc (.cells (row zero) 56)).alloc (.cells #[Ptr w.heap.size] 74)) (w.heap.size + 1) (by have := heap_alloc_new (w.alloc (.cells (row zero) 56)) (.cells #[Ptr w.heap.size] 74); simpa using this))
  have H1 := Lib.hid h1
  have H2 := Lib.hid h2
  clear h1 h2
  go_enter Tryd.func8, Tryd.ntmps8
  go_wp2_with (go_at_call 34; ((refine HR.out.mono ?_); rintro e w1 ⟨rfl, hb1, hg1⟩))
  go_ret2
  have hsz : ((w.alloc (.cells (row zero) 56)).alloc (.cells #[Ptr w.heap.size] 74)).heap.size = w.heap.size + 1 + 1 := by simp
  rw [hsz] at hb1
  have hz0 : ((w.alloc (.cells (row zero) 56)).alloc (.cells #[Ptr w.heap.size] 74)).heap[w.heap.size]? = some (.cells (row zero) 56 (0, 0)) := (Below.heap_alloc _ _ _ (by simp)).trans (heap_alloc_new _ _)
  have hz1 : w1.heap[w.heap.size]? = some (.cells (row zero) 56 (0, 0)) := (hg1.block _ (by rw [hsz]; omega) (by simp)).trans hz0
  have hgw : w.grownBy w1 none := grown_trans (grown_alloc (grown_alloc (grown_refl _ _) _) _) hg1
  refine ⟨_, _, rfl, Mem.made (q := w.heap.size) (heap_alloc_new _ _) ?_ ?_ H2.out, grown_alloc hgw _, hgw.size, fun k hk => ?_⟩
  · exact (Below.heap_alloc _ _ _ (Array.getElem?_eq_some_iff.1 hb1).1).trans hb1
  · exact (Below.heap_alloc _ _ _ (Array.getElem?_eq_some_iff.1 hz1).1).trans hz1
  · simp [Value.ownBlock] at hk; omega

/-- The empty slice that is not nil. -/
theorem Sl.empty (w : World) (e : TypeId) : Sl (w.alloc (.cells #[] e)) e (.slice (some ⟨w.heap.size, 0, none⟩) 0 0) [] :=
  .inr ⟨w.heap.size, 0, 0, #[], rfl, heap_alloc_new w _, Nat.le_refl _, by unfold maxLen; omega, by simp, fun k x hk => by simp at hk⟩

theorem Ptr_one (ps : List Nat) : ∀ u ∈ ps.map Ptr, u.oneCell' = true := fun u hu => by
  obtain ⟨n, _, rfl⟩ := List.mem_map.1 hu
  rfl

set_option maxRecDepth 1000000 in
set_option maxHeartbeats 1000000 in
theorem clone_any (v : Value) (xs : List Nat) (w : World) (hs : Sl w 74 v (xs.map Ptr)) (hl : xs.length ≤ 256) :
    Calls Tryd.prog 42 #[v] w fun e w' => ∃ v', e = .returned v' ∧ Sl w' 74 v' (xs.map Ptr) ∧ w.grownBy w' none ∧ ∀ k, v'.ownBlock = some k → w.heap.size ≤ k := by
  obtain ⟨i0, hi, hz0, hz1, hz2⟩ := info_parts info55
  have q53 : ∀ (w : World) (a : Option Addr) (n c n' c' : Nat), (binOp .eql 72 (.slice a n c) (.slice none n' c')).run Tryd.prog w = .ok (.bool a.isNone) w := fun w a n c n' c' => Lib.run_eql_slice_nil w _ _ a n c n' c' Tryd.underlying72
  have HS := Lib.hid hs
  have HL : Hid ((xs.map Ptr).length ≤ 256) := Lib.hid (by simpa using hl)
  rcases hs with ⟨rfl, h⟩ | ⟨g, off, cap, cur, hv, _⟩
  · have HX := Lib.hid h
    clear h hl
    go_enter Tryd.func42, Tryd.ntmps42
    go_wp2
    go_ret
    refine ⟨_, rfl, ?_, ⟨rfl, rfl, rfl, Nat.le_refl _, fun _ _ _ => rfl⟩, fun k hk => by simp [Value.ownBlock] at hk⟩
    rw [HX.out]; exact Sl.nil _ _
  · obtain ⟨n0, hn0⟩ : ∃ n, n = (xs.map Ptr).length := ⟨_, rfl⟩
    rw [← hn0] at hv
    subst hv
    clear hl hn0
    go_enter Tryd.func42, Tryd.ntmps42
    go_wp2_with (at_builtin; refine wpList_append_sl rfl _ _ 72 72 rfl 74 i0 (.pointer none) 8 Tryd.underlying72 hi hz0 hz1 hz2 rfl (.slice (some ⟨w.heap.size, 0, none⟩) 0 0) [] rfl (Sl.empty w 74) (xs.map Ptr).length (xs.map Ptr) ((HS.out.of_block (fun g hg => Below.heap_alloc w (.cells #[] 74) _ (HS.out.lt g hg))).src Tryd.underlying72 (Ptr_one xs)) (by have := HL.out; unfold maxLen; simp at this ⊢; omega) (by have := HL.out; simp at this ⊢; omega) ?_; intro v' w2 hsl hgr hnx)
    go_ret
    refine ⟨v', rfl, by simpa using hsl, ⟨hgr.os, hgr.tape, hgr.output, ?_, fun k hk _ => ?_⟩, fun k hk => ?_⟩
    · have := hgr.size; simp at this; omega
    · exact (hgr.block k (by simp; omega) (by simp [Value.ownBlock]; omega)).trans (Below.heap_alloc _ _ _ hk)
    · rcases hnx with h | h
      · rw [h] at hk; simp [Value.ownBlock] at hk; omega
      · have := h k hk; simp at this; omega

theorem copy_nil (w : World) : Calls Tryd.prog 29 #[.pointer none] w fun e w' => e = .returned (.pointer none) ∧ w = w' := by
  go_enter Tryd.func29, Tryd.ntmps29
  go_wp2
  go_ret
  exact ⟨rfl, rfl⟩

set_option maxRecDepth 1000000 in
set_option maxHeartbeats 1000000 in
theorem copy_any (b : Nat) (v : Value) (bs : List (List Int)) (w : World) (hM : Mem w b v bs) (hl : bs.length ≤ 256) :
    Calls Tryd.prog 29 #[.pointer (some ⟨b, 0, none⟩)] w fun e w' => ∃ b' v', e = .returned (.pointer (some ⟨b', 0, none⟩)) ∧ Mem w' b' v' bs ∧ w.grownBy w' none ∧ w.heap.size ≤ b' ∧ ∀ k, v'.ownBlock = some k → w.heap.size ≤ k := by
  have hc := hM.cell0
  have HM := Lib.hid hM
  obtain ⟨ps, hs, hp1, hp2⟩ := hM.sl
  obtain ⟨ad0, n0, cap0, rfl⟩ := hs.form2
  have HC := Lib.hid (clone_any _ ps w hs (by omega))
  have HP1 := Lib.hid hp1
  have HP2 := Lib.hid hp2
  clear hM hl hs hp1 hp2
  go_enter Tryd.func29, Tryd.ntmps29
  go_wp2_with (go_at_call 42; ((with_reducible refine HC.out.mono ?_); rintro e w2 ⟨v', rfl, hsl2, hgr2, hfr2⟩; obtain ⟨ad', n', cap', rfl⟩ := hsl2.form2))
  go_ret
  have hlt : ∀ (i q : Nat) (x : List Int), ps[i]? = some q → bs[i]? = some x → w2.heap[q]? = some (.cells (row x) 56 (0, 0)) := fun i q x h1 h2 => (hgr2.block q (Array.getElem?_eq_some_iff.1 (HP2.out i q x h1 h2)).1 (by simp)).trans (HP2.out i q x h1 h2)
  refine ⟨_, _, rfl, ⟨heap_alloc_new _ _, ⟨ps, hsl2.of_block (fun g hg => Below.heap_alloc _ _ _ (hsl2.lt g hg)), HP1.out, fun i q x h1 h2 => (Below.heap_alloc _ _ _ (Array.getElem?_eq_some_iff.1 (hlt i q x h1 h2)).1).trans (hlt i q x h1 h2)⟩, HM.out.len⟩, grown_alloc hgr2 _, hgr2.size, hfr2⟩
end Go.Proofs.YtfjjmlmkpdpdfaaDoor.pp
