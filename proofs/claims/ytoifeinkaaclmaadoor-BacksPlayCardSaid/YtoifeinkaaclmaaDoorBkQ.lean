/-
  What a pool of backs answers to Take and Copy: contracts. No condition but the bounds that each theorem names.
-/
import Derived.Test.YtoifeinkaaclmaaDoorBkO
namespace Go.Proofs.YtoifeinkaaclmaaDoor.bk
open Go Go.ChangeShapes Go.WideShapes Go.ChangeAt Go.RowKit
open Go.Proofs.YtoifeinkaaclmaaDoor.tt (U zd row tyne add_lit lt_of range_grown setCells_rest heap_setCells_other grown_setCells grown_setRow grown_new grown_drewN below_of grown_alloc grown_refl grown_trans grown_drew Sl run_append_sl append_sl step_append_sl tail_sl head_sl Pool Turn Next src_one src_one' flat flat_len flat_at flat_take flat_drop flat_append flat_one flat_single flat_erase heap_setCells)
set_option linter.unusedVariables false

/-- A new variable of a back. -/
theorem onez (w : World) : ∃ w2, w.alloc (.cells (ba zb) 57) = w2 ∧ w.grownBy w2 none ∧ w2.heap[w.heap.size]? = some (.cells (ba zb) 57 (0, 0)) ∧ w2.heap.size = w.heap.size + 1 :=
  ⟨_, rfl, grown_alloc (grown_refl _ _) _, heap_alloc_new _ _, by simp⟩
theorem set_res {w w2 : World} (hg : w.grownBy w2 none) {c : Array Value} (hb : w2.heap[w.heap.size]? = some (.cells c 57 (0, 0))) (m : Bk) : (w2.setRow w.heap.size (ba m)).rangeAt w.heap.size 0 (bt m) ∧ w.grownBy (w2.setRow w.heap.size (ba m)) none :=
  ⟨range_of (setRow_heap _ _ _ _ _ _ hb), grown_setRow hg _ (Nat.le_refl _) _⟩

set_option maxRecDepth 100000 in
set_option maxHeartbeats 1000000 in
theorem ptake_out (b : Nat) (v : Value) (room : Nat) (ns : List Bk) (i : Int) (w : World) (hP : BPool w b v room ns) (h : i < 0 ∨ (ns.length : Int) ≤ i) : Calls Tryd.prog 43 #[.pointer (some ⟨b, 0, none⟩), .int .i64 i] w fun e w' => e = .returned (.tuple #[.agg (ba zb), .int .i64 5]) ∧ w.grownBy w' none := by
  obtain ⟨w2, hw, hg2, hb2, hs2⟩ := onez w
  have hz : ba zb = _ := zb_ba
  rw [hz] at hw
  have HA := Lib.hid (pat_out b v room ns i w2 (hP.grown hg2) h)
  have HG := Lib.hid hg2
  have HB := Lib.hid hb2
  have HS := Lib.hid hs2
  clear hP h hz hg2 hb2 hs2
  go_enter Tryd.func43, Tryd.ntmps43
  go_wp2_with (first
    | (go_at_call 32; ((with_reducible refine HA.out.mono ?_); rintro e w3 ⟨rfl, hg3⟩; have HG3 := Lib.hid hg3; clear hg3))
    | ((with_reducible refine store_new zb _ _ _ ?_ ?_ ?_ ?_); (rfl); (rfl); (rfl))
    | ((with_reducible refine load_bt zb _ w3.heap.size ?_ (range_of (heap_alloc_new _ _)) ?_); (rfl))
    | ((with_reducible refine store_any zb _ _ _ w.heap.size ?_ ?_ ((grown_alloc HG3.out _).block w.heap.size (by rw [HS.out]; omega) (by simp) |>.trans HB.out) ?_ ?_); (rfl); (rfl); (rfl)))
  have hgg := grown_trans HG.out (grown_alloc HG3.out (.cells (ba zb) 57))
  have hres := set_res hgg ((grown_alloc HG3.out _).block w.heap.size (by rw [HS.out]; omega) (by simp) |>.trans HB.out) zb
  exact ret_bte rfl _ zb _ w.heap.size _ _ (by rfl) (by rfl) hres.1 ⟨rfl, hres.2⟩
set_option maxRecDepth 100000 in
set_option maxHeartbeats 1000000 in
theorem ptake_in (b : Nat) (v : Value) (room : Nat) (ns : List Bk) (k : Nat) (x : Bk) (w : World) (hP : BPool w b v room ns) (hx : ns[k]? = some x) (hr : ns.length ≤ 65536) :
    Calls Tryd.prog 43 #[.pointer (some ⟨b, 0, none⟩), .int .i64 (k : Int)] w fun e w' => e = .returned (.tuple #[.agg (ba x), .int .i64 0]) ∧ ∃ v', BPool w' b v' room (ns.eraseIdx k) ∧ Turn w w' b v v' := by
  obtain ⟨w2, hw, hg2, hb2, hs2⟩ := onez w
  have hz : ba zb = _ := zb_ba
  rw [hz] at hw
  have hP2 := hP.grown hg2
  have HA := Lib.hid (pat_in b v room ns k x w2 hP2 hx)
  have HC : Hid (∀ w', w2.grownBy w' none → _) := Lib.hid fun w' h => pcut_any b v room ns k w' (hP2.grown h) (List.getElem?_eq_some_iff.1 hx).1 hr
  have HG := Lib.hid hg2
  have HB := Lib.hid hb2
  have HS := Lib.hid hs2
  have hbw := hP.lt
  have HV := Lib.hid hP.sl.lt
  have HT : Hid (∀ g, v.ownBlock = some g → ∃ cur, w.heap[g]? = some (.cells cur 57 (0, 0))) := Lib.hid hP.sl.type
  clear hP hP2 hx hz hg2 hb2 hs2 hr
  go_enter Tryd.func43, Tryd.ntmps43
  go_wp2_with (first
    | (go_at_call 32; ((with_reducible refine HA.out.mono ?_); rintro e w3 ⟨rfl, hg3⟩; have HG3 := Lib.hid (grown_alloc hg3 (.cells (ba x) 57)); have HZ3 := Lib.hid hg3.size; clear hg3))
    | ((with_reducible refine store_new x _ _ _ ?_ ?_ ?_ ?_); (rfl); (rfl); (rfl))
    | (go_at_call 46; ((with_reducible refine (HC.out _ HG3.out).mono ?_); rintro e w4 ⟨⟨u, rfl⟩, v', hP4, hT4⟩; have HP4 := Lib.hid hP4; have HT4 := Lib.hid hT4; have HX4 : Hid (w4.heap[w3.heap.size]? = some (.cells (ba x) 57 (0, 0))) := Lib.hid ((hT4.block w3.heap.size (by simp) (by have := HZ3.out; have := HS.out; omega) (fun e => by have := HV.out _ e.symm; have := HZ3.out; have := HS.out; omega)).trans (heap_alloc_new _ _)); have HB4 : Hid (w4.heap[w.heap.size]? = some (.cells (ba zb) 57 (0, 0))) := Lib.hid ((hT4.block w.heap.size (by have := HZ3.out; have := HS.out; simp; omega) (by omega) (fun e => by have := HV.out _ e.symm; omega)).trans ((HG3.out.block w.heap.size (by rw [HS.out]; omega) (by simp)).trans HB.out)); clear hP4 hT4))
    | ((with_reducible refine load_bt x _ w3.heap.size ?_ (range_of HX4.out) ?_); (rfl))
    | ((with_reducible refine store_any x _ _ _ w.heap.size ?_ ?_ HB4.out ?_ ?_); (rfl); (rfl); (rfl)))
  refine ret_bte rfl _ x _ w.heap.size _ _ (by rfl) (by rfl) (range_of (setRow_heap _ _ _ _ _ _ HB4.out)) ⟨rfl, v', ?_, ?_⟩
  · exact HP4.out.of_block (setRow_other _ _ _ _ (by omega)) (fun g hg => setRow_other _ _ _ _ (fun e => by
      rcases HT4.out.next with h | h
      · rw [h] at hg; have := HV.out g hg; omega
      · have h1 := h g hg; have := HZ3.out; have := HS.out; simp at h1; omega))
  · have hT := Turn.trans (Turn.of_grown b v (grown_trans HG.out HG3.out)) HT4.out
    exact ⟨hT.os, hT.tape, hT.output, by have := hT.size; simp; omega, fun i hi hp hv => (setRow_other _ _ _ _ (by omega)).trans (hT.block i hi hp hv), hT.next⟩

/-- The empty slice that is not nil. -/
theorem Sl.empty (w : World) (e : TypeId) (s : Nat) : Sl (w.alloc (.cells #[] e)) e s (.slice (some ⟨w.heap.size, 0, none⟩) 0 0) 0 [] :=
  .inr ⟨w.heap.size, 0, 0, #[], rfl, heap_alloc_new w _, by simp, Nat.le_refl _, by unfold maxLen; omega, by simp, fun k x hk => by simp at hk⟩

set_option maxRecDepth 100000 in
set_option maxHeartbeats 1000000 in
theorem nclone_any (v : Value) (ns : List Bk) (w : World) (hs : BSl w v ns) (hl : ns.length ≤ 65536) :
    Calls Tryd.prog 44 #[v] w fun e w' => ∃ v', e = .returned v' ∧ BSl w' v' ns ∧ w.grownBy w' none ∧ ∀ k, v'.ownBlock = some k → w.heap.size ≤ k := by
  obtain ⟨i0, hi, hz0, hz1, hz2⟩ := info_parts infoN
  have q50 : ∀ (w : World) (a : Option Addr) (n c n' c' : Nat), (binOp .eql 77 (.slice a n c) (.slice none n' c')).run Tryd.prog w = .ok (.bool a.isNone) w := fun w a n c n' c' => Lib.run_eql_slice_nil w _ _ a n c n' c' Tryd.underlying77
  have HS := Lib.hid hs
  have HL := Lib.hid hl
  rcases hs with ⟨rfl, h0, h⟩ | ⟨g, off, cap, cur, hv, _⟩
  · have HX := Lib.hid h
    have H0 := Lib.hid h0
    clear h h0 hl
    go_enter Tryd.func44, Tryd.ntmps44
    go_wp2
    go_ret
    refine ⟨_, rfl, ?_, ⟨rfl, rfl, rfl, Nat.le_refl _, fun _ _ _ => rfl⟩, fun k hk => by simp [Value.ownBlock] at hk⟩
    exact HS.out
  · obtain ⟨n0, hn0⟩ : ∃ n, n = ns.length := ⟨_, rfl⟩
    rw [← hn0] at hv
    subst hv
    have HN := Lib.hid hn0
    clear hl hn0
    go_enter Tryd.func44, Tryd.ntmps44
    go_wp2_with ((with_reducible refine append_sl 77 57 18 i0 (.agg (ba zb)) 80 _ _ Tryd.underlying77 hi hz0 hz1 hz2 zb_cells (.slice (some ⟨w.heap.size, 0, none⟩) 0 0) 0 [] ?_ (Sl.empty w _ 18) (.slice (some ⟨g, off, none⟩) n0 cap) ns.length (flat bt ns) ?_ ((HS.out.grown (grown_alloc (grown_refl _ _) _)).src Tryd.underlying77 (bflat_one ns)) ?_ ?_ ?_); (rfl); (rfl); (have := HL.out; unfold maxLen; omega); (have := HL.out; omega); (intro v' w2 hsl hgr hnx; rw [Nat.zero_add, List.nil_append] at hsl))
    go_ret
    refine ⟨v', rfl, hsl, ⟨hgr.os, hgr.tape, hgr.output, ?_, fun k hk _ => ?_⟩, fun k hk => ?_⟩
    · have := hgr.size; simp at this; omega
    · exact (hgr.block k (by simp; omega) (by simp [Value.ownBlock]; omega)).trans (Below.heap_alloc _ _ _ hk)
    · rcases hnx with h | h
      · rw [h] at hk; simp [Value.ownBlock] at hk; omega
      · have := h k hk; simp at this; omega
set_option maxHeartbeats 1000000 in
theorem pcopy_any (b : Nat) (v : Value) (room : Nat) (ns : List Bk) (w : World) (hP : BPool w b v room ns) (hl : ns.length ≤ 65536) :
    Calls Tryd.prog 35 #[.pointer (some ⟨b, 0, none⟩)] w fun e w' => ∃ b' v', e = .returned (.pointer (some ⟨b', 0, none⟩)) ∧ w.heap.size ≤ b' ∧ BPool w' b' v' room ns ∧ w.grownBy w' none ∧ ∀ k, v'.ownBlock = some k → w.heap.size ≤ k := by
  have hc := hP.cell0
  have hc1 := hP.cell1
  obtain ⟨ad0, cap0, rfl⟩ := hP.sl.form
  have HC := Lib.hid (nclone_any _ ns w.drew (hP.sl.of_block (fun _ _ => rfl)) hl)
  have HP := Lib.hid hP
  clear hP hl
  go_enter Tryd.func35, Tryd.ntmps35
  go_wp2_with fail
  go_region_with (go_at_call 44; ((with_reducible refine HC.out.mono ?_); rintro e w2 ⟨v', rfl, hsl2, hgr2, hfr2⟩; have hc2 := hgr2.cell (show w.drew.cell? ⟨b, 1, none⟩ = _ from hc1) (by simp); obtain ⟨ad', cap', rfl⟩ := hsl2.form))
  all_goals
    go_wp2_with fail
    go_ret
    have hs2 := hgr2.size
    have hr2 : w2.heap.size ≠ 0 := by have := HP.out.lt; simp at hs2; omega
    refine ⟨_, _, rfl, by simpa using hs2, ⟨heap_alloc_new _ _, hsl2.of_block (fun g hg => Below.heap_alloc _ _ _ (hsl2.lt g hg)), fun e => by have := hsl2.lt _ e.symm; omega⟩, ⟨hgr2.os, hgr2.tape, hgr2.output, by simp at hs2 ⊢; omega, fun k hk h => ?_⟩, hfr2⟩
    exact (Below.heap_alloc _ _ _ (by simp at hs2; omega)).trans (hgr2.block k hk h)
end Go.Proofs.YtoifeinkaaclmaaDoor.bk
