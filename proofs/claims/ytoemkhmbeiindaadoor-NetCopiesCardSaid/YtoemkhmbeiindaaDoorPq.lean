/-
  What a pool of notes answers to Take and Copy: contracts. No condition but the bounds that each theorem names.
-/
import Derived.Test.YtoemkhmbeiindaaDoorPo
namespace Go.Proofs.YtoemkhmbeiindaaDoor.tt
open Go Go.ChangeShapes Go.WideShapes Go.ChangeAt Go.RowKit
set_option linter.unusedVariables false

/-- A new variable of a note. -/
theorem onez (w : World) : ∃ w2, w.alloc (.cells (na zn) 37) = w2 ∧ w.grownBy w2 none ∧ w2.heap[w.heap.size]? = some (.cells (na zn) 37 (0, 0)) ∧ w2.heap.size = w.heap.size + 1 :=
  ⟨_, rfl, grown_alloc (grown_refl _ _) _, heap_alloc_new _ _, by simp⟩
theorem set_res {w w2 : World} (hg : w.grownBy w2 none) {c : Array Value} (hb : w2.heap[w.heap.size]? = some (.cells c 37 (0, 0))) (m : Nt) : (w2.setRow w.heap.size (na m)).rangeAt w.heap.size 0 (nt m) ∧ w.grownBy (w2.setRow w.heap.size (na m)) none :=
  ⟨range_of (setRow_heap _ _ _ _ _ _ hb), grown_setRow hg _ (Nat.le_refl _) _⟩

set_option maxRecDepth 100000 in
set_option maxHeartbeats 1000000 in
theorem ptake_out (b : Nat) (v : Value) (room : Nat) (ns : List Nt) (i : Int) (w : World) (hP : NPool w b v room ns) (h : i < 0 ∨ (ns.length : Int) ≤ i) : Calls Tryd.prog 34 #[.pointer (some ⟨b, 0, none⟩), .int .i64 i] w fun e w' => e = .returned (.tuple #[.agg (na zn), .int .i64 5]) ∧ w.grownBy w' none := by
  obtain ⟨w2, hw, hg2, hb2, hs2⟩ := onez w
  have hz : na zn = _ := bare_na 0 0 0 0 0 0 false false
  rw [hz] at hw
  have HA := Lib.hid (pat_out b v room ns i w2 (hP.grown hg2) h)
  have HG := Lib.hid hg2
  have HB := Lib.hid hb2
  have HS := Lib.hid hs2
  clear hP h hz hg2 hb2 hs2
  go_enter Tryd.func34, Tryd.ntmps34
  go_wp2_with (first
    | (go_at_call 36; ((with_reducible refine HA.out.mono ?_); rintro e w3 ⟨rfl, hg3⟩; have HG3 := Lib.hid hg3; clear hg3))
    | ((with_reducible refine store_new zn _ _ _ ?_ ?_ ?_ ?_); (rfl); (rfl); (rfl))
    | ((with_reducible refine load_nt zn _ w3.heap.size ?_ (range_of (heap_alloc_new _ _)) ?_); (rfl))
    | ((with_reducible refine store_any zn _ _ _ w.heap.size ?_ ?_ ((grown_alloc HG3.out _).block w.heap.size (by rw [HS.out]; omega) (by simp) |>.trans HB.out) ?_ ?_); (rfl); (rfl); (rfl)))
  have hgg := grown_trans HG.out (grown_alloc HG3.out (.cells (na zn) 37))
  have hres := set_res hgg ((grown_alloc HG3.out _).block w.heap.size (by rw [HS.out]; omega) (by simp) |>.trans HB.out) zn
  exact ret_nte rfl _ zn _ w.heap.size _ _ (by rfl) (by rfl) hres.1 ⟨rfl, hres.2⟩
set_option maxRecDepth 100000 in
set_option maxHeartbeats 1000000 in
theorem ptake_in (b : Nat) (v : Value) (room : Nat) (ns : List Nt) (k : Nat) (x : Nt) (w : World) (hP : NPool w b v room ns) (hx : ns[k]? = some x) (hr : ns.length ≤ 65536) :
    Calls Tryd.prog 34 #[.pointer (some ⟨b, 0, none⟩), .int .i64 (k : Int)] w fun e w' => e = .returned (.tuple #[.agg (na x), .int .i64 0]) ∧ ∃ v', NPool w' b v' room (ns.eraseIdx k) ∧ Turn w w' b v v' := by
  obtain ⟨w2, hw, hg2, hb2, hs2⟩ := onez w
  have hz : na zn = _ := bare_na 0 0 0 0 0 0 false false
  rw [hz] at hw
  have hP2 := hP.grown hg2
  have HA := Lib.hid (pat_in b v room ns k x w2 hP2 hx)
  have HC : Hid (∀ w', w2.grownBy w' none → _) := Lib.hid fun w' h => pcut_any b v room ns k w' (hP2.grown h) (List.getElem?_eq_some_iff.1 hx).1 hr
  have HG := Lib.hid hg2
  have HB := Lib.hid hb2
  have HS := Lib.hid hs2
  have hbw := hP.lt
  have HV := Lib.hid hP.sl.lt
  have HT : Hid (∀ g, v.ownBlock = some g → ∃ cur, w.heap[g]? = some (.cells cur 37 (0, 0))) := Lib.hid hP.sl.type
  clear hP hP2 hx hz hg2 hb2 hs2 hr
  go_enter Tryd.func34, Tryd.ntmps34
  go_wp2_with (first
    | (go_at_call 36; ((with_reducible refine HA.out.mono ?_); rintro e w3 ⟨rfl, hg3⟩; have HG3 := Lib.hid (grown_alloc hg3 (.cells (na x) 37)); have HZ3 := Lib.hid hg3.size; clear hg3))
    | ((with_reducible refine store_new x _ _ _ ?_ ?_ ?_ ?_); (rfl); (rfl); (rfl))
    | (go_at_call 56; ((with_reducible refine (HC.out _ HG3.out).mono ?_); rintro e w4 ⟨⟨u, rfl⟩, v', hP4, hT4⟩; have HP4 := Lib.hid hP4; have HT4 := Lib.hid hT4; have HX4 : Hid (w4.heap[w3.heap.size]? = some (.cells (na x) 37 (0, 0))) := Lib.hid ((hT4.block w3.heap.size (by simp) (by have := HZ3.out; have := HS.out; omega) (fun e => by have := HV.out _ e.symm; have := HZ3.out; have := HS.out; omega)).trans (heap_alloc_new _ _)); have HB4 : Hid (w4.heap[w.heap.size]? = some (.cells (na zn) 37 (0, 0))) := Lib.hid ((hT4.block w.heap.size (by have := HZ3.out; have := HS.out; simp; omega) (by omega) (fun e => by have := HV.out _ e.symm; omega)).trans ((HG3.out.block w.heap.size (by rw [HS.out]; omega) (by simp)).trans HB.out)); clear hP4 hT4))
    | ((with_reducible refine load_nt x _ w3.heap.size ?_ (range_of HX4.out) ?_); (rfl))
    | ((with_reducible refine store_any x _ _ _ w.heap.size ?_ ?_ HB4.out ?_ ?_); (rfl); (rfl); (rfl)))
  refine ret_nte rfl _ x _ w.heap.size _ _ (by rfl) (by rfl) (range_of (setRow_heap _ _ _ _ _ _ HB4.out)) ⟨rfl, v', ?_, ?_⟩
  · exact HP4.out.of_block (setRow_other _ _ _ _ (by omega)) (fun g hg => setRow_other _ _ _ _ (fun e => by
      rcases HT4.out.next with h | h
      · rw [h] at hg; have := HV.out g hg; omega
      · have h1 := h g hg; have := HZ3.out; have := HS.out; simp at h1; omega))
  · have hT := Turn.trans (Turn.of_grown b v (grown_trans HG.out HG3.out)) HT4.out
    exact ⟨hT.os, hT.tape, hT.output, by have := hT.size; simp; omega, fun i hi hp hv => (setRow_other _ _ _ _ (by omega)).trans (hT.block i hi hp hv), hT.next⟩

/-- The empty slice that is not nil. -/
theorem Sl.empty (w : World) (e : TypeId) (s : Nat) : Sl (w.alloc (.cells #[] e)) e s (.slice (some ⟨w.heap.size, 0, none⟩) 0 0) 0 [] :=
  .inr ⟨w.heap.size, 0, 0, #[], rfl, heap_alloc_new w _, by simp, Nat.le_refl _, by unfold maxLen; omega, by simp, fun k x hk => by simp at hk⟩

set_option maxRecDepth 100000 in
set_option maxHeartbeats 1000000 in
theorem nclone_any (v : Value) (ns : List Nt) (w : World) (hs : NSl w v ns) (hl : ns.length ≤ 65536) :
    Calls Tryd.prog 60 #[v] w fun e w' => ∃ v', e = .returned v' ∧ NSl w' v' ns ∧ w.grownBy w' none ∧ ∀ k, v'.ownBlock = some k → w.heap.size ≤ k := by
  obtain ⟨i0, hi, hz0, hz1, hz2⟩ := info_parts infoN
  have q50 : ∀ (w : World) (a : Option Addr) (n c n' c' : Nat), (binOp .eql 50 (.slice a n c) (.slice none n' c')).run Tryd.prog w = .ok (.bool a.isNone) w := fun w a n c n' c' => Lib.run_eql_slice_nil w _ _ a n c n' c' Tryd.underlying50
  have HS := Lib.hid hs
  have HL := Lib.hid hl
  rcases hs with ⟨rfl, h0, h⟩ | ⟨g, off, cap, cur, hv, _⟩
  · have HX := Lib.hid h
    have H0 := Lib.hid h0
    clear h h0 hl
    go_enter Tryd.func60, Tryd.ntmps60
    go_wp2
    go_ret
    refine ⟨_, rfl, ?_, ⟨rfl, rfl, rfl, Nat.le_refl _, fun _ _ _ => rfl⟩, fun k hk => by simp [Value.ownBlock] at hk⟩
    exact HS.out
  · obtain ⟨n0, hn0⟩ : ∃ n, n = ns.length := ⟨_, rfl⟩
    rw [← hn0] at hv
    subst hv
    have HN := Lib.hid hn0
    clear hl hn0
    go_enter Tryd.func60, Tryd.ntmps60
    go_wp2_with ((with_reducible refine append_sl 50 37 24 i0 (.agg (na zn)) 112 _ _ Tryd.underlying50 hi hz0 hz1 hz2 zn_cells (.slice (some ⟨w.heap.size, 0, none⟩) 0 0) 0 [] ?_ (Sl.empty w _ 24) (.slice (some ⟨g, off, none⟩) n0 cap) ns.length (flat nt ns) ?_ ((HS.out.grown (grown_alloc (grown_refl _ _) _)).src Tryd.underlying50 (nflat_one ns)) ?_ ?_ ?_); (rfl); (rfl); (have := HL.out; unfold maxLen; omega); (have := HL.out; omega); (intro v' w2 hsl hgr hnx; rw [Nat.zero_add, List.nil_append] at hsl))
    go_ret
    refine ⟨v', rfl, hsl, ⟨hgr.os, hgr.tape, hgr.output, ?_, fun k hk _ => ?_⟩, fun k hk => ?_⟩
    · have := hgr.size; simp at this; omega
    · exact (hgr.block k (by simp; omega) (by simp [Value.ownBlock]; omega)).trans (Below.heap_alloc _ _ _ hk)
    · rcases hnx with h | h
      · rw [h] at hk; simp [Value.ownBlock] at hk; omega
      · have := h k hk; simp at this; omega
set_option maxHeartbeats 1000000 in
theorem pcopy_any (b : Nat) (v : Value) (room : Nat) (ns : List Nt) (w : World) (hP : NPool w b v room ns) (hl : ns.length ≤ 65536) :
    Calls Tryd.prog 40 #[.pointer (some ⟨b, 0, none⟩)] w fun e w' => ∃ b' v', e = .returned (.pointer (some ⟨b', 0, none⟩)) ∧ w.heap.size ≤ b' ∧ NPool w' b' v' room ns ∧ w.grownBy w' none ∧ ∀ k, v'.ownBlock = some k → w.heap.size ≤ k := by
  have hc := hP.cell0
  have hc1 := hP.cell1
  obtain ⟨ad0, cap0, rfl⟩ := hP.sl.form
  have HC := Lib.hid (nclone_any _ ns w.drew (hP.sl.of_block (fun _ _ => rfl)) hl)
  have HP := Lib.hid hP
  clear hP hl
  go_enter Tryd.func40, Tryd.ntmps40
  go_wp2_with fail
  go_region_with (go_at_call 60; ((with_reducible refine HC.out.mono ?_); rintro e w2 ⟨v', rfl, hsl2, hgr2, hfr2⟩; have hc2 := hgr2.cell (show w.drew.cell? ⟨b, 1, none⟩ = _ from hc1) (by simp); obtain ⟨ad', cap', rfl⟩ := hsl2.form))
  all_goals
    go_wp2_with fail
    go_ret
    have hs2 := hgr2.size
    have hr2 : w2.heap.size ≠ 0 := by have := HP.out.lt; simp at hs2; omega
    refine ⟨_, _, rfl, by simpa using hs2, ⟨heap_alloc_new _ _, hsl2.of_block (fun g hg => Below.heap_alloc _ _ _ (hsl2.lt g hg)), fun e => by have := hsl2.lt _ e.symm; omega⟩, ⟨hgr2.os, hgr2.tape, hgr2.output, by simp at hs2 ⊢; omega, fun k hk h => ?_⟩, hfr2⟩
    exact (Below.heap_alloc _ _ _ (by simp at hs2; omega)).trans (hgr2.block k hk h)
end Go.Proofs.YtoemkhmbeiindaaDoor.tt
