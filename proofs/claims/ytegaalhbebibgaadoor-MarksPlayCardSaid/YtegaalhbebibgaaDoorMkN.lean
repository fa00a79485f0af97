/-
  The document's own marks: what New makes; both marks side by side: contracts. No condition but what each theorem names.
-/
import Derived.Test.YtegaalhbebibgaaDoorMkM
namespace Go.Proofs.YtegaalhbebibgaaDoor.mrk
open Go Go.ChangeShapes Go.WideShapes Go.ChangeAt Go.RowKit Go.Maps Go.Sort
open Go.Proofs.YtegaalhbebibgaaDoor.tt (Cfg Tab CfgAt cfg_at rdata_any grown_refl grown_alloc grown_trans grown_drew grown_drewN lt_of tyne)
set_option linter.unusedVariables false
set_option linter.unusedSimpArgs false
set_option maxRecDepth 1000000

theorem ref_new (w : World) (cs : Array Value) (N : Nat) (hcs : cs.size = N) (hcz : ∀ k : Nat, k < N → cs[k]? = some (.bool false)) (hN : N ≤ 256) (g1 g2 : Nat) (h : (g1 = w.heap.size ∧ g2 = w.heap.size + 1) ∨ (g1 = w.heap.size + 1 ∧ g2 = w.heap.size)) :
    RAt (((w.alloc (.cells cs 4)).alloc (.cells cs 4)).alloc (.cells #[.slice (some ⟨g1, 0, none⟩) N N, .slice (some ⟨g2, 0, none⟩) N N] 64)).drew (w.heap.size + 1 + 1) g1 g2 N Ms.zero := by
  have hb1 : BAt (w.alloc (.cells cs 4)) w.heap.size N (fun _ => false) := BAt.new w cs N hcs hcz
  have hb2 : BAt ((w.alloc (.cells cs 4)).alloc (.cells cs 4)) (w.heap.size + 1) N (fun _ => false) := by have := BAt.new (w.alloc (.cells cs 4)) cs N hcs hcz; rwa [World.size_alloc] at this
  have hb3 := hb1.same (Below.heap_alloc _ (.cells cs 4) _ hb1.lt)
  obtain ⟨x, hx⟩ : ∃ x : Obj, x = .cells #[.slice (some ⟨g1, 0, none⟩) N N, .slice (some ⟨g2, 0, none⟩) N N] 64 := ⟨_, rfl⟩
  have hb := heap_alloc_new ((w.alloc (.cells cs 4)).alloc (.cells cs 4)) (.cells #[.slice (some ⟨g1, 0, none⟩) N N, .slice (some ⟨g2, 0, none⟩) N N] 64)
  rw [World.size_alloc, World.size_alloc] at hb
  rcases h with ⟨rfl, rfl⟩ | ⟨rfl, rfl⟩
  · exact ⟨hb, hb3.same (Below.heap_alloc _ _ _ hb3.lt), hb2.same (Below.heap_alloc _ _ _ hb2.lt), by omega, dom_zero _, hN⟩
  · exact ⟨hb, hb2.same (Below.heap_alloc _ _ _ hb2.lt), hb3.same (Below.heap_alloc _ _ _ hb3.lt), by omega, dom_zero _, hN⟩
set_option maxHeartbeats 2000000 in
theorem rnew_any (c : Cfg) (N : Nat) (w : World) (hm : c.may) (hN : c.data = (N : Int)) (hN1 : N ≤ 256) : Calls Tryd.prog 19 #[.agg c.cells] w fun e w' => ∃ r g1 g2, e = .returned (.pointer (some ⟨r, 0, none⟩)) ∧ RAt w' r g1 g2 N Ms.zero ∧ w.grownBy w' none ∧ w.heap.size ≤ r ∧ w.heap.size ≤ g1 ∧ w.heap.size ≤ g2 := by
  obtain ⟨cs, hcs, hcz, hmk⟩ := bools N hN1
  have hg0 : w.grownBy (w.alloc (.cells c.cells 27)) none := grown_alloc (grown_refl _ _) _
  have HG0 := Lib.hid hg0
  obtain ⟨d0, d1, d2, d3, d4, d5, d6, d7⟩ := cfg_at w c
  have HDA : Hid (∀ w', _) := Lib.hid fun w' => rdata_any c w' hm.fits
  rw [hN] at HDA
  have HCS := Lib.hid hcs
  have HCZ := Lib.hid hcz
  have HS := Lib.hid hN1
  clear hm hN hN1 hg0 hcs hcz
  unfold Cfg.cells at HG0 HDA d0 d1 d2 d3 d4 d5 d6 d7 ⊢
  go_enter Tryd.func19, Tryd.ntmps19
  go_wp2_with (go_at_call 36; ((with_reducible refine (HDA.out _).mono ?_); rintro e w3 ⟨rfl, hg3⟩; have HG3 := Lib.hid (grown_trans HG0.out hg3); clear hg3 d0 d1 d2 d3 d4 d5 d6 d7))
  have hmk1 := fun (w : World) => hmk w
  go_region_with (fail)
  all_goals
    go_wp2_with fail
    go_ret
    have hs0 := HG3.out.size
    first
      | exact ⟨_, _, _, rfl, ref_new w3 cs N HCS.out HCZ.out HS.out _ _ (.inl ⟨rfl, rfl⟩), grown_drew (grown_alloc (grown_alloc (grown_alloc HG3.out _) _) _), by omega, by omega, by omega⟩
      | exact ⟨_, _, _, rfl, ref_new w3 cs N HCS.out HCZ.out HS.out _ _ (.inr ⟨rfl, rfl⟩), grown_drew (grown_alloc (grown_alloc (grown_alloc HG3.out _) _) _), by omega, by omega, by omega⟩

/-- Both, side by side. -/
structure Both (w w1 : World) (t b r g1 g2 N : Nat) (s : Ms) : Prop where
  own : Own w w1 t b N s
  ref : RAt w1 r g1 g2 N s
  hr : w.heap.size ≤ r
  h1 : w.heap.size ≤ g1
  h2 : w.heap.size ≤ g2
section
variable {w w1 w2 : World} {t b r g1 g2 N : Nat} {s s2 : Ms}
theorem Both.grown (h : Both w w1 t b r g1 g2 N s) (hg : w1.grownBy w2 none) : Both w w2 t b r g1 g2 N s := ⟨h.own.grown hg, h.ref.grown hg, h.hr, h.h1, h.h2⟩
/-- The document's are left alone by a call on the program's. -/
theorem RAt.keep (A : RAt w1 r g1 g2 N s) (h : Own w w1 t b N s2) (hg : w1.grownBy w2 (some b)) : RAt w2 r g1 g2 N s := by
  obtain ⟨c1, a1, _⟩ := A.rd
  obtain ⟨c2, a2, _⟩ := A.wt
  exact A.of_block ((h.cells hg A.blk).trans A.blk.symm) ((h.cells hg a1).trans a1.symm) ((h.cells hg a2).trans a2.symm)
/-- The program's are left alone where cells of another type are written. -/
theorem Own.aside (h : Own w w1 t b N s) {g : Nat} {cs : Array Value} {ty : TypeId} {fr : Nat × Nat} (hc : w1.heap[g]? = some (.cells cs ty fr)) (hty : ty ≠ 52) (hg : w1.grownBy w2 (some g)) (hge : w.heap.size ≤ g) : Own w w2 t b N s := by
  refine ⟨h.mq.of_block (hg.block t h.mq.lt (fun e => ?_)) (hg.block b h.mq.map.lt (fun e => ?_)), old_next h.old hge hg, h.hb⟩
  · have := h.mq.blk
    rw [Option.some.inj e, hc] at this
    simp at this
    exact hty this.2.1
  · obtain ⟨es, c, hb, _⟩ := h.mq.map
    rw [Option.some.inj e, hc] at hb
    cases hb
end
end Go.Proofs.YtegaalhbebibgaaDoor.mrk
