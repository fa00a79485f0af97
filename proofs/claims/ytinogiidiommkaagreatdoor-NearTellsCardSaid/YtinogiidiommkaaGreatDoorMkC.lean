/-
  Marks: what New, Copy, All answer: contracts. Condition: for New the table of bounds lies in its variable as the program's text has it.
-/
import Derived.Test.YtinogiidiommkaaGreatDoorMkB
import Derived.Shelf.SlMaps.Clone
import Derived.Shelf.AbstractIn
namespace Go.Proofs.YtinogiidiommkaaGreatDoor.mrk
open Go Go.ChangeShapes Go.WideShapes Go.ChangeAt Go.RowKit Go.Maps Go.Sort Go.Shelf
open Go.Proofs.YtinogiidiommkaaGreatDoor.tt (Cfg Tab CfgAt cfg_at yes yes_of yes_not may_any data_yes data_no grown_refl grown_alloc grown_trans grown_drew grown_drewN lt_of MapAt mput ik run_lookup_map map_store tyne)
set_option linter.unusedVariables false
set_option maxRecDepth 1000000

section
variable {w : World} {t b N : Nat} {s : Ms} (H : MkAt w t b N s)
include H
set_option maxHeartbeats 2000000 in
omit H in
theorem clone_any {f : Int → Option Value} (hM : MapAt w b f) :
    Calls Tryz.prog 105 #[.map (some b)] w fun e w' => e = .returned (.map (some w.heap.size)) ∧ MapAt w' w.heap.size f ∧ w.grownBy w' none := by
  obtain ⟨es, ck, hb, h1, h2⟩ := hM
  have hq := fun w => run_eql_map_nil_sl (P := Tryz.prog) w 159 _ _ (some b) Tryz.underlying159
  have HB := Lib.hid hb
  clear hb
  go_enter Tryz.func105, Tryz.ntmps105
  go_wp2
  rw [run_callFunc_extern Tryz.func147 (by kernel_rfl) (by kernel_rfl) (by kernel_rfl) (e := Extern.MapsClone.clone) (by kernel_rfl), run_maps_clone_sl w 159 HB.out]
  simp only [Result.andThen]
  rw [Oper.upon_value]
  go_wp2
  rw [run_typeAssert_map_sl _ 159 _ _ _ _ Tryz.underlying159]
  simp only [Result.andThen]
  rw [Oper.upon_value]
  go_wp2
  go_ret
  exact ⟨rfl, ⟨es, ck, heap_alloc_new _ _, h1, h2⟩, grown_alloc (grown_refl _ _) _⟩
set_option maxHeartbeats 2000000 in
theorem copy_any : Calls Tryz.prog 62 #[.pointer (some ⟨t, 0, none⟩)] w fun e w' => ∃ t' b', e = .returned (.pointer (some ⟨t', 0, none⟩)) ∧ MkAt w' t' b' N s ∧ w.heap.size ≤ t' ∧ w.heap.size ≤ b' ∧ w.grownBy w' none := by
  have hc0 := H.c0
  have hc := H.c1
  have HC := Lib.hid (clone_any (w := w.drew) (b := b) (H.grown (grown_drew (grown_refl _ _))).map)
  have HH := Lib.hid H
  have hlt := H.lt
  clear H
  go_enter Tryz.func62, Tryz.ntmps62
  go_wp2_with fail
  go_region_with (go_at_call 105; ((with_reducible refine HC.out.mono ?_); rintro e w2 ⟨rfl, hm2, hgr2⟩; have hc2 := hgr2.cell (show w.drew.cell? ⟨t, 0, none⟩ = _ from hc0) (by simp)))
  all_goals
    go_wp2_with fail
    go_ret
    have hs2 := hgr2.size
    have hl2 := hm2.lt
    refine ⟨_, _, rfl, ⟨heap_alloc_new _ _, hm2.same (Below.heap_alloc _ _ _ hl2), HH.out.dom, HH.out.small⟩, by simpa using hs2, by simp, ⟨hgr2.os, hgr2.tape, hgr2.output, by simp at hs2 ⊢; omega, fun k hk h => ?_⟩⟩
    exact (Below.heap_alloc _ _ _ (by simp at hs2; omega)).trans (hgr2.block k hk h)
end

theorem new_no (c : Cfg) (w : World) (hT : Tab w) (hm : ¬ c.may) : Calls Tryz.prog 45 #[.agg c.cells] w fun e w' => e = .returned (.tuple #[.pointer none, .int .i64 2]) ∧ w.grownBy w' none := by
  have HG0 : Hid (w.grownBy (w.alloc (.cells c.cells 27)) none) := Lib.hid (grown_alloc (grown_refl _ _) _)
  have HM := Lib.hid (may_any c (w.alloc (.cells c.cells 27)) (hT.grown HG0.out))
  rw [yes_not hm] at HM
  clear hT hm
  unfold Cfg.cells at *
  go_enter Tryz.func45, Tryz.ntmps45
  go_wp2_with (go_at_call 42; ((with_reducible refine HM.out.mono ?_); rintro e w1 ⟨rfl, hg1⟩; have HG1 := Lib.hid hg1; clear hg1))
  go_ret2
  exact ⟨rfl, grown_trans HG0.out HG1.out⟩
set_option maxHeartbeats 1000000 in
theorem new_yes (c : Cfg) (N : Nat) (w : World) (hT : Tab w) (hm : c.may) (hN : c.data = (N : Int)) (hs : N ≤ 256) : Calls Tryz.prog 45 #[.agg c.cells] w fun e w' => ∃ t b, e = .returned (.tuple #[.pointer (some ⟨t, 0, none⟩), .int .i64 0]) ∧ MkAt w' t b N Ms.zero ∧ w.heap.size ≤ t ∧ w.heap.size ≤ b ∧ w.grownBy w' none := by
  have hg0 : w.grownBy (w.alloc (.cells c.cells 27)) none := grown_alloc (grown_refl _ _) _
  have HM := Lib.hid (may_any c (w.alloc (.cells c.cells 27)) (hT.grown hg0))
  rw [yes_of hm] at HM
  have HC := Lib.hid (cfg_at w c)
  obtain ⟨d0, d1, d2, d3, d4, d5, d6, d7⟩ := (cfg_at w c)
  have HD : Hid (∀ w', w.grownBy w' none → _) := Lib.hid fun w' h => data_yes c w' (hT.grown h) hm
  rw [hN] at HD
  have HG0 := Lib.hid hg0
  have hmm := @run_makeMap Tryz.prog
  have HS := Lib.hid hs
  clear hT hm hg0 hN hs
  unfold Cfg.cells at *
  go_enter Tryz.func45, Tryz.ntmps45
  go_wp2_with (first
    | (go_at_call 42; ((with_reducible refine HM.out.mono ?_); rintro e w1 ⟨rfl, hg1⟩; have HG1 := Lib.hid hg1; obtain ⟨d0, d1, d2, d3, d4, d5, d6, d7⟩ := HC.out.grown hg1; clear hg1))
    | (go_at_call 41; ((with_reducible refine (HD.out _ (grown_trans HG0.out HG1.out)).mono ?_); rintro e w3 ⟨rfl, hg3⟩; have HG3 := Lib.hid hg3; clear hg3)))
  go_ret2
  have hs1 : w.heap.size ≤ w3.heap.size := (grown_trans HG0.out (grown_trans HG1.out HG3.out)).size
  refine ⟨w3.heap.size + 1, w3.heap.size, rfl, ⟨?_, ?_, dom_zero _, HS.out⟩, by omega, hs1, grown_alloc (grown_alloc (grown_trans HG0.out (grown_trans HG1.out HG3.out)) _) _⟩
  · have := heap_alloc_new (w3.alloc (.map #[] 0)) (.cells #[.int .i64 (N : Int), .map (some w3.heap.size)] 161)
    rwa [World.size_alloc] at this
  · exact (tt.MapAt.new w3).same (Below.heap_alloc _ _ _ (by simp))
end Go.Proofs.YtinogiidiommkaaGreatDoor.mrk
