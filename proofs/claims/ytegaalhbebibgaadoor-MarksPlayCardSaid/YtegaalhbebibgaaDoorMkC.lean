/-
  Marks: what New, Copy, All answer: contracts. Condition: for New the table of bounds lies in its variable as the program's text has it.
-/
import Derived.Test.YtegaalhbebibgaaDoorMkB
import Derived.Test.YtegaalhbebibgaaDoorMkL
import Derived.Shelf.SlMaps.Clone
import Derived.Shelf.AbstractIn
namespace Go.Proofs.YtegaalhbebibgaaDoor.mrk
open Go Go.ChangeShapes Go.WideShapes Go.ChangeAt Go.RowKit Go.Maps Go.Sort Go.Shelf
open Go.Proofs.YtegaalhbebibgaaDoor.tt (Cfg Tab CfgAt cfg_at yes yes_of yes_not may_any data_yes data_no grown_refl grown_alloc grown_trans grown_drew grown_drewN lt_of MapAt mput ik run_lookup_map map_store tyne)
set_option linter.unusedVariables false
set_option maxRecDepth 1000000

section
variable {w : World} {t b N : Nat} {s : Ms} (H : MkAt w t b N s)
include H
set_option maxHeartbeats 2000000 in
theorem all_any : Calls Tryd.prog 16 #[.pointer (some ⟨t, 0, none⟩)] w fun e w' => ∃ v, e = .returned v ∧ w'.ownsRow w.heap.size 3 1 v (keys N s).length ((keys N s).map encZ) ∧ w.grownBy w' none := by
  obtain ⟨D, hown, hsz, hperm⟩ := MapAt.owns Tryd.underlying3 H.map H.dom (Nat.le_trans H.small (by omega))
  have hc := H.c1
  have hN := H.small
  have hbl := hown.lt
  refine Calls.mono (R := fun e w' => ∃ (v : Value) (ss : List Int), e = .returned v ∧ ss.Perm (intKeys D) ∧ w'.ownsRow w.heap.size 3 1 v ss.length ((ss.mergeSort (fun x y => decide (x ≤ y))).map encZ) ∧ Below w.heap.size w w') ?_ ?_
  · refine (callsIn_wide (n := 6)).1 ?_
    have hseq : SeqGives Fence.wide 2 Tryd.prog 42 #[.pointer (some ⟨w.heap.size, 0, none⟩)] encZ (fun ss => ss.Perm (intKeys D)) (Maps.size D) (w.alloc (.cells #[.map (some b)] 50)) :=
      AnyZI.keys_gives (ρ := keysA_ren) { keysA with } Fence.wide _ trivial rfl (by omega) w.heap.size b N D _ (by simp) (by simp) (by
        obtain ⟨es, clock, hb, Ft, hs, hD⟩ := hown
        exact ⟨es, clock, (Below.heap_alloc _ _ b hbl).trans hb, Ft, hs, hD⟩)
    have cK : ∀ mb W, CallsIn Fence.wide 5 Tryd.prog 33 #[.map mb] W fun e w' => e = .returned (.func (.func 42) #[] #[.pointer (some ⟨W.heap.size, 0, none⟩)]) ∧ w' = W.alloc (.cells #[.map mb] 50) := fun mb W => AnyZI.keys_in keysA Fence.wide 5 trivial rfl mb W
    have cS := AnyZI.sorted_in sortedA Fence.wide 5 trivial trivial trivial trivial rfl (by omega) (sortsA _) (enters_of Tryd.func41 (by kernel_rfl) rfl) 42 #[.pointer (some ⟨w.heap.size, 0, none⟩)] trivial (enters_of Tryd.func42 (by kernel_rfl) rfl) _ (Maps.size D) (by unfold maxLen; omega) (by omega) _ hseq
    change CallsIn _ _ Tryd.prog 32 _ _ _ at cS
    have hfK : Fence.wide.fn 33 := trivial
    have hfS : Fence.wide.fn 32 := trivial
    clear H hown hperm hsz hseq
    refine callsIn_of_wp Tryd.func16 rfl trivial ?_ rfl
    simp only [Tryd.ntmps16, List.size_toArray, List.length_cons, List.length_nil, Nat.reduceAdd, Nat.reduceSub, Array.replicate_succ, Array.replicate_zero, List.push_toArray, List.append_toArray, List.nil_append, List.cons_append]
    gi_wp2_with (first
      | (gi_at_call 33; refine (cK _ _).mono ?_; rintro e w' ⟨rfl, rfl⟩)
      | (gi_at_call 32; refine cS.mono ?_; rintro e w' ⟨v, ss, rfl, hS, hrow, hnil, hb⟩))
    go_ret
    exact ⟨v, ss, rfl, hS, ownsRow_base_a hrow (by simp), ((Below.refl _ w).alloc (Nat.le_refl _) _).trans (hb.mono (by simp))⟩
  · rintro e w' ⟨v, ss, rfl, hp, hrow, hb⟩
    have hpk := hp.trans hperm
    rw [keys_sorted hpk, hpk.length_eq] at hrow
    exact ⟨v, rfl, hrow, grown_of_below hb⟩
set_option maxHeartbeats 2000000 in
omit H in
theorem clone_any {f : Int → Option Value} (hM : MapAt w b f) :
    Calls Tryd.prog 34 #[.map (some b)] w fun e w' => e = .returned (.map (some w.heap.size)) ∧ MapAt w' w.heap.size f ∧ w.grownBy w' none := by
  obtain ⟨es, ck, hb, h1, h2⟩ := hM
  have hq := fun w => run_eql_map_nil_sl (P := Tryd.prog) w 50 _ _ (some b) Tryd.underlying50
  have HB := Lib.hid hb
  clear hb
  go_enter Tryd.func34, Tryd.ntmps34
  go_wp2
  rw [run_callFunc_extern Tryd.func43 (by kernel_rfl) (by kernel_rfl) (by kernel_rfl) (e := Extern.MapsClone.clone) (by kernel_rfl), run_maps_clone_sl w 50 HB.out]
  simp only [Result.andThen]
  rw [Oper.upon_value]
  go_wp2
  rw [run_typeAssert_map_sl _ 50 _ _ _ _ Tryd.underlying50]
  simp only [Result.andThen]
  rw [Oper.upon_value]
  go_wp2
  go_ret
  exact ⟨rfl, ⟨es, ck, heap_alloc_new _ _, h1, h2⟩, grown_alloc (grown_refl _ _) _⟩
set_option maxHeartbeats 2000000 in
theorem copy_any : Calls Tryd.prog 17 #[.pointer (some ⟨t, 0, none⟩)] w fun e w' => ∃ t' b', e = .returned (.pointer (some ⟨t', 0, none⟩)) ∧ MkAt w' t' b' N s ∧ w.heap.size ≤ t' ∧ w.heap.size ≤ b' ∧ w.grownBy w' none := by
  have hc0 := H.c0
  have hc := H.c1
  have HC := Lib.hid (clone_any (w := w.drew) (b := b) (H.grown (grown_drew (grown_refl _ _))).map)
  have HH := Lib.hid H
  have hlt := H.lt
  clear H
  go_enter Tryd.func17, Tryd.ntmps17
  go_wp2_with fail
  go_region_with (go_at_call 34; ((with_reducible refine HC.out.mono ?_); rintro e w2 ⟨rfl, hm2, hgr2⟩; have hc2 := hgr2.cell (show w.drew.cell? ⟨t, 0, none⟩ = _ from hc0) (by simp)))
  all_goals
    go_wp2_with fail
    go_ret
    have hs2 := hgr2.size
    have hl2 := hm2.lt
    refine ⟨_, _, rfl, ⟨heap_alloc_new _ _, hm2.same (Below.heap_alloc _ _ _ hl2), HH.out.dom, HH.out.small⟩, by simpa using hs2, by simp, ⟨hgr2.os, hgr2.tape, hgr2.output, by simp at hs2 ⊢; omega, fun k hk h => ?_⟩⟩
    exact (Below.heap_alloc _ _ _ (by simp at hs2; omega)).trans (hgr2.block k hk h)
end

theorem new_no (c : Cfg) (w : World) (hT : Tab w) (hm : ¬ c.may) : Calls Tryd.prog 8 #[.agg c.cells] w fun e w' => e = .returned (.tuple #[.pointer none, .int .i64 2]) ∧ w.grownBy w' none := by
  have HG0 : Hid (w.grownBy (w.alloc (.cells c.cells 27)) none) := Lib.hid (grown_alloc (grown_refl _ _) _)
  have HM := Lib.hid (may_any c (w.alloc (.cells c.cells 27)) (hT.grown HG0.out))
  rw [yes_not hm] at HM
  clear hT hm
  unfold Cfg.cells at *
  go_enter Tryd.func8, Tryd.ntmps8
  go_wp2_with (go_at_call 28; ((with_reducible refine HM.out.mono ?_); rintro e w1 ⟨rfl, hg1⟩; have HG1 := Lib.hid hg1; clear hg1))
  go_ret2
  exact ⟨rfl, grown_trans HG0.out HG1.out⟩
set_option maxHeartbeats 1000000 in
theorem new_yes (c : Cfg) (N : Nat) (w : World) (hT : Tab w) (hm : c.may) (hN : c.data = (N : Int)) (hs : N ≤ 256) : Calls Tryd.prog 8 #[.agg c.cells] w fun e w' => ∃ t b, e = .returned (.tuple #[.pointer (some ⟨t, 0, none⟩), .int .i64 0]) ∧ MkAt w' t b N Ms.zero ∧ w.heap.size ≤ t ∧ w.heap.size ≤ b ∧ w.grownBy w' none := by
  have hg0 : w.grownBy (w.alloc (.cells c.cells 27)) none := grown_alloc (grown_refl _ _) _
  have HM := Lib.hid (may_any c (w.alloc (.cells c.cells 27)) (hT.grown hg0))
  rw [yes_of hm] at HM
  have HC := Lib.hid (cfg_at w c)
  obtain ⟨d0, d1, d2, d3, d4, d5, d6, d7⟩ := (cfg_at w c)
  have HD : Hid (∀ w', w.grownBy w' none → _) := Lib.hid fun w' h => data_yes c w' (hT.grown h) hm
  rw [hN] at HD
  have HG0 := Lib.hid hg0
  have hmm := @run_makeMap Tryd.prog
  have HS := Lib.hid hs
  clear hT hm hg0 hN hs
  unfold Cfg.cells at *
  go_enter Tryd.func8, Tryd.ntmps8
  go_wp2_with (first
    | (go_at_call 28; ((with_reducible refine HM.out.mono ?_); rintro e w1 ⟨rfl, hg1⟩; have HG1 := Lib.hid hg1; obtain ⟨d0, d1, d2, d3, d4, d5, d6, d7⟩ := HC.out.grown hg1; clear hg1))
    | (go_at_call 29; ((with_reducible refine (HD.out _ (grown_trans HG0.out HG1.out)).mono ?_); rintro e w3 ⟨rfl, hg3⟩; have HG3 := Lib.hid hg3; clear hg3)))
  go_ret2
  have hs1 : w.heap.size ≤ w3.heap.size := (grown_trans HG0.out (grown_trans HG1.out HG3.out)).size
  refine ⟨w3.heap.size + 1, w3.heap.size, rfl, ⟨?_, ?_, dom_zero _, HS.out⟩, by omega, hs1, grown_alloc (grown_alloc (grown_trans HG0.out (grown_trans HG1.out HG3.out)) _) _⟩
  · have := heap_alloc_new (w3.alloc (.map #[] 0)) (.cells #[.int .i64 (N : Int), .map (some w3.heap.size)] 52)
    rwa [World.size_alloc] at this
  · exact (tt.MapAt.new w3).same (Below.heap_alloc _ _ _ (by simp))
end Go.Proofs.YtegaalhbebibgaaDoor.mrk
