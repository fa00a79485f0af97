/-
  What is answered where there is no near: contracts. No condition.
-/
import Derived.Test.YtljkohknhphcfaaGreatDoorNlS
namespace Go.Proofs.YtljkohknhphcfaaGreatDoor.nl
open Go Go.ChangeShapes Go.WideShapes Go.ChangeAt Go.RowKit Go.Shelf
open Go.Proofs.YtljkohknhphcfaaGreatDoor.nr
open Go.Proofs.YtljkohknhphcfaaGreatDoor.tt (Cfg Nt na nt zn bare zd fits row tyne lt_of U Tab TabK grown_refl grown_trans grown_alloc grown_setCells grown_drew grown_drewN yes Sl Next flat)
open Go.Proofs.YtljkohknhphcfaaGreatDoor.kk (Ln St zl la ln cfind cdrop cuse cgoes cwrite cturn cput setAt setOf live fF Shp Cac Kept)
open Go.Proofs.YtljkohknhphcfaaGreatDoor.bk (Bk rem kills puts putE fd fl Nd Rg dead fresh BkAt)
open Go.Proofs.YtljkohknhphcfaaGreatDoor.mrk (Ms rdS wrS meets addE Dom MkAt)
open Go.Proofs.YtljkohknhphcfaaGreatDoor.de (Dl sT gE rF aD LAt)
open Go.Proofs.YtljkohknhphcfaaGreatDoor.oo (ref)
set_option linter.unusedVariables false
set_option maxRecDepth 1000000
set_option maxHeartbeats 4000000


theorem ask_nil (w : World) : Calls Tryz.prog 16 #[.pointer none, .int .i64 0, .bool false] w fun e w' => e = .returned (.tuple #[.bool false, .slice none 0 0, .int .i64 1]) ∧ w = w' := by
  go_enter Tryz.func16, Tryz.ntmps16
  go_wp2_with (fail)
  go_ret3
  exact ⟨rfl, rfl⟩
theorem clear_nil (w : World) : Calls Tryz.prog 18 #[.pointer none] w fun e w' => e = .returned (.tuple #[]) ∧ w = w' := by
  go_enter Tryz.func18, Tryz.ntmps18
  go_wp2_with (fail)
  refine bodyPost_end (results_none rfl _ _ _) rfl ?_
  exact ⟨rfl, rfl⟩
theorem deal_nil (w : World) : Calls Tryz.prog 24 #[.pointer none] w fun e w' => e = .returned (.pointer none) ∧ w = w' := by
  go_enter Tryz.func24, Tryz.ntmps24
  go_wp2_with (fail)
  go_ret
  exact ⟨rfl, rfl⟩
theorem copy_nil (w : World) : Calls Tryz.prog 25 #[.pointer none] w fun e w' => e = .returned (.pointer none) ∧ w = w' := by
  go_enter Tryz.func25, Tryz.ntmps25
  go_wp2_with (fail)
  go_ret
  exact ⟨rfl, rfl⟩
theorem take_nil (n : Nt) (w : World) : Calls Tryz.prog 20 #[.pointer none, .agg (na n)] w fun e w' => e = .returned (.tuple #[.slice none 0 0, .bool false, .int .i64 1]) ∧ w.grownBy w' none := by
  go_enter Tryz.func20, Tryz.ntmps20
  go_wp2_with fail
  go_ret3
  exact ⟨rfl, grown_alloc (grown_refl _ _) _⟩
theorem line_nil (w : World) : Calls Tryz.prog 48 #[.pointer none, .int .i64 0, .int .i64 0] w fun e w' => e = .returned (.tuple #[.agg (la zl), .int .i64 1]) ∧ w.grownBy w' none := by
  have HV : Hid ((w.alloc (.cells (la zl) 50)).heap[w.heap.size]? = some (.cells (la zl) 50 (0, 0)) ∧ w.grownBy ((w.alloc (.cells (la zl) 50)).setRow w.heap.size (la zl)) none ∧ ((w.alloc (.cells (la zl) 50)).setRow w.heap.size (la zl)).rangeAt w.heap.size 0 (ln zl)) := Lib.hid (var_ln (grown_refl w none) zl)
  have HZ : Hid (la zl = _) := Lib.hid kk.zl_la
  rw [HZ.out] at HV
  go_enter Tryz.func48, Tryz.ntmps48
  go_wp2_with ((with_reducible refine kk.store_any zl zl 6 12 w.heap.size ?_ ?_ ?_ ?_); ((rfl)); ((rfl)); ((exact HV.out.1)))
  refine ret_ln2 rfl (x := zl) (g := w.heap.size) rfl rfl ?_ ⟨rfl, ?_⟩
  · have := HV.out.2.2; rw [← HZ.out] at this; exact this
  · have := HV.out.2.1; rw [← HZ.out] at this; exact this
theorem linem_nil (w : World) : Calls Tryz.prog 21 #[.pointer none, .int .i64 0] w fun e w' => e = .returned (.tuple #[.agg (la zl), .bool false]) ∧ w.grownBy w' none := by
  have HV : Hid ((w.alloc (.cells (la zl) 50)).heap[w.heap.size]? = some (.cells (la zl) 50 (0, 0)) ∧ w.grownBy ((w.alloc (.cells (la zl) 50)).setRow w.heap.size (la zl)) none ∧ ((w.alloc (.cells (la zl) 50)).setRow w.heap.size (la zl)).rangeAt w.heap.size 0 (ln zl)) := Lib.hid (var_ln (grown_refl w none) zl)
  have HZ : Hid (la zl = _) := Lib.hid kk.zl_la
  rw [HZ.out] at HV
  go_enter Tryz.func21, Tryz.ntmps21
  go_wp2_with ((with_reducible refine kk.store_any zl zl 4 8 w.heap.size ?_ ?_ ?_ ?_); ((rfl)); ((rfl)); ((exact HV.out.1)))
  refine ret_ln2 rfl (x := zl) (g := w.heap.size) rfl rfl ?_ ⟨rfl, ?_⟩
  · have := HV.out.2.2; rw [← HZ.out] at this; exact this
  · have := HV.out.2.1; rw [← HZ.out] at this; exact this
theorem load_nil (w : World) : Calls Tryz.prog 19 #[.pointer none, .int .i64 0, .int .i64 0] w fun e w' => e = .returned (.tuple #[.int .u32 0, .int .i64 1]) ∧ w.grownBy w' none := by
  have HL := Lib.hid (line_nil w)
  have HV : Hid (∀ w1 : World, w.grownBy w1 none → _) := Lib.hid fun w1 hg => var_ln (w := w) (w1 := w1) hg zl
  have HZ : Hid (la zl = _) := Lib.hid kk.zl_la
  obtain ⟨z, hz⟩ : ∃ z, zl = z := ⟨_, rfl⟩
  have HVZ : Hid (∀ w1 : World, w.grownBy w1 none → (w1.alloc (.cells (la zl) 50)).heap[w1.heap.size]? = some (.cells (la zl) 50 (0, 0)) ∧ w.grownBy ((w1.alloc (.cells (la zl) 50)).setRow w1.heap.size (la z)) none) := Lib.hid fun w1 hg => by rw [← hz]; exact ⟨(HV.out w1 hg).1, (HV.out w1 hg).2.1⟩
  rw [HZ.out] at HVZ
  have HL2 : Hid (Calls Tryz.prog 48 #[.pointer none, .int .i64 0, .int .i64 0] w fun e w' => e = .returned (.tuple #[.agg (la z), .int .i64 1]) ∧ w.grownBy w' none) := Lib.hid (hz ▸ HL.out)
  clear HL HV hz
  go_enter Tryz.func19, Tryz.ntmps19
  go_wp2_with (first
    | (go_at_call 48; ((with_reducible refine HL2.out.mono ?_); rintro e w1 ⟨rfl, hg1⟩; have HV1 := Lib.hid (HVZ.out w1 hg1); clear hg1))
    | ((with_reducible refine kk.store_any z zl 8 15 w1.heap.size ?_ ?_ ?_ ?_); ((rfl)); ((rfl)); ((exact HV1.out.1))))
  go_ret2
  exact ⟨rfl, HV1.out.2⟩
theorem store_nil (w : World) : Calls Tryz.prog 15 #[.pointer none, .int .i64 0, .int .i64 0, .int .u32 0] w fun e w' => e = .returned (.tuple #[.int .u32 0, .int .i64 1]) ∧ w.grownBy w' none := by
  have HL := Lib.hid (line_nil w)
  have HV : Hid (∀ w1 : World, w.grownBy w1 none → _) := Lib.hid fun w1 hg => var_ln (w := w) (w1 := w1) hg zl
  have HZ : Hid (la zl = _) := Lib.hid kk.zl_la
  obtain ⟨z, hz⟩ : ∃ z, zl = z := ⟨_, rfl⟩
  have HVZ : Hid (∀ w1 : World, w.grownBy w1 none → (w1.alloc (.cells (la zl) 50)).heap[w1.heap.size]? = some (.cells (la zl) 50 (0, 0)) ∧ w.grownBy ((w1.alloc (.cells (la zl) 50)).setRow w1.heap.size (la z)) none) := Lib.hid fun w1 hg => by rw [← hz]; exact ⟨(HV.out w1 hg).1, (HV.out w1 hg).2.1⟩
  rw [HZ.out] at HVZ
  have HL2 : Hid (Calls Tryz.prog 48 #[.pointer none, .int .i64 0, .int .i64 0] w fun e w' => e = .returned (.tuple #[.agg (la z), .int .i64 1]) ∧ w.grownBy w' none) := Lib.hid (hz ▸ HL.out)
  clear HL HV hz
  go_enter Tryz.func15, Tryz.ntmps15
  go_wp2_with (first
    | (go_at_call 48; ((with_reducible refine HL2.out.mono ?_); rintro e w1 ⟨rfl, hg1⟩; have HV1 := Lib.hid (HVZ.out w1 hg1); clear hg1))
    | ((with_reducible refine kk.store_any z zl 10 16 w1.heap.size ?_ ?_ ?_ ?_); ((rfl)); ((rfl)); ((exact HV1.out.1))))
  go_ret2
  exact ⟨rfl, HV1.out.2⟩
theorem waits_nil (w : World) : Calls Tryz.prog 22 #[.pointer none] w fun e w' => e = .returned (.tuple #[.agg (na zn), .bool false]) ∧ w.grownBy w' none := by
  obtain ⟨z, hz⟩ : ∃ z, zn = z := ⟨_, rfl⟩
  have HV : Hid ((w.alloc (.cells (na zn) 37)).heap[w.heap.size]? = some (.cells (na zn) 37 (0, 0)) ∧ w.grownBy ((w.alloc (.cells (na zn) 37)).setRow w.heap.size (na z)) none ∧ ((w.alloc (.cells (na zn) 37)).setRow w.heap.size (na z)).rangeAt w.heap.size 0 (nt z)) := Lib.hid (var_nt (grown_refl w none) z)
  have HZ : Hid (na z = _) := Lib.hid (hz ▸ zn_na)
  rw [zn_na] at HV
  rw [hz]
  go_enter Tryz.func22, Tryz.ntmps22
  go_wp2_with ((with_reducible refine tt.store_any z (na zn) 2 6 w.heap.size ?_ ?_ ?_ ?_ ?_); ((rfl)); ((exact congrArg Value.agg HZ.out.symm)); ((exact HV.out.1)); ((rfl)))
  exact ret_nt2 rfl (x := z) (g := w.heap.size) rfl rfl HV.out.2.2 ⟨rfl, HV.out.2.1⟩
theorem back_nil (w : World) : Calls Tryz.prog 23 #[.pointer none, .int .i64 0] w fun e w' => e = .returned (.tuple #[.agg (row zd), .bool false, .bool false]) ∧ w.grownBy w' none := by
  obtain ⟨z, hz⟩ : ∃ z, zd = z := ⟨_, rfl⟩
  have hzl : z.length = 16 := by rw [← hz]; rfl
  have hb := heap_alloc_new w (.cells (row zd) 35)
  have HT : Hid ((w.alloc (.cells (row zd) 35)).there w.heap.size 0 16) := Lib.hid (there_at hb (by exact Nat.le_refl _))
  have HF : Hid (((w.alloc (.cells (row zd) 35)).setCells w.heap.size 0 (z.map U)).rangeAt w.heap.size 0 (z.map U)) := Lib.hid fun j x hv => by
    rw [Nat.zero_add, cell_of_row _ _ j _ _ _ (filled hb (by rw [List.length_map, hzl]; rfl)), List.getElem?_toArray]; exact hv
  have HG : Hid (w.grownBy ((w.alloc (.cells (row zd) 35)).setCells w.heap.size 0 (z.map U)) none) := Lib.hid (tt.grown_new (grown_alloc (grown_refl _ _) _) (Nat.le_refl _) (grown_setCells _ _ _ _))
  have HZ : Hid (row zd = _) := Lib.hid bk.zrow
  rw [HZ.out] at HT HF HG
  rw [hz] at HZ
  rw [hz]
  have HZL := Lib.hid hzl
  clear hz hzl hb
  go_enter Tryz.func23, Tryz.ntmps23
  go_wp2_with ((with_reducible refine store_b z HZL.out 4 9 w.heap.size 0 ?_ ?_ HT.out ?_); ((rfl)); ((exact congrArg Value.agg HZ.out.symm)))
  exact bk.ret_row3 rfl _ z HZL.out _ _ w.heap.size _ _ rfl rfl rfl HF.out ⟨rfl, HG.out⟩
end Go.Proofs.YtljkohknhphcfaaGreatDoor.nl
