/-
  The law MemBlocks returns true: the walk. No condition but the bounds that each theorem names.
-/
import Derived.Test.YtcbkfgcjjhifdaaC9
namespace Go.Proofs.Ytcbkfgcjjhifdaa.pp
open Go Go.ChangeShapes Go.WideShapes Go.ChangeAt Go.RowKit
set_option linter.unusedVariables false

theorem index_any (x : List Int) (k : Nat) (y : Int) (hx : x.length = 16) (hy : x[k]? = some y) (w : World) : (Instr.index 30 (.agg (row x)) (.int .i64 (k : Int))).run Try.prog w = .ok (.int .u32 y) w := by
  have hk : k < 16 := by rw [← hx]; exact (List.getElem?_eq_some_iff.1 hy).1
  have hr : (row x)[k]? = some (.int .u32 y) := by rw [row_get, hy]; rfl
  simp [Instr.index, asIntOf, part, hr, hk]

set_option maxHeartbeats 2000000 in
theorem blocks_true (a b : List Int) (at_ : Int) (ha : a.length = 16) (hb : b.length = 16) (w : World) : Calls Try.prog 7 #[.agg (row a), .agg (row b), .int .i64 at_] w fun e w' => e = .returned (.bool true) ∧ w.grownBy w' none := by
  have HA := Lib.hid ha
  have HB := Lib.hid hb
  have q1 : ∀ w, (binOp .neq 30 (.agg (row b)) (.agg (row b))).run Try.prog w = .ok (.bool false) w := fun w => by rw [q30 w _ _ hb hb]; simp
  have q2 : ∀ w, (binOp .neq 30 (.agg (row a)) (.agg (row a))).run Try.prog w = .ok (.bool false) w := fun w => by rw [q30 w _ _ ha ha]; simp
  have q3 : ∀ w, (binOp .eql 30 (.agg (row b)) (.agg (row b))).run Try.prog w = .ok (.bool true) w := fun w => by rw [q30e w _ _ hb hb]; simp
  have HM1 : ∀ w, Hid (Calls Try.prog 12 #[.agg (row a), .agg (row b), .int .u16 65535] w fun e w' => e = .returned (.agg (row b)) ∧ w.grownBy w' none) := fun w => Lib.hid (by have := merge_any a b 65535 ha hb (by omega) w; rwa [mrg_all a b hb] at this)
  have HM2 : ∀ w, Hid (Calls Try.prog 12 #[.agg (row a), .agg (row b), .int .u16 0] w fun e w' => e = .returned (.agg (row a)) ∧ w.grownBy w' none) := fun w => Lib.hid (by have := merge_any a b 0 ha hb (by omega) w; rwa [mrg_none a b ha] at this)
  have hn := new_ok 4 ((w.alloc (.cells (row a) 30)).alloc (.cells (row b) 30)) (by omega) (by omega)
  rw [show ((4 : Nat) : Int) = 4 from rfl] at hn
  have HN := Lib.hid hn
  obtain ⟨t, n, HT, hagg, hsize, hld⟩ := named
  have la := hld w.heap.size a ha
  have lb := hld (w.heap.size + 1) b hb
  clear ha hb hld hn
  go_enter Try.func7, Try.ntmps7
  go_wp2_with (go_at_call 10; ((with_reducible refine HN.out.mono ?_); rintro e w1 ⟨mb, mv, rfl, hm1, hg1, _, hv1⟩))
  have HMM := Lib.hid hm1
  have HW0 : Hid (w.grownBy ((w.alloc (.cells (row a) 30)).alloc (.cells (row b) 30)) none) := Lib.hid (grown_alloc (grown_alloc (grown_refl w none) _) _)
  have HG1 : Hid (w.grownBy w1 none) := Lib.hid (grown_trans HW0.out hg1)
  have HV : Hid (∀ k, mv.ownBlock = some k → w.heap.size + 2 ≤ k) := Lib.hid fun k hk => by have := hv1 k hk; simp at this; omega
  have hA1 : w1.rangeAt w.heap.size 0 (rl a) := range_grown (range_of (heap_alloc2_old w _ _)) hg1
  have hB1 : w1.rangeAt (w.heap.size + 1) 0 (rl b) := range_grown (range_of (heap_alloc2_new w _ _)) hg1
  have HS1 : Hid (w.heap.size + 2 ≤ w1.heap.size) := Lib.hid (by have := hg1.size; simp at this; omega)
  have HS : Hid (w1.drew.rangeAt w.heap.size 0 (rl a) ∧ w1.drew.rangeAt (w.heap.size + 1) 0 (rl b) ∧ w1.grownBy w1.drew none) := Lib.hid ⟨hA1, hB1, ⟨rfl, rfl, rfl, Nat.le_refl _, fun _ _ _ => rfl⟩⟩
  have HKA : Hid (w1.heap[w.heap.size]? = some (.cells (row a) 30 (0, 0))) := Lib.hid ((hg1.block _ (by simp; omega) (by simp)).trans (heap_alloc2_old w _ _))
  have HKB : Hid (w1.heap[w.heap.size + 1]? = some (.cells (row b) 30 (0, 0))) := Lib.hid ((hg1.block _ (by simp) (by simp)).trans (heap_alloc2_new w _ _))
  clear hm1 hg1 hv1 hA1 hB1
  rw [HT.out]
  go_region_held (fun w' => w'.rangeAt w.heap.size 0 (rl a) ∧ w'.rangeAt (w.heap.size + 1) 0 (rl b) ∧ w1.grownBy w' none) (first | exact HS.out | exact Two.next (by assumption) (by assumption))
    (first
      | (go_at_call 12; ((with_reducible refine (HM1 _).out.mono ?_); rintro e w2 ⟨rfl, hg2⟩))
      | (go_at_call 12; ((with_reducible refine (HM2 _).out.mono ?_); rintro e w2 ⟨rfl, hg2⟩)))
  have hh : w2.rangeAt w.heap.size 0 (rl a) ∧ w2.rangeAt (w.heap.size + 1) 0 (rl b) ∧ w1.grownBy w2 none := by assumption
  have HM2' := Lib.hid (HMM.out.kept hh.2.2)
  have HG2 := Lib.hid (grown_trans HG1.out hh.2.2)
  have HKA2 : Hid (w2.heap[w.heap.size]? = some (.cells (row a) 30 (0, 0))) := Lib.hid ((hh.2.2.block _ (by have := HS1.out; omega) (by simp)).trans HKA.out)
  have HKB2 : Hid (w2.heap[w.heap.size + 1]? = some (.cells (row b) 30 (0, 0))) := Lib.hid ((hh.2.2.block _ (by have := HS1.out; omega) (by simp)).trans HKB.out)
  have HSZ : Hid (w.heap.size + 2 ≤ w2.heap.size) := Lib.hid (by have := hh.2.2.size; have := HS1.out; omega)
  clear hh HS la lb hagg hsize hg2 HM1 HM2 HMM HN q1 q2
  by_cases hin : 0 ≤ at_ ∧ at_ ≤ 3
  · obtain ⟨m, rfl⟩ : ∃ m : Nat, at_ = (m : Int) := ⟨at_.toNat, by omega⟩
    have hm3 : m ≤ 3 := by omega
    have HS3 : Hid (Calls Try.prog 17 #[.pointer (some ⟨mb, 0, none⟩), .int .i64 (m : Int), .agg (row a)] w2 fun e w' => e = .returned (.int .i64 0) ∧ Mem w' mb mv ((List.replicate 4 zero).set m a) ∧ w2.grownBy w' mv.ownBlock) := Lib.hid (set_block_in mb mv _ m a HA.out w2 HM2'.out (by simp; omega))
    clear hin
    go_wp2_with (first
      | ((with_reducible refine load_any a 3 w.heap.size ?_ ?_ HA.out ?_); (rfl); (exact HKA2.out))
      | (go_at_call 17; ((with_reducible refine HS3.out.mono ?_); rintro e w3 ⟨rfl, hm3', hg3⟩; have HM3 := Lib.hid hm3'; have HG3 := Lib.hid hg3; have HKA3 : Hid (w3.heap[w.heap.size]? = some (.cells (row a) 30 (0, 0))) := Lib.hid ((hg3.block _ (by have := HSZ.out; omega) (fun e => by have := HV.out _ e.symm; omega)).trans HKA2.out); clear hm3' hg3))
      | ((with_reducible refine load_any a 3 w.heap.size ?_ ?_ HA.out ?_); (rfl); (exact HKA3.out)))
    have HF : ∀ wr, Hid (w3.grownBy wr none) → w.grownBy wr none := fun wr h => grown_trans (grown_fresh HG2.out HG3.out fun g hg => by have := HV.out g hg; omega) h.out
    have HKB3 : Hid (w3.heap[w.heap.size + 1]? = some (.cells (row b) 30 (0, 0))) := Lib.hid ((HG3.out.block _ (by have := HSZ.out; omega) (fun e => by have := HV.out _ e.symm; omega)).trans HKB2.out)
    have HG03 : Hid (w.grownBy w3 none) := Lib.hid (grown_fresh HG2.out HG3.out fun g hg => by have := HV.out g hg; omega)
    clear hg2 HF
    go_loopw [54] (fun i wr => ∃ k : Nat, k ≤ 16 ∧ i = .int .i64 (k : Int) ∧ Mem wr mb mv ((List.replicate 4 zero).set m (mrgK a b 65535 k)) ∧ wr.heap[w.heap.size + 1]? = some (.cells (row b) 30 (0, 0)) ∧ w.grownBy wr none) (fun i _ => 16 - (intOf i).toNat)
    case atStart => exact ⟨0, by omega, rfl, by rw [mrgK_zero _ _ _ HA.out]; exact HM3.out, HKB3.out, HG03.out⟩
    case round =>
      obtain ⟨k, hk, rfl, hm, hkb, hg⟩ := hrel
      have HM := Lib.hid hm
      have HK := Lib.hid hkb
      have HG := Lib.hid hg
      have hgl : w.heap.size + 1 < wr.heap.size := (Array.getElem?_eq_some_iff.1 hkb).1
      have HGL := Lib.hid hgl
      have hbit : ∀ k, k < 16 → (65535 : Nat).testBit k = true := fun k hk => by
        have := Nat.testBit_two_pow_sub_one 16 k
        rw [show 2 ^ 16 - 1 = 65535 from rfl] at this
        rw [this]; simpa using hk
      by_cases hlt : k < 16
      · obtain ⟨y, hy⟩ : ∃ y, y = a.getD k 0 := ⟨_, rfl⟩
        obtain ⟨z, hz⟩ : ∃ z, z = b.getD k 0 := ⟨_, rfl⟩
        have hra : (row a)[k]? = some (.int .u32 y) := by rw [hy, row_get, List.getD_eq_getElem?_getD, List.getElem?_eq_getElem (by rw [HA.out]; exact hlt)]; rfl
        have hrb : (row b)[k]? = some (.int .u32 z) := by rw [hz, row_get, List.getD_eq_getElem?_getD, List.getElem?_eq_getElem (by rw [HB.out]; exact hlt)]; rfl
        have hx : ((List.replicate 4 zero).set m (mrgK a b 65535 k))[m]? = some (mrgK a b 65535 k) := List.getElem?_set_self (by simp; omega)
        have hxk : (mrgK a b 65535 k)[k]? = some y := by rw [mrgK_get _ _ _ _ _ hlt, hy]; simp
        have HW : Hid (Calls Try.prog 11 #[.pointer (some ⟨mb, 0, none⟩), .int .i64 (m : Int), .int .i64 (k : Int)] wr fun e w' => e = .returned (.tuple #[.int .u32 y, .int .i64 0]) ∧ wr.grownBy w' none ∧ w'.cell? ⟨w.heap.size + 1, k, none⟩ = some (.int .u32 z)) := Lib.hid ((word_in mb mv _ m k _ y wr HM.out hx hxk).mono fun e w' ⟨h1, h2⟩ => ⟨h1, h2, by rw [cell_of_row _ _ k _ _ _ ((h2.block _ hgl (by simp)).trans hkb)]; exact hrb⟩)
        have HSW : Hid (∀ w5, wr.grownBy w5 none → Calls Try.prog 16 #[.pointer (some ⟨mb, 0, none⟩), .int .i64 (m : Int), .int .i64 (k : Int), .int .u32 z] w5 fun e w' => e = .returned (.int .i64 0) ∧ Mem w' mb mv ((List.replicate 4 zero).set m (mrgK a b 65535 (k + 1))) ∧ w5.grownBy w' mv.ownBlock) := Lib.hid fun w5 h5 => by
          have := set_word_in mb mv _ m k _ z w5 (HM.out.kept h5) hx hlt
          rwa [List.set_set, hz, ← mrgK_has a b 65535 k hlt (hbit k hlt), ← hz] at this
        have hyy : (y != y) = false := by simp
        have hidx := index_any a k y HA.out (by rw [hy, List.getD_eq_getElem?_getD, List.getElem?_eq_getElem (by rw [HA.out]; exact hlt)]; rfl)
        clear hm hkb hg hy hz hx hxk hbit hrb
        go_wp2_with (first
          | (go_at_call 11; ((with_reducible refine HW.out.mono ?_); rintro e w5 ⟨rfl, hg5, hc5⟩; have HG5 := Lib.hid hg5; clear hg5))
          | (go_at_call 16; ((with_reducible refine (HSW.out _ HG5.out).mono ?_); rintro e w6 ⟨rfl, hm6, hg6⟩; have HM6 := Lib.hid hm6; have HG6 := Lib.hid hg6; clear hm6 hg6)))
        go_roundw
        case rel => exact ⟨k + 1, by omega, by go_num, HM6.out, (HG6.out.block _ (Nat.lt_of_lt_of_le HGL.out HG5.out.size) (fun e => by have := HV.out _ e.symm; omega)).trans ((HG5.out.block _ HGL.out (by simp)).trans HK.out), grown_fresh (grown_trans HG.out HG5.out) HG6.out fun g hg => by have := HV.out g hg; omega⟩
        case measure => simp [intOf]; omega
      · have hk16 : k = 16 := by omega
        subst hk16
        have hx : ((List.replicate 4 zero).set m (mrgK a b 65535 16))[m]? = some b := by
          rw [show mrgK a b 65535 16 = mrg a b 65535 from rfl, mrg_all a b HB.out]; exact List.getElem?_set_self (by simp; omega)
        have HBI : Hid (Calls Try.prog 14 #[.pointer (some ⟨mb, 0, none⟩), .int .i64 (m : Int)] wr fun e w' => e = .returned (.tuple #[.agg (row b), .int .i64 0]) ∧ wr.grownBy w' none ∧ w'.heap[w.heap.size + 1]? = some (.cells (row b) 30 (0, 0)) ∧ w.heap.size + 1 < w'.heap.size) := Lib.hid ((block_in mb mv _ m b wr HM.out hx).mono fun e w' ⟨h1, h2⟩ => ⟨h1, grown_row h2, ((grown_row h2).block _ hgl (by simp)).trans hkb, Nat.lt_of_lt_of_le hgl (grown_row h2).size⟩)
        clear hm hkb hg hx hbit hk hlt
        go_wp2_with (first
          | (go_at_call 14; ((with_reducible refine HBI.out.mono ?_); rintro e w5 ⟨rfl, hg5, hk5, hl5⟩; have HG5 := Lib.hid hg5; have HK5 := Lib.hid hk5; have HL5 := Lib.hid hl5; clear hg5 hk5 hl5))
          | ((with_reducible refine store_new' b 13 87 ?_ ?_ HB.out ?_); (rfl); (rfl))
          | ((with_reducible refine load_any b 13 w5.heap.size ?_ ?_ HB.out ?_); (rfl); (exact heap_alloc_new _ _))
          | ((with_reducible refine load_any b 4 (w.heap.size + 1) ?_ ?_ HB.out ?_); (rfl); (exact (Below.heap_alloc _ _ _ HL5.out).trans HK5.out))
          | (go_at_call 15; ((refine (works_any _).mono ?_); rintro e w7 ⟨rfl, hg7⟩; have HG7 := Lib.hid hg7; clear hg7)))
        go_ret
        exact ⟨rfl, grown_trans (grown_trans HG.out HG5.out) (grown_trans (grown_alloc (grown_refl _ _) _) HG7.out)⟩
  · have HS3 := Lib.hid (set_block_err mb mv _ at_ a HA.out w2 HM2'.out (by simp; omega))
    have hd : decide (at_ < 0) = true ∨ (decide (at_ < 0) = false ∧ decide (3 < at_) = true) := by simp; omega
    clear hin hg2
    rcases hd with hd | ⟨hd, hd2⟩
    · go_wp2_with (first
        | ((with_reducible refine load_any a 3 w.heap.size ?_ ?_ HA.out ?_); (rfl); (exact HKA2.out))
        | (go_at_call 17; ((with_reducible refine HS3.out.mono ?_); rintro e w3 ⟨rfl, hg3⟩; have HG3 := Lib.hid hg3; clear hg3))
        | (go_at_call 15; ((refine (works_any _).mono ?_); rintro e w7 ⟨rfl, hg7⟩; have HG7 := Lib.hid hg7; clear hg7)))
      go_ret
      exact ⟨rfl, grown_trans (grown_trans HG2.out HG3.out) HG7.out⟩
    · go_wp2_with (first
        | ((with_reducible refine load_any a 3 w.heap.size ?_ ?_ HA.out ?_); (rfl); (exact HKA2.out))
        | (go_at_call 17; ((with_reducible refine HS3.out.mono ?_); rintro e w3 ⟨rfl, hg3⟩; have HG3 := Lib.hid hg3; clear hg3))
        | (go_at_call 15; ((refine (works_any _).mono ?_); rintro e w7 ⟨rfl, hg7⟩; have HG7 := Lib.hid hg7; clear hg7)))
      go_ret
      exact ⟨rfl, grown_trans (grown_trans HG2.out HG3.out) HG7.out⟩
end Go.Proofs.Ytcbkfgcjjhifdaa.pp
