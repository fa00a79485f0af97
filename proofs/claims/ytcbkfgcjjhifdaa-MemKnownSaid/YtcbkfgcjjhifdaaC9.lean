/-
  The law MemMergesBoth returns true: the walk. No condition but the bounds that each theorem names.
-/
import Derived.Test.YtcbkfgcjjhifdaaC8
namespace Go.Proofs.Ytcbkfgcjjhifdaa.pp
open Go Go.ChangeShapes Go.WideShapes Go.ChangeAt Go.RowKit
set_option linter.unusedVariables false

theorem mrg_get (a b : List Int) (m j : Nat) (hj : j < 16) : (mrg a b m)[j]? = some (if m.testBit j then b.getD j 0 else a.getD j 0) := by
  rw [mrg, mrgK_get _ _ _ _ _ hj]; simp [hj]
theorem mrg_getD (a b : List Int) (m j : Nat) (hj : j < 16) : (mrg a b m).getD j 0 = if m.testBit j then b.getD j 0 else a.getD j 0 := by
  rw [List.getD_eq_getElem?_getD, mrg_get _ _ _ _ hj]; rfl
theorem ext16 {x y : List Int} (hx : x.length = 16) (hy : y.length = 16) (h : ∀ j, j < 16 → x.getD j 0 = y.getD j 0) : x = y := by
  apply List.ext_getElem?
  intro j
  by_cases hj : j < 16
  · have := h j hj
    rw [List.getD_eq_getElem?_getD, List.getD_eq_getElem?_getD, List.getElem?_eq_getElem (show j < x.length by omega), List.getElem?_eq_getElem (show j < y.length by omega)] at this
    rw [List.getElem?_eq_getElem (show j < x.length by omega), List.getElem?_eq_getElem (show j < y.length by omega)]
    exact congrArg some this
  · rw [List.getElem?_eq_none (by omega), List.getElem?_eq_none (by omega)]
theorem mrg_rest (a b : List Int) (m : Nat) (ha : a.length = 16) (hb : b.length = 16) (hm : m < 65536) : mrg (mrg a b m) b (65535 - m) = b := ext16 (mrg_len _ _ _) hb fun j hj => by
  have ht : (65535 - m).testBit j = !m.testBit j := by
    have := Nat.testBit_two_pow_sub_succ (x := m) (n := 16) (by omega) j
    rw [show 2 ^ 16 - (m + 1) = 65535 - m by omega] at this
    rw [this]; simp [hj]
  rw [mrg_getD _ _ _ _ hj, mrg_getD _ _ _ _ hj, ht]
  cases m.testBit j <;> rfl
theorem mrg_twice (a b : List Int) (m : Nat) : mrg (mrg a b m) b m = mrg a b m := ext16 (mrg_len _ _ _) (mrg_len _ _ _) fun j hj => by
  rw [mrg_getD _ _ _ _ hj, mrg_getD _ _ _ _ hj]
  cases m.testBit j <;> rfl
theorem mrg_undo (a b : List Int) (m : Nat) (ha : a.length = 16) : mrg (mrg a b m) a m = a := ext16 (mrg_len _ _ _) ha fun j hj => by
  rw [mrg_getD _ _ _ _ hj, mrg_getD _ _ _ _ hj]
  cases m.testBit j <;> rfl
theorem mrg_all (a b : List Int) (hb : b.length = 16) : mrg a b 65535 = b := ext16 (mrg_len _ _ _) hb fun j hj => by
  rw [mrg_getD _ _ _ _ hj, if_pos]
  have := Nat.testBit_two_pow_sub_one 16 j
  rw [show 2 ^ 16 - 1 = 65535 from rfl] at this
  rw [this]; simpa using hj
theorem mrg_none (a b : List Int) (ha : a.length = 16) : mrg a b 0 = a := ext16 (mrg_len _ _ _) ha fun j hj => by
  rw [mrg_getD _ _ _ _ hj, if_neg (by simp)]

theorem not16 (m : Nat) (hm : m < 65536) : bits .xor .u16 IntKind.u16.max (m : Int) = ((65535 - m : Nat) : Int) := by
  rw [show IntKind.u16.max = ((65535 : Nat) : Int) from rfl, u16_xor_nat 65535 m (by decide) hm]
  congr 1
  apply Nat.eq_of_testBit_eq
  intro j
  have h1 := Nat.testBit_two_pow_sub_succ (x := m) (n := 16) (by omega) j
  have h2 := Nat.testBit_two_pow_sub_one 16 j
  rw [show 2 ^ 16 - (m + 1) = 65535 - m by omega] at h1
  rw [show 2 ^ 16 - 1 = 65535 from rfl] at h2
  rw [Nat.testBit_xor, h1, h2]
  by_cases hj : j < 16
  · simp [hj]
  · have : m.testBit j = false := Nat.testBit_lt_two_pow (Nat.lt_of_lt_of_le hm (Nat.pow_le_pow_right (by decide) (by omega) : 2 ^ 16 ≤ 2 ^ j))
    simp [hj, this]

theorem both_next {w w1 w2 : World} {g1 g2 g3 : Nat} {x y z : List Int} (h : w1.rangeAt g1 0 (rl x) ∧ w1.rangeAt g2 0 (rl y) ∧ w1.rangeAt g3 0 (rl z) ∧ w.grownBy w1 none) (k : w1.grownBy w2 none) : w2.rangeAt g1 0 (rl x) ∧ w2.rangeAt g2 0 (rl y) ∧ w2.rangeAt g3 0 (rl z) ∧ w.grownBy w2 none :=
  ⟨range_grown h.1 k, range_grown h.2.1 k, range_grown h.2.2.1 k, grown_trans h.2.2.2 k⟩

theorem both_true (a b : List Int) (m : Nat) (ha : a.length = 16) (hb : b.length = 16) (hm : m < 65536) (w : World) : Calls Try.prog 9 #[.agg (row a), .agg (row b), .int .u16 (m : Int)] w fun e w' => e = .returned (.bool true) ∧ w.grownBy w' none := by
  have HA := Lib.hid ha
  have HB := Lib.hid hb
  obtain ⟨c, hc⟩ : ∃ c, c = mrg a b m := ⟨_, rfl⟩
  have hcl : c.length = 16 := by rw [hc]; exact mrg_len _ _ _
  have HC := Lib.hid hcl
  have e1 : mrg c b (65535 - m) = b := by rw [hc]; exact mrg_rest a b m ha hb hm
  have e2 : mrg c b m = c := by rw [hc]; exact mrg_twice a b m
  have e3 : mrg c a m = a := by rw [hc]; exact mrg_undo a b m ha
  have q1 : ∀ w, (binOp .eql 30 (.agg (row b)) (.agg (row b))).run Try.prog w = .ok (.bool true) w := fun w => by rw [q30e w _ _ hb hb]; simp
  have q2 : ∀ w, (binOp .eql 30 (.agg (row c)) (.agg (row c))).run Try.prog w = .ok (.bool true) w := fun w => by rw [q30e w _ _ hcl hcl]; simp
  have q3 : ∀ w, (binOp .eql 30 (.agg (row a)) (.agg (row a))).run Try.prog w = .ok (.bool true) w := fun w => by rw [q30e w _ _ ha ha]; simp
  have HM0 : ∀ w, Hid (Calls Try.prog 12 #[.agg (row a), .agg (row b), .int .u16 (m : Int)] w fun e w' => e = .returned (.agg (row c)) ∧ w.grownBy w' none) := fun w => Lib.hid (by rw [hc]; exact merge_any a b m ha hb hm w)
  have HM1 : ∀ w, Hid (Calls Try.prog 12 #[.agg (row c), .agg (row b), .int .u16 (bits .xor .u16 IntKind.u16.max (m : Int))] w fun e w' => e = .returned (.agg (row b)) ∧ w.grownBy w' none) := fun w => Lib.hid (by have := merge_any c b (65535 - m) hcl hb (by omega) w; rwa [e1, ← not16 m hm] at this)
  have HM2 : ∀ w, Hid (Calls Try.prog 12 #[.agg (row c), .agg (row b), .int .u16 (m : Int)] w fun e w' => e = .returned (.agg (row c)) ∧ w.grownBy w' none) := fun w => Lib.hid (by have := merge_any c b m hcl hb hm w; rwa [e2] at this)
  have HM3 : ∀ w, Hid (Calls Try.prog 12 #[.agg (row c), .agg (row a), .int .u16 (m : Int)] w fun e w' => e = .returned (.agg (row a)) ∧ w.grownBy w' none) := fun w => Lib.hid (by have := merge_any c a m hcl ha hm w; rwa [e3] at this)
  clear e1 e2 e3 hc
  obtain ⟨t, n, HT, hagg, hsize, hld⟩ := named
  have la := hld w.heap.size a ha
  have lb := hld (w.heap.size + 1) b hb
  have ld := fun g => hld g c hcl
  clear ha hb hld
  go_enter Try.func9, Try.ntmps9
  go_wp2_with (first
    | ((with_reducible refine load_any a 3 w.heap.size ?_ ?_ HA.out ?_); (rfl); (exact heap_alloc2_old w _ _))
    | ((with_reducible refine load_any b 4 (w.heap.size + 1) ?_ ?_ HB.out ?_); (rfl); (exact heap_alloc2_new w _ _))
    | (go_at_call 12; ((with_reducible refine (HM0 _).out.mono ?_); rintro e w1 ⟨rfl, hg1⟩))
    | ((with_reducible refine store_new' c 7 11 ?_ ?_ HC.out ?_); (rfl); (rfl)))
  have lc := ld w1.heap.size
  have hgw : w.grownBy w1 none := grown_trans (grown_alloc (grown_alloc (grown_refl w none) (.cells (row a) 30)) (.cells (row b) 30)) hg1
  have hA1 : w1.rangeAt w.heap.size 0 (rl a) := range_grown (range_of (heap_alloc2_old w _ _)) hg1
  have hB1 : w1.rangeAt (w.heap.size + 1) 0 (rl b) := range_grown (range_of (heap_alloc2_new w _ _)) hg1
  have hg2 : w1.grownBy (w1.alloc (.cells (row c) 30)).drew none := let h := grown_alloc (grown_refl w1 none) (.cells (row c) 30); ⟨h.os, h.tape, h.output, h.size, h.block⟩
  have HS : Hid ((w1.alloc (.cells (row c) 30)).drew.rangeAt w.heap.size 0 (rl a) ∧ (w1.alloc (.cells (row c) 30)).drew.rangeAt (w.heap.size + 1) 0 (rl b) ∧ (w1.alloc (.cells (row c) 30)).drew.rangeAt w1.heap.size 0 (rl c) ∧ w.grownBy (w1.alloc (.cells (row c) 30)).drew none) :=
    Lib.hid ⟨range_grown hA1 hg2, range_grown hB1 hg2, range_of (heap_alloc_new _ _), grown_trans hgw hg2⟩
  clear ld hA1 hB1 hg2 hgw hg1
  rw [HT.out]
  go_region_held (fun w' => w'.rangeAt w.heap.size 0 (rl a) ∧ w'.rangeAt (w.heap.size + 1) 0 (rl b) ∧ w'.rangeAt w1.heap.size 0 (rl c) ∧ w.grownBy w' none) (first | exact HS.out | exact both_next (by assumption) (by assumption))
    (first
      | (go_at_call 12; ((with_reducible refine (HM1 _).out.mono ?_); rintro e w2 ⟨rfl, hg2⟩))
      | (go_at_call 12; ((with_reducible refine (HM2 _).out.mono ?_); rintro e w2 ⟨rfl, hg2⟩))
      | (go_at_call 12; ((with_reducible refine (HM3 _).out.mono ?_); rintro e w2 ⟨rfl, hg2⟩))
      | (go_at_call 15; ((refine (works_any _).mono ?_); rintro e w3 ⟨rfl, hg3⟩)))
  go_wp2_with fail
  go_ret
  have hh : w3.rangeAt w.heap.size 0 (rl a) ∧ w3.rangeAt (w.heap.size + 1) 0 (rl b) ∧ w3.rangeAt w1.heap.size 0 (rl c) ∧ w.grownBy w3 none := by assumption
  exact ⟨rfl, hh.2.2.2⟩
end Go.Proofs.Ytcbkfgcjjhifdaa.pp
