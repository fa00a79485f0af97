/-
  What Merge answers, both the program's and the document's: contracts. No condition but the bounds that each theorem names.
-/
import Derived.Test.YtcbkfgcjjhifdaaC6
import Derived.Laws.BitsAllLaws
namespace Go.Proofs.Ytcbkfgcjjhifdaa.pp
open Go Go.ChangeShapes Go.WideShapes Go.ChangeAt Go.RowKit
set_option linter.unusedVariables false

/-- a, but with b's words at those of the first k places whose bit is 1 in m. -/
def mrgK (a b : List Int) (m k : Nat) : List Int := (List.range 16).map fun j => if j < k ∧ m.testBit j then b.getD j 0 else a.getD j 0
def mrg (a b : List Int) (m : Nat) : List Int := mrgK a b m 16
theorem mrgK_len (a b : List Int) (m k : Nat) : (mrgK a b m k).length = 16 := by simp [mrgK]
theorem mrg_len (a b : List Int) (m : Nat) : (mrg a b m).length = 16 := mrgK_len _ _ _ _
theorem mrgK_get (a b : List Int) (m k j : Nat) (hj : j < 16) : (mrgK a b m k)[j]? = some (if j < k ∧ m.testBit j then b.getD j 0 else a.getD j 0) := by
  simp [mrgK, List.getElem?_range hj]
theorem mrgK_zero (a b : List Int) (m : Nat) (ha : a.length = 16) : mrgK a b m 0 = a := by
  apply List.ext_getElem?
  intro j
  by_cases hj : j < 16
  · rw [mrgK_get _ _ _ _ _ hj]
    simp [List.getD_eq_getElem?_getD, List.getElem?_eq_getElem (show j < a.length by omega)]
  · rw [List.getElem?_eq_none (by rw [mrgK_len]; omega), List.getElem?_eq_none (by omega)]
theorem mrgK_not (a b : List Int) (m k : Nat) (h : m.testBit k = false) : mrgK a b m (k + 1) = mrgK a b m k := by
  unfold mrgK
  apply List.map_congr_left
  intro j _
  by_cases hj : j = k
  · subst hj; simp [h]
  · simp [show (j < k + 1) = (j < k) by simp; omega]
theorem mrgK_has (a b : List Int) (m k : Nat) (hk : k < 16) (h : m.testBit k = true) : mrgK a b m (k + 1) = (mrgK a b m k).set k (b.getD k 0) := by
  apply List.ext_getElem?
  intro j
  by_cases hj : j < 16
  · rw [mrgK_get _ _ _ _ _ hj, List.getElem?_set, mrgK_get _ _ _ _ _ hj, mrgK_len]
    by_cases e : k = j
    · subst e; simp [h, hk]
    · simp [e, show (j < k + 1) = (j < k) by simp; omega]
  · rw [List.getElem?_eq_none (by rw [mrgK_len]; omega), List.getElem?_eq_none (by rw [List.length_set, mrgK_len]; omega)]

theorem bit_any (m k : Nat) (hm : m < 65536) : (bits .and .u16 ((m : Int) / 2 ^ k) 1 == 1) = m.testBit k := by
  have e : (m : Int) / 2 ^ k = ((m / 2 ^ k : Nat) : Int) := by rw [Int.natCast_ediv, Int.natCast_pow]; rfl
  have hlt : m / 2 ^ k < 65536 := Nat.lt_of_le_of_lt (Nat.div_le_self _ _) hm
  have h := u16_and_nat (m / 2 ^ k) 1 hlt (by decide)
  rw [e, show (1 : Int) = ((1 : Nat) : Int) from rfl, h, Nat.and_one_is_mod, Nat.testBit_eq_decide_div_mod_eq, Bool.eq_iff_iff]
  simp
  omega

theorem merge_any (a b : List Int) (m : Nat) (ha : a.length = 16) (hb : b.length = 16) (hm : m < 65536) (w : World) : Calls Try.prog 12 #[.agg (row a), .agg (row b), .int .u16 (m : Int)] w fun e w' => e = .returned (.agg (row (mrg a b m))) ∧ w.grownBy w' none := by
  have HA := Lib.hid ha
  have HB := Lib.hid hb
  clear ha hb
  go_enter Try.func12, Try.ntmps12
  go_wp2_with fail
  go_loopw [8, 7] (fun i _ wr => ∃ k : Nat, k ≤ 16 ∧ i = .int .i64 (k : Int) ∧ wr = ((w.alloc (.cells (row (mrgK a b m k)) 30)).alloc (.cells (row b) 30)).alloc (.cells (row zero) 30)) (fun i _ _ => 16 - (intOf i).toNat)
  case atStart => exact ⟨0, by omega, rfl, by rw [mrgK_zero _ _ _ HA.out]; rfl⟩
  case round =>
    obtain ⟨k, hk, rfl, rfl⟩ := hrel
    by_cases hlt : k < 16
    · have hr : (row (mrgK a b m k))[k]? = some (.int .u32 ((mrgK a b m k)[k]'(by rw [mrgK_len]; exact hlt))) := by rw [row_get, List.getElem?_eq_getElem (by rw [mrgK_len]; exact hlt)]; rfl
      obtain ⟨y, hy⟩ : ∃ y, y = b.getD k 0 := ⟨_, rfl⟩
      have hrb : (row b)[k]? = some (.int .u32 y) := by rw [hy, row_get, List.getD_eq_getElem?_getD, List.getElem?_eq_getElem (by rw [HB.out]; exact hlt)]; rfl
      have HY := Lib.hid hy
      clear hy
      have hbit := bit_any m k hm
      cases ht : m.testBit k with
      | true =>
        rw [ht] at hbit
        have HT := Lib.hid (mrgK_has a b m k hlt ht)
        have HS := Lib.hid (row_set (mrgK a b m k) k y)
        clear ht
        go_wp2_with fail
        go_roundw
        case rel => exact ⟨k + 1, by omega, by go_num, by rw [HT.out, ← HY.out, ← HS.out]; rfl⟩
        case measure => simp [intOf]; omega
      | false =>
        rw [ht] at hbit
        have HT := Lib.hid (mrgK_not a b m k ht)
        clear ht
        go_wp2_with fail
        go_roundw
        case rel => exact ⟨k + 1, by omega, by go_num, by rw [HT.out]⟩
        case measure => simp [intOf]; omega
    · have hkn : k = 16 := by omega
      subst hkn
      have h0 : (((w.alloc (.cells (row (mrg a b m)) 30)).alloc (.cells (row b) 30)).alloc (.cells (row zero) 30)).heap[w.heap.size]? = some (.cells (row (mrg a b m)) 30 (0, 0)) := (Below.heap_alloc _ _ _ (by simp; omega)).trans ((Below.heap_alloc _ _ _ (by simp)).trans (heap_alloc_new _ _))
      have h2 : (((w.alloc (.cells (row (mrg a b m)) 30)).alloc (.cells (row b) 30)).alloc (.cells (row zero) 30)).heap[w.heap.size + 1 + 1]? = some (.cells (row zero) 30 (0, 0)) := by
        have := heap_alloc_new ((w.alloc (.cells (row (mrg a b m)) 30)).alloc (.cells (row b) 30)) (.cells (row zero) 30)
        simpa using this
      have H0 := Lib.hid h0
      have H2 := Lib.hid h2
      clear h0 h2
      rw [show mrgK a b m 16 = mrg a b m from rfl]
      go_wp2_with (first
        | ((with_reducible refine load_any (mrg a b m) 3 w.heap.size ?_ ?_ (mrg_len a b m) ?_); (rfl); (exact H0.out))
        | ((with_reducible refine store_any (mrg a b m) zero 6 22 (w.heap.size + 1 + 1) ?_ ?_ (mrg_len a b m) ?_ zero_size ?_); (rfl); (rfl); (exact H2.out)))
      refine ret_cell rfl (mrg a b m) (mrg_len a b m) (w.heap.size + 1 + 1) ?_ _ (by rfl) _ ?_
      · exact setRow_heap _ _ _ _ _ _ H2.out
      · exact ⟨rfl, grown_setRow (grown_alloc (grown_alloc (grown_alloc (grown_refl _ _) _) _) _) _ (by omega) _⟩
theorem rmerge_any (a b : List Int) (m : Nat) (ha : a.length = 16) (hb : b.length = 16) (hm : m < 65536) (w : World) : Calls Try.prog 25 #[.agg (row a), .agg (row b), .int .u16 (m : Int)] w fun e w' => e = .returned (.agg (row (mrg a b m))) ∧ w.grownBy w' none := by
  have HA := Lib.hid ha
  have HB := Lib.hid hb
  clear ha hb
  go_enter Try.func25, Try.ntmps25
  go_wp2_with fail
  go_loopw [7, 8] (fun z i wr => ∃ k : Nat, k ≤ 16 ∧ i = .int .i64 (k : Int) ∧ (∃ x : Nat, z = .int .i64 (x : Int) ∧ x = m / 2 ^ k) ∧ wr = ((w.alloc (.cells (row (mrgK a b m k)) 30)).alloc (.cells (row b) 30)).alloc (.cells (row zero) 30)) (fun _ i _ => 16 - (intOf i).toNat)
  case atStart => exact ⟨0, by omega, rfl, ⟨m, rfl, by simp⟩, by rw [mrgK_zero _ _ _ HA.out]; rfl⟩
  case round =>
    obtain ⟨k, hk, rfl, ⟨x, rfl, hx⟩, rfl⟩ := hrel
    by_cases hlt : k < 16
    · have hr : (row (mrgK a b m k))[k]? = some (.int .u32 ((mrgK a b m k)[k]'(by rw [mrgK_len]; exact hlt))) := by rw [row_get, List.getElem?_eq_getElem (by rw [mrgK_len]; exact hlt)]; rfl
      obtain ⟨y, hy⟩ : ∃ y, y = b.getD k 0 := ⟨_, rfl⟩
      have hrb : (row b)[k]? = some (.int .u32 y) := by rw [hy, row_get, List.getD_eq_getElem?_getD, List.getElem?_eq_getElem (by rw [HB.out]; exact hlt)]; rfl
      have HY := Lib.hid hy
      clear hy
      have hbit := Nat.testBit_eq_decide_div_mod_eq (x := m) (i := k)
      rw [← hx] at hbit
      have hx16 : x < 65536 := by rw [hx]; exact Nat.lt_of_le_of_lt (Nat.div_le_self _ _) hm
      have HX : Hid (x / 2 = m / 2 ^ (k + 1)) := Lib.hid (by rw [hx, Nat.div_div_eq_div_mul, Nat.pow_succ])
      clear hx
      have hq : ((x : Int) % 2 == 1) = m.testBit k := by rw [hbit, Bool.eq_iff_iff]; simp; omega
      clear hbit
      cases ht : m.testBit k with
      | true =>
        rw [ht] at hq
        have HT := Lib.hid (mrgK_has a b m k hlt ht)
        have HS := Lib.hid (row_set (mrgK a b m k) k y)
        clear ht
        go_wp2_with fail
        go_roundw
        case rel => exact ⟨k + 1, by omega, by go_num, ⟨x / 2, by go_num, HX.out⟩, by rw [HT.out, ← HY.out, ← HS.out]; rfl⟩
        case measure => simp [intOf]; omega
      | false =>
        rw [ht] at hq
        have HT := Lib.hid (mrgK_not a b m k ht)
        clear ht
        go_wp2_with fail
        go_roundw
        case rel => exact ⟨k + 1, by omega, by go_num, ⟨x / 2, by go_num, HX.out⟩, by rw [HT.out]⟩
        case measure => simp [intOf]; omega
    · have hkn : k = 16 := by omega
      subst hkn
      have h0 : (((w.alloc (.cells (row (mrg a b m)) 30)).alloc (.cells (row b) 30)).alloc (.cells (row zero) 30)).heap[w.heap.size]? = some (.cells (row (mrg a b m)) 30 (0, 0)) := (Below.heap_alloc _ _ _ (by simp; omega)).trans ((Below.heap_alloc _ _ _ (by simp)).trans (heap_alloc_new _ _))
      have h2 : (((w.alloc (.cells (row (mrg a b m)) 30)).alloc (.cells (row b) 30)).alloc (.cells (row zero) 30)).heap[w.heap.size + 1 + 1]? = some (.cells (row zero) 30 (0, 0)) := by
        have := heap_alloc_new ((w.alloc (.cells (row (mrg a b m)) 30)).alloc (.cells (row b) 30)) (.cells (row zero) 30)
        simpa using this
      have H0 := Lib.hid h0
      have H2 := Lib.hid h2
      clear h0 h2
      rw [show mrgK a b m 16 = mrg a b m from rfl]
      go_wp2_with (first
        | ((with_reducible refine load_any (mrg a b m) 3 w.heap.size ?_ ?_ (mrg_len a b m) ?_); (rfl); (exact H0.out))
        | ((with_reducible refine store_any (mrg a b m) zero 6 25 (w.heap.size + 1 + 1) ?_ ?_ (mrg_len a b m) ?_ zero_size ?_); (rfl); (rfl); (exact H2.out)))
      refine ret_cell rfl (mrg a b m) (mrg_len a b m) (w.heap.size + 1 + 1) ?_ _ (by rfl) _ ?_
      · exact setRow_heap _ _ _ _ _ _ H2.out
      · exact ⟨rfl, grown_setRow (grown_alloc (grown_alloc (grown_alloc (grown_refl _ _) _) _) _) _ (by omega) _⟩
end Go.Proofs.Ytcbkfgcjjhifdaa.pp
