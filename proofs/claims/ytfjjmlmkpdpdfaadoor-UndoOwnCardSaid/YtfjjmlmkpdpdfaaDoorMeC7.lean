/-
  What Merge answers, both the program's and the document's: contracts. No condition but the bounds that each theorem names.
-/
import Derived.Test.YtfjjmlmkpdpdfaaDoorMeC6
import Derived.Laws.BitsAllLaws
namespace Go.Proofs.YtfjjmlmkpdpdfaaDoor.pp
open Go Go.ChangeShapes Go.WideShapes Go.ChangeAt Go.RowKit
set_option linter.unusedVariables false

/-- a, but with b's words at those of the first k places whose bit is 1 in m. -/
def mrgK (a b : List Int) (m k : Nat) : List Int := (List.range 16).map fun j => if j < k ∧ m.testBit j then b.getD j 0 else a.getD j 0
def mrg (a b : List Int) (m : Nat) : List Int := mrgK a b m 16
theorem mrgK_len (a b : List Int) (m k : Nat) : (mrgK a b m k).length = 16 := by simp [mrgK]
theorem mrg_len (a b : List Int) (m : Nat) : (mrg a b m).length = 16 := mrgK_len _ _ _ _
theorem mrgK_get (a b : List Int) (m k j : Nat) (hj : j < 16) : (mrgK a b m k)[j]? = some (if j < k ∧ m.testBit j then b.getD j 0 else a.getD j 0) := by
  simp [mrgK, List.getElem?_range hj]
theorem mrgK_zero (a b : List Int) (m : Nat) (ha : a.length = 16) : mrgK a b m 0 = a := by
  apply List.ext_getElem?
  intro j
  by_cases hj : j < 16
  · rw [mrgK_get _ _ _ _ _ hj]
    simp [List.getD_eq_getElem?_getD, List.getElem?_eq_getElem (show j < a.length by omega)]
  · rw [List.getElem?_eq_none (by rw [mrgK_len]; omega), List.getElem?_eq_none (by omega)]
theorem mrgK_not (a b : List Int) (m k : Nat) (h : m.testBit k = false) : mrgK a b m (k + 1) = mrgK a b m k := by
  unfold mrgK
  apply List.map_congr_left
  intro j _
  by_cases hj : j = k
  · subst hj; simp [h]
  · simp [show (j < k + 1) = (j < k) by simp; omega]
theorem mrgK_has (a b : List Int) (m k : Nat) (hk : k < 16) (h : m.testBit k = true) : mrgK a b m (k + 1) = (mrgK a b m k).set k (b.getD k 0) := by
  apply List.ext_getElem?
  intro j
  by_cases hj : j < 16
  · rw [mrgK_get _ _ _ _ _ hj, List.getElem?_set, mrgK_get _ _ _ _ _ hj, mrgK_len]
    by_cases e : k = j
    · subst e; simp [h, hk]
    · simp [e, show (j < k + 1) = (j < k) by simp; omega]
  · rw [List.getElem?_eq_none (by rw [mrgK_len]; omega), List.getElem?_eq_none (by rw [List.length_set, mrgK_len]; omega)]

theorem bit_any (m k : Nat) (hm : m < 65536) : (bits .and .u16 ((m : Int) / 2 ^ k) 1 == 1) = m.testBit k := by
  have e : (m : Int) / 2 ^ k = ((m / 2 ^ k : Nat) : Int) := by rw [Int.natCast_ediv, Int.natCast_pow]; rfl
  have hlt : m / 2 ^ k < 65536 := Nat.lt_of_le_of_lt (Nat.div_le_self _ _) hm
  have h := u16_and_nat (m / 2 ^ k) 1 hlt (by decide)
  rw [e, show (1 : Int) = ((1 : Nat) : Int) from rfl, h, Nat.and_one_is_mod, Nat.testBit_eq_decide_div_mod_eq, Bool.eq_iff_iff]
  simp
  omega

end Go.Proofs.YtfjjmlmkpdpdfaaDoor.pp
