/-
  The entries of a log as they stand in memory: plain facts. No condition.
-/
import Derived.Test.YtfjjmlmkpdpdfaaDoorUdG
namespace Go.Proofs.YtfjjmlmkpdpdfaaDoor.ud
open Go Go.RowKit
open Go.Proofs.YtfjjmlmkpdpdfaaDoor.pp (getW inn)
set_option linter.unusedVariables false

theorem put1_other (bs : List (List Int)) (i j k : Nat) (y : Int) (h : i ≠ j) : (put1 bs i k y).getD j [] = bs.getD j [] := by
  unfold put1
  rw [List.getD_eq_getElem?_getD, List.getElem?_set_ne h, ← List.getD_eq_getElem?_getD]
/-- The entries stand in memory, one behind the other. -/
def Stands (F : Nat) (es : List (Int × Int)) (bs : List (List Int)) : Prop := ∀ (i : Nat) (x : Int × Int), es[i]? = some x → (bs.getD (F + i / 8) []).getD (i % 8 * 2) 0 = x.1 ∧ (bs.getD (F + i / 8) []).getD (i % 8 * 2 + 1) 0 = x.2
theorem put1_at (bs : List (List Int)) (b k : Nat) (y : Int) (hb : b < bs.length) (hk : k < (bs.getD b []).length) (b' k' : Nat) : ((put1 bs b k y).getD b' []).getD k' 0 = if b' = b ∧ k' = k then y else (bs.getD b' []).getD k' 0 := by
  by_cases h : b' = b
  · subst h
    have e : (put1 bs b' k y).getD b' [] = (bs.getD b' []).set k y := by
      unfold put1
      rw [List.getD_eq_getElem?_getD, List.getElem?_set_self hb]; rfl
    rw [e]
    by_cases h2 : k' = k
    · subst h2
      rw [if_pos ⟨rfl, rfl⟩, List.getD_eq_getElem?_getD, List.getElem?_set_self hk]; rfl
    · rw [if_neg (fun h => h2 h.2), List.getD_eq_getElem?_getD, List.getElem?_set_ne (fun e => h2 e.symm), ← List.getD_eq_getElem?_getD]
  · rw [if_neg (fun k => h k.1), put1_other _ _ _ _ _ (fun e => h e.symm)]
theorem put1_rows (bs : List (List Int)) (b k : Nat) (y : Int) (h : ∀ x ∈ bs, x.length = 16) (hb : b < bs.length) : ∀ x ∈ put1 bs b k y, x.length = 16 := fun x hx => by
  unfold put1 at hx
  rcases List.mem_or_eq_of_mem_set hx with h1 | h1
  · exact h x h1
  · rw [h1, List.length_set]
    exact h _ (by rw [List.getD_eq_getElem?_getD, List.getElem?_eq_getElem hb]; exact List.getElem_mem _)
theorem row_len (bs : List (List Int)) (b : Nat) (h : ∀ x ∈ bs, x.length = 16) (hb : b < bs.length) : (bs.getD b []).length = 16 := h _ (by rw [List.getD_eq_getElem?_getD, List.getElem?_eq_getElem hb]; exact List.getElem_mem _)
theorem Stands.add {F : Nat} {es : List (Int × Int)} {bs : List (List Int)} (h : Stands F es bs) (x : Int × Int) (hb : F + es.length / 8 < bs.length) (hr : ∀ x ∈ bs, x.length = 16) : Stands F (es ++ [x]) (putE bs F es.length x) := by
  have hb2 : F + es.length / 8 < (put1 bs (F + es.length / 8) (es.length % 8 * 2) x.1).length := by rw [put1_len]; exact hb
  have l1 := row_len bs _ hr hb
  have l2 := row_len _ _ (put1_rows bs (F + es.length / 8) (es.length % 8 * 2) x.1 hr hb) hb2
  intro i y hy
  have hi : i < (es ++ [x]).length := (List.getElem?_eq_some_iff.1 hy).1
  unfold putE
  rw [put1_at _ _ _ _ hb2 (by omega), put1_at _ _ _ _ hb2 (by omega), put1_at _ _ _ _ hb (by omega), put1_at _ _ _ _ hb (by omega)]
  by_cases hl : i < es.length
  · rw [List.getElem?_append_left hl] at hy
    rw [if_neg (by omega), if_neg (by omega), if_neg (by omega), if_neg (by omega)]
    exact h i y hy
  · have hie : i = es.length := by simp at hi; omega
    subst hie
    rw [List.getElem?_append_right (Nat.le_refl _)] at hy
    simp at hy
    subst hy
    rw [if_neg (by omega), if_pos ⟨rfl, rfl⟩, if_pos ⟨rfl, rfl⟩]
    exact ⟨rfl, rfl⟩
theorem Stands.pop {F : Nat} {es : List (Int × Int)} {bs : List (List Int)} (h : Stands F es bs) : Stands F es.dropLast bs := fun i x hx => h i x (by
  rw [List.dropLast_eq_take] at hx
  have hi : i < (es.take (es.length - 1)).length := (List.getElem?_eq_some_iff.1 hx).1
  rw [List.length_take] at hi
  rw [List.getElem?_take, if_pos (by omega)] at hx
  exact hx)
theorem Stands.get {F : Nat} {es : List (Int × Int)} {bs : List (List Int)} (h : Stands F es bs) {i : Nat} {x : Int × Int} (hx : es[i]? = some x) (hb : F + i / 8 < bs.length) : getW bs ((F + i / 8 : Nat) : Int) ((i % 8 * 2 : Nat) : Int) = x.1 ∧ getW bs ((F + i / 8 : Nat) : Int) ((i % 8 * 2 + 1 : Nat) : Int) = x.2 := by
  rw [mem_word_get hb (by omega), mem_word_get hb (by omega)]
  exact h i x hx
theorem Stands.nil (F : Nat) (bs : List (List Int)) : Stands F [] bs := fun i x h => by simp at h
/-- A word of another block is written. -/
theorem Stands.set {F : Nat} {es : List (Int × Int)} {bs : List (List Int)} (h : Stands F es bs) {b k : Nat} (y : Int) (hb : b < F) : Stands F es (put1 bs b k y) := fun i x hx => by
  rw [put1_other _ _ _ _ _ (by omega)]
  exact h i x hx
end Go.Proofs.YtfjjmlmkpdpdfaaDoor.ud
