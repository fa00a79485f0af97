/-
  What writing back what was there makes of the data words, as rows of words. No condition but the bounds that each theorem names.
-/
import Derived.Test.YtfjjmlmkpdpdfaaDoorUdC
namespace Go.Proofs.YtfjjmlmkpdpdfaaDoor.ud
open Go Go.RowKit
open Go.Proofs.YtfjjmlmkpdpdfaaDoor.tt (Cfg Tab trip CfgAt)
set_option linter.unusedVariables false

theorem put1_take (bs : List (List Int)) (N i k : Nat) (y : Int) (h : i < N) : (put1 bs i k y).take N = put1 (bs.take N) i k y := by
  unfold put1
  rw [List.take_set]
  have e : (bs.take N).getD i [] = bs.getD i [] := by
    rw [List.getD_eq_getElem?_getD, List.getD_eq_getElem?_getD, List.getElem?_take, if_pos h]
  rw [e]
theorem put1_far (bs : List (List Int)) (N i k : Nat) (y : Int) (h : N ≤ i) : (put1 bs i k y).take N = bs.take N := by
  unfold put1
  rw [List.take_set, List.set_eq_of_length_le]
  rw [List.length_take]; omega
theorem putE_far (bs : List (List Int)) (N F k : Nat) (x : Int × Int) (h : N ≤ F) : (putE bs F k x).take N = bs.take N := by
  unfold putE
  rw [put1_far _ _ _ _ _ (by omega), put1_far _ _ _ _ _ (by omega)]
theorem put1_back (bs : List (List Int)) (i k : Nat) (x : Int) (hi : i < bs.length) (hk : k < (bs.getD i []).length) : put1 (put1 bs i k x) i k ((bs.getD i []).getD k 0) = bs := by
  have e : (put1 bs i k x).getD i [] = (bs.getD i []).set k x := by
    unfold put1
    rw [List.getD_eq_getElem?_getD, List.getElem?_set_self hi]; rfl
  unfold put1 at *
  rw [e, List.set_set, List.set_set]
  have e2 : (bs.getD i []).set k ((bs.getD i []).getD k 0) = bs.getD i [] := by
    rw [List.getD_eq_getElem?_getD (l := bs.getD i []), List.getElem?_eq_getElem hk]
    exact List.set_getElem_self hk
  rw [e2, List.getD_eq_getElem?_getD, List.getElem?_eq_getElem hi]
  exact List.set_getElem_self hi

/-- Written back from the last one on. -/
def undo (es : List (Int × Int)) (D : List (List Int)) : List (List Int) := es.foldr (fun x D => put1 D (x.1 / 64).toNat (x.1 % 64 / 4).toNat x.2) D
theorem undo_last (es : List (Int × Int)) (x : Int × Int) (D : List (List Int)) : undo (es ++ [x]) D = undo es (put1 D (x.1 / 64).toNat (x.1 % 64 / 4).toNat x.2) := by
  unfold undo; rw [List.foldr_append]; rfl
theorem addr_of (b k : Nat) (hk : k < 16) : (((b * 64 + k * 4 : Nat) : Int) / 64).toNat = b ∧ (((b * 64 + k * 4 : Nat) : Int) % 64 / 4).toNat = k := by omega
/-- A write behind what was there: written back, all is as ahead of it. -/
theorem undo_step (bs : List (List Int)) (es : List (Int × Int)) (N F b k : Nat) (x : Int) (hb : b < N) (hbl : b < bs.length) (hk : k < 16) (h16 : (bs.getD b []).length = 16) (hF : N ≤ F) :
    undo (es ++ [(((b * 64 + k * 4 : Nat) : Int), (bs.getD b []).getD k 0)]) ((put1 (putE bs F es.length (((b * 64 + k * 4 : Nat) : Int), (bs.getD b []).getD k 0)) b k x).take N) = undo es (bs.take N) := by
  obtain ⟨e1, e2⟩ := addr_of b k hk
  rw [undo_last]
  show undo es (put1 _ (((b * 64 + k * 4 : Nat) : Int) / 64).toNat (((b * 64 + k * 4 : Nat) : Int) % 64 / 4).toNat _) = _
  rw [e1, e2, put1_take _ _ _ _ _ hb, putE_far _ _ _ _ _ hF]
  have e : (bs.take N).getD b [] = bs.getD b [] := by
    rw [List.getD_eq_getElem?_getD, List.getD_eq_getElem?_getD, List.getElem?_take, if_pos hb]
  have := put1_back (bs.take N) b k x (by rw [List.length_take]; omega) (by rw [e, h16]; exact hk)
  rw [e] at this
  rw [this]
end Go.Proofs.YtfjjmlmkpdpdfaaDoor.ud
