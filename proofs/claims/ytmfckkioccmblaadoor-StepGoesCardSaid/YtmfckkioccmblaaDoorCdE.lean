/-
  What Put of package code answers; the instruction that a word tells. The tables are as the program's text lays them (Tab).
-/
import Derived.Test.YtmfckkioccmblaaDoorCdD
namespace Go.Proofs.YtmfckkioccmblaaDoor.cd
open Go Go.ChangeShapes Go.WideShapes Go.ChangeAt Go.RowKit
set_option linter.unusedVariables false
set_option maxRecDepth 1000000

/-- What Put answers: the word, the error. -/
def putw (c : Cd) : Int := if may c then wd c else 0
/-- The instruction that a word's bits tell. -/
def rc (x : Nat) : Cd :=
  let u := us (fm (x / 67108864))
  ⟨x / 67108864, rd u.ha (u.ha.toNat + 1) (x / 4194304), rd u.hb (u.hb.toNat + 1) (x / 262144), rd u.hc (u.hc.toNat + 1) (x / 16384), rd u.hn (mk (fm (x / 67108864)) + 1) x⟩
/-- Is the word an instruction's? -/
def tok (x : Nat) : Bool := decide (x / 67108864 < 22 ∧ wd (rc x) = x)
def zc : Cd := ⟨0, 0, 0, 0, 0⟩
def tk (x : Nat) : Cd := if tok x then rc x else zc
def terr (b : Bool) : Int := if b then 0 else 6
theorem us_and {f : Nat} (h : f < 7) (x : Nat) : x &&& (us f).ha.toNat = x % ((us f).ha.toNat + 1) ∧ x &&& (us f).hb.toNat = x % ((us f).hb.toNat + 1) ∧ x &&& (us f).hc.toNat = x % ((us f).hc.toNat + 1) := by
  rcases form_cases h with rfl | rfl | rfl | rfl | rfl | rfl | rfl <;> refine ⟨?_, ?_, ?_⟩ <;> first | exact and0 x | exact and4 x
theorem us_to {f : Nat} (h : f < 7) : ((us f).ha - (us f).la = ((us f).ha.toNat : Int) ∧ (us f).ha.toNat < 4194304) ∧ ((us f).hb - (us f).lb = ((us f).hb.toNat : Int) ∧ (us f).hb.toNat < 4194304) ∧ (us f).hc - (us f).lc = ((us f).hc.toNat : Int) ∧ (us f).hc.toNat < 4194304 := by
  rcases form_cases h with rfl | rfl | rfl | rfl | rfl | rfl | rfl <;> simp [us]
theorem rd_0 (y : Nat) : rd 0 1 y = 0 := by unfold rd; rw [Nat.mod_one]; simp
theorem rd_4 (y : Nat) : rd 15 16 y = ((y % 16 : Nat) : Int) := by unfold rd; rw [if_neg (by omega)]
theorem rd_8 (y : Nat) : rd 255 256 y = ((y % 256 : Nat) : Int) := by unfold rd; rw [if_neg (by omega)]
theorem rd_14 (y : Nat) : -8192 ≤ rd 8191 16384 y ∧ rd 8191 16384 y ≤ 8191 := by unfold rd; split <;> omega
theorem rd_22 (y : Nat) : -2097152 ≤ rd 2097151 4194304 y ∧ rd 2097151 4194304 y ≤ 2097151 := by unfold rd; split <;> omega
/-- The word's instruction, form by form. -/
theorem rc_form (x f : Nat) (h : fm (x / 67108864) = f) : rc x = ⟨x / 67108864, rd (us f).ha ((us f).ha.toNat + 1) (x / 4194304), rd (us f).hb ((us f).hb.toNat + 1) (x / 262144), rd (us f).hc ((us f).hc.toNat + 1) (x / 16384), rd (us f).hn (mk f + 1) x⟩ := by unfold rc; rw [h]
theorem rc_0 {x : Nat} (h : fm (x / 67108864) = 0) : rc x = ⟨x / 67108864, 0, 0, 0, 0⟩ := by
  rw [rc_form x 0 h, show rd (us 0).ha ((us 0).ha.toNat + 1) (x / 4194304) = 0 from rd_0 _, show rd (us 0).hb ((us 0).hb.toNat + 1) (x / 262144) = 0 from rd_0 _, show rd (us 0).hc ((us 0).hc.toNat + 1) (x / 16384) = 0 from rd_0 _, show rd (us 0).hn (mk 0 + 1) x = 0 from rd_0 _]
theorem rc_1 {x : Nat} (h : fm (x / 67108864) = 1) : rc x = ⟨x / 67108864, ((x / 4194304 % 16 : Nat) : Int), ((x / 262144 % 16 : Nat) : Int), ((x / 16384 % 16 : Nat) : Int), 0⟩ := by
  rw [rc_form x 1 h, show rd (us 1).ha ((us 1).ha.toNat + 1) (x / 4194304) = _ from rd_4 _, show rd (us 1).hb ((us 1).hb.toNat + 1) (x / 262144) = _ from rd_4 _, show rd (us 1).hc ((us 1).hc.toNat + 1) (x / 16384) = _ from rd_4 _, show rd (us 1).hn (mk 1 + 1) x = 0 from rd_0 _]
theorem rc_2 {x : Nat} (h : fm (x / 67108864) = 2) : rc x = ⟨x / 67108864, ((x / 4194304 % 16 : Nat) : Int), ((x / 262144 % 16 : Nat) : Int), 0, rd 8191 16384 x⟩ := by
  rw [rc_form x 2 h, show rd (us 2).ha ((us 2).ha.toNat + 1) (x / 4194304) = _ from rd_4 _, show rd (us 2).hb ((us 2).hb.toNat + 1) (x / 262144) = _ from rd_4 _, show rd (us 2).hc ((us 2).hc.toNat + 1) (x / 16384) = 0 from rd_0 _]
  rfl
theorem rc_3 {x : Nat} (h : fm (x / 67108864) = 3) : rc x = ⟨x / 67108864, ((x / 4194304 % 16 : Nat) : Int), 0, 0, rd 2097151 4194304 x⟩ := by
  rw [rc_form x 3 h, show rd (us 3).ha ((us 3).ha.toNat + 1) (x / 4194304) = _ from rd_4 _, show rd (us 3).hb ((us 3).hb.toNat + 1) (x / 262144) = 0 from rd_0 _, show rd (us 3).hc ((us 3).hc.toNat + 1) (x / 16384) = 0 from rd_0 _]
  rfl
theorem rc_4 {x : Nat} (h : fm (x / 67108864) = 4) : rc x = ⟨x / 67108864, 0, 0, 0, rd 2097151 4194304 x⟩ := by
  rw [rc_form x 4 h, show rd (us 4).ha ((us 4).ha.toNat + 1) (x / 4194304) = 0 from rd_0 _, show rd (us 4).hb ((us 4).hb.toNat + 1) (x / 262144) = 0 from rd_0 _, show rd (us 4).hc ((us 4).hc.toNat + 1) (x / 16384) = 0 from rd_0 _]
  rfl
theorem rc_5 {x : Nat} (h : fm (x / 67108864) = 5) : rc x = ⟨x / 67108864, 0, 0, 0, ((x % 256 : Nat) : Int)⟩ := by
  rw [rc_form x 5 h, show rd (us 5).ha ((us 5).ha.toNat + 1) (x / 4194304) = 0 from rd_0 _, show rd (us 5).hb ((us 5).hb.toNat + 1) (x / 262144) = 0 from rd_0 _, show rd (us 5).hc ((us 5).hc.toNat + 1) (x / 16384) = 0 from rd_0 _, show rd (us 5).hn (mk 5 + 1) x = _ from rd_8 _]
theorem rc_6 {x : Nat} (h : fm (x / 67108864) = 6) : rc x = ⟨x / 67108864, ((x / 4194304 % 16 : Nat) : Int), 0, 0, 0⟩ := by
  rw [rc_form x 6 h, show rd (us 6).ha ((us 6).ha.toNat + 1) (x / 4194304) = _ from rd_4 _, show rd (us 6).hb ((us 6).hb.toNat + 1) (x / 262144) = 0 from rd_0 _, show rd (us 6).hc ((us 6).hc.toNat + 1) (x / 16384) = 0 from rd_0 _, show rd (us 6).hn (mk 6 + 1) x = 0 from rd_0 _]
theorem rc_may (x : Nat) (h : x / 67108864 < 22) : may (rc x) = true := by
  refine may_of h ?_
  rw [show (rc x).op = x / 67108864 from rfl]
  have a := rd_14 x
  have b := rd_22 x
  rcases form_cases (fm_lt (x / 67108864)) with q | q | q | q | q | q | q
  · rw [rc_0 q, q]; simp only [us]; omega
  · rw [rc_1 q, q]; simp only [us]; omega
  · rw [rc_2 q, q]; simp only [us]; omega
  · rw [rc_3 q, q]; simp only [us]; omega
  · rw [rc_4 q, q]; simp only [us]; omega
  · rw [rc_5 q, q]; simp only [us]; omega
  · rw [rc_6 q, q]; simp only [us]; omega
/-- A word tells back the instruction whose word it is. -/
theorem rc_wd (c : Cd) (x : Nat) (h : may c = true) (hx : wd c = (x : Int)) : rc x = c ∧ x < 4294967296 := by
  obtain ⟨ho, h⟩ := may_parts h
  obtain ⟨op, a, b, c, n⟩ := c
  have hf := fm_lt op
  unfold wd nn at hx
  simp only at ho h hx
  have e : ∀ q, fm op = q → x / 67108864 = op → fm (x / 67108864) = q := fun q h1 h2 => by rw [h2]; exact h1
  rcases form_cases hf with q | q | q | q | q | q | q <;> rw [q] at h hx <;> simp only [us] at h hx <;> obtain ⟨h1, h2, h3, h4⟩ := h
  · rw [if_neg (by omega)] at hx
    have hop : x / 67108864 = op := by omega
    rw [rc_0 (e _ q hop), hop]
    exact ⟨by simp only [Cd.mk.injEq, true_and]; omega, by omega⟩
  · rw [if_neg (by omega)] at hx
    have hop : x / 67108864 = op := by omega
    rw [rc_1 (e _ q hop), hop]
    exact ⟨by simp only [Cd.mk.injEq, true_and]; omega, by omega⟩
  · have hv : 0 ≤ (if n < 0 then n + (if True then 16384 else 4194304) else n) ∧ (if n < 0 then n + (if True then 16384 else 4194304) else n) < 16384 ∧ rd 8191 16384 x = n := by
      simp only [if_true] at hx ⊢
      by_cases hn : n < 0
      · rw [if_pos hn] at hx ⊢
        refine ⟨by omega, by omega, ?_⟩
        unfold rd; split <;> omega
      · rw [if_neg hn] at hx ⊢
        refine ⟨by omega, by omega, ?_⟩
        unfold rd; split <;> omega
    generalize (if n < 0 then n + (if True then 16384 else 4194304) else n) = v at hx hv
    have hop : x / 67108864 = op := by omega
    rw [rc_2 (e _ q hop), hop]
    exact ⟨by simp only [Cd.mk.injEq, true_and]; omega, by omega⟩
  · have hv : 0 ≤ (if n < 0 then n + (if (3 : Nat) = 2 then 16384 else 4194304) else n) ∧ (if n < 0 then n + (if (3 : Nat) = 2 then 16384 else 4194304) else n) < 4194304 ∧ rd 2097151 4194304 x = n := by
      rw [if_neg (show ¬ (3 : Nat) = 2 by decide)] at hx ⊢
      by_cases hn : n < 0
      · rw [if_pos hn] at hx ⊢
        refine ⟨by omega, by omega, ?_⟩
        unfold rd; split <;> omega
      · rw [if_neg hn] at hx ⊢
        refine ⟨by omega, by omega, ?_⟩
        unfold rd; split <;> omega
    generalize (if n < 0 then n + (if (3 : Nat) = 2 then 16384 else 4194304) else n) = v at hx hv
    have hop : x / 67108864 = op := by omega
    rw [rc_3 (e _ q hop), hop]
    exact ⟨by simp only [Cd.mk.injEq, true_and]; omega, by omega⟩
  · have hv : 0 ≤ (if n < 0 then n + (if (4 : Nat) = 2 then 16384 else 4194304) else n) ∧ (if n < 0 then n + (if (4 : Nat) = 2 then 16384 else 4194304) else n) < 4194304 ∧ rd 2097151 4194304 x = n := by
      rw [if_neg (show ¬ (4 : Nat) = 2 by decide)] at hx ⊢
      by_cases hn : n < 0
      · rw [if_pos hn] at hx ⊢
        refine ⟨by omega, by omega, ?_⟩
        unfold rd; split <;> omega
      · rw [if_neg hn] at hx ⊢
        refine ⟨by omega, by omega, ?_⟩
        unfold rd; split <;> omega
    generalize (if n < 0 then n + (if (4 : Nat) = 2 then 16384 else 4194304) else n) = v at hx hv
    have hop : x / 67108864 = op := by omega
    rw [rc_4 (e _ q hop), hop]
    exact ⟨by simp only [Cd.mk.injEq, true_and]; omega, by omega⟩
  · rw [if_neg (by omega)] at hx
    have hop : x / 67108864 = op := by omega
    rw [rc_5 (e _ q hop), hop]
    exact ⟨by simp only [Cd.mk.injEq, true_and]; omega, by omega⟩
  · rw [if_neg (by omega)] at hx
    have hop : x / 67108864 = op := by omega
    rw [rc_6 (e _ q hop), hop]
    exact ⟨by simp only [Cd.mk.injEq, true_and]; omega, by omega⟩
end Go.Proofs.YtmfckkioccmblaaDoor.cd
