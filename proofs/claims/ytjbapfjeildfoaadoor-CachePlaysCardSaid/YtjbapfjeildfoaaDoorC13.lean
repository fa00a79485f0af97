/-
  The cache's answers as functions of what it holds; the contracts taken together. Condition: the table of bounds lies in its variable as the program's text has it.
-/
import Derived.Test.YtjbapfjeildfoaaDoorE
namespace Go.Proofs.YtjbapfjeildfoaaDoor.kk
open Go Go.ChangeShapes Go.WideShapes Go.ChangeAt Go.RowKit Go.Shelf
set_option linter.unusedVariables false

/-- The way of a block's line; else the lowest free one. -/
def wayFor (ls : List Ln) (b : Int) : Option Nat := match ls.findIdx? (isOf b) with | some i => some i | none => ls.findIdx? isFree
def setAt (c : Cfg) (ss : List St) (b : Int) : St := (ss[setOf c b]?).getD ([], 0)
def cput (c : Cfg) (ss : List St) (l : Ln) : List St × Int :=
  if l.may then
    match wayFor (setAt c ss l.b).1 l.b with
    | none => (ss, 7)
    | some i => (ss.set (setOf c l.b) ((setAt c ss l.b).1.set i l, us (setAt c ss l.b).2 (setAt c ss l.b).1.length i), 0)
  else (ss, 2)
def cfind (c : Cfg) (ss : List St) (b : Int) : Ln × Bool := match (setAt c ss b).1.findIdx? (isOf b) with | none => (zl, false) | some i => ((setAt c ss b).1.getD i zl, true)
def cdrop (c : Cfg) (ss : List St) (b : Int) : List St × Bool := match (setAt c ss b).1.findIdx? (isOf b) with | none => (ss, false) | some i => (ss.set (setOf c b) ((setAt c ss b).1.set i zl, (setAt c ss b).2), true)
def cuse (c : Cfg) (ss : List St) (b : Int) : List St × Bool := match (setAt c ss b).1.findIdx? (isOf b) with | none => (ss, false) | some i => (ss.set (setOf c b) ((setAt c ss b).1, us (setAt c ss b).2 (setAt c ss b).1.length i), true)
def cgoes (c : Cfg) (ss : List St) (b : Int) : Ln × Bool :=
  if 0 ≤ b ∧ b < 256 then
    match wayFor (setAt c ss b).1 b with
    | some _ => (zl, false)
    | none => ((setAt c ss b).1.getD (vc (setAt c ss b).2 (setAt c ss b).1.length) zl, true)
  else (zl, false)
def cwrite (c : Cfg) (ss : List St) (b k x : Int) : List St × Int :=
  match (setAt c ss b).1.findIdx? (isOf b) with
  | none => (ss, 4)
  | some i =>
    if 0 ≤ k ∧ k < 16 then
      if ((setAt c ss b).1.getD i zl).s = 1 then (ss, 8)
      else (ss.set (setOf c b) ((setAt c ss b).1.set i ((((setAt c ss b).1.getD i zl).word k.toNat x).state 3), us (setAt c ss b).2 (setAt c ss b).1.length i), 0)
    else (ss, 5)
def cturn (c : Cfg) (ss : List St) (b s : Int) : List St × Int :=
  match (setAt c ss b).1.findIdx? (isOf b) with
  | none => (ss, 4)
  | some i => if 1 ≤ s ∧ s ≤ 3 then (ss.set (setOf c b) ((setAt c ss b).1.set i (((setAt c ss b).1.getD i zl).state s), (setAt c ss b).2), 0) else (ss, 2)

section
variable (K : Loc) (c : Cfg) (ss : List St) (w : World) (hC : Cac w K c ss) (hT : Tab w)
include hC hT

omit hT in
theorem Cac.here (b : Int) : ss[setOf c b]? = some (setAt c ss b) := by
  obtain ⟨p, _, hp, _⟩ := hC.at b
  rw [setAt, hp]; rfl
theorem find_any (b : Int) : Calls Tryd.prog 18 #[.pointer (some ⟨K.b, 0, none⟩), .int .i64 b] w fun e w' => e = .returned (.tuple #[.agg (la (cfind c ss b).1), .bool (cfind c ss b).2]) ∧ w.grownBy w' none := by
  have hp := Cac.here K c ss w hC b
  unfold cfind
  generalize setAt c ss b = p at *
  cases hn : p.1.findIdx? (isOf b) with
  | none => exact find_none K c ss b p w hC hT hp hn
  | some i =>
    have hl : p.1[i]? = some (p.1.getD i zl) := by
      have := idx_lt hn
      rw [List.getD_eq_getElem?_getD, List.getElem?_eq_getElem this]; rfl
    exact find_some K c ss b p w hC hT hp i _ hn hl
theorem drop_any (b : Int) : Calls Tryd.prog 15 #[.pointer (some ⟨K.b, 0, none⟩), .int .i64 b] w fun e w' => e = .returned (.bool (cdrop c ss b).2) ∧ Cac w' K c (cdrop c ss b).1 ∧ Kept K.own w w' := by
  have hp := Cac.here K c ss w hC b
  unfold cdrop
  generalize setAt c ss b = p at *
  cases hn : p.1.findIdx? (isOf b) with
  | none => exact (drop_none K c ss b p w hC hT hp hn).mono fun e w' h => ⟨h.1, hC.grown h.2, Kept.of h.2⟩
  | some i => exact drop_some K c ss b p w hC hT hp i hn
theorem uses_any (b : Int) : Calls Tryd.prog 13 #[.pointer (some ⟨K.b, 0, none⟩), .int .i64 b] w fun e w' => e = .returned (.bool (cuse c ss b).2) ∧ Cac w' K c (cuse c ss b).1 ∧ Kept K.own w w' := by
  have hp := Cac.here K c ss w hC b
  unfold cuse
  generalize setAt c ss b = p at *
  cases hn : p.1.findIdx? (isOf b) with
  | none => exact (uses_none K c ss b p w hC hT hp hn).mono fun e w' h => ⟨h.1, hC.grown h.2, Kept.of h.2⟩
  | some i => exact uses_some K c ss b p w hC hT hp i hn
theorem turn_any (b s : Int) : Calls Tryd.prog 17 #[.pointer (some ⟨K.b, 0, none⟩), .int .i64 b, .int .u8 s] w fun e w' => e = .returned (.int .i64 (cturn c ss b s).2) ∧ Cac w' K c (cturn c ss b s).1 ∧ Kept K.own w w' := by
  have hp := Cac.here K c ss w hC b
  unfold cturn
  generalize setAt c ss b = p at *
  cases hn : p.1.findIdx? (isOf b) with
  | none => exact (turn_none K c ss b p w hC hT hp s hn).mono fun e w' h => ⟨h.1, hC.grown h.2, Kept.of h.2⟩
  | some i =>
    have hl : p.1[i]? = some (p.1.getD i zl) := by
      have := idx_lt hn
      rw [List.getD_eq_getElem?_getD, List.getElem?_eq_getElem this]; rfl
    by_cases hs : 1 ≤ s ∧ s ≤ 3
    · simp only [if_pos hs]
      exact turn_ok K c ss b p w hC hT hp s i _ hn hl hs
    · simp only [if_neg hs]
      exact (turn_bad K c ss b p w hC hT hp s i hn hs).mono fun e w' h => ⟨h.1, hC.grown h.2, Kept.of h.2⟩
theorem write_any (b k x : Int) : Calls Tryd.prog 16 #[.pointer (some ⟨K.b, 0, none⟩), .int .i64 b, .int .i64 k, .int .u32 x] w fun e w' => e = .returned (.int .i64 (cwrite c ss b k x).2) ∧ Cac w' K c (cwrite c ss b k x).1 ∧ Kept K.own w w' := by
  have hp := Cac.here K c ss w hC b
  unfold cwrite
  generalize setAt c ss b = p at *
  cases hn : p.1.findIdx? (isOf b) with
  | none => exact (write_none K c ss b p w hC hT hp k x hn).mono fun e w' h => ⟨h.1, hC.grown h.2, Kept.of h.2⟩
  | some i =>
    have hl : p.1[i]? = some (p.1.getD i zl) := by
      have := idx_lt hn
      rw [List.getD_eq_getElem?_getD, List.getElem?_eq_getElem this]; rfl
    by_cases hk : 0 ≤ k ∧ k < 16
    · obtain ⟨m, rfl⟩ : ∃ m : Nat, k = (m : Int) := ⟨k.toNat, by omega⟩
      simp only [if_pos hk, Int.toNat_natCast]
      by_cases hs : (p.1.getD i zl).s = 1
      · simp only [if_pos hs]
        exact (write_shared K c ss b p w hC hT hp m x i _ hn hl (by omega) hs).mono fun e w' h => ⟨h.1, hC.grown h.2, Kept.of h.2⟩
      · simp only [if_neg hs]
        exact write_ok K c ss b p w hC hT hp m x i _ hn hl (by omega) hs
    · simp only [if_neg hk]
      exact (write_range K c ss b p w hC hT hp k x i hn hk).mono fun e w' h => ⟨h.1, hC.grown h.2, Kept.of h.2⟩
theorem put_any (l : Ln) : Calls Tryd.prog 11 #[.pointer (some ⟨K.b, 0, none⟩), .agg (la l)] w fun e w' => e = .returned (.int .i64 (cput c ss l).2) ∧ Cac w' K c (cput c ss l).1 ∧ Kept K.own w w' := by
  have hp := Cac.here K c ss w hC l.b
  unfold cput
  by_cases hl : l.may
  · simp only [if_pos hl]
    generalize setAt c ss l.b = p at *
    unfold wayFor
    cases hn : p.1.findIdx? (isOf l.b) with
    | some i => exact put_old K c ss l p w hC hT hp hl i hn
    | none =>
      simp only []
      cases hf : p.1.findIdx? isFree with
      | some i => exact put_free K c ss l p w hC hT hp hl i hn hf
      | none => exact (put_full K c ss l p w hC hT hp hl hn hf).mono fun e w' h => ⟨h.1, hC.grown h.2, Kept.of h.2⟩
  · simp only [if_neg hl]
    exact (put_bad K.b l w hl).mono fun e w' h => ⟨h.1, hC.grown h.2, Kept.of h.2⟩
theorem goes_any (b : Int) : Calls Tryd.prog 14 #[.pointer (some ⟨K.b, 0, none⟩), .int .i64 b] w fun e w' => e = .returned (.tuple #[.agg (la (cgoes c ss b).1), .bool (cgoes c ss b).2]) ∧ w.grownBy w' none := by
  have hp := Cac.here K c ss w hC b
  unfold cgoes
  by_cases hb : 0 ≤ b ∧ b < 256
  · simp only [if_pos hb]
    generalize setAt c ss b = p at *
    unfold wayFor
    cases hn : p.1.findIdx? (isOf b) with
    | some i => exact goes_old b w K c ss p hC hT hp hb i hn
    | none =>
      simp only []
      cases hf : p.1.findIdx? isFree with
      | some i => exact goes_free b w K c ss p hC hT hp hb i hn hf
      | none =>
        have hg := hC.good (List.mem_of_getElem? hp)
        have hv : vc p.2 p.1.length < p.1.length := vc_lt p.2 p.1.length (by unfold good at hg; omega)
        have hl : p.1[vc p.2 p.1.length]? = some (p.1.getD (vc p.2 p.1.length) zl) := by
          rw [List.getD_eq_getElem?_getD, List.getElem?_eq_getElem hv]; rfl
        exact goes_some b w K c ss p hC hT hp hb _ hn hf hl
  · simp only [if_neg hb]
    exact goes_bad b w _ hb
end
theorem pair_may : pairC.may := by decide +kernel
end Go.Proofs.YtjbapfjeildfoaaDoor.kk
