/-
  What is so of every cache, whatever is done with it: a line stands in its block's set, and in one way alone. No condition.
-/
import Derived.Test.YtjbapfjeildfoaaDoorC13
namespace Go.Proofs.YtjbapfjeildfoaaDoor.kk
open Go
set_option linter.unusedVariables false

structure Inv (c : Cfg) (ss : List St) : Prop where
  set : ∀ (i : Nat) p, ss[i]? = some p → ∀ (j : Nat) l, p.1[j]? = some l → live l = true → setOf c l.b = i ∧ l.may
  one : ∀ (i : Nat) p, ss[i]? = some p → ∀ (j k : Nat) l l', p.1[j]? = some l → p.1[k]? = some l' → live l = true → live l' = true → l.b = l'.b → j = k

theorem live_zl : live zl = false := rfl
theorem isOf_iff {b : Int} {l : Ln} : isOf b l = true ↔ live l = true ∧ l.b = b := by simp [isOf, live]
theorem isFree_iff {l : Ln} : isFree l = true ↔ live l = false := by simp [isFree, live]
theorem idx_at {p : Ln → Bool} {ls : List Ln} {i : Nat} (h : ls.findIdx? p = some i) : ∃ l, ls[i]? = some l ∧ p l = true ∧ ls.getD i zl = l := by
  obtain ⟨hi, hp, _⟩ := List.findIdx?_eq_some_iff_getElem.1 h
  exact ⟨_, List.getElem?_eq_getElem hi, hp, by rw [List.getD_eq_getElem?_getD, List.getElem?_eq_getElem hi]; rfl⟩
theorem idx_no {p : Ln → Bool} {ls : List Ln} (h : ls.findIdx? p = none) (j : Nat) (l : Ln) (hl : ls[j]? = some l) : p l = false :=
  List.findIdx?_eq_none_iff.1 h l (List.mem_of_getElem? hl)
theorem idx_yes {p : Ln → Bool} {ls : List Ln} {j : Nat} {l : Ln} (hl : ls[j]? = some l) (hp : p l = true) : ∃ i, ls.findIdx? p = some i := by
  cases h : ls.findIdx? p with
  | some i => exact ⟨i, rfl⟩
  | none => rw [idx_no h j l hl] at hp; cases hp

theorem Inv.empty (c : Cfg) : Inv c (empty c) := by
  have h : ∀ (i : Nat) p, (kk.empty c)[i]? = some p → ∀ (j : Nat) l, p.1[j]? = some l → live l = false := fun i p hp j l hl => by
    unfold kk.empty at hp
    rw [List.getElem?_replicate] at hp
    split at hp
    · cases hp
      simp only [List.getElem?_replicate] at hl
      split at hl
      · cases hl; rfl
      · cases hl
    · cases hp
  exact ⟨fun i p hp j l hl hv => absurd ((h i p hp j l hl).symm.trans hv) (by decide), fun i p hp j k l l' hl _ hv _ _ => absurd ((h i p hp j l hl).symm.trans hv) (by decide)⟩
theorem Inv.row {c : Cfg} {ss : List St} (h : Inv c ss) (i : Nat) (row : List Ln) (m : Nat) (h1 : ∀ (j : Nat) l, row[j]? = some l → live l = true → setOf c l.b = i ∧ l.may)
    (h2 : ∀ (j k : Nat) l l', row[j]? = some l → row[k]? = some l' → live l = true → live l' = true → l.b = l'.b → j = k) : Inv c (ss.set i (row, m)) := by
  have hget : ∀ j p', (ss.set i (row, m))[j]? = some p' → (j = i ∧ p'.1 = row) ∨ ss[j]? = some p' := fun j p' hj => by
    by_cases hji : i = j
    · subst hji
      have := (List.getElem?_eq_some_iff.1 hj).1
      rw [List.getElem?_set_self (by simpa using this)] at hj
      exact .inl ⟨rfl, by cases hj; rfl⟩
    · rw [List.getElem?_set_ne hji] at hj
      exact .inr hj
  refine ⟨fun j p hp k l hl hv => ?_, fun j p hp a b l l' ha hb => ?_⟩
  · rcases hget j p hp with ⟨rfl, e⟩ | hp'
    · rw [e] at hl; exact h1 k l hl hv
    · exact h.set j p hp' k l hl hv
  · rcases hget j p hp with ⟨rfl, e⟩ | hp'
    · rw [e] at ha hb; exact h2 a b l l' ha hb
    · exact h.one j p hp' a b l l' ha hb
theorem Inv.put {c : Cfg} {ss : List St} (h : Inv c ss) {i : Nat} {p : St} (hp : ss[i]? = some p) (k m : Nat) (l : Ln) (h1 : live l = true → setOf c l.b = i ∧ l.may)
    (h2 : live l = true → ∀ (j : Nat) l', p.1[j]? = some l' → live l' = true → l'.b = l.b → j = k) : Inv c (ss.set i (p.1.set k l, m)) := by
  have hget : ∀ (j : Nat) x, (p.1.set k l)[j]? = some x → (j = k ∧ x = l) ∨ (j ≠ k ∧ p.1[j]? = some x) := fun j x hj => by
    by_cases hjk : k = j
    · subst hjk
      have := (List.getElem?_eq_some_iff.1 hj).1
      rw [List.getElem?_set_self (by simpa using this)] at hj
      exact .inl ⟨rfl, by cases hj; rfl⟩
    · rw [List.getElem?_set_ne hjk] at hj
      exact .inr ⟨fun e => hjk e.symm, hj⟩
  refine h.row i _ m (fun j x hx hv => ?_) (fun j j' x x' hx hx' hv hv' e => ?_)
  · rcases hget j x hx with ⟨_, rfl⟩ | ⟨_, hx⟩
    · exact h1 hv
    · exact h.set i p hp j x hx hv
  · rcases hget j x hx with ⟨e1, e3⟩ | ⟨e1, hx1⟩
    · rcases hget j' x' hx' with ⟨e2, e4⟩ | ⟨e2, hx2⟩
      · rw [e1, e2]
      · subst e3
        exact absurd (h2 hv j' x' hx2 hv' e.symm) e2
    · rcases hget j' x' hx' with ⟨e2, e4⟩ | ⟨e2, hx2⟩
      · subst e4
        exact absurd (h2 hv' j x hx1 hv e) e1
      · exact h.one i p hp j j' x x' hx1 hx2 hv hv' e
theorem Inv.mem {c : Cfg} {ss : List St} (h : Inv c ss) {i : Nat} {p : St} (hp : ss[i]? = some p) (m : Nat) : Inv c (ss.set i (p.1, m)) :=
  h.row i _ m (fun j l hl hv => h.set i p hp j l hl hv) (fun j k l l' hl hl' => h.one i p hp j k l l' hl hl')
theorem may_live {l : Ln} (h : l.may) : live l = true := by
  have := h.2.1
  unfold live; simp; omega

section
variable {c : Cfg} {ss : List St} (h : Inv c ss) (hs : ∀ b, ss[setOf c b]? = some (setAt c ss b))
include h hs
theorem Inv.cput (l : Ln) : Inv c (cput c ss l).1 := by
  unfold kk.cput
  by_cases hl : l.may
  · simp only [if_pos hl]
    have hp := hs l.b
    generalize setAt c ss l.b = p at *
    unfold wayFor
    cases hn : p.1.findIdx? (isOf l.b) with
    | some i =>
      obtain ⟨x, hx, hix, _⟩ := idx_at hn
      obtain ⟨hv, hb⟩ := isOf_iff.1 hix
      exact h.put hp i _ l (fun _ => ⟨rfl, hl⟩) (fun _ j l' hj hv' e => h.one _ p hp j i l' x hj hx hv' hv (by rw [e, hb]))
    | none =>
      simp only []
      cases hf : p.1.findIdx? isFree with
      | some i => exact h.put hp i _ l (fun _ => ⟨rfl, hl⟩) (fun _ j l' hj hv' e => by
          have := idx_no hn j l' hj
          rw [isOf_iff.2 ⟨hv', e⟩] at this; cases this)
      | none => exact h
  · simp only [if_neg hl]; exact h
theorem Inv.cdrop (b : Int) : Inv c (cdrop c ss b).1 := by
  unfold kk.cdrop
  have hp := hs b
  generalize setAt c ss b = p at *
  cases hn : p.1.findIdx? (isOf b) with
  | none => exact h
  | some i => exact h.put hp i _ zl (fun e => by rw [live_zl] at e; cases e) (fun e => by rw [live_zl] at e; cases e)
theorem Inv.cuse (b : Int) : Inv c (cuse c ss b).1 := by
  unfold kk.cuse
  have hp := hs b
  generalize setAt c ss b = p at *
  cases hn : p.1.findIdx? (isOf b) with
  | none => exact h
  | some i => exact h.mem hp _
theorem Inv.other {b : Int} {i : Nat} {x : Ln} {m : Nat} (hn : (setAt c ss b).1.findIdx? (isOf b) = some i) (hx : x.b = ((setAt c ss b).1.getD i zl).b) (hm : 1 ≤ x.s ∧ x.s ≤ 3) : Inv c (ss.set (setOf c b) ((setAt c ss b).1.set i x, m)) := by
  have hp := hs b
  obtain ⟨y, hy, hiy, e⟩ := idx_at hn
  rw [e] at hx
  obtain ⟨hv, hb⟩ := isOf_iff.1 hiy
  obtain ⟨hq, hmay⟩ := h.set _ _ hp i y hy hv
  exact h.put hp i m x (fun _ => ⟨by rw [hx, hb], ⟨by rw [hx]; exact hmay.1, hm⟩⟩) (fun _ j l' hj hv' e' => h.one _ _ hp j i l' y hj hy hv' hv (by rw [e', hx]))
theorem Inv.cwrite (b k x : Int) : Inv c (cwrite c ss b k x).1 := by
  unfold kk.cwrite
  cases hn : (setAt c ss b).1.findIdx? (isOf b) with
  | none => exact h
  | some i =>
    simp only []
    split
    · split
      · exact h
      · exact h.other hs hn rfl ⟨by show (1 : Int) ≤ 3; omega, by show (3 : Int) ≤ 3; omega⟩
    · exact h
theorem Inv.cturn (b s : Int) : Inv c (cturn c ss b s).1 := by
  unfold kk.cturn
  cases hn : (setAt c ss b).1.findIdx? (isOf b) with
  | none => exact h
  | some i =>
    simp only []
    split
    · exact h.other hs hn rfl (by assumption)
    · exact h
end

/-! Where something would have to go. -/
section
variable {c : Cfg} {ss : List St} (h : Inv c ss) (hs : ∀ b, ss[setOf c b]? = some (setAt c ss b)) (b : Int)
theorem mk_may (hb : 0 ≤ b ∧ b < 256) : (mk b 1).may := ⟨hb, by show (1 : Int) ≤ 1; omega, by show (1 : Int) ≤ 3; omega⟩
theorem put_code (hb : 0 ≤ b ∧ b < 256) : (cput c ss (mk b 1)).2 = if (cgoes c ss b).2 = true then 7 else 0 := by
  unfold cput cgoes
  rw [if_pos (mk_may b hb), if_pos hb]
  show (match wayFor (setAt c ss b).1 b with | none => (ss, (7 : Int)) | some i => _).2 = _
  cases wayFor (setAt c ss b).1 b <;> rfl
theorem put_out (hb : ¬ (0 ≤ b ∧ b < 256)) : cput c ss (mk b 1) = (ss, 2) := by
  unfold cput
  rw [if_neg (fun hm => hb hm.1)]
theorem goes_out (hb : ¬ (0 ≤ b ∧ b < 256)) : cgoes c ss b = (zl, false) := by
  unfold cgoes
  rw [if_neg hb]
include h hs
theorem goes_set (hv : vc (setAt c ss b).2 (setAt c ss b).1.length < (setAt c ss b).1.length) (hg : (cgoes c ss b).2 = true) : setOf c (cgoes c ss b).1.b = setOf c b ∧ (cdrop c ss (cgoes c ss b).1.b).2 = true := by
  have hp := hs b
  unfold cgoes at hg ⊢
  by_cases hb : 0 ≤ b ∧ b < 256
  · simp only [if_pos hb] at hg ⊢
    unfold wayFor at hg ⊢
    cases hn : (setAt c ss b).1.findIdx? (isOf b) with
    | some i => simp [hn] at hg
    | none =>
      cases hf : (setAt c ss b).1.findIdx? isFree with
      | some i => simp [hn, hf] at hg
      | none =>
        simp only []
        generalize hvv : vc (setAt c ss b).2 (setAt c ss b).1.length = v at *
        obtain ⟨l, hl⟩ : ∃ l, (setAt c ss b).1[v]? = some l := ⟨_, List.getElem?_eq_getElem hv⟩
        have hd : (setAt c ss b).1.getD v zl = l := by rw [List.getD_eq_getElem?_getD, hl]; rfl
        have hlv : live l = true := by
          have := idx_no hf v l hl
          cases e : live l
          · rw [isFree_iff.2 e] at this; cases this
          · rfl
        obtain ⟨h1, _⟩ := h.set _ _ hp v l hl hlv
        rw [hd]
        refine ⟨h1, ?_⟩
        have hsa : setAt c ss l.b = setAt c ss b := by unfold setAt; rw [h1]
        unfold kk.cdrop
        rw [hsa]
        obtain ⟨i, hi⟩ := idx_yes hl (isOf_iff.2 ⟨hlv, rfl⟩)
        rw [hi]
  · rw [if_neg hb] at hg; cases hg
theorem drop_room (hv : vc (setAt c ss b).2 (setAt c ss b).1.length < (setAt c ss b).1.length) (hb : 0 ≤ b ∧ b < 256) (hg : (cgoes c ss b).2 = true) : (cput c (cdrop c ss (cgoes c ss b).1.b).1 (mk b 1)).2 = 0 := by
  obtain ⟨h1, h2⟩ := goes_set h hs b hv hg
  have hp := hs b
  have hsl : setOf c b < ss.length := (List.getElem?_eq_some_iff.1 hp).1
  generalize (cgoes c ss b).1.b = b' at *
  have hsa : setAt c ss b' = setAt c ss b := by unfold setAt; rw [h1]
  have hex : ∃ i, i < (setAt c ss b).1.length ∧ (kk.cdrop c ss b').1 = ss.set (setOf c b) ((setAt c ss b).1.set i zl, (setAt c ss b).2) := by
    unfold kk.cdrop at h2 ⊢
    rw [hsa] at h2 ⊢
    rw [h1]
    cases hn : (setAt c ss b).1.findIdx? (isOf b') with
    | none => rw [hn] at h2; cases h2
    | some i => exact ⟨i, idx_lt hn, rfl⟩
  obtain ⟨i, hi, e⟩ := hex
  rw [e]
  have hsn : setAt c (ss.set (setOf c b) ((setAt c ss b).1.set i zl, (setAt c ss b).2)) b = ((setAt c ss b).1.set i zl, (setAt c ss b).2) := by
    rw [setAt, List.getElem?_set_self hsl]; rfl
  unfold cput
  rw [if_pos (mk_may b hb)]
  show (match wayFor (setAt c _ b).1 b with | none => _ | some i => _ : List St × Int).2 = _
  rw [hsn]
  have hw : ∃ j, wayFor ((setAt c ss b).1.set i zl) b = some j := by
    unfold wayFor
    cases ((setAt c ss b).1.set i zl).findIdx? (isOf b) with
    | some j => exact ⟨j, rfl⟩
    | none => exact idx_yes (j := i) (l := zl) (List.getElem?_set_self hi) rfl
  obtain ⟨j, hj⟩ := hw
  rw [hj]
end
end Go.Proofs.YtjbapfjeildfoaaDoor.kk
