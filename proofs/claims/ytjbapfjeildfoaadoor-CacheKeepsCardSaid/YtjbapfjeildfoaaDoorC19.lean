/-
  What a cache finds, as a function of the block, behind each call; a map of lines. No condition but what each theorem names.
-/
import Derived.Test.YtjbapfjeildfoaaDoorC17
import Derived.Maps.RangeRun
namespace Go.Proofs.YtjbapfjeildfoaaDoor.kk
open Go
set_option linter.unusedVariables false

def fF (c : Cfg) (ss : List St) : Int → Option Ln := fun b => if (cfind c ss b).2 = true then some (cfind c ss b).1 else none
def upd (f : Int → Option Ln) (k : Int) (l : Ln) : Int → Option Ln := fun y => if y = k then some l else f y
def del (f : Int → Option Ln) (k : Int) : Int → Option Ln := fun y => if y = k then none else f y
def inRow (ls : List Ln) (b : Int) : Option Ln := ls.find? (isOf b)
theorem find_idx (ls : List Ln) (p : Ln → Bool) : ls.find? p = (ls.findIdx? p).map fun i => ls.getD i zl := by
  induction ls with
  | nil => rfl
  | cons l r ih =>
    rw [List.find?_cons, List.findIdx?_cons]
    cases h : p l
    · simp only [ih, Bool.false_eq_true, if_false]
      cases r.findIdx? p <;> simp
    · simp
theorem fF_row (c : Cfg) (ss : List St) (b : Int) : fF c ss b = inRow (setAt c ss b).1 b := by
  unfold fF cfind inRow
  rw [find_idx]
  cases (setAt c ss b).1.findIdx? (isOf b) <;> rfl
/-- Behind a change of the way i of a row: of the other blocks all is as it was. -/
theorem inRow_other (ls : List Ln) (i : Nat) (l : Ln) (y : Int) (hl : isOf y l = false) (ho : ∀ x, ls[i]? = some x → isOf y x = false) : inRow (ls.set i l) y = inRow ls y := by
  induction ls generalizing i with
  | nil => rfl
  | cons x r ih =>
    cases i with
    | zero =>
      have := ho x rfl
      unfold inRow
      rw [List.set_cons_zero, List.find?_cons, List.find?_cons, hl, this]
    | succ i =>
      have := ih i (fun x hx => ho x (by simpa using hx))
      unfold inRow at this ⊢
      rw [List.set_cons_succ, List.find?_cons, List.find?_cons, this]
theorem inRow_same (ls : List Ln) (i : Nat) (l : Ln) (b : Int) (hi : i < ls.length) (hl : isOf b l = true) (ho : ∀ (j : Nat) x, j < i → ls[j]? = some x → isOf b x = false) : inRow (ls.set i l) b = some l := by
  induction ls generalizing i with
  | nil => simp at hi
  | cons x r ih =>
    cases i with
    | zero => unfold inRow; rw [List.set_cons_zero, List.find?_cons, hl]
    | succ i =>
      have h0 := ho 0 x (by omega) rfl
      have := ih i (by simpa using hi) (fun j y hj hy => ho (j + 1) y (by omega) (by simpa using hy))
      unfold inRow at this ⊢
      rw [List.set_cons_succ, List.find?_cons, h0, this]
theorem inRow_none (ls : List Ln) (b : Int) (h : ∀ (j : Nat) x, ls[j]? = some x → isOf b x = false) : inRow ls b = none := by
  unfold inRow
  rw [List.find?_eq_none]
  intro x hx
  obtain ⟨j, hj⟩ := List.getElem?_of_mem hx
  simp [h j x hj]
theorem setAt_set (c : Cfg) (ss : List St) (s y : Int) (p : St) (hs : setOf c s < ss.length) : setAt c (ss.set (setOf c s) p) y = if setOf c y = setOf c s then p else setAt c ss y := by
  unfold setAt
  by_cases h : setOf c y = setOf c s
  · rw [if_pos h, h, List.getElem?_set_self hs]; rfl
  · rw [if_neg h, List.getElem?_set_ne (fun e => h e.symm)]
theorem isOf_ne {y : Int} {l : Ln} (h : l.b ≠ y) : isOf y l = false := by
  unfold isOf; simp [h]
theorem isOf_zl (y : Int) : isOf y zl = false := rfl

section
variable {c : Cfg} {ss : List St} (h : Inv c ss) (hs : ∀ b, ss[setOf c b]? = some (setAt c ss b))
include hs
theorem fF_set (b : Int) (i m : Nat) (l : Ln) (hl : ∀ y, y ≠ b → isOf y l = false) (hi : i < (setAt c ss b).1.length) (ho : ∀ x, (setAt c ss b).1[i]? = some x → ∀ y, y ≠ b → isOf y x = false) (y : Int) (hy : y ≠ b) :
    fF c (ss.set (setOf c b) ((setAt c ss b).1.set i l, m)) y = fF c ss y := by
  have hsl : setOf c b < ss.length := (List.getElem?_eq_some_iff.1 (hs b)).1
  rw [fF_row, fF_row, setAt_set c ss b y _ hsl]
  by_cases hsy : setOf c y = setOf c b
  · rw [if_pos hsy]
    have e : setAt c ss y = setAt c ss b := by unfold setAt; rw [hsy]
    rw [e]
    exact inRow_other _ i l y (hl y hy) (fun x hx => ho x hx y hy)
  · rw [if_neg hsy]
theorem fF_put (l : Ln) (hc : (cput c ss l).2 = 0) : fF c (cput c ss l).1 = upd (fF c ss) l.b l := by
  unfold cput at hc ⊢
  by_cases hl : l.may
  · simp only [if_pos hl] at hc ⊢
    cases hw : wayFor (setAt c ss l.b).1 l.b with
    | none => rw [hw] at hc; simp at hc
    | some i =>
      simp only []
      have hsl : setOf c l.b < ss.length := (List.getElem?_eq_some_iff.1 (hs l.b)).1
      have hil : isOf l.b l = true := isOf_iff.2 ⟨may_live hl, rfl⟩
      have hparts : i < (setAt c ss l.b).1.length ∧ (∀ x, (setAt c ss l.b).1[i]? = some x → ∀ y, y ≠ l.b → isOf y x = false) ∧ ∀ (j : Nat) x, j < i → (setAt c ss l.b).1[j]? = some x → isOf l.b x = false := by
        unfold wayFor at hw
        cases hn : (setAt c ss l.b).1.findIdx? (isOf l.b) with
        | some k =>
          rw [hn] at hw
          cases hw
          obtain ⟨x, hx, hxi, _⟩ := idx_at hn
          refine ⟨idx_lt hn, fun x' hx' y hy => ?_, fun j x' hj hx' => ?_⟩
          · rw [hx] at hx'; cases hx'
            exact isOf_ne (by rw [(isOf_iff.1 hxi).2]; exact fun e => hy e.symm)
          · obtain ⟨_, _, h3⟩ := List.findIdx?_eq_some_iff_getElem.1 hn
            obtain ⟨hjl, rfl⟩ := List.getElem?_eq_some_iff.1 hx'
            simpa using h3 j hj
        | none =>
          rw [hn] at hw
          obtain ⟨x, hx, hxi, _⟩ := idx_at hw
          refine ⟨idx_lt hw, fun x' hx' y hy => ?_, fun j x' hj hx' => idx_no hn j x' hx'⟩
          rw [hx] at hx'; cases hx'
          have := isFree_iff.1 hxi
          cases e : isOf y x
          · rfl
          · rw [(isOf_iff.1 e).1] at this; cases this
      funext y
      unfold upd
      by_cases hy : y = l.b
      · subst hy
        rw [if_pos rfl, fF_row, setAt_set c ss _ _ _ hsl, if_pos rfl]
        exact inRow_same _ i l _ hparts.1 hil hparts.2.2
      · rw [if_neg hy]
        exact fF_set hs l.b i _ l (fun y hy => isOf_ne (fun e => hy e.symm)) hparts.1 hparts.2.1 y hy
  · simp only [if_neg hl] at hc
    cases hc
omit hs in
theorem fF_put_no (l : Ln) (hc : (cput c ss l).2 ≠ 0) : (cput c ss l).1 = ss := by
  unfold cput at hc ⊢
  split
  · rename_i hl
    rw [if_pos hl] at hc
    cases hw : wayFor (setAt c ss l.b).1 l.b with
    | none => rfl
    | some i => rw [hw] at hc; simp at hc
  · rfl
theorem fF_mem (b : Int) (m : Nat) : fF c (ss.set (setOf c b) ((setAt c ss b).1, m)) = fF c ss := by
  have hsl : setOf c b < ss.length := (List.getElem?_eq_some_iff.1 (hs b)).1
  funext y
  rw [fF_row, fF_row, setAt_set c ss b y _ hsl]
  split
  · rename_i h
    have e : setAt c ss y = setAt c ss b := by unfold setAt; rw [h]
    rw [e]
  · rfl
theorem fF_use (b : Int) : fF c (cuse c ss b).1 = fF c ss := by
  unfold cuse
  cases (setAt c ss b).1.findIdx? (isOf b) with
  | none => rfl
  | some i => exact fF_mem hs b _
include h
omit h hs in
theorem drop_is (b : Int) : (cdrop c ss b).2 = (fF c ss b).isSome := by
  rw [fF_row]
  unfold cdrop inRow
  rw [find_idx]
  cases (setAt c ss b).1.findIdx? (isOf b) <;> rfl
theorem fF_drop (b : Int) : fF c (cdrop c ss b).1 = del (fF c ss) b := by
  unfold cdrop
  cases hn : (setAt c ss b).1.findIdx? (isOf b) with
  | none =>
    funext y
    unfold del
    by_cases hy : y = b
    · subst hy
      rw [if_pos rfl, fF_row]
      exact inRow_none _ _ (fun j x hx => idx_no hn j x hx)
    · rw [if_neg hy]
  | some i =>
    obtain ⟨x, hx, hxi, _⟩ := idx_at hn
    obtain ⟨hxl, hxb⟩ := isOf_iff.1 hxi
    have hsl : setOf c b < ss.length := (List.getElem?_eq_some_iff.1 (hs b)).1
    funext y
    unfold del
    by_cases hy : y = b
    · subst hy
      rw [if_pos rfl, fF_row, setAt_set c ss _ _ _ hsl, if_pos rfl]
      refine inRow_none _ _ (fun j z hz => ?_)
      by_cases hij : i = j
      · subst hij
        rw [List.getElem?_set_self (idx_lt hn)] at hz
        cases hz; rfl
      · rw [List.getElem?_set_ne hij] at hz
        cases e : isOf y z
        · rfl
        · obtain ⟨hzl, hzb⟩ := isOf_iff.1 e
          exact absurd (h.one _ _ (hs y) i j x z hx hz hxl hzl (by rw [hxb, hzb])) hij
    · rw [if_neg hy]
      exact fF_set hs b i _ zl (fun y _ => rfl) (idx_lt hn) (fun x' hx' y hy => by
        rw [hx] at hx'; cases hx'
        exact isOf_ne (by rw [hxb]; exact fun e => hy e.symm)) y hy
omit h in
theorem fF_write (b k x : Int) (hc : (cwrite c ss b k x).2 = 0) : (0 ≤ k ∧ k < 16) ∧ fF c (cwrite c ss b k x).1 = upd (fF c ss) b ((((fF c ss b).getD zl).word k.toNat x).state 3) := by
  have hb0 := fF_row c ss b
  unfold inRow at hb0
  rw [find_idx] at hb0
  unfold cwrite at hc ⊢
  cases hn : (setAt c ss b).1.findIdx? (isOf b) with
  | none => rw [hn] at hc; cases hc
  | some i =>
    rw [hn] at hc hb0
    simp only [Option.map_some] at hc hb0 ⊢
    by_cases hk : 0 ≤ k ∧ k < 16
    · rw [if_pos hk] at hc ⊢
      refine ⟨hk, ?_⟩
      by_cases hst : ((setAt c ss b).1.getD i zl).s = 1
      · rw [if_pos hst] at hc; cases hc
      · rw [if_neg hst]
        rw [hb0, Option.getD_some]
        obtain ⟨z, hz, hzi, hzd⟩ := idx_at hn
        obtain ⟨hzl, hzb⟩ := isOf_iff.1 hzi
        have hsl : setOf c b < ss.length := (List.getElem?_eq_some_iff.1 (hs b)).1
        rw [hzd]
        have hnew : ∀ y, y ≠ b → isOf y ((z.word k.toNat x).state 3) = false := fun y hy => isOf_ne (by show z.b ≠ y; rw [hzb]; exact fun e => hy e.symm)
        funext y
        unfold upd
        by_cases hy : y = b
        · subst hy
          rw [if_pos rfl, fF_row, setAt_set c ss _ _ _ hsl, if_pos rfl]
          refine inRow_same _ i _ _ (idx_lt hn) ?_ (fun j x' hj hx' => ?_)
          · exact isOf_iff.2 ⟨rfl, hzb⟩
          · obtain ⟨_, _, h3⟩ := List.findIdx?_eq_some_iff_getElem.1 hn
            obtain ⟨hjl, rfl⟩ := List.getElem?_eq_some_iff.1 hx'
            simpa using h3 j hj
        · rw [if_neg hy]
          exact fF_set hs b i _ _ hnew (idx_lt hn) (fun x' hx' y hy => by
            rw [hz] at hx'; cases hx'
            exact isOf_ne (by rw [hzb]; exact fun e => hy e.symm)) y hy
    · rw [if_neg hk] at hc; cases hc
omit h hs in
theorem fF_write_no (b k x : Int) (hc : (cwrite c ss b k x).2 ≠ 0) : (cwrite c ss b k x).1 = ss := by
  unfold cwrite at hc ⊢
  cases hn : (setAt c ss b).1.findIdx? (isOf b) with
  | none => rfl
  | some i =>
    rw [hn] at hc
    simp only [] at hc ⊢
    split
    · rename_i hk
      rw [if_pos hk] at hc
      split
      · rfl
      · rename_i hst
        rw [if_neg hst] at hc
        exact absurd rfl hc
    · rfl
/-- What is told is what is found. -/
theorem told_iff (b : Int) : b ∈ (told ss).map (·.b) ↔ (fF c ss b).isSome = true := by
  rw [fF_row]
  unfold inRow
  rw [List.find?_isSome, List.mem_map]
  constructor
  · rintro ⟨l, hl, rfl⟩
    unfold told at hl
    obtain ⟨p, hp, hx⟩ := List.mem_flatMap.1 hl
    obtain ⟨i, hi⟩ := List.getElem?_of_mem hp
    obtain ⟨j, hj, hv⟩ := filt_mem hx
    have h1 := (h.set i p hi j l hj hv).1
    have h2 := hs l.b
    rw [h1, hi] at h2
    have h3 : p = setAt c ss l.b := Option.some.inj h2
    exact ⟨l, by rw [← h3]; exact List.mem_of_getElem? hj, isOf_iff.2 ⟨hv, rfl⟩⟩
  · rintro ⟨l, hl, hi⟩
    obtain ⟨hv, rfl⟩ := isOf_iff.1 hi
    refine ⟨l, ?_, rfl⟩
    unfold told
    exact List.mem_flatMap.2 ⟨_, List.mem_of_getElem? (hs l.b), List.mem_filter.2 ⟨hl, hv⟩⟩
end
theorem fF_empty (c : Cfg) : fF c (empty c) = fun _ => none := by
  funext b
  rw [fF_row]
  refine inRow_none _ _ (fun j x hx => ?_)
  have : x = zl := by
    unfold setAt empty at hx
    rw [List.getElem?_replicate] at hx
    split at hx
    · simp only [Option.getD_some, List.getElem?_replicate] at hx
      split at hx
      · cases hx; rfl
      · cases hx
    · simp at hx
  rw [this]; rfl

/-- A map of lines. -/
def vl (f : Int → Option Ln) : Int → Option Value := fun k => (f k).map fun l => .agg (la l)
theorem mput_vl (f : Int → Option Ln) (k : Int) (l : Ln) : mput (vl f) k (.agg (la l)) = vl (upd f k l) := by
  funext y; unfold mput vl upd; split <;> simp_all
theorem mdel_vl (f : Int → Option Ln) (k : Int) : mdel (vl f) k = vl (del f k) := by
  funext y; unfold mdel vl del; split <;> simp_all
theorem vl_get (f : Int → Option Ln) (k : Int) : ((vl f) k).getD (.agg (la zl)) = .agg (la ((f k).getD zl)) := by
  unfold vl; cases f k <;> rfl
theorem vl_some (f : Int → Option Ln) (k : Int) : ((vl f) k).isSome = (f k).isSome := by
  unfold vl; cases f k <;> rfl
theorem zero36 (w : World) : (zeroValue 36).run Tryd.prog w = .ok (.agg (la zl)) w := Tryd.zeroValue36 w
theorem look64 {W : World} {b : Nat} {f : Int → Option Ln} (h : MapAt W b (vl f)) (k : Int) : (Instr.lookup 64 (.map (some b)) (.int .i64 k) false).run Tryd.prog W = .ok (.agg (la ((f k).getD zl))) W := by
  rw [run_lookup_map Tryd.underlying64 Tryd.underlying3 h (zero36 W) k, vl_get]
theorem look64ok {W : World} {b : Nat} {f : Int → Option Ln} (h : MapAt W b (vl f)) (k : Int) : (Instr.lookup 64 (.map (some b)) (.int .i64 k) true).run Tryd.prog W = .ok (.tuple #[.agg (la ((f k).getD zl)), .bool (f k).isSome]) W := by
  rw [run_lookup_ok Tryd.underlying64 Tryd.underlying3 h (zero36 W) k, vl_get, vl_some]
theorem MapAt.kept {w w' : World} {M : Nat} {f : Int → Option Value} {K : Loc} {c : Cfg} {ss : List St} (h : MapAt w M f) (hC : Cac w K c ss) (hk : Kept K.own w w') : MapAt w' M f := by
  refine h.same (hk.block M h.lt (fun ho => ?_))
  obtain ⟨es, cl, hb, _⟩ := h
  rcases ho with rfl | ⟨q, hq, rfl⟩
  · obtain ⟨_, hc⟩ := hC.sets
    rw [hc] at hb; cases hb
  · obtain ⟨_, hc⟩ := hC.rowOf hq
    rw [hc] at hb; cases hb
theorem Cac.ne_map {w : World} {M : Nat} {f : Int → Option Value} {K : Loc} {c : Cfg} {ss : List St} (hC : Cac w K c ss) (h : MapAt w M f) (k : Nat) (hk : K.any k) : k ≠ M := fun e => by
  subst e
  obtain ⟨es, cl, hb, _⟩ := h
  rcases hk with rfl | rfl | ⟨q, hq, rfl⟩
  · rw [hC.blk] at hb; cases hb
  · obtain ⟨_, hc⟩ := hC.sets
    rw [hc] at hb; cases hb
  · obtain ⟨_, hc⟩ := hC.rowOf hq
    rw [hc] at hb; cases hb
theorem Run.map {w0 w1 w2 : World} {K : Loc} {c : Cfg} {ss : List St} {M : Nat} {f : Int → Option Value} (h : Run w0 w1 K c ss) (hm : MapAt w1 M f) (hg : w1.grownBy w2 (some M)) (hM : w0.heap.size ≤ M) : Run w0 w2 K c ss :=
  ⟨⟨h.go.cac.same (fun k hk => hg.block k (h.go.cac.lt hk) (fun e => h.go.cac.ne_map hm k hk (Option.some.inj e))), grown_own' h.go.grown hg hM, h.go.new⟩, h.inv⟩
where
  grown_own' {w w1 w2 : World} {D : Nat} (h : w.grownBy w1 none) (hg : w1.grownBy w2 (some D)) (hD : w.heap.size ≤ D) : w.grownBy w2 none :=
    (Kept.one (O := fun k => k = D) hg rfl).below h (fun k e => by subst e; exact hD)
end Go.Proofs.YtjbapfjeildfoaaDoor.kk
