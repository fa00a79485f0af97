/-
  The lines of a cache: no two of a block, no more of a set than ways; what the maps of CacheSets hold behind the first k lines. No condition but what each theorem names.
-/
import Derived.Test.YtjbapfjeildfoaaDoorMp
namespace Go.Proofs.YtjbapfjeildfoaaDoor.kk
open Go
set_option linter.unusedVariables false

theorem filt_mem {ls : List Ln} {l : Ln} (h : l ∈ ls.filter live) : ∃ j : Nat, ls[j]? = some l ∧ live l = true := by
  obtain ⟨h1, h2⟩ := List.mem_filter.1 h
  obtain ⟨j, hj⟩ := List.getElem?_of_mem h1
  exact ⟨j, hj, h2⟩
theorem told_nodup {c : Cfg} {ss : List St} (h : Inv c ss) : ((told ss).map (·.b)).Nodup := by
  unfold told
  rw [List.Nodup, List.pairwise_map, List.pairwise_flatMap]
  constructor
  · intro p hp
    obtain ⟨i, hi⟩ := List.getElem?_of_mem hp
    rw [List.pairwise_filter, List.pairwise_iff_getElem]
    intro a b ha hb hab hl hl' e
    have := h.one i p hi a b _ _ (List.getElem?_eq_getElem ha) (List.getElem?_eq_getElem hb) hl hl' e
    omega
  · rw [List.pairwise_iff_getElem]
    intro i j hi hj hij x hx y hy e
    obtain ⟨a, ha, hla⟩ := filt_mem hx
    obtain ⟨b, hb, hlb⟩ := filt_mem hy
    have h1 := (h.set i _ (List.getElem?_eq_getElem hi) a x ha hla).1
    have h2 := (h.set j _ (List.getElem?_eq_getElem hj) b y hb hlb).1
    rw [e] at h1
    omega
theorem told_may {c : Cfg} {ss : List St} (h : Inv c ss) {l : Ln} (hl : l ∈ told ss) : l.may := by
  unfold told at hl
  obtain ⟨p, hp, hx⟩ := List.mem_flatMap.1 hl
  obtain ⟨i, hi⟩ := List.getElem?_of_mem hp
  obtain ⟨j, hj, hv⟩ := filt_mem hx
  exact (h.set i p hi j l hj hv).2

/-- How many lines of a list are of the set s. -/
def cnt (c : Cfg) (ls : List Ln) (s : Int) : Nat := ls.countP fun l => decide ((setOf c l.b : Int) = s)
theorem cnt_rows (c : Cfg) (W : Nat) (s : Int) : ∀ (ss : List St) (o : Nat), (∀ p ∈ ss, p.1.length ≤ W) → (∀ (i : Nat) p, ss[i]? = some p → ∀ l ∈ p.1.filter live, setOf c l.b = o + i) →
    cnt c (ss.flatMap fun p => p.1.filter live) s ≤ W ∧ (s < (o : Int) → cnt c (ss.flatMap fun p => p.1.filter live) s = 0)
  | [], o, _, _ => by simp [cnt]
  | p :: r, o, hw, hs => by
    obtain ⟨h1, h2⟩ := cnt_rows c W s r (o + 1) (fun p' hp' => hw p' (by simp [hp'])) (fun i p' hp' l hl => by
      have := hs (i + 1) p' (by simpa using hp') l hl
      omega)
    have h0 := hs 0 p rfl
    have e : cnt c ((p :: r).flatMap fun p => p.1.filter live) s = cnt c (p.1.filter live) s + cnt c (r.flatMap fun p => p.1.filter live) s := by
      unfold cnt
      rw [List.flatMap_cons, List.countP_append]
    have hle : cnt c (p.1.filter live) s ≤ W := by
      have h3 := List.countP_le_length (p := fun l => decide ((setOf c l.b : Int) = s)) (l := p.1.filter live)
      have h4 := List.length_filter_le live p.1
      have h5 := hw p (by simp)
      unfold cnt; omega
    have hz : s ≠ (o : Int) → cnt c (p.1.filter live) s = 0 := fun hne => by
      unfold cnt
      rw [List.countP_eq_zero]
      intro l hl
      have := h0 l hl
      simp
      omega
    rw [e]
    by_cases hso : s = (o : Int)
    · have := h2 (by omega)
      exact ⟨by omega, fun h => by omega⟩
    · have := hz hso
      exact ⟨by omega, fun h => by have := h2 (by omega); omega⟩
theorem cnt_told {w : World} {K : Loc} {c : Cfg} {ss : List St} (hC : Cac w K c ss) (h : Inv c ss) (s : Int) : (cnt c (told ss) s : Int) ≤ c.wa := by
  have hw : ∀ p ∈ ss, p.1.length ≤ c.wa.toNat := fun p hp => by have := hC.wid p hp; omega
  have := (cnt_rows c c.wa.toNat s ss 0 hw (fun i p hp l hl => by
    obtain ⟨j, hj, hv⟩ := filt_mem hl
    have := (h.set i p hp j l hj hv).1
    omega)).1
  have hwa := hC.may.ways
  unfold told
  omega

/-- What the maps hold behind the lines ls. -/
def seenF (ls : List Ln) : Int → Option Bool := fun b => if b ∈ ls.map (·.b) then some true else none
def manyF (c : Cfg) (ls : List Ln) : Int → Option Int := fun s => if cnt c ls s = 0 then none else some (cnt c ls s : Int)
def vb (f : Int → Option Bool) : Int → Option Value := fun k => (f k).map .bool
def vi (f : Int → Option Int) : Int → Option Value := fun k => (f k).map (.int .i64)
theorem mput_vb (f : Int → Option Bool) (k : Int) (x : Bool) : mput (vb f) k (.bool x) = vb (fun y => if y = k then some x else f y) := by
  funext y; unfold mput vb; split <;> simp_all
theorem mput_vi (f : Int → Option Int) (k : Int) (x : Int) : mput (vi f) k (.int .i64 x) = vi (fun y => if y = k then some x else f y) := by
  funext y; unfold mput vi; split <;> simp_all
theorem seenF_snoc (ls : List Ln) (l : Ln) : seenF (ls ++ [l]) = fun y => if y = l.b then some true else seenF ls y := by
  funext y
  unfold seenF
  by_cases h : y = l.b
  · subst h; simp
  · rw [if_neg h]
    simp [h]
theorem cnt_snoc (c : Cfg) (ls : List Ln) (l : Ln) (s : Int) : cnt c (ls ++ [l]) s = cnt c ls s + if (setOf c l.b : Int) = s then 1 else 0 := by
  unfold cnt
  rw [List.countP_append, List.countP_singleton]
  simp
theorem manyF_get (c : Cfg) (ls : List Ln) (s : Int) : (manyF c ls s).getD 0 = (cnt c ls s : Int) := by
  unfold manyF; split <;> simp_all
theorem manyF_snoc (c : Cfg) (ls : List Ln) (l : Ln) : manyF c (ls ++ [l]) = fun y => if y = (setOf c l.b : Int) then some ((manyF c ls (setOf c l.b : Int)).getD 0 + 1) else manyF c ls y := by
  funext y
  rw [manyF_get]
  unfold manyF
  rw [cnt_snoc]
  by_cases h : y = (setOf c l.b : Int)
  · subst h; simp
  · have hn : ¬ ((setOf c l.b : Int) = y) := fun e => h e.symm
    rw [if_neg h]
    simp only [if_neg hn, Nat.add_zero]

/-- The lines that came, by the rounds' numbers. -/
def came (ss : List St) {q : Nat} (pre : List (Fin q)) : List Ln := pre.map fun x => (told ss).getD x.val zl
theorem came_snoc (ss : List St) {q : Nat} (pre : List (Fin q)) (x : Fin q) : came ss (pre ++ [x]) = came ss pre ++ [(told ss).getD x.val zl] := by simp [came]
theorem came_all (ss : List St) (q : Nat) (hq : q = (told ss).length) : came ss (List.finRange q) = told ss := by
  subst hq
  apply List.ext_getElem?
  intro i
  unfold came
  rw [List.getElem?_map]
  by_cases hi : i < (told ss).length
  · rw [fins_at _ i hi]
    simp [List.getD_eq_getElem?_getD, List.getElem?_eq_getElem hi]
  · rw [List.getElem?_eq_none (by simpa using hi), List.getElem?_eq_none (by omega)]; rfl
theorem came_pre {ss : List St} {q : Nat} (hq : q = (told ss).length) {pre : List (Fin q)} (h : pre <+: List.finRange q) : came ss pre <+: told ss := by
  rw [← came_all ss q hq]
  obtain ⟨t, ht⟩ := h
  exact ⟨came ss t, by rw [← ht]; simp [came]⟩
/-- The next line is of no block that came; and its set had room. -/
theorem came_new {c : Cfg} {ss : List St} {q : Nat} (hq : q = (told ss).length) (h : Inv c ss) {pre : List (Fin q)} {x : Fin q} (hp : pre ++ [x] <+: List.finRange q) : seenF (came ss pre) ((told ss).getD x.val zl).b = none := by
  have h1 := came_pre hq hp
  rw [came_snoc] at h1
  have h2 := told_nodup h
  obtain ⟨t, ht⟩ := h1
  rw [← ht, List.map_append, List.map_append] at h2
  have h3 := (List.nodup_append.1 (List.nodup_append.1 h2).1).2.2
  unfold seenF
  rw [if_neg]
  intro hm
  exact h3 _ hm _ (by simp) rfl
theorem came_room {w : World} {K : Loc} {c : Cfg} {ss : List St} {q : Nat} (hq : q = (told ss).length) (hC : Cac w K c ss) (h : Inv c ss) {pre : List (Fin q)} {x : Fin q} (hp : pre ++ [x] <+: List.finRange q) :
    (cnt c (came ss pre) (setOf c ((told ss).getD x.val zl).b : Int) : Int) + 1 ≤ c.wa := by
  have h1 := came_pre hq hp
  rw [came_snoc] at h1
  have h2 := cnt_told hC h (setOf c ((told ss).getD x.val zl).b : Int)
  obtain ⟨t, ht⟩ := h1
  generalize (told ss).getD x.val zl = l at *
  rw [← ht] at h2
  have h3 := cnt_snoc c (came ss pre) l (setOf c l.b : Int)
  rw [if_pos rfl] at h3
  have h4 : ∀ s, cnt c (came ss pre ++ [l] ++ t) s = cnt c (came ss pre ++ [l]) s + cnt c t s := fun s => by
    unfold cnt; rw [List.countP_append]
  rw [h4] at h2
  omega
theorem told_at {ss : List St} {q : Nat} (hq : q = (told ss).length) (x : Fin q) : (told ss).getD x.val zl ∈ told ss := by
  have : x.val < (told ss).length := by have := x.isLt; omega
  rw [List.getD_eq_getElem?_getD, List.getElem?_eq_getElem this]
  exact List.getElem_mem this
end Go.Proofs.YtjbapfjeildfoaaDoor.kk
