/-
  All lines of a cache in one row, as the document's own cache has them: where a block's line stands, where one is free, what a store makes of it. No condition but what each theorem names.
-/
import Derived.Test.YtjbapfjeildfoaaDoorN
namespace Go.Proofs.YtjbapfjeildfoaaDoor.kk
open Go Go.ChangeShapes Go.WideShapes Go.ChangeAt Go.RowKit Go.Shelf
set_option linter.unusedVariables false

def rowAll (ss : List St) : List Ln := ss.flatMap (·.1)
theorem rowAll_cons (p : St) (ss : List St) : rowAll (p :: ss) = p.1 ++ rowAll ss := rfl
section
variable {W : Nat}
theorem rowAll_len : ∀ {ss : List St}, (∀ p ∈ ss, p.1.length = W) → (rowAll ss).length = ss.length * W
  | [], _ => by simp [rowAll]
  | p :: r, h => by
    rw [rowAll_cons, List.length_append, rowAll_len (fun q hq => h q (by simp [hq])), h p (by simp), List.length_cons, Nat.add_one_mul]
    omega
theorem rowAll_get : ∀ {ss : List St}, (∀ p ∈ ss, p.1.length = W) → ∀ {s k : Nat} {p : St} {l : Ln}, ss[s]? = some p → p.1[k]? = some l → (rowAll ss)[s * W + k]? = some l
  | [], _, s, k, p, l, hs, _ => by simp at hs
  | x :: r, h, 0, k, p, l, hs, hk => by
    simp at hs
    subst hs
    rw [rowAll_cons, Nat.zero_mul, Nat.zero_add, List.getElem?_append_left (List.getElem?_eq_some_iff.1 hk).1]
    exact hk
  | x :: r, h, s + 1, k, p, l, hs, hk => by
    have hx := h x (by simp)
    rw [rowAll_cons, List.getElem?_append_right (by rw [hx, Nat.add_one_mul]; omega), hx, show (s + 1) * W + k - W = s * W + k by rw [Nat.add_one_mul]; omega]
    exact rowAll_get (fun q hq => h q (by simp [hq])) (by simpa using hs) hk
theorem rowAll_at : ∀ {ss : List St}, (∀ p ∈ ss, p.1.length = W) → ∀ {i : Nat} {l : Ln}, (rowAll ss)[i]? = some l → ∃ s k p, i = s * W + k ∧ k < W ∧ ss[s]? = some p ∧ p.1[k]? = some l
  | [], _, i, l, hi => by simp [rowAll] at hi
  | x :: r, h, i, l, hi => by
    have hx := h x (by simp)
    rw [rowAll_cons] at hi
    by_cases hlt : i < W
    · rw [List.getElem?_append_left (by rw [hx]; exact hlt)] at hi
      exact ⟨0, i, x, by omega, hlt, rfl, hi⟩
    · rw [List.getElem?_append_right (by rw [hx]; omega), hx] at hi
      obtain ⟨s, k, p, he, hk, hs, hl⟩ := rowAll_at (fun q hq => h q (by simp [hq])) hi
      exact ⟨s + 1, k, p, by rw [Nat.add_one_mul]; omega, hk, by simpa using hs, hl⟩
theorem rowAll_set : ∀ {ss : List St}, (∀ p ∈ ss, p.1.length = W) → ∀ {s k m : Nat} {p : St} (l : Ln), ss[s]? = some p → k < W → rowAll (ss.set s (p.1.set k l, m)) = (rowAll ss).set (s * W + k) l
  | [], _, s, k, m, p, l, hs, _ => by simp at hs
  | x :: r, h, 0, k, m, p, l, hs, hk => by
    simp at hs
    subst hs
    rw [List.set_cons_zero, rowAll_cons, rowAll_cons, Nat.zero_mul, Nat.zero_add, List.set_append_left _ _ (by rw [h x (by simp)]; exact hk)]
  | x :: r, h, s + 1, k, m, p, l, hs, hk => by
    have hx := h x (by simp)
    rw [List.set_cons_succ, rowAll_cons, rowAll_cons, rowAll_set (fun q hq => h q (by simp [hq])) l (by simpa using hs) hk, List.set_append_right _ _ (by rw [hx, Nat.add_one_mul]; omega), hx, show (s + 1) * W + k - W = s * W + k by rw [Nat.add_one_mul]; omega]
theorem rowAll_mem : ∀ {ss : List St} {s m : Nat} {p : St}, ss[s]? = some p → rowAll (ss.set s (p.1, m)) = rowAll ss
  | [], s, m, p, hs => by simp at hs
  | x :: r, 0, m, p, hs => by
    simp at hs
    subst hs
    rfl
  | x :: r, s + 1, m, p, hs => by
    rw [List.set_cons_succ, rowAll_cons, rowAll_cons, rowAll_mem (by simpa using hs)]
/-- A block's line stands in its set, or nowhere. -/
theorem rowAll_place {c : Cfg} {ss : List St} (h : Inv c ss) (hw : ∀ p ∈ ss, p.1.length = W) (hs : ∀ b, ss[setOf c b]? = some (setAt c ss b)) (b : Int) :
    (rowAll ss).findIdx? (isOf b) = ((setAt c ss b).1.findIdx? (isOf b)).map (fun k => setOf c b * W + k) := by
  cases hn : (setAt c ss b).1.findIdx? (isOf b) with
  | none =>
    rw [Option.map_none, List.findIdx?_eq_none_iff]
    intro x hx
    obtain ⟨i, hi⟩ := List.getElem?_of_mem hx
    obtain ⟨s, k, p, rfl, hk, hp, hl⟩ := rowAll_at hw hi
    cases hq : isOf b x
    · rfl
    · obtain ⟨hv, rfl⟩ := isOf_iff.1 hq
      have h1 := (h.set s p hp k x hl hv).1
      have h2 := hs x.b
      rw [h1, hp] at h2
      have h3 : p = setAt c ss x.b := Option.some.inj h2
      rw [h3] at hl
      rw [idx_no hn k x hl] at hq
      cases hq
  | some k =>
    obtain ⟨x, hx, hxi, _⟩ := idx_at hn
    have hkW : k < W := by
      have h1 := (List.findIdx?_eq_some_iff_getElem.1 hn).1
      rw [hw _ (List.mem_of_getElem? (hs b))] at h1
      exact h1
    rw [Option.map_some, List.findIdx?_eq_some_iff_getElem]
    have hg := rowAll_get hw (hs b) hx
    obtain ⟨hlt, he⟩ := List.getElem?_eq_some_iff.1 hg
    refine ⟨hlt, by rw [he]; exact hxi, fun j hj => ?_⟩
    have hjl : j < (rowAll ss).length := by omega
    have hj' : (rowAll ss)[j]? = some (rowAll ss)[j] := List.getElem?_eq_getElem hjl
    obtain ⟨s, k', p, rfl, hk, hp, hl⟩ := rowAll_at hw hj'
    intro hq
    obtain ⟨hv, hb⟩ := isOf_iff.1 hq
    have h1 := (h.set s p hp k' _ hl hv).1
    rw [hb] at h1
    subst h1
    have h2 := hs b
    rw [hp] at h2
    have h3 : p = setAt c ss b := Option.some.inj h2
    rw [h3] at hl
    have hkk : k' < k := by omega
    obtain ⟨_, _, h4⟩ := List.findIdx?_eq_some_iff_getElem.1 hn
    have h5 := h4 k' hkk
    obtain ⟨hll, hle⟩ := List.getElem?_eq_some_iff.1 hl
    rw [hle] at h5
    exact h5 hq
end
/-- Where the document's cache lies: its block, its lines', its memories'. -/
structure RLoc where
  b : Nat
  gl : Nat
  gm : Nat
structure Rac (w : World) (R : RLoc) (c : Cfg) (ss : List St) : Prop where
  blk : w.heap[R.b]? = some (.cells (c.cells ++ #[.slice (some ⟨R.gl, 0, none⟩) (rowAll ss).length (rowAll ss).length, .slice (some ⟨R.gm, 0, none⟩) ss.length ss.length]) 83 (0, 0))
  row : RowAt w R.gl (rowAll ss)
  mb : ∃ cur, w.heap[R.gm]? = some (.cells cur 5 (0, 0))
  mem : ∀ (i : Nat) p, ss[i]? = some p → w.cell? ⟨R.gm, i, none⟩ = some (.int .u8 (p.2 : Int))
  len : (ss.length : Int) = c.se
  wid : ∀ p ∈ ss, p.1.length = c.wa.toNat
  mlt : ∀ p ∈ ss, p.2 < 256
  may : c.may
def RLoc.own (R : RLoc) (k : Nat) : Prop := k = R.gl ∨ k = R.gm
def RLoc.any (R : RLoc) (k : Nat) : Prop := k = R.b ∨ R.own k
section
variable {w w' : World} {R : RLoc} {c : Cfg} {ss : List St} (h : Rac w R c ss)
include h
theorem Rac.lt {k : Nat} (hk : R.any k) : k < w.heap.size := by
  rcases hk with rfl | rfl | rfl
  · exact lt_of h.blk
  · exact h.row.lt
  · obtain ⟨_, hc⟩ := h.mb; exact lt_of hc
theorem Rac.same (hb : ∀ k, R.any k → w'.heap[k]? = w.heap[k]?) : Rac w' R c ss := by
  have hm := hb R.gm (.inr (.inr rfl))
  refine ⟨(hb _ (.inl rfl)).trans h.blk, h.row.same (hb _ (.inr (.inl rfl))), ?_, fun i p hp => ?_, h.len, h.wid, h.mlt, h.may⟩
  · obtain ⟨cur, hc⟩ := h.mb; exact ⟨cur, hm.trans hc⟩
  · rw [World.cell?_of_block (w := w) (a := ⟨R.gm, i, none⟩) hm]; exact h.mem i p hp
theorem Rac.grown (hg : w.grownBy w' none) : Rac w' R c ss := h.same (fun k hk => hg.block k (h.lt hk) (by simp))
theorem Rac.at (b : Int) : ss[setOf c b]? = some (setAt c ss b) := by
  have hlt : setOf c b < ss.length := by have := h.may.set_lt b; have := h.len; omega
  rw [setAt, List.getElem?_eq_getElem hlt]; rfl
theorem Rac.ne : R.gl ≠ R.b ∧ R.gm ≠ R.b ∧ R.gm ≠ R.gl := by
  obtain ⟨_, h1⟩ := h.row.blk
  obtain ⟨_, h2⟩ := h.mb
  exact ⟨tyne h1 h.blk (by decide), tyne h2 h.blk (by decide), tyne h2 h1 (by decide)⟩
theorem Rac.cell (i : Nat) (v : Value) (hv : (c.cells ++ #[.slice (some ⟨R.gl, 0, none⟩) (rowAll ss).length (rowAll ss).length, .slice (some ⟨R.gm, 0, none⟩) ss.length ss.length])[i]? = some v) : w.cell? ⟨R.b, i, none⟩ = some v := (cell_of_row _ _ _ _ _ _ h.blk).trans hv
theorem Rac.lines : w.cell? ⟨R.b, 8, none⟩ = some (.slice (some ⟨R.gl, 0, none⟩) (rowAll ss).length (rowAll ss).length) := h.cell 8 _ rfl
theorem Rac.mems : w.cell? ⟨R.b, 9, none⟩ = some (.slice (some ⟨R.gm, 0, none⟩) ss.length ss.length) := h.cell 9 _ rfl
theorem Rac.cfg : CfgAt w R.b c := ⟨h.cell 0 _ rfl, h.cell 1 _ rfl, h.cell 2 _ rfl, h.cell 3 _ rfl, h.cell 4 _ rfl, h.cell 5 _ rfl, h.cell 6 _ rfl, h.cell 7 _ rfl⟩
theorem Rac.flen : (rowAll ss).length = ss.length * c.wa.toNat := rowAll_len h.wid
end
end Go.Proofs.YtjbapfjeildfoaaDoor.kk
