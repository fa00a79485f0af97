/-
  A loop over a map keyed by ints, as a function: range, next, entry, and their laws; a word stored into a line's variable. No condition but what each theorem names.
-/
import Derived.Test.YtjbapfjeildfoaaDoorC19
import Derived.Maps.RangeWalk
namespace Go.Proofs.YtjbapfjeildfoaaDoor.kk
open Go Go.RowKit Go.Shelf Go.MapKept Go.ChangeMaps
set_option linter.unusedVariables false

/-- The block R goes over the map in the block M; n entries are still to come. -/
def Iter (w : World) (M R : Nat) (f : Int → Option Value) (n : Nat) : Prop :=
  ∃ es clock since seen c0, w.heap[M]? = some (.map es clock) ∧ Stamped es clock ∧ MapIs es.toList f ∧ w.heap[R]? = some (.mapIter (some M) since seen c0) ∧ (∀ x ∈ es.toList, x.born < since) ∧ since ≤ c0 ∧ since ≤ clock ∧ (leftOf es seen).size = n
theorem Iter.map {w : World} {M R : Nat} {f : Int → Option Value} {n : Nat} (h : Iter w M R f n) : MapAt w M f := by
  obtain ⟨es, clock, _, _, _, hb, h1, h2, _⟩ := h
  exact ⟨es, clock, hb, h1, h2⟩
theorem Iter.lt {w : World} {M R : Nat} {f : Int → Option Value} {n : Nat} (h : Iter w M R f n) : R < w.heap.size := by
  obtain ⟨es, clock, _, _, _, _, _, _, hr, _⟩ := h
  exact (Array.getElem?_eq_some_iff.1 hr).1
theorem Iter.same {w w' : World} {M R : Nat} {f : Int → Option Value} {n : Nat} (h : Iter w M R f n) (hm : w'.heap[M]? = w.heap[M]?) (hr : w'.heap[R]? = w.heap[R]?) : Iter w' M R f n := by
  obtain ⟨es, clock, since, seen, c0, h1, h2, h3, h4, h5⟩ := h
  exact ⟨es, clock, since, seen, c0, hm.trans h1, h2, h3, hr.trans h4, h5⟩
theorem Iter.more {w w' : World} {M R : Nat} {f : Int → Option Value} {n : Nat} (h : Iter w M R f n) (hg : w.grownBy w' none) : Iter w' M R f n := h.same (hg.block M h.map.lt (by simp)) (hg.block R h.lt (by simp))

section
variable {P : Program} {w : World} {ops : Array Oper} {rest : List Oper} {a : Act} {Q : Exit → Act → World → Prop} {dst : Option Tmp} {ty : TypeId} {pos : String} {after : Array Edge}
theorem map_range (mt e : TypeId) (hm : P.underlying mt = some (.map 3 e)) (m : Operand) (b : Nat) (f : Int → Option Value) (ha : a.eval m = .map (some b)) (hM : MapAt w b f)
    (h : ∀ w' n, Iter w' b w.heap.size f n → w.grownBy w' none → w'.heap.size = w.heap.size + 1 → wpList P ops Q rest (a.put dst (.pointer (some ⟨w.heap.size, 0, none⟩))) w') : wpList P ops Q (⟨dst, .range mt m, ty, pos, after, none⟩ :: rest) a w := by
  refine wpList_plain rfl fun K' hK' => ?_
  have hlt := hM.lt
  obtain ⟨es, clock, hb, hs, hi⟩ := hM
  unfold Oper.wp
  simp only [execOp, ha, Sem.run_bind, run_range_map w mt 3 e b es clock hm hb, Result.andThen_ok, Sem.run_pure]
  refine hK' _ _ (h _ _ ⟨es, clock, clock, #[], clock, ((MapKept.heap_alloc w _).2 b hlt).trans hb, hs, hi, (MapKept.heap_alloc w _).1, hs.1, Nat.le_refl _, Nat.le_refl _, rfl⟩ (World.grownBy_alloc w _ none) (by simp))
theorem map_next (it : Operand) (M R : Nat) (f : Int → Option Value) (n : Nat) (ha : a.eval it = .pointer (some ⟨R, 0, none⟩)) (hI : Iter w M R f n)
    (h0 : wpList P ops Q rest (a.put dst (.tuple #[.bool false])) w)
    (h : ∀ w' n' k v, Iter w' M R f n' → n' < n → f k = some v → w.grownBy w' (some R) → w'.heap.size = w.heap.size → (Instr.entry (.pointer (some ⟨R, 0, none⟩))).run P w' = .ok (.tuple #[.int .i64 k, v]) w' → wpList P ops Q rest (a.put dst (.tuple #[.bool true, .int .i64 k, v])) w') :
    wpList P ops Q (⟨dst, .next it false, ty, pos, after, none⟩ :: rest) a w := by
  refine wpList_plain rfl fun K' hK' => ?_
  obtain ⟨es, clock, since, seen, c0, hb, hs, hi, hr, hold, hsc, hsk, rfl⟩ := hI
  have hne : R ≠ M := fun e => by rw [e, hb] at hr; cases hr
  unfold Oper.wp
  rcases run_next_at (P := P) w ty R M since c0 seen es clock hr hb hold hsc with ⟨_, hrun⟩ | ⟨e, he, w1, hal, hrun⟩
  · simp only [execOp, ha, Sem.run_bind, hrun, Result.andThen_ok, Sem.run_pure]
    exact hK' _ _ h0
  · obtain ⟨hem, hes⟩ := mem_left he
    have hr1 : w1.heap[R]? = some (.mapIter (some M) since seen c0) := by rcases hal with rfl | rfl <;> exact hr
    have hb1 : w1.heap[M]? = some (.map es clock) := by rcases hal with rfl | rfl <;> exact hb
    have hset := heap_set (o' := .mapIter (some M) since (seen.push e.born) clock) hr1
    have hb' : (setBlock w1 R (.mapIter (some M) since (seen.push e.born) clock)).heap[M]? = some (.map es clock) := (hset.2 M (fun e1 => hne e1.symm)).trans hb1
    obtain ⟨k, hk⟩ := hi.keys e hem
    have hk' : e.key = .int .i64 k := hk
    have hen := run_entry_at (P := P) _ R M since seen es clock e hset.1 hb' hem ((stamped_iff es clock).1 hs).2.1
    simp only [execOp, ha, Sem.run_bind, hrun, Result.andThen_ok, Sem.run_pure]
    rw [hk'] at hen ⊢
    refine hK' _ _ (h _ _ k e.val ⟨es, clock, since, seen.push e.born, clock, hb', hs, hi, hset.1, hold, hsk, hsk, rfl⟩ (left_shrinks es seen e he) ((hi.at_ k e.val).2 ⟨e, hem, hk, rfl⟩) ?_ ?_ hen)
    · rcases hal with rfl | rfl <;> exact ⟨rfl, rfl, rfl, by simp [setBlock], fun i _ hi => hset.2 i (fun e1 => hi (by rw [e1]))⟩
    · rcases hal with rfl | rfl <;> simp [setBlock]
end
section
variable {w : World} {ops : Array Oper} {rest : List Oper} {a : Act} {Q : Exit → Act → World → Prop} {dst : Option Tmp} {ty : TypeId} {pos : String} {after : Array Edge}
/-- A line into the variable that was made last, its block said. -/
theorem store_newAt (l : Ln) (x y : Tmp) (g : Nat) (hg : g = w.heap.size) (hx : a.eval (.tmp x) = .pointer (some ⟨g, 0, none⟩)) (hy : a.eval (.tmp y) = .agg (la l))
    (h : wpList Tryd.prog ops Q rest (a.put dst undef) (w.alloc (.cells (la l) 36))) : wpList Tryd.prog ops Q (⟨dst, .store 36 (.tmp x) (.tmp y), ty, pos, after, none⟩ :: rest) a (w.alloc (.cells #[.int .i64 0, .int .u8 0, .int .u32 0, .int .u32 0, .int .u32 0, .int .u32 0, .int .u32 0, .int .u32 0, .int .u32 0, .int .u32 0, .int .u32 0, .int .u32 0, .int .u32 0, .int .u32 0, .int .u32 0, .int .u32 0, .int .u32 0, .int .u32 0] 36)) := by
  subst hg
  exact store_new' l x y hx hy h
end
/-- How many entries are still to come, off the world. -/
def leftAt (w : World) (M R : Nat) : Nat :=
  match w.heap[M]?, w.heap[R]? with
  | some (.map es _), some (.mapIter _ _ seen _) => (leftOf es seen).size
  | _, _ => 0
theorem Iter.left {w : World} {M R : Nat} {f : Int → Option Value} {n : Nat} (h : Iter w M R f n) : leftAt w M R = n := by
  obtain ⟨es, clock, since, seen, c0, hb, _, _, hr, _, _, _, hn⟩ := h
  simp only [leftAt, hb, hr]
  exact hn

theorem la_word (l : Ln) (k : Nat) (x : Int) : (la l).setIfInBounds (2 + k) (.int .u32 x) = la (l.word k x) := by
  unfold la
  rw [ln_word]
  simp [U]
theorem la_state (l : Ln) (s : Int) : (la l).setIfInBounds 1 (.int .u8 s) = la (l.state s) := by
  simp [la, ln, Ln.state]
theorem la_at (l : Ln) (k : Nat) (hk : k < 18) : ∃ v, (la l)[k]? = some v := ⟨_, by unfold la; rw [List.getElem?_toArray]; exact List.getElem?_eq_getElem (by rw [ln_len]; exact hk)⟩
/-- The map has as many keys as the cache has lines. -/
theorem same_len {c : Cfg} {ss : List St} {w : World} {M : Nat} (h : Inv c ss) (hs : ∀ b, ss[setOf c b]? = some (setAt c ss b)) (hM : MapAt w M (vl (fF c ss))) : ∃ es clock, w.heap[M]? = some (.map es clock) ∧ es.size = (told ss).length := by
  obtain ⟨es, cl, hb, ks, hn, hl, hk⟩ := hM.keysOf
  refine ⟨es, cl, hb, ?_⟩
  have hp : List.Perm ks ((told ss).map (·.b)) := by
    refine (List.perm_ext_iff_of_nodup hn (told_nodup h)).2 (fun k => ?_)
    rw [hk k, told_iff h hs, vl_some]
  rw [← hl, hp.length_eq, List.length_map]
end Go.Proofs.YtjbapfjeildfoaaDoor.kk
