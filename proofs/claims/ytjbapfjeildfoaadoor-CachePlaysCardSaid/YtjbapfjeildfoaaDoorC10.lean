/-
  What Copy answers, and the cache that it makes: contracts. No condition but the bounds that each theorem names.
-/
import Derived.Test.YtjbapfjeildfoaaDoorC9
import Derived.Deep.AppendSrc
namespace Go.Proofs.YtjbapfjeildfoaaDoor.kk
open Go Go.ChangeShapes Go.WideShapes Go.ChangeAt Go.RowKit Go.Shelf
set_option linter.unusedVariables false

/-- append of a slice to an empty one. -/
theorem append_new {P : Program} {w : World} {ops : Array Oper} {rest : List Oper} {a : Act} {Q : Exit → Act → World → Prop} {dst : Option Tmp} {ty : TypeId} {pos : String} {after : Array Edge}
    (t e : TypeId) (i : TypeInfo) (z : Value) (size bytes : Nat) (s x : Tmp) (ht : P.underlying t = some (.slice e)) (hi : P.info? e = some i) (hz : i.zero = some z) (hsz : i.size = size) (hby : i.bytes = bytes)
    (B g n cap : Nat) (hs : a.eval (.tmp s) = .slice (some ⟨B, 0, none⟩) 0 0) (hx : a.eval (.tmp x) = .slice (some ⟨g, 0, none⟩) n cap) (news : List Value) (hl : news.length = n * size) (hr : w.rangeAt g 0 news) (h1 : ∀ u ∈ news, u.oneCell' = true) (hn : 0 < n) (hn16 : n ≤ 16) (hb : bytes ≤ 1024)
    (h : ∀ (cap' : Nat) (cs : Array Value), (∀ (j : Nat) v, news[j]? = some v → cs[j]? = some v) → wpList P ops Q rest (a.put dst (.slice (some ⟨w.heap.size, 0, none⟩) n cap')) (w.drew.alloc (.cells cs e))) :
    wpList P ops Q (⟨dst, .call { callee := .builtin .append, args := #[.tmp s, .tmp x], argTypes := #[t, t] }, ty, pos, after, none⟩ :: rest) a w := by
  refine wpList_plain rfl fun K hK' => ?_
  have hsrc : Src P i.size t (.slice (some ⟨g, 0, none⟩) n cap) n news w := Src.ofSlice w ht ⟨g, 0, none⟩ n cap news (by rw [hsz]; exact hl) (fun j u hu => by rw [add_lit]; exact hr j u hu) h1
  have hfit : n * bytes ≤ 140737488355328 := Nat.le_trans (Nat.mul_le_mul hn16 hb) (by omega)
  have hrun := run_append_grow_src (P := P) w t t ty e i z ht hi hz (some ⟨B, 0, none⟩) 0 0 [] (run_firstCells_some w.drew i.size 0 ⟨B, 0, none⟩ 0 0 [] (by simp) (fun j u hu => by simp at hu)) (.slice (some ⟨g, 0, none⟩) n cap) n news hsrc (by omega) (by omega) (growslice_fits (by omega) (by rw [hby, Nat.zero_add]; exact hfit))
  rw [Nat.zero_add] at hrun
  unfold Oper.wp execOp
  simp only [resolve, invoke, builtin, Sem.run_bind, Sem.run_pure, Result.andThen_ok, List.map_toArray, List.map_cons, List.map_nil, hs, hx, hrun]
  refine hK' _ _ (h _ _ fun j v hv => ?_)
  rw [Array.getElem?_append_left (by simpa using (List.getElem?_eq_some_iff.1 hv).1)]
  simpa using hv

/-- A row's cells in one list. -/
def flat (ls : List Ln) : List Value := ls.flatMap ln
theorem flat_len : ∀ ls, (flat ls).length = ls.length * 18
  | [] => rfl
  | l :: r => by
    have := flat_len r
    unfold flat at this ⊢
    rw [List.flatMap_cons, List.length_append, this, ln_len, List.length_cons, Nat.add_mul]; omega
theorem flat_at : ∀ (ls : List Ln) (j : Nat) (l : Ln) (i : Nat) (v : Value), ls[j]? = some l → (ln l)[i]? = some v → (flat ls)[j * 18 + i]? = some v
  | [], j, l, i, v, h, _ => by simp at h
  | l0 :: r, 0, l, i, v, h, hv => by
    simp at h; subst h
    unfold flat
    rw [List.flatMap_cons, List.getElem?_append_left (by have := (List.getElem?_eq_some_iff.1 hv).1; omega), Nat.zero_mul, Nat.zero_add]; exact hv
  | l0 :: r, j + 1, l, i, v, h, hv => by
    have := flat_at r j l i v (by simpa using h) hv
    unfold flat at this ⊢
    rw [List.flatMap_cons, List.getElem?_append_right (by rw [ln_len]; omega), ln_len, show (j + 1) * 18 + i - 18 = j * 18 + i by omega]; exact this
theorem flat_one (ls : List Ln) : ∀ v ∈ flat ls, v.oneCell' = true := fun v hv => by
  obtain ⟨l, _, h⟩ := List.mem_flatMap.1 hv
  exact ln_one l v h
theorem flat_inv (ls : List Ln) (k : Nat) (v : Value) (h : (flat ls)[k]? = some v) : ∃ j i l, k = j * 18 + i ∧ ls[j]? = some l ∧ (ln l)[i]? = some v := by
  have hk := (List.getElem?_eq_some_iff.1 h).1
  rw [flat_len] at hk
  have hj : k / 18 < ls.length := by omega
  obtain ⟨l, hl⟩ : ∃ l, ls[k / 18]? = some l := ⟨_, List.getElem?_eq_getElem hj⟩
  obtain ⟨u, hu⟩ : ∃ u, (ln l)[k % 18]? = some u := ⟨_, List.getElem?_eq_getElem (by rw [ln_len]; omega)⟩
  have := flat_at ls _ l _ u hl hu
  rw [show k / 18 * 18 + k % 18 = k by omega, h] at this
  cases this
  exact ⟨_, _, l, by omega, hl, hu⟩
theorem RowAt.flat {w : World} {g : Nat} {ls : List Ln} (h : RowAt w g ls) : w.rangeAt g 0 (flat ls) := fun k v hv => by
  obtain ⟨j, i, l, rfl, hl, hi⟩ := flat_inv ls k v hv
  rw [Nat.zero_add]; exact h.at_ j l hl i v hi

theorem q53 (w : World) (a : Option Addr) (n c n' c' : Nat) : (binOp .eql 53 (.slice a n c) (.slice none n' c')).run Tryd.prog w = .ok (.bool a.isNone) w := Lib.run_eql_slice_nil w _ _ a n c n' c' Tryd.underlying53
theorem q67 (w : World) (a : Option Addr) (n c n' c' : Nat) : (binOp .eql 67 (.slice a n c) (.slice none n' c')).run Tryd.prog w = .ok (.bool a.isNone) w := Lib.run_eql_slice_nil w _ _ a n c n' c' Tryd.underlying67

theorem two_new (w : World) (t : TypeId) (cs : Array Value) : ((w.alloc (.cells #[] t)).alloc (.cells cs t)).drew.heap[w.heap.size + 1]? = some (.cells cs t (0, 0)) := by
  have h := heap_alloc_new (w.alloc (.cells #[] t)) (.cells cs t)
  rw [World.size_alloc] at h
  exact h
set_option maxRecDepth 1000000 in
set_option maxHeartbeats 1000000 in
theorem clone_lines (g cap n : Nat) (ls : List Ln) (w : World) (hn : n = ls.length) (h1 : 1 ≤ n) (h4 : n ≤ 4) (hR : RowAt w g ls) :
    Calls Tryd.prog 36 #[.slice (some ⟨g, 0, none⟩) n cap] w fun e w' => ∃ g' cap', e = .returned (.slice (some ⟨g', 0, none⟩) n cap') ∧ RowAt w' g' ls ∧ w.grownBy w' none ∧ w.heap.size ≤ g' := by
  obtain ⟨i36, hi36, hii⟩ := Option.map_eq_some_iff.1 info36z
  simp at hii
  obtain ⟨z36, s36, y36⟩ := hii
  have HI36 := Lib.hid hi36
  have HZ36 := Lib.hid z36
  have HS36 := Lib.hid s36
  have HY36 := Lib.hid y36
  have HR : Hid ((w.alloc (.cells #[] 36)).rangeAt g 0 (flat ls)) := Lib.hid (hR.grown (grown_alloc (grown_refl w none) _) (by simp)).flat
  have HL : Hid ((flat ls).length = n * 18) := Lib.hid (by rw [hn]; exact flat_len ls)
  have hq := q53
  clear hi36 z36 s36 y36 hR hn
  go_enter Tryd.func36, Tryd.ntmps36
  go_wp2_with ((with_reducible refine append_new 53 36 i36 (.agg (la zl)) 18 80 5 6 Tryd.underlying53 HI36.out HZ36.out HS36.out HY36.out w.heap.size g n cap ?_ ?_ (flat ls) HL.out HR.out (flat_one ls) ?_ ?_ ?_ ?_); (rfl); (rfl); (omega); (omega); (decide); (intro cap' cs hcs; have HCS := Lib.hid hcs; clear hcs))
  go_ret
  refine ⟨_, cap', rfl, ⟨⟨cs, two_new _ _ _⟩, fun j l hl i v hv => ?_⟩, grown_drew (grown_alloc (grown_alloc (grown_refl _ _) _) _), by omega⟩
  exact (cell_of_row _ _ _ _ _ _ (two_new _ _ _)).trans (HCS.out _ v (flat_at ls j l i v hl hv))

set_option maxRecDepth 1000000 in
set_option maxHeartbeats 1000000 in
theorem clone_sets (g cap n : Nat) (vs : List Value) (w : World) (hn : vs.length = n * 2) (h1 : 1 ≤ n) (h16 : n ≤ 16) (hR : w.rangeAt g 0 vs) (hone : ∀ u ∈ vs, u.oneCell' = true) :
    Calls Tryd.prog 35 #[.slice (some ⟨g, 0, none⟩) n cap] w fun e w' => ∃ g' cap' cs, e = .returned (.slice (some ⟨g', 0, none⟩) n cap') ∧ w'.heap[g']? = some (.cells cs 69 (0, 0)) ∧ (∀ (j : Nat) v, vs[j]? = some v → cs[j]? = some v) ∧ w.grownBy w' none ∧ w.heap.size ≤ g' := by
  obtain ⟨i69, hi69, hii⟩ := Option.map_eq_some_iff.1 info69
  simp at hii
  obtain ⟨z69, s69, y69⟩ := hii
  have HI69 := Lib.hid hi69
  have HZ69 := Lib.hid z69
  have HS69 := Lib.hid s69
  have HY69 := Lib.hid y69
  have HR : Hid ((w.alloc (.cells #[] 69)).rangeAt g 0 vs) := Lib.hid (range_grown hR (grown_alloc (grown_refl w none) _) (by simp))
  have HL := Lib.hid hn
  have HO := Lib.hid hone
  have hq := q67
  clear hi69 z69 s69 y69 hR hn hone
  go_enter Tryd.func35, Tryd.ntmps35
  go_wp2_with ((with_reducible refine append_new 67 69 i69 (.agg #[.slice none 0 0, .int .u8 0]) 2 32 5 6 Tryd.underlying67 HI69.out HZ69.out HS69.out HY69.out w.heap.size g n cap ?_ ?_ vs HL.out HR.out HO.out ?_ ?_ ?_ ?_); (rfl); (rfl); (omega); (omega); (decide); (intro cap' cs hcs; have HCS := Lib.hid hcs; clear hcs))
  go_ret
  exact ⟨_, cap', cs, rfl, two_new _ _ _, HCS.out, grown_drew (grown_alloc (grown_alloc (grown_refl _ _) _) _), by omega⟩

theorem copy_nil (w : World) : Calls Tryd.prog 20 #[.pointer none] w fun e w' => e = .returned (.pointer none) ∧ w.grownBy w' none := by
  go_enter Tryd.func20, Tryd.ntmps20
  go_wp2
  go_ret
  exact ⟨rfl, grown_refl _ _⟩

/-- The sets' cells in one list. -/
def setv (p : St) (q : Nat × Nat) : List Value := [.slice (some ⟨q.1, 0, none⟩) p.1.length q.2, .int .u8 (p.2 : Int)]
def sflat : List St → List (Nat × Nat) → List Value
  | p :: ps, q :: qs => setv p q ++ sflat ps qs
  | _, _ => []
theorem sflat_len : ∀ (ss : List St) (gr : List (Nat × Nat)), gr.length = ss.length → (sflat ss gr).length = ss.length * 2
  | [], [], _ => rfl
  | p :: ps, q :: qs, h => by
    have := sflat_len ps qs (by simpa using h)
    rw [sflat, List.length_append, this, List.length_cons]; simp [setv]; omega
  | [], _ :: _, h => by simp at h
  | _ :: _, [], h => by simp at h
theorem sflat_at : ∀ (ss : List St) (gr : List (Nat × Nat)) (j : Nat) p q, ss[j]? = some p → gr[j]? = some q → (sflat ss gr)[j * 2]? = some (.slice (some ⟨q.1, 0, none⟩) p.1.length q.2) ∧ (sflat ss gr)[j * 2 + 1]? = some (.int .u8 (p.2 : Int))
  | [], _, j, p, q, h, _ => by simp at h
  | _ :: _, [], j, p, q, _, h => by simp at h
  | p0 :: ps, q0 :: qs, 0, p, q, h, h' => by
    simp at h h'; subst h h'
    exact ⟨rfl, rfl⟩
  | p0 :: ps, q0 :: qs, j + 1, p, q, h, h' => by
    have := sflat_at ps qs j p q (by simpa using h) (by simpa using h')
    rw [sflat, show (j + 1) * 2 = j * 2 + 2 by omega]
    exact ⟨by rw [List.getElem?_append_right (by simp [setv])]; simpa [setv] using this.1, by rw [show j * 2 + 2 + 1 = j * 2 + 1 + 2 by omega, List.getElem?_append_right (by simp [setv])]; simpa [setv] using this.2⟩
theorem sflat_one : ∀ (ss : List St) (gr : List (Nat × Nat)), ∀ v ∈ sflat ss gr, v.oneCell' = true
  | [], _, v, h => by simp [sflat] at h
  | _ :: _, [], v, h => by simp [sflat] at h
  | p :: ps, q :: qs, v, h => by
    rw [sflat, List.mem_append] at h
    rcases h with h | h
    · simp [setv] at h
      rcases h with rfl | rfl <;> rfl
    · exact sflat_one ps qs v h
theorem sflat_range {w : World} {g : Nat} : ∀ (ss : List St) (gr : List (Nat × Nat)) (o : Nat), (∀ (j : Nat) p q, ss[j]? = some p → gr[j]? = some q → w.cell? ⟨g, o + j * 2, none⟩ = some (.slice (some ⟨q.1, 0, none⟩) p.1.length q.2) ∧ w.cell? ⟨g, o + j * 2 + 1, none⟩ = some (.int .u8 (p.2 : Int))) → w.rangeAt g o (sflat ss gr)
  | [], _, o, _ => fun j v hv => by simp [sflat] at hv
  | _ :: _, [], o, _ => fun j v hv => by simp [sflat] at hv
  | p :: ps, q :: qs, o, h => fun j v hv => by
    rw [sflat] at hv
    have h0 := h 0 p q rfl rfl
    match j, hv with
    | 0, hv => simp [setv] at hv; subst hv; simpa using h0.1
    | 1, hv => simp [setv] at hv; subst hv; simpa using h0.2
    | j + 2, hv =>
      rw [List.getElem?_append_right (by simp [setv])] at hv
      have := sflat_range ps qs (o + 2) (fun j p' q' hp hq => by
        have := h (j + 1) p' q' (by simpa using hp) (by simpa using hq)
        rw [show o + 2 + j * 2 = o + (j + 1) * 2 by omega]; exact this) j v (by simpa [setv] using hv)
      rw [show o + (j + 2) = o + 2 + j by omega]; exact this

/-- The copy, whose first k rows are its own. -/
structure Cop (w0 wr : World) (K : Loc) (c : Cfg) (ss : List St) (G : Nat) (gr : List (Nat × Nat)) : Prop where
  cac : Cac wr K c ss
  grown : w0.grownBy wr none
  new : w0.heap.size ≤ G
  blk : ∃ cur, wr.heap[G]? = some (.cells cur 69 (0, 0)) ∧ (∀ (j : Nat) p q, ss[j]? = some p → gr[j]? = some q → cur[j * 2]? = some (.slice (some ⟨q.1, 0, none⟩) p.1.length q.2)) ∧
    (∀ (j : Nat) p q, gr.length ≤ j → ss[j]? = some p → K.gr[j]? = some q → cur[j * 2]? = some (.slice (some ⟨q.1, 0, none⟩) p.1.length q.2)) ∧ (∀ (j : Nat) p, ss[j]? = some p → cur[j * 2 + 1]? = some (.int .u8 (p.2 : Int)))
  rows : ∀ (j : Nat) p q, ss[j]? = some p → gr[j]? = some q → G < q.1 ∧ RowAt wr q.1 p.1
  inj : ∀ (i j : Nat) q q', gr[i]? = some q → gr[j]? = some q' → q.1 = q'.1 → i = j
  le : gr.length ≤ ss.length
  old : ∀ k, K.any k → k < w0.heap.size
theorem Cop.put {w0 wr w' : World} {K : Loc} {c : Cfg} {ss : List St} {G : Nat} {gr : List (Nat × Nat)} (h : Cop w0 wr K c ss G gr) {p : St} (hp : ss[gr.length]? = some p) {g' cap' : Nat} (hg : wr.grownBy w' none) (hr : RowAt w' g' p.1) (hg' : wr.heap.size ≤ g') :
    w'.frozen? ⟨G, gr.length * 2, none⟩ = false ∧ (∃ u, w'.cell? ⟨G, gr.length * 2, none⟩ = some u) ∧ Cop w0 (w'.setCell ⟨G, gr.length * 2, none⟩ (.slice (some ⟨g', 0, none⟩) p.1.length cap')) K c ss G (gr ++ [(g', cap')]) := by
  obtain ⟨cur, hG, h3, h3', h4⟩ := h.blk
  have hltG := lt_of hG
  have hG' : w'.heap[G]? = some (.cells cur 69 (0, 0)) := (hg.block _ hltG (by simp)).trans hG
  have hgr : w0.grownBy w' none := grown_trans h.grown hg
  have hset := grown_setCell w' G (gr.length * 2) (.slice (some ⟨g', 0, none⟩) p.1.length cap')
  have hlt : gr.length < ss.length := (List.getElem?_eq_some_iff.1 hp).1
  obtain ⟨q0, hq0⟩ : ∃ q, K.gr[gr.length]? = some q := ⟨_, List.getElem?_eq_getElem (by rw [h.cac.grl]; exact hlt)⟩
  have hc0 := h3' gr.length p q0 (Nat.le_refl _) hp hq0
  have hcl : gr.length * 2 < cur.size := (Array.getElem?_eq_some_iff.1 hc0).1
  have happ : ∀ (j : Nat) q, (gr ++ [(g', cap')])[j]? = some q → (j = gr.length ∧ q = (g', cap')) ∨ (j < gr.length ∧ gr[j]? = some q) := fun j q hq => by
    by_cases hjl : j < gr.length
    · rw [List.getElem?_append_left hjl] at hq
      exact .inr ⟨hjl, hq⟩
    · have hlt := (List.getElem?_eq_some_iff.1 hq).1
      simp at hlt
      obtain rfl : j = gr.length := by omega
      rw [List.getElem?_append_right (Nat.le_refl _)] at hq
      simp at hq
      exact .inl ⟨rfl, hq.symm⟩
  have hcur : ∀ o v, o ≠ gr.length * 2 → cur[o]? = some v → (cur.set! (gr.length * 2) (.slice (some ⟨g', 0, none⟩) p.1.length cap'))[o]? = some v := fun o v ho hv => by
    rw [Array.set!_eq_setIfInBounds, Array.getElem?_setIfInBounds, if_neg (fun e => ho e.symm)]; exact hv
  have hb2 : ∀ k, k < wr.heap.size → k ≠ G → (w'.setCell ⟨G, gr.length * 2, none⟩ (.slice (some ⟨g', 0, none⟩) p.1.length cap')).heap[k]? = wr.heap[k]? := fun k hk hkG =>
    (hset.block k (Nat.lt_of_lt_of_le hk hg.size) (fun e => hkG (Option.some.inj e))).trans (hg.block k hk (by simp))
  refine ⟨frozen_of_row _ _ _ _ _ hG', ⟨_, (cell_of_row _ _ _ _ _ _ hG').trans hc0⟩, ⟨?_, ?_, h.new, ⟨_, blk_setCell _ hG', fun j p' q hp' hq => ?_, fun j p' q hj hp' hq => ?_, fun j p' hp' => ?_⟩, fun j p' q hp' hq => ?_, fun i j q q' hi hj e => ?_, by simp; omega, h.old⟩⟩
  · exact h.cac.same fun k hk => hb2 k (h.cac.lt hk) (by have := h.old k hk; have := h.new; omega)
  · exact ⟨hset.os.trans hgr.os, hset.tape.trans hgr.tape, hset.output.trans hgr.output, Nat.le_trans hgr.size hset.size, fun k hk hn => (hset.block k (Nat.lt_of_lt_of_le hk hgr.size) (by have := h.new; simp; omega)).trans (hgr.block k hk hn)⟩
  · rcases happ j q hq with ⟨rfl, rfl⟩ | ⟨hj, hq⟩
    · rw [hp] at hp'; cases hp'
      rw [Array.set!_eq_setIfInBounds, Array.getElem?_setIfInBounds, if_pos rfl, if_pos hcl]
    · exact hcur _ _ (by omega) (h3 j p' q hp' hq)
  · simp at hj
    exact hcur _ _ (by omega) (h3' j p' q (by omega) hp' hq)
  · exact hcur _ _ (by omega) (h4 j p' hp')
  · rcases happ j q hq with ⟨rfl, rfl⟩ | ⟨hj, hq⟩
    · rw [hp] at hp'; cases hp'
      exact ⟨by show G < g'; omega, hr.same (hset.block g' hr.lt (fun e => by have := Option.some.inj e; omega))⟩
    · obtain ⟨r1, r2⟩ := h.rows j p' q hp' hq
      exact ⟨r1, r2.same (hb2 _ r2.lt (by omega))⟩
  · have hlr : ∀ (j : Nat) q, gr[j]? = some q → q.1 < wr.heap.size := fun j q hq => by
      obtain ⟨p', hp'⟩ : ∃ p', ss[j]? = some p' := ⟨_, List.getElem?_eq_getElem (by have := (List.getElem?_eq_some_iff.1 hq).1; have := h.le; omega)⟩
      exact (h.rows j p' q hp' hq).2.lt
    rcases happ i q hi with ⟨rfl, rfl⟩ | ⟨hi', hi⟩ <;> rcases happ j q' hj with ⟨rfl, rfl⟩ | ⟨hj', hj⟩
    · rfl
    · have := hlr j q' hj
      have e' : g' = q'.1 := e
      omega
    · have := hlr i q hi
      have e' : q.1 = g' := e
      omega
    · exact h.inj i j q q' hi hj e

theorem Cop.seen {w0 wr : World} {K : Loc} {c : Cfg} {ss : List St} {G : Nat} {gr : List (Nat × Nat)} (h : Cop w0 wr K c ss G gr) {k : Nat} (hk : gr.length = k) (hlt : k < ss.length) : ∃ (p : St) (q : Nat × Nat), ss[k]? = some p ∧ wr.cell? ⟨G, k * 2, none⟩ = some (.slice (some ⟨q.1, 0, none⟩) p.1.length q.2) ∧ RowAt wr q.1 p.1 ∧ 1 ≤ p.1.length ∧ p.1.length ≤ 4 := by
  obtain ⟨cur, hG, h3, h3', h4⟩ := h.blk
  obtain ⟨p, hp⟩ : ∃ p, ss[k]? = some p := ⟨_, List.getElem?_eq_getElem hlt⟩
  obtain ⟨q, hq, hS⟩ := h.cac.seen hp
  have := h.cac.wid4 (List.mem_of_getElem? hp)
  exact ⟨p, q, hp, (cell_of_row _ _ _ _ _ _ hG).trans (h3' k p q (by omega) hp hq), hS.row, this.2, this.1⟩
theorem Cop.done {w0 wr : World} {K : Loc} {c : Cfg} {ss : List St} {G cap : Nat} {gr : List (Nat × Nat)} (h : Cop w0 wr K c ss G gr) (hl : gr.length = ss.length) :
    Cac (wr.alloc (.cells (c.cells ++ #[.slice (some ⟨G, 0, none⟩) ss.length cap]) 71)) ⟨wr.heap.size, G, cap, gr⟩ c ss := by
  obtain ⟨cur, hG, h3, h3', h4⟩ := h.blk
  have hG' : (wr.alloc (.cells (c.cells ++ #[.slice (some ⟨G, 0, none⟩) ss.length cap]) 71)).heap[G]? = some (.cells cur 69 (0, 0)) := (Below.heap_alloc _ _ _ (lt_of hG)).trans hG
  refine ⟨heap_alloc_new _ _, ⟨cur, hG'⟩, hl, fun i p q hp hq => ?_, fun i p hp => ?_, fun i p q hp hq => ?_, h.inj, h.cac.len, h.cac.wid, h.cac.mlt, h.cac.may⟩
  · exact (cell_of_row _ _ _ _ _ _ hG').trans (h3 i p q hp hq)
  · exact (cell_of_row _ _ _ _ _ _ hG').trans (h4 i p hp)
  · have hr := (h.rows i p q hp hq).2
    exact hr.same (Below.heap_alloc _ _ _ hr.lt)

set_option maxHeartbeats 1000000 in
theorem copy_any (K : Loc) (c : Cfg) (ss : List St) (w : World) (hC : Cac w K c ss) :
    Calls Tryd.prog 20 #[.pointer (some ⟨K.b, 0, none⟩)] w fun e w' => ∃ K' : Loc, e = .returned (.pointer (some ⟨K'.b, 0, none⟩)) ∧ Cac w' K' c ss ∧ w.grownBy w' none ∧ ∀ k, K'.any k → w.heap.size ≤ k := by
  have hs := hC.may.sets
  have hlen := hC.len
  have h16 : 1 ≤ ss.length ∧ ss.length ≤ 16 := by omega
  have HCS := Lib.hid (clone_sets K.gs K.cap ss.length (sflat ss K.gr) w (sflat_len _ _ hC.grl) h16.1 h16.2 (sflat_range ss K.gr 0 fun j p q hp hq => by rw [Nat.zero_add]; exact ⟨hC.row j p q hp hq, hC.mem j p hp⟩) (sflat_one _ _))
  have c8 := hC.slice
  have HC := Lib.hid hC
  have HSTART : Hid (∀ w1 g' cs, w1.heap[g']? = some (.cells cs 69 (0, 0)) → (∀ (j : Nat) v, (sflat ss K.gr)[j]? = some v → cs[j]? = some v) → w.grownBy w1 none → w.heap.size ≤ g' → Cop w w1 K c ss g' []) := Lib.hid fun w1 g' cs h1 h2 h3 h4 =>
    ⟨hC.grown h3, h3, h4, ⟨cs, h1, fun j p q _ hq => by simp at hq, fun j p q _ hp hq => h2 _ _ (sflat_at ss K.gr j p q hp hq).1, fun j p hp => by
      obtain ⟨q, hq⟩ : ∃ q, K.gr[j]? = some q := ⟨_, List.getElem?_eq_getElem (by rw [hC.grl]; exact (List.getElem?_eq_some_iff.1 hp).1)⟩
      exact h2 _ _ (sflat_at ss K.gr j p q hp hq).2⟩, fun j p q _ hq => by simp at hq, fun i j q q' hq => by simp at hq, Nat.zero_le _, fun k hk => hC.lt hk⟩
  obtain ⟨S, hS⟩ : ∃ S, S = ss.length := ⟨_, rfl⟩
  have HS := Lib.hid hS
  rw [← hS] at h16 HCS c8
  clear hs hlen hC hS
  go_enter Tryd.func20, Tryd.ntmps20
  go_wp2_with (first
    | (go_at_call 35; ((with_reducible refine HCS.out.mono ?_); rintro e w1 ⟨g', cap', cs, rfl, h1, h2, h3, h4⟩; have HCOP := Lib.hid (HSTART.out w1 g' cs h1 h2 h3 h4); clear h1 h2 h3 h4 c8)))
  go_loopw [14] (fun i wr => ∃ (k : Nat) (gr : List (Nat × Nat)), k ≤ S ∧ i = .int .i64 (k : Int) ∧ gr.length = k ∧ Cop w wr K c ss g' gr) (fun i _ => S - (intOf i).toNat)
  case atStart => exact ⟨0, [], Nat.zero_le _, rfl, rfl, HCOP.out⟩
  case round =>
    obtain ⟨k, gr, hk, rfl, hgl, hcp⟩ := hrel
    have HGL := Lib.hid hgl
    have HCP := Lib.hid hcp
    clear HCOP
    by_cases hlt : k < S
    · obtain ⟨p, q, hp, c1, hr, hp1, hp4⟩ := hcp.seen hgl (by have := HS.out; omega)
      have HCL := Lib.hid (clone_lines q.1 q.2 p.1.length p.1 wr rfl hp1 hp4 hr)
      have HPUT : Hid (∀ w' g2 cap2, RowAt w' g2 p.1 → wr.grownBy w' none → wr.heap.size ≤ g2 → (w'.frozen? ⟨g', k * 2, none⟩ = false ∧ (∃ u, w'.cell? ⟨g', k * 2, none⟩ = some u)) ∧ Cop w (w'.setCell ⟨g', k * 2, none⟩ (.slice (some ⟨g2, 0, none⟩) p.1.length cap2)) K c ss g' (gr ++ [(g2, cap2)])) := Lib.hid fun w' g2 cap2 h1 h2 h3 => by
        have := hcp.put (p := p) (cap' := cap2) (by rw [hgl]; exact hp) h2 h1 h3
        rw [hgl] at this
        exact ⟨⟨this.1, this.2.1⟩, this.2.2⟩
      generalize p.1.length = n at *
      clear hgl hcp hp hr
      go_wp2_with (first
        | (go_at_call 36; ((with_reducible refine HCL.out.mono ?_); rintro e w3 ⟨g2, cap2, rfl, h1, h2, h3⟩; have HP3 := Lib.hid (HPUT.out w3 g2 cap2 h1 h2 h3).2; obtain ⟨f0, u0, d0⟩ := (HPUT.out w3 g2 cap2 h1 h2 h3).1; clear h1 h2 h3)))
      go_roundw
      case rel => exact ⟨k + 1, _, by omega, by go_num, by rw [List.length_append, HGL.out]; rfl, HP3.out⟩
      case measure => simp [intOf]; omega
    · obtain rfl : k = S := by omega
      obtain ⟨c0, c1, c2, c3, c4, c5, c6, c7⟩ := hcp.cac.cfg
      have HD := Lib.hid (hcp.done (cap := cap') (hgl.trans HS.out))
      rw [← HS.out] at HD
      clear hgl hcp hlt hk
      unfold Cfg.cells at HD
      go_wp2_with fail
      go_ret
      refine ⟨_, rfl, HD.out, grown_alloc HCP.out.grown _, fun k' hk' => ?_⟩
      have h2 := HCP.out.grown.size
      have h3 := HCP.out.new
      rcases hk' with e1 | e1 | ⟨q, hq, rfl⟩
      · have e2 : k' = wr.heap.size := e1
        omega
      · have e2 : k' = g' := e1
        omega
      · obtain ⟨j, hj⟩ := List.getElem?_of_mem hq
        have hj' : gr[j]? = some q := hj
        obtain ⟨p, hp⟩ : ∃ p, ss[j]? = some p := ⟨_, List.getElem?_eq_getElem (by have := (List.getElem?_eq_some_iff.1 hj').1; have := HCP.out.le; omega)⟩
        have := (HCP.out.rows j p q hp hj').1
        omega
end Go.Proofs.YtjbapfjeildfoaaDoor.kk
