/-
  A slice of elements of one cell that lies somewhere in a block, a pool that lies in a block of its own, what an append makes of such a slice, and what a call on a pool leaves alone: definitions and laws. No condition but the bounds that each theorem names.
-/
import Derived.Below
import Derived.Deep.AppendSrc
import Derived.RangeFuncBox
import Derived.BigQuiet
import Derived.Maps.AppendAt
namespace Go.Proofs.YtfjjmlmkpdpdfaaDoor.pp
open Go Go.RowKit
set_option linter.unusedVariables false

/-- The slice v has the elements xs, of type e, each of one cell, and as many cells behind them as its capacity says. -/
def Sl (w : World) (e : TypeId) (v : Value) (xs : List Value) : Prop :=
  (v = .slice none 0 0 ∧ xs = []) ∨ ∃ g off cap cur, v = .slice (some ⟨g, off, none⟩) xs.length cap ∧ w.heap[g]? = some (.cells cur e (0, 0)) ∧ xs.length ≤ cap ∧ cap ≤ maxLen ∧ off + cap ≤ cur.size ∧ ∀ (k : Nat) x, xs[k]? = some x → cur[off + k]? = some x

theorem Sl.nil (w : World) (e : TypeId) : Sl w e (.slice none 0 0) [] := .inl ⟨rfl, rfl⟩
theorem Sl.of_block {w w' : World} {e : TypeId} {v : Value} {xs : List Value} (h : Sl w e v xs) (hk : ∀ g, v.ownBlock = some g → w'.heap[g]? = w.heap[g]?) : Sl w' e v xs := by
  rcases h with h | ⟨g, off, cap, cur, rfl, hg, h1, h2, h3, h4⟩
  · exact .inl h
  · exact .inr ⟨g, off, cap, cur, rfl, (hk g rfl).trans hg, h1, h2, h3, h4⟩
theorem Sl.lt {w : World} {e : TypeId} {v : Value} {xs : List Value} (h : Sl w e v xs) (g : Nat) (hg : v.ownBlock = some g) : g < w.heap.size := by
  rcases h with ⟨rfl, _⟩ | ⟨g', off, cap, cur, rfl, hb, _⟩
  · simp [Value.ownBlock] at hg
  · simp [Value.ownBlock] at hg; subst hg
    exact (Array.getElem?_eq_some_iff.1 hb).1
theorem Sl.form {w : World} {e : TypeId} {v : Value} {xs : List Value} (h : Sl w e v xs) : ∃ ad cap, v = .slice ad xs.length cap := by
  rcases h with ⟨rfl, rfl⟩ | ⟨g, off, cap, cur, rfl, _⟩
  · exact ⟨none, 0, rfl⟩
  · exact ⟨_, cap, rfl⟩
theorem Sl.form2 {w : World} {e : TypeId} {v : Value} {xs : List Value} (h : Sl w e v xs) : ∃ ad n cap, v = .slice ad n cap := by
  obtain ⟨ad, cap, h⟩ := h.form
  exact ⟨ad, _, cap, h⟩
theorem Sl.cell {w : World} {e : TypeId} {v : Value} {xs : List Value} (h : Sl w e v xs) (k : Nat) (x : Value) (hk : xs[k]? = some x) :
    ∃ g off cap, v = .slice (some ⟨g, off, none⟩) xs.length cap ∧ w.cell? ⟨g, off + k, none⟩ = some x := by
  rcases h with ⟨rfl, rfl⟩ | ⟨g, off, cap, cur, rfl, hb, h1, h2, h3, h4⟩
  · simp at hk
  · exact ⟨g, off, cap, rfl, by simp [World.cell?, hb, h4 k x hk]⟩

theorem Sl.cellAt {w : World} {e : TypeId} {ad : Option Addr} {n cap : Nat} {xs : List Value} (h : Sl w e (.slice ad n cap) xs) (k : Nat) (x : Value) (hk : xs[k]? = some x) :
    ∃ g off, ad = some ⟨g, off, none⟩ ∧ w.cell? ⟨g, off + k, none⟩ = some x := by
  obtain ⟨g, off, cap', hv, hc⟩ := h.cell k x hk
  cases hv
  exact ⟨g, off, rfl, hc⟩
theorem add_lit (g off j : Nat) : (⟨g, off, none⟩ : Addr).add j = ⟨g, off + j, none⟩ := by unfold Addr.add; split <;> simp_all

theorem heap_setCells (b : Nat) (e : TypeId) : ∀ (vs : List Value) (o : Nat) (w : World) (cur : Array Value), w.heap[b]? = some (.cells cur e (0, 0)) → o + vs.length ≤ cur.size →
    ∃ cur', (w.setCells b o vs).heap[b]? = some (.cells cur' e (0, 0)) ∧ cur'.size = cur.size ∧ (∀ j, (j < o ∨ o + vs.length ≤ j) → cur'[j]? = cur[j]?) ∧ (∀ j u, vs[j]? = some u → cur'[o + j]? = some u)
  | [], o, w, cur, h, hs => ⟨cur, h, rfl, fun _ _ => rfl, fun j u hu => by simp at hu⟩
  | v :: r, o, w, cur, h, hs => by
    have h' : (w.setCell ⟨b, o, none⟩ v).heap[b]? = some (.cells (cur.set! o v) e (0, 0)) := by
      obtain ⟨hlt, hk⟩ := Array.getElem?_eq_some_iff.1 h
      show (w.heap.modify b _)[b]? = _
      rw [Array.getElem?_eq_getElem (by rw [Array.size_modify]; exact hlt), Array.getElem_modify_self, hk]
      simp [Array.set!_eq_setIfInBounds]
    obtain ⟨cur', g1, g2, g3, g4⟩ := heap_setCells b e r (o + 1) _ _ h' (by simp at hs ⊢; omega)
    refine ⟨cur', g1, by rw [g2]; simp, fun j hj => ?_, fun j u hu => ?_⟩
    · rw [g3 j (by simp at hj ⊢; omega), Array.set!_eq_setIfInBounds, Array.getElem?_setIfInBounds, if_neg (by simp at hj; omega)]
    · cases j with
      | zero =>
        simp at hu; subst hu
        rw [Nat.add_zero, g3 o (by omega), Array.set!_eq_setIfInBounds, Array.getElem?_setIfInBounds, if_pos rfl, if_pos (by simp at hs; omega)]
      | succ j =>
        have := g4 j u (by simpa using hu)
        rw [show o + (j + 1) = o + 1 + j by omega]; exact this
theorem heap_setCells_other (b : Nat) (k : Nat) (hk : k ≠ b) : ∀ (vs : List Value) (o : Nat) (w : World), (w.setCells b o vs).heap[k]? = w.heap[k]?
  | [], _, _ => rfl
  | v :: r, o, w => by
    rw [World.setCells, heap_setCells_other b k hk r (o + 1)]
    exact Below.heap_setCell _ _ _ _ (by simpa using hk)
theorem setCells_rest (b : Nat) : ∀ (vs : List Value) (o : Nat) (w : World), (w.setCells b o vs).os = w.os ∧ (w.setCells b o vs).tape = w.tape ∧ (w.setCells b o vs).output = w.output ∧ (w.setCells b o vs).heap.size = w.heap.size
  | [], _, _ => ⟨rfl, rfl, rfl, rfl⟩
  | v :: r, o, w => by
    obtain ⟨h1, h2, h3, h4⟩ := setCells_rest b r (o + 1) (w.setCell ⟨b, o, none⟩ v)
    exact ⟨h1, h2, h3, by rw [World.setCells, h4]; simp [World.setCell]⟩

/-- What the next value of a slice lives in: the block it lived in, or a new one. -/
def Next (w w' : World) (v v' : Value) : Prop := v'.ownBlock = v.ownBlock ∨ ∀ k, v'.ownBlock = some k → w.heap.size ≤ k
theorem Next.refl (w w' : World) (v : Value) : Next w w' v v := .inl rfl
theorem Next.ne {w w' : World} {v v' : Value} (h : Next w w' v v') {k : Nat} (hk : k < w.heap.size) (hne : some k ≠ v.ownBlock) : some k ≠ v'.ownBlock := by
  rcases h with h | h
  · rw [h]; exact hne
  · intro e; have := h k e.symm; omega

section
variable {P : Program} (w : World)

/-- append, whatever is appended. -/
theorem run_append_sl (t tx ty e : TypeId) (i : TypeInfo) (z : Value) (bytes : Nat) (ht : P.underlying t = some (.slice e)) (hi : P.info? e = some i) (hz : i.zero = some z) (hsize : i.size = 1) (hby : i.bytes = bytes) (hzs : z.cells.size = 1)
    (v : Value) (xs : List Value) (hsl : Sl w e v xs) (x : Value) (n : Nat) (news : List Value) (hs : Src P 1 tx x n news w) (h63 : xs.length + n ≤ maxLen) (hbytes : (xs.length + n) * bytes ≤ 140737488355328) :
    ∃ v' w', (Builtin.append_ #[t, tx] ty #[v, x]).run P w = .ok v' w' ∧ Sl w' e v' (xs ++ news) ∧ w.grownBy w' v.ownBlock ∧ Next w w' v v' := by
  subst hby
  have hnl : news.length = n := by rw [hs.newsLen, Nat.mul_one]
  have hs' : Src P i.size tx x n news w := by rw [hsize]; exact hs
  have hsmall : xs.length + n ≤ 9223372036854775807 := by simp only [maxLen] at h63; omega
  have grow : ∀ (base : Option Addr) (cap : Nat), v = .slice base xs.length cap → (Builtin.firstCells i.size xs.length v).run P w.drew = .ok xs.toArray w.drew → cap < xs.length + n →
      ∃ v' w', (Builtin.append_ #[t, tx] ty #[v, x]).run P w = .ok v' w' ∧ Sl w' e v' (xs ++ news) ∧ w.grownBy w' v.ownBlock ∧ Next w w' v v' := by
    intro base cap hv hold hg
    subst hv
    have hr := run_append_grow_src (P := P) w t tx ty e i z ht hi hz base xs.length cap xs hold x n news hs' hg (by omega) (growslice_fits hg hbytes)
    have hge := grownCap_ge w (xs.length + n) cap e
    have hcm := grownCap_le_maxLen w (xs.length + n) cap e h63
    refine ⟨_, _, hr, .inr ⟨w.heap.size, 0, _, _, by rw [List.length_append, hnl], heap_alloc_new w.drew _, by rw [List.length_append, hnl]; exact hge, hcm, ?_, fun k u hu => ?_⟩, ⟨rfl, rfl, rfl, by simp, fun k hk _ => Below.heap_alloc w.drew _ k hk⟩, .inr fun k hk => ?_⟩
    · simp only [Array.size_append, List.size_toArray, List.length_append, size_zeroCells, hzs, hnl]; omega
    · obtain ⟨hlt, hu'⟩ := List.getElem?_eq_some_iff.1 hu
      rw [Array.getElem?_append_left (by simpa using hlt)]
      simpa using hu
    · simp [Value.ownBlock] at hk; omega
  rcases hsl with ⟨rfl, rfl⟩ | ⟨g, off, cap, cur, rfl, hb, h1, h2, h3, h4⟩
  · by_cases hn : n = 0
    · subst hn
      obtain rfl : news = [] := List.eq_nil_of_length_eq_zero hnl
      refine ⟨.slice none 0 0, w, ?_, Sl.nil w e, ⟨rfl, rfl, rfl, Nat.le_refl _, fun _ _ _ => rfl⟩, .inl rfl⟩
      have hc := hs'.cells
      rcases hs'.kind with ⟨e', hk⟩ | hk <;> simp [Builtin.append_, run_underlying ht, run_underlying hk, sizeOf, typeInfo, hi, hs'.len, hc]
    · exact grow none 0 rfl (run_firstCells_none w.drew i.size 0 0 0) (by simp; omega)
  · by_cases hroom : xs.length + n ≤ cap
    · have hfit : off + xs.length + news.length ≤ cur.size := by omega
      have hr := run_append_room_src (P := P) w t tx ty e i ht hi g off xs.length cap x n news hs' hroom
        (fun j hj => by rw [hsize, Nat.mul_one]; simp [World.cell?, hb]; omega) (fun j hj => by simp [World.frozen?, hb])
      rw [hsize, Nat.mul_one] at hr
      obtain ⟨cur', g1, g2, g3, g4⟩ := heap_setCells g e news (off + xs.length) w cur hb hfit
      obtain ⟨r1, r2, r3, r4⟩ := setCells_rest g news (off + xs.length) w
      refine ⟨_, _, hr, .inr ⟨g, off, cap, cur', by rw [List.length_append, hnl], g1, by rw [List.length_append, hnl]; exact hroom, h2, by omega, fun k u hu => ?_⟩, ⟨r1, r2, r3, by omega, fun k _ hk => heap_setCells_other g k (fun e => hk (by simp [Value.ownBlock, e])) _ _ _⟩, .inl rfl⟩
      rw [List.getElem?_append] at hu
      split at hu
      · rename_i hlt
        rw [g3 _ (by omega)]; exact h4 k u hu
      · rename_i hge
        have := g4 (k - xs.length) u hu
        rw [show off + k = off + xs.length + (k - xs.length) by omega]; exact this
    · refine grow _ cap rfl ?_ (by omega)
      refine run_firstCells_some w.drew i.size xs.length ⟨g, off, none⟩ xs.length cap xs (by rw [hsize, Nat.mul_one]) fun j u hu => ?_
      rw [add_lit, World.cell?_drew]
      simp [World.cell?, hb, h4 j u hu]
end

/-- A slice as what is appended. -/
theorem Sl.src {P : Program} {w : World} {e : TypeId} {v : Value} {xs : List Value} (h : Sl w e v xs) {tx e' : TypeId} (hk : P.underlying tx = some (.slice e')) (h1 : ∀ u ∈ xs, u.oneCell' = true) : Src P 1 tx v xs.length xs w := by
  rcases h with ⟨rfl, rfl⟩ | ⟨g, off, cap, cur, rfl, hb, _, _, _, h4⟩
  · exact Src.ofNil w hk 0
  · refine Src.ofSlice w hk ⟨g, off, none⟩ xs.length cap xs (by rw [Nat.mul_one]) (fun j u hu => ?_) h1
    rw [add_lit]; simp [World.cell?, hb, h4 j u hu]

theorem wpList_append_sl {P : Program} {w : World} {ops : Array Oper} {rest : List Oper} {o : Oper} {a : Act} {Q : Exit → Act → World → Prop} (hgd : o.guard = none) (s x : Operand) (t tx : TypeId)
    (ho : o.op = .call { callee := .builtin .append, args := #[s, x], argTypes := #[t, tx] }) (e : TypeId) (i : TypeInfo) (z : Value) (bytes : Nat) (ht : P.underlying t = some (.slice e)) (hi : P.info? e = some i) (hz : i.zero = some z) (hsize : i.size = 1) (hby : i.bytes = bytes) (hzs : z.cells.size = 1)
    (v : Value) (xs : List Value) (hsv : a.eval s = v) (hsl : Sl w e v xs) (n : Nat) (news : List Value) (hs : Src P 1 tx (a.eval x) n news w) (h63 : xs.length + n ≤ maxLen) (hbytes : (xs.length + n) * bytes ≤ 140737488355328)
    (h : ∀ v' w', Sl w' e v' (xs ++ news) → w.grownBy w' v.ownBlock → Next w w' v v' → wpList P ops Q rest (a.put o.dst v') w') : wpList P ops Q (o :: rest) a w :=
  wpList_plain hgd fun K hK => by
    obtain ⟨v', w', hr, r1, r2, r3⟩ := run_append_sl (P := P) w t tx o.type e i z bytes ht hi hz hsize hby hzs v xs hsl (a.eval x) n news hs h63 hbytes
    unfold Oper.wp execOp
    simp only [ho, resolve, invoke, builtin, Sem.run_bind, Sem.run_pure, Result.andThen_ok, List.map_toArray, List.map_cons, List.map_nil, hsv, hr]
    exact hK _ _ (h v' w' r1 r2 r3)

theorem step_append_sl {P : Program} {w : World} {ops : Array Oper} {o : Oper} {a : Act} {K : Act → World → Prop} {Q : Exit → Act → World → Prop} {E : Prop} (hgd : o.guard = none) (s x : Operand) (t tx : TypeId)
    (ho : o.op = .call { callee := .builtin .append, args := #[s, x], argTypes := #[t, tx] }) (e : TypeId) (i : TypeInfo) (z : Value) (bytes : Nat) (ht : P.underlying t = some (.slice e)) (hi : P.info? e = some i) (hz : i.zero = some z) (hsize : i.size = 1) (hby : i.bytes = bytes) (hzs : z.cells.size = 1)
    (v : Value) (xs : List Value) (hsv : a.eval s = v) (hsl : Sl w e v xs) (n : Nat) (news : List Value) (hs : Src P 1 tx (a.eval x) n news w) (h63 : xs.length + n ≤ maxLen) (hbytes : (xs.length + n) * bytes ≤ 140737488355328)
    (h : ∀ v' w', Sl w' e v' (xs ++ news) → w.grownBy w' v.ownBlock → Next w w' v v' → K (a.put o.dst v') w') : if Region.wanted o (yielded ops a.tmps) = true then Oper.wp P o a w K Q else E := by
  have hw : Region.wanted o (yielded ops a.tmps) = true := by simp [Region.wanted, hgd]
  rw [if_pos hw]
  obtain ⟨v', w', hr, r1, r2, r3⟩ := run_append_sl (P := P) w t tx o.type e i z bytes ht hi hz hsize hby hzs v xs hsl (a.eval x) n news hs h63 hbytes
  unfold Oper.wp execOp
  simp only [ho, resolve, invoke, builtin, Sem.run_bind, Sem.run_pure, Result.andThen_ok, List.map_toArray, List.map_cons, List.map_nil, hsv, hr]
  exact h v' w' r1 r2 r3

theorem src_one {P : Program} {t : TypeId} (W : World) (x : Value) (o : TypeId) {e' : TypeId} (hk : P.underlying t = some (.slice e')) (h1 : x.oneCell' = true) : Src P 1 t (.slice (some ⟨W.heap.size, 0, none⟩) 1 1) 1 [x] (W.alloc (.cells #[x] o)) :=
  Src.ofSlice _ hk ⟨W.heap.size, 0, none⟩ 1 1 [x] rfl (fun j u hj => by
    cases j with
    | zero => simp at hj; subst hj; simp [add_lit]
    | succ j => simp at hj) (by simp [h1])

/-- The slice of things from place i on. -/
theorem tail_src {P : Program} {t e e' : TypeId} {w : World} {g off cap : Nat} {xs : List Value} (hsl : Sl w e (.slice (some ⟨g, off, none⟩) xs.length cap) xs) (i : Nat) (hi : i ≤ xs.length) (hk : P.underlying t = some (.slice e')) (h1 : ∀ u ∈ xs, u.oneCell' = true) :
    ∃ A, (if cap = i then (some ⟨g, off, none⟩ : Option Addr) else some ⟨g, off + i, none⟩) = some A ∧ Src P 1 t (.slice (some A) (xs.length - i) (cap - i)) (xs.length - i) (xs.drop i) w ∧ Sl w e (.slice (some A) (xs.length - i) (cap - i)) (xs.drop i) ∧ A.block = g := by
  rcases hsl with ⟨h, _⟩ | ⟨g', off', cap', cur, h, hb, h2, h3, h4, h5⟩
  · cases h
  · cases h
    by_cases hc : cap = i
    · rw [if_pos hc]
      have h0 : xs.drop i = [] := List.drop_of_length_le (by omega)
      have h00 : xs.length - i = 0 := by omega
      rw [h0, h00]
      refine ⟨_, rfl, Src.ofSlice w hk _ 0 _ [] rfl (fun j u hu => by simp at hu) (by simp), .inr ⟨g, off, _, cur, rfl, hb, by simp, by omega, by omega, fun k u hu => by simp at hu⟩, rfl⟩
    · rw [if_neg hc]
      have hd : (xs.drop i).length = xs.length - i := List.length_drop
      have hcell : ∀ (k : Nat) u, (xs.drop i)[k]? = some u → cur[off + i + k]? = some u := fun k u hu => by
        rw [List.getElem?_drop] at hu
        rw [Nat.add_assoc]; exact h5 _ _ hu
      refine ⟨_, rfl, Src.ofSlice w hk _ _ _ _ (by rw [hd, Nat.mul_one]) (fun j u hu => ?_) (fun u hu => h1 u (List.mem_of_mem_drop hu)), .inr ⟨g, off + i, _, cur, by rw [hd], hb, by rw [hd]; omega, by omega, by omega, hcell⟩, rfl⟩
      rw [add_lit]; simp [World.cell?, hb, hcell j u hu]
/-- The slice of the things ahead of place i, without room behind it. -/
theorem head_sl {w : World} {e : TypeId} {g off cap : Nat} {xs : List Value} (hsl : Sl w e (.slice (some ⟨g, off, none⟩) xs.length cap) xs) (i : Nat) (hi : i ≤ xs.length) : Sl w e (.slice (some ⟨g, off, none⟩) i i) (xs.take i) := by
  rcases hsl with ⟨h, _⟩ | ⟨g', off', cap', cur, h, hb, h2, h3, h4, h5⟩
  · cases h
  · cases h
    have hd : (xs.take i).length = i := by rw [List.length_take]; omega
    refine .inr ⟨g, off, i, cur, by rw [hd], hb, by omega, by omega, by omega, fun k u hu => ?_⟩
    rw [List.getElem?_take] at hu
    split at hu
    · exact h5 k u hu
    · cases hu

end Go.Proofs.YtfjjmlmkpdpdfaaDoor.pp
