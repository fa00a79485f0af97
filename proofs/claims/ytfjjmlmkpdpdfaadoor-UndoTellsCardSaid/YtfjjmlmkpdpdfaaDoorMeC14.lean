/-
  What the document's own memory answers, and what it is behind each call: contracts. No condition but the bounds that each theorem names.
-/
import Derived.Test.YtfjjmlmkpdpdfaaDoorMeC8
import Derived.Test.YtfjjmlmkpdpdfaaDoorMeC5
namespace Go.Proofs.YtfjjmlmkpdpdfaaDoor.pp
open Go Go.ChangeShapes Go.WideShapes Go.ChangeAt Go.RowKit
set_option linter.unusedVariables false

theorem inn_iff (n : Nat) (i k : Int) : inn n i k = true ↔ 0 ≤ i ∧ i < n ∧ 0 ≤ k ∧ k < 16 := by simp [inn]
def Len16 (bs : List (List Int)) : Prop := ∀ x ∈ bs, x.length = 16
theorem flat_len : ∀ (bs : List (List Int)), Len16 bs → bs.flatten.length = 16 * bs.length
  | [], _ => rfl
  | y :: r, h => by
    rw [List.flatten_cons, List.length_append, flat_len r (fun x hx => h x (List.mem_cons_of_mem _ hx)), h y (List.mem_cons_self ..), List.length_cons]; omega
theorem flat_get : ∀ (bs : List (List Int)), Len16 bs → ∀ (i k : Nat) (x : List Int), bs[i]? = some x → k < 16 → bs.flatten[16 * i + k]? = x[k]?
  | [], _, i, k, x, hx, _ => by simp at hx
  | y :: r, h, 0, k, x, hx, hk => by
    have hy : y.length = 16 := h y (List.mem_cons_self ..)
    simp at hx; subst hx
    rw [List.flatten_cons, List.getElem?_append_left (by omega)]; simp
  | y :: r, h, i + 1, k, x, hx, hk => by
    have hy : y.length = 16 := h y (List.mem_cons_self ..)
    have ih := flat_get r (fun x hx => h x (List.mem_cons_of_mem _ hx)) i k x (by simpa using hx) hk
    rw [List.flatten_cons, List.getElem?_append_right (by omega), hy, show 16 * (i + 1) + k - 16 = 16 * i + k by omega]; exact ih
theorem flat_set : ∀ (bs : List (List Int)), Len16 bs → ∀ (i k : Nat) (x : List Int) (u : Int), bs[i]? = some x → k < 16 → bs.flatten.set (16 * i + k) u = (bs.set i (x.set k u)).flatten
  | [], _, i, k, x, _, hx, _ => by simp at hx
  | y :: r, h, 0, k, x, u, hx, hk => by
    have hy : y.length = 16 := h y (List.mem_cons_self ..)
    simp at hx; subst hx
    rw [List.flatten_cons, List.set_append_left _ _ (by omega), List.set_cons_zero, List.flatten_cons]; simp
  | y :: r, h, i + 1, k, x, u, hx, hk => by
    have hy : y.length = 16 := h y (List.mem_cons_self ..)
    have ih := flat_set r (fun x hx => h x (List.mem_cons_of_mem _ hx)) i k x u (by simpa using hx) hk
    rw [List.flatten_cons, List.set_append_right _ _ (by omega), hy, show 16 * (i + 1) + k - 16 = 16 * i + k by omega, ih, List.set_cons_succ, List.flatten_cons]

theorem Len16.set {bs : List (List Int)} (h : Len16 bs) (i : Nat) (x : List Int) (hx : x.length = 16) : Len16 (bs.set i x) := fun y hy => by
  rcases List.mem_or_eq_of_mem_set hy with hy | rfl
  · exact h y hy
  · exact hx

/-- The document's memory in block b, whose slice is v. -/
structure RMem (w : World) (b : Nat) (v : Value) (bs : List (List Int)) : Prop where
  blk : w.heap[b]? = some (.cells #[v] 86 (0, 0))
  sl : Sl w 34 v (bs.flatten.map U)
  len : Len16 bs
  few : bs.length ≤ 256
theorem RMem.lt {w : World} {b : Nat} {v : Value} {bs : List (List Int)} (h : RMem w b v bs) : b < w.heap.size := (Array.getElem?_eq_some_iff.1 h.blk).1
theorem RMem.cell0 {w : World} {b : Nat} {v : Value} {bs : List (List Int)} (h : RMem w b v bs) : w.cell? ⟨b, 0, none⟩ = some v := by simp [World.cell?, h.blk]
theorem RMem.form {w : World} {b : Nat} {v : Value} {bs : List (List Int)} (h : RMem w b v bs) : ∃ ad cap, v = .slice ad (16 * bs.length) cap := by
  obtain ⟨ad, cap, h3⟩ := h.sl.form
  exact ⟨ad, cap, by rw [h3, List.length_map, flat_len _ h.len]⟩
theorem RMem.bl {w : World} {b : Nat} {v : Value} {bs : List (List Int)} (h : RMem w b v bs) (k : Nat) (hk : v.ownBlock = some k) : ∃ c, w.heap[k]? = some (.cells c 34 (0, 0)) := by
  rcases h.sl with ⟨rfl, _⟩ | ⟨g, off, cap, cur, rfl, hg, _⟩
  · simp [Value.ownBlock] at hk
  · simp [Value.ownBlock] at hk; subst hk; exact ⟨cur, hg⟩
theorem RMem.grown {w w' : World} {b : Nat} {v : Value} {bs : List (List Int)} (h : RMem w b v bs) {own : Option Nat} (hg : w.grownBy w' own) (hk : ∀ k, own = some k → ∃ c t f, w.heap[k]? = some (.cells c t f) ∧ t ≠ 86 ∧ t ≠ 34) : RMem w' b v bs := by
  refine ⟨(hg.block b h.lt fun e => ?_).trans h.blk, h.sl.of_block fun g hgk => hg.block g (h.sl.lt g hgk) fun e => ?_, h.len, h.few⟩
  · obtain ⟨c, t, f, hc, ht, _⟩ := hk b e.symm
    exact tyne hc h.blk ht rfl
  · obtain ⟨c, t, f, hc, _, ht⟩ := hk g e.symm
    obtain ⟨c2, hc2⟩ := h.bl g hgk
    exact tyne hc hc2 ht rfl
theorem RMem.kept {w w' : World} {b : Nat} {v : Value} {bs : List (List Int)} (h : RMem w b v bs) (hg : w.grownBy w' none) : RMem w' b v bs := h.grown hg fun k e => by cases e
/-- A word of it. -/
theorem RMem.at {w : World} {b : Nat} {v : Value} {bs : List (List Int)} (h : RMem w b v bs) {i k : Nat} {x : List Int} {y : Int} (hx : bs[i]? = some x) (hy : x[k]? = some y) :
    ∃ g off cap, v = .slice (some ⟨g, off, none⟩) (16 * bs.length) cap ∧ w.cell? ⟨g, off + (16 * i + k), none⟩ = some (.int .u32 y) ∧ w.frozen? ⟨g, off + (16 * i + k), none⟩ = false := by
  have hk : k < 16 := by rw [← h.len x (List.mem_of_getElem? hx)]; exact (List.getElem?_eq_some_iff.1 hy).1
  have hf : (bs.flatten.map U)[16 * i + k]? = some (.int .u32 y) := by rw [List.getElem?_map, flat_get bs h.len i k x hx hk, hy]; rfl
  rcases h.sl with ⟨_, h0⟩ | ⟨g, off, cap, cur, rfl, hb, h1, h2, h3, h4⟩
  · rw [h0] at hf; simp at hf
  · refine ⟨g, off, cap, by rw [List.length_map, flat_len _ h.len], ?_, frozen_of_row _ _ _ _ _ hb⟩
    rw [cell_of_row _ _ _ _ _ _ hb]; exact h4 _ _ hf
/-- A word was stored. -/
theorem RMem.put {w : World} {b : Nat} {g off cap n : Nat} {bs : List (List Int)} (h : RMem w b (.slice (some ⟨g, off, none⟩) n cap) bs) {i k : Nat} {x : List Int} (y : Int) (hx : bs[i]? = some x) (hk : k < 16) :
    RMem (w.setCell ⟨g, off + (16 * i + k), none⟩ (.int .u32 y)) b (.slice (some ⟨g, off, none⟩) n cap) (bs.set i (x.set k y)) ∧ w.grownBy (w.setCell ⟨g, off + (16 * i + k), none⟩ (.int .u32 y)) (some g) := by
  have hx16 := h.len x (List.mem_of_getElem? hx)
  have hi : i < bs.length := (List.getElem?_eq_some_iff.1 hx).1
  rcases h.sl with ⟨hv, _⟩ | ⟨g', off', cap', cur, hv, hb, h1, h2, h3, h4⟩
  · cases hv
  cases hv
  have hoth : ∀ k', k' ≠ g → (w.setCell ⟨g, off + (16 * i + k), none⟩ (.int .u32 y)).heap[k']? = w.heap[k']? := fun k' hk' => heap_setCell_other _ _ _ _ hk'
  have hl := flat_len bs h.len
  simp only [List.length_map] at h1
  refine ⟨⟨(hoth b (tyne h.blk hb (by decide))).trans h.blk, .inr ⟨g, off, cap, _, ?_, heap_setCell_same _ _ _ _ _ _ hb, ?_, h2, by simp; omega, fun j u hu => ?_⟩, h.len.set i _ (by simp [hx16]), by simpa using h.few⟩, ⟨rfl, rfl, rfl, by simp [World.setCell], fun k' _ hn => hoth k' (fun e => hn (by rw [e]))⟩⟩
  · rw [← flat_set bs h.len i k x y hx hk, List.length_map, List.length_map, List.length_set]
  · rw [← flat_set bs h.len i k x y hx hk, List.length_map, List.length_set]; exact h1
  · rw [← flat_set bs h.len i k x y hx hk, List.map_set] at hu
    rw [Array.getElem?_setIfInBounds]
    by_cases hj : 16 * i + k = j
    · subst hj
      rw [if_pos rfl, if_pos (by omega)]
      rw [List.getElem?_set_self (by rw [List.length_map]; omega)] at hu
      exact hu
    · rw [if_neg (by omega)]
      rw [List.getElem?_set_ne hj] at hu
      exact h4 j u hu

theorem place_any (b : Nat) (v : Value) (bs : List (List Int)) (i k : Int) (w : World) (hR : RMem w b v bs) : Calls Tryd.prog 40 #[.pointer (some ⟨b, 0, none⟩), .int .i64 i, .int .i64 k] w fun e w' => e = .returned (.int .i64 (if inn bs.length i k then 16 * i + k else -1)) ∧ w = w' := by
  obtain ⟨ad, cap, rfl⟩ := hR.form
  have hc := hR.cell0
  have hn := hR.few
  clear hR
  obtain ⟨n, hn'⟩ : ∃ n, n = bs.length := ⟨_, rfl⟩
  rw [← hn'] at hc hn ⊢
  clear hn'
  have hdiv : ((16 * n : Nat) : Int) / 16 = (n : Int) := by omega
  obtain ⟨m, hm⟩ : ∃ m, m = 16 * n := ⟨_, rfl⟩
  rw [← hm] at hc hdiv
  have hm2 : m ≤ 4096 := by omega
  clear hm
  by_cases hin : inn n i k = true
  · obtain ⟨h1, h2, h3, h4⟩ := (inn_iff _ _ _).1 hin
    have h5 : ¬ 15 < k := by omega
    rw [hin, if_pos rfl]
    clear hin
    go_enter Tryd.func40, Tryd.ntmps40
    go_wp2
    go_ret
    exact ⟨rfl, rfl⟩
  · have hnot : ¬ (0 ≤ i ∧ i < n ∧ 0 ≤ k ∧ k < 16) := fun h => hin ((inn_iff _ _ _).2 h)
    rw [if_neg hin]
    clear hin
    by_cases h1 : 0 ≤ i
    · by_cases h2 : i < n
      · by_cases h3 : 0 ≤ k
        · have h4 : 15 < k := by omega
          clear hnot
          go_enter Tryd.func40, Tryd.ntmps40
          go_wp2
          go_ret
          exact ⟨rfl, rfl⟩
        · clear hnot
          go_enter Tryd.func40, Tryd.ntmps40
          go_wp2
          go_ret
          exact ⟨rfl, rfl⟩
      · clear hnot
        go_enter Tryd.func40, Tryd.ntmps40
        go_wp2
        go_ret
        exact ⟨rfl, rfl⟩
    · clear hnot
      go_enter Tryd.func40, Tryd.ntmps40
      go_wp2
      go_ret
      exact ⟨rfl, rfl⟩

end Go.Proofs.YtfjjmlmkpdpdfaaDoor.pp
