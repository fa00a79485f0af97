/-
  That a list of ints does not contain a number, an append inside a fence, and plain facts on rising lists: contracts and lemmas. No condition but what each theorem names.
-/
import Derived.Test.YtkamafkajfajpaaC10
namespace Go.Proofs.Ytkamafkajfajpaa.pp
open Go Go.RowKit Go.Shelf
set_option linter.unusedVariables false

set_option maxHeartbeats 1000000 in
theorem index_not (ts : List Int) (v : Value) (x : Int) (w : World) (hs : Sl w 3 v (ts.map I)) (hl : ts.length ≤ 65536) (hx : x ∉ ts) :
    Calls Try.prog 35 #[v, .int .i64 x] w fun e w' => e = .returned (.int .i64 (-1)) ∧ w = w' := by
  obtain ⟨ad, cap, hv⟩ := hs.form
  rw [List.length_map] at hv
  obtain ⟨q, hq⟩ : ∃ q, q = ts.length := ⟨_, rfl⟩
  rw [← hq] at hv hl
  have HQ := Lib.hid hq
  have HS := Lib.hid hs
  have HX := Lib.hid hx
  clear hq hs hx
  subst hv
  go_enter Try.func35, Try.ntmps35
  go_wp2_with fail
  go_loop [8] (fun i => ∃ k : Nat, k ≤ q ∧ i = .int .i64 (k : Int)) (fun i => q - (intOf i).toNat)
  case atStart => exact ⟨0, Nat.zero_le _, rfl⟩
  case round =>
    obtain ⟨k, hk, rfl⟩ := hrel
    by_cases hlt : k < q
    · obtain ⟨y, hy⟩ : ∃ y, ts[k]? = some y := ⟨_, List.getElem?_eq_getElem (by have := HQ.out; omega)⟩
      obtain ⟨g, off, rfl, hcell⟩ := HS.out.cellAt k (I y) (by simp [hy])
      have hne : (x == y) = false := by
        have : y ∈ ts := List.mem_of_getElem? hy
        simp; intro e; exact HX.out (e ▸ this)
      unfold I at hcell
      clear hy
      go_wp2_with fail
      go_round
      case rel => exact ⟨k + 1, by omega, by go_num⟩
      case measure => simp [intOf]; omega
    · have hkn : k = q := by omega
      subst hkn
      go_wp2_with fail
      go_ret
      exact ⟨rfl, rfl⟩
theorem contains_not (ts : List Int) (v : Value) (x : Int) (w : World) (hs : Sl w 3 v (ts.map I)) (hl : ts.length ≤ 65536) (hx : x ∉ ts) :
    Calls Try.prog 26 #[v, .int .i64 x] w fun e w' => e = .returned (.bool false) ∧ w = w' := by
  have HI := Lib.hid (index_not ts v x w hs hl hx)
  clear hs hx
  go_enter Try.func26, Try.ntmps26
  go_wp2_with (go_at_call 35; ((with_reducible refine HI.out.mono ?_); rintro e w' ⟨rfl, rfl⟩))
  go_ret
  exact ⟨rfl, rfl⟩

theorem wpListIn_append_sl {F : Fence} {n : Nat} {P : Program} {w : World} {ops : Array Oper} {rest : List Oper} {o : Oper} {a : Act} {Q : Exit → Act → World → Prop} (hgd : o.guard = none) (s x : Operand) (t tx : TypeId)
    (ho : o.op = .call { callee := .builtin .append, args := #[s, x], argTypes := #[t, tx] }) (e : TypeId) (i : TypeInfo) (z : Value) (bytes : Nat) (ht : P.underlying t = some (.slice e)) (hi : P.info? e = some i) (hz : i.zero = some z) (hsize : i.size = 1) (hby : i.bytes = bytes) (hzs : z.cells.size = 1)
    (v : Value) (xs : List Value) (hsv : a.eval s = v) (hsl : Sl w e v xs) (m : Nat) (news : List Value) (hs : Src P 1 tx (a.eval x) m news w) (h63 : xs.length + m ≤ maxLen) (hbytes : (xs.length + m) * bytes ≤ 140737488355328)
    (h : ∀ v' w', Sl w' e v' (xs ++ news) → w.grownBy w' v.ownBlock → Next w w' v v' → wpListIn F n P ops Q rest (a.put o.dst v') w') : wpListIn F n P ops Q (o :: rest) a w := by
  refine wpListIn_plain hgd fun K hK' => ?_
  obtain ⟨v', w', hrun, r1, r2, r3⟩ := run_append_sl (P := P) w t tx o.type e i z bytes ht hi hz hsize hby hzs v xs hsl (a.eval x) m news hs h63 hbytes
  unfold Oper.wpIn
  refine ⟨?_, ?_⟩
  · simp [Oper.about, ho, resolve, Target.leads, Sem.run_pure]
  · rw [Oper.semAt_plain F _ _ (by rw [ho]; intro c hc'; cases hc')]
    simp [execOp, ho, resolve, invoke, builtin, hsv, hrun, Result.andThen]
    exact hK' _ _ (h v' w' r1 r2 r3)

/-- What is put is there, each thing once; what was taken is there no more. -/
structure Apart (n : Nat) (xs ts : List Int) : Prop where
  up : xs.Pairwise (· < ·)
  no : ∀ t ∈ ts, t ∉ xs
  count : xs.length + ts.length = n
  pos : ∀ x ∈ xs, 0 ≤ x

theorem sq_up (a n : Nat) : (sq a n).Pairwise (· < ·) := by
  unfold sq
  rw [List.pairwise_map]
  exact (List.pairwise_lt_range).imp fun h => by omega
theorem Apart.start (n : Nat) : Apart n (sq 0 n) [] := ⟨sq_up 0 n, fun t h => by simp at h, by simp [sq_len], fun x hx => by
  unfold sq at hx
  obtain ⟨j, _, rfl⟩ := List.mem_map.1 hx
  omega⟩
theorem Apart.take {n : Nat} {xs ts : List Int} (h : Apart n xs ts) {k : Nat} {x : Int} (hx : xs[k]? = some x) : Apart n (xs.eraseIdx k) (ts ++ [x]) ∧ x ∉ ts := by
  obtain ⟨hk, e⟩ := List.getElem?_eq_some_iff.1 hx
  have hsub := List.eraseIdx_sublist xs k
  have hmem : x ∈ xs := List.mem_of_getElem? hx
  refine ⟨⟨h.up.sublist hsub, fun t ht hin => ?_, ?_, fun y hy => h.pos y (hsub.subset hy)⟩, fun ht => h.no x ht hmem⟩
  · rcases List.mem_append.1 ht with ht | ht
    · exact h.no t ht (hsub.subset hin)
    · simp at ht; subst ht
      rw [List.eraseIdx_eq_take_drop_succ, List.mem_append] at hin
      have hp := h.up
      rw [List.pairwise_iff_getElem] at hp
      rcases hin with hin | hin
      · obtain ⟨i, hi, e2⟩ := List.mem_take_iff_getElem.1 hin
        have := hp i k (by omega) hk (by omega)
        rw [e2, e] at this; omega
      · obtain ⟨i, hi, e2⟩ := List.mem_drop_iff_getElem.1 hin
        have := hp k (k + 1 + i) hk (by omega) (by omega)
        rw [e2, e] at this; omega
  · rw [List.length_append, List.length_eraseIdx, if_pos hk]
    have := h.count
    simp; omega
end Go.Proofs.Ytkamafkajfajpaa.pp
