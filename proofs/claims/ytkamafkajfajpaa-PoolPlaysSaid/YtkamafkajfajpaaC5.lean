/-
  The first place of a thing that is asked for: contracts. No condition but the bounds that each theorem names.
-/
import Derived.Test.YtkamafkajfajpaaC4
import Derived.RangeFuncCalls
namespace Go.Proofs.Ytkamafkajfajpaa.pp
open Go Go.RowKit Go.Shelf
set_option linter.unusedVariables false
attribute [local go_sem] Oper.semAt_some

/-- The first place from k on whose thing is X; -1, if there is none. -/
def ff (xs : List Int) (X : Int) (k : Nat) : Int := match (xs.drop k).findIdx? (fun x => x == X) with | some j => ((k + j : Nat) : Int) | none => -1

theorem ff_hit {xs : List Int} {X : Int} {k : Nat} (h : xs[k]? = some X) : ff xs X k = (k : Int) := by
  obtain ⟨hk, e⟩ := List.getElem?_eq_some_iff.1 h
  unfold ff
  rw [List.drop_eq_getElem_cons hk, e, List.findIdx?_cons]
  simp
theorem ff_miss {xs : List Int} {X x : Int} {k : Nat} (h : xs[k]? = some x) (hne : x ≠ X) : ff xs X k = ff xs X (k + 1) := by
  obtain ⟨hk, e⟩ := List.getElem?_eq_some_iff.1 h
  unfold ff
  rw [List.drop_eq_getElem_cons hk, e, List.findIdx?_cons]
  have : (x == X) = false := by simp [hne]
  simp only [this]
  cases (List.drop (k + 1) xs).findIdx? (fun x => x == X) with
  | none => simp
  | some j => simp; omega
theorem ff_end {xs : List Int} {X : Int} {k : Nat} (h : xs.length ≤ k) : ff xs X k = -1 := by
  unfold ff
  rw [List.drop_of_length_le h]; rfl

theorem ff_skip (xs : List Int) (X : Int) : ∀ j, j ≤ xs.length → (∀ i x, i < j → xs[i]? = some x → x ≠ X) → ff xs X 0 = ff xs X j
  | 0, _, _ => rfl
  | j + 1, hj, h => by
    rw [ff_skip xs X j (by omega) (fun i x hi => h i x (by omega))]
    exact ff_miss (List.getElem?_eq_getElem (by omega)) (h j _ (by omega) (List.getElem?_eq_getElem (by omega)))
theorem zip_pre {xs : List Int} {pre : List (Int × Nat)} {X : Int} (h : pre <+: xs.zipIdx) (hne : ∀ p ∈ pre, p.1 ≠ X) : pre.length ≤ xs.length ∧ ∀ i x, i < pre.length → xs[i]? = some x → x ≠ X := by
  have hl := h.length_le
  rw [List.length_zipIdx] at hl
  refine ⟨hl, fun i x hi hx => ?_⟩
  have h1 : pre[i]? = some (x, i) := by
    rw [List.prefix_iff_getElem?] at h
    have := h i hi
    rw [List.getElem?_zipIdx, hx] at this
    rw [List.getElem?_eq_getElem hi, ← this]; simp
  exact hne _ (List.mem_of_getElem? h1)
theorem ff_all {xs : List Int} {X : Int} (hne : ∀ p ∈ xs.zipIdx, p.1 ≠ X) : ff xs X 0 = -1 := by
  obtain ⟨h1, h2⟩ := zip_pre (List.prefix_refl xs.zipIdx) hne
  rw [ff_skip xs X xs.length (Nat.le_refl _) (fun i x hi => h2 i x (by rw [List.length_zipIdx]; exact hi)), ff_end (Nat.le_refl _)]
theorem ff_at {xs : List Int} {X : Int} {pre : List (Int × Nat)} {x : Int × Nat} (h : pre ++ [x] <+: xs.zipIdx) (hne : ∀ p ∈ pre, p.1 ≠ X) (hx : x.1 = X) : ff xs X 0 = (x.2 : Int) := by
  obtain ⟨h1, h2⟩ := zip_pre ((List.prefix_append pre [x]).trans h) hne
  rw [ff_skip xs X pre.length h1 h2]
  rw [List.prefix_iff_getElem?] at h
  have h3 := h pre.length (by simp)
  simp [List.getElem?_zipIdx] at h3
  obtain ⟨y, hy, he⟩ := h3
  subst he
  simp at hx
  subst hx
  exact ff_hit hy

theorem boxed_own {W W' : World} {row : Option Nat} {B : Nat} {t : TypeId} {v : Value} (h : Boxed W B t v) (hg : W.grownBy W' row) (hr : ∀ r, row = some r → ∃ o : Obj, W.heap[r]? = some o ∧ o.isCells = false) : Boxed W' B t v :=
  h.kept hg fun e => by
    obtain ⟨o, ho, hc⟩ := hr B e.symm
    rw [show W.heap[B]? = _ from h] at ho; cases ho; cases hc

/-- What a function answers whose result is a variable that is boxed. -/
theorem results_box {P : Program} {fn : Func} {p : Tmp} {ty : TypeId} (h : fn.results = #[.cell p ty]) (hagg : ∀ w, (isAgg ty).run P w = .ok false w) (tmps : Array Value) (w : World) (a : Addr) (v : Value)
    (hp : tmps.getD p undef = .pointer (some a)) (hc : w.cell? a = some v) : (results fn tmps).run P w = .ok v w := by
  have hl : (load a).run P w = .ok v w := by simp [go_sem, hc]
  simp only [results, h]
  have hp' : tmps[p]?.getD undef = .pointer (some a) := by simpa using hp
  simp [Sem.run_bind, loadVar, asAddr, hp', hagg, hc, Result.andThen]
theorem agg3 : ∀ w, (isAgg 3).run Try.prog w = .ok false w := fun _ => by kernel_rfl
theorem agg4 : ∀ w, (isAgg 4).run Try.prog w = .ok false w := fun _ => by kernel_rfl

theorem is_in (n : Nat) (y X : Int) (o : Nat) (w : World) (h : w.cell? ⟨o, 2, none⟩ = some (.int .i64 X)) :
    CallsIn Fence.wide n Try.prog 21 #[.int .i64 y, .pointer (some ⟨o, 0, none⟩)] w fun e w' => e = .returned (.bool (y == X)) ∧ w = w' := by
  refine callsIn_of_wp Try.func21 rfl trivial ?_ rfl
  simp only [Try.ntmps21, List.size_toArray, List.length_cons, List.length_nil, Nat.reduceAdd, Nat.reduceSub, Array.replicate_succ, Array.replicate_zero, List.push_toArray, List.append_toArray, List.nil_append, List.cons_append]
  gi_wp2
  go_ret
  exact ⟨rfl, rfl⟩

set_option maxRecDepth 100000 in
set_option maxHeartbeats 2000000 in
theorem first_any (b o : Nat) (v : Value) (room : Nat) (xs : List Int) (X : Int) (w : World) (hP : IPool w b v room xs) (hl : xs.length ≤ 65536) (ho : w.cell? ⟨o, 2, none⟩ = some (.int .i64 X)) :
    Calls Try.prog 16 #[.pointer (some ⟨b, 0, none⟩), .func (.func 21) #[] #[.pointer (some ⟨o, 0, none⟩)]] w fun e W' => e = .returned (.int .i64 (ff xs X 0)) ∧ Below w.heap.size w W' := by
  refine (callsIn_wide (n := 5)).1 ?_
  have hnil : ∀ w : World, (binOp BinOp.eql 42 (.func (.func 21) #[] #[.pointer (some ⟨o, 0, none⟩)]) .nilFunc).run Try.prog w = .ok (.bool false) w := fun _ => by kernel_rfl
  have HP := Lib.hid hP
  have HL := Lib.hid hl
  have HO := Lib.hid ho
  have hol := World.block_lt_of_cell? w _ ho
  clear hP hl ho
  refine callsIn_of_wp_marks Try.func16 rfl trivial ?_ rfl
  simp only [Try.ntmps16, List.size_toArray, List.length_cons, List.length_nil, Nat.reduceAdd, Nat.reduceSub, Array.replicate_succ, Array.replicate_zero, List.push_toArray, List.append_toArray, List.nil_append, List.cons_append]
  gi_wp2_with (refine ⟨trivial, ?_⟩; gi_at_call 22; refine (all_in _ _ _).mono ?_; rintro e w' ⟨rfl, rfl⟩)
  clear hnil
  have b1 := Boxed.new w 42 (.func (.func 21) #[] #[.pointer (some ⟨o, 0, none⟩)])
  have b2 := Boxed.new (w.alloc (.cells #[.func (.func 21) #[] #[.pointer (some ⟨o, 0, none⟩)]] 42)) 3 (.int .i64 0)
  have b3 := Boxed.new ((w.alloc (.cells #[.func (.func 21) #[] #[.pointer (some ⟨o, 0, none⟩)]] 42)).alloc (.cells #[.int .i64 0] 3)) 22 (.pointer (some ⟨b, 0, none⟩))
  rw [World.size_alloc] at b2
  rw [World.size_alloc, World.size_alloc] at b3
  have c1 := (b1.alloc (.cells #[.int .i64 0] 3)).alloc (.cells #[.pointer (some ⟨b, 0, none⟩)] 22)
  have c2 := b2.alloc (.cells #[.pointer (some ⟨b, 0, none⟩)] 22)
  have hB0 : Below w.heap.size w (((w.alloc (.cells #[.func (.func 21) #[] #[.pointer (some ⟨o, 0, none⟩)]] 42)).alloc (.cells #[.int .i64 0] 3)).alloc (.cells #[.pointer (some ⟨b, 0, none⟩)] 22)) :=
    (((Below.refl _ _).alloc (Nat.le_refl _) _).alloc (by simp) _).alloc (by simp; omega) _
  have hPW : IPool (((w.alloc (.cells #[.func (.func 21) #[] #[.pointer (some ⟨o, 0, none⟩)]] 42)).alloc (.cells #[.int .i64 0] 3)).alloc (.cells #[.pointer (some ⟨b, 0, none⟩)] 22)) b v room xs := HP.out.of_block (hB0.block b HP.out.lt) (fun g hg => hB0.block g (HP.out.sl.lt g hg))
  have hvl : ∀ k, v.ownBlock = some k → k < w.heap.size := HP.out.sl.lt
  clear b1 b2
  obtain ⟨W0, hW0⟩ : ∃ W0, W0 = (((w.alloc (.cells #[.func (.func 21) #[] #[.pointer (some ⟨o, 0, none⟩)]] 42)).alloc (.cells #[.int .i64 0] 3)).alloc (.cells #[.pointer (some ⟨b, 0, none⟩)] 22)) := ⟨_, rfl⟩
  rw [← hW0] at c1 c2 b3 hB0 hPW ⊢
  have hs0 : W0.heap.size = w.heap.size + 3 := by rw [hW0]; simp
  clear hW0
  refine wpIn_rangeFunc_ownF rfl (by omega) (gf := 32) (lb := #[.pointer (some ⟨w.heap.size + 1 + 1, 0, none⟩)]) rfl trivial (enters_of Try.func32 (by kernel_rfl) rfl)
    (all_stops (5 - 1) (by omega) (w.heap.size + 1 + 1) b v room xs W0 hPW HL.out b3.cell) (fun {A B C} => Same.trans) (Same.put (fun k hk => by have := hvl k hk; omega)) (Below.refl _ _) (fun _ => rfl)
    (fun pre W => (Boxed W w.heap.size 42 (.func (.func 21) #[] #[.pointer (some ⟨o, 0, none⟩)]) ∧ Boxed W (w.heap.size + 1) 3 (.int .i64 0) ∧ ∀ p ∈ pre, p.1 ≠ X) ∧ Below w.heap.size w W)
    (fun c ys W => (c = .ret ∧ ∃ pre x, ys = pre ++ [x] ∧ (∀ p ∈ pre, p.1 ≠ X) ∧ x.1 = X ∧ Boxed W (w.heap.size + 1) 3 (.int .i64 (x.2 : Int))) ∧ Below w.heap.size w W)
    (OwnFrom.and (Own.from (fun s A B row hs hg hr => ⟨boxed_own hs.1 hg hr, boxed_own hs.2.1 hg hr, hs.2.2⟩) _) (ownFrom_below (Nat.le_refl _) (by omega)))
    (fun c' => OwnFrom.and (Own.from (fun s A B row hs hg hr => by
      obtain ⟨h1, pre, x, h2, h3, h4, h5⟩ := hs
      exact ⟨h1, pre, x, h2, h3, h4, boxed_own h5 hg hr⟩) _) (ownFrom_below (Nat.le_refl _) (by omega)))
    ⟨⟨c1, c2, by simp⟩, hB0⟩
    (fun x => { tmps := #[.pointer (some ⟨b, 0, none⟩), .func (.func 21) #[] #[.pointer (some ⟨o, 0, none⟩)], undef, .pointer (some ⟨w.heap.size, 0, none⟩), .pointer (some ⟨w.heap.size + 1, 0, none⟩), .int .i64 (x.2 : Int), .int .i64 x.1, .func (.func 21) #[] #[.pointer (some ⟨o, 0, none⟩)], .bool false, .pointer (some ⟨b, 0, none⟩), .func (.func 32) #[] #[.pointer (some ⟨w.heap.size + 1 + 1, 0, none⟩)], .int .i64 (x.2 : Int), .int .i64 x.1, undef, undef, undef, undef], defers := [] }) ?assign ?body ?done ?stop
  case assign =>
    intro l x W K hK
    unfold enc
    gi_wp2
    exact hK
  case body =>
    rintro l pre ⟨y, i⟩ W ⟨⟨hf, hr, hne⟩, hB⟩ hlt
    have hfc := hf.cell
    have hrc := hr.cell
    have hrf := hr.frozen
    have hoc : W.cell? ⟨o, 2, none⟩ = some (.int .i64 X) := (hB.cell (p := ⟨o, 2, none⟩) hol).trans HO.out
    have HI := Lib.hid (fun n => is_in n y X o W hoc)
    by_cases hyx : y = X
    · have he : (y == X) = true := by simp [hyx]
      simp only [he] at HI
      have HY := Lib.hid hyx
      clear hyx he hoc
      gi_wp2_with (refine ⟨trivial, ?_⟩; gi_at_call 21; refine (CallsIn.inRound l (HI.out _)).mono ?_; rintro e w' ⟨rfl, rfl⟩)
      exact ⟨KeepsOthers.setCell _ _ _, ⟨rfl, pre, (y, i), rfl, hne, HY.out, hr.set _⟩, hB.setCell (p := ⟨w.heap.size + 1, 0, none⟩) (by simp) _⟩
    · have he : (y == X) = false := by simp [hyx]
      simp only [he] at HI
      have HY := Lib.hid hyx
      clear hyx he hoc
      gi_wp2_with (refine ⟨trivial, ?_⟩; gi_at_call 21; refine (CallsIn.inRound l (HI.out _)).mono ?_; rintro e w' ⟨rfl, rfl⟩)
      refine ⟨KeepsOthers.refl _, Same.refl _ _, ⟨hf, hr, fun p hp => ?_⟩, hB⟩
      rcases List.mem_append.1 hp with hp | hp
      · exact hne p hp
      · simp at hp; subst hp; exact HY.out
  case done =>
    rintro D ys W hD rfl ⟨⟨hf, hr, hne⟩, hB⟩ hK
    have hrc := hr.cell
    have hrf := hr.frozen
    have HF := Lib.hid (ff_all hne)
    gi_wp2
    have hD1 : D ≠ w.heap.size + 1 := by omega
    have hK' : (W.setCell ⟨w.heap.size + 1, 0, none⟩ (.int .i64 (-1))).heap[D]? = some (.deferred (some [])) := (Below.heap_setCell _ _ _ _ hD1).trans hK
    have hr' := (hr.set (.int .i64 (-1))).kept (grownBy_putObj' _ D (.deferred none)) (by simp; omega)
    refine ⟨by simp, .inl ⟨_, _, rfl, run_takeDeferred hK', ?_⟩⟩
    exact ⟨_, results_box rfl agg3 _ _ _ _ rfl hr'.cell, by rw [HF.out], (hB.setCell (p := ⟨w.heap.size + 1, 0, none⟩) (by simp) _).trans (belowK_b (w := w) (Nat.le_refl _) _ D _ _ (by omega) hK' rfl rfl)⟩
  case stop =>
    rintro D c pre W hD hpre ⟨⟨rfl, pre', x, rfl, hne, hx, hr⟩, hB⟩ hK
    have hrc := hr.cell
    have HF := Lib.hid (ff_at hpre hne hx)
    gi_wp2
    have hr' := hr.kept (grownBy_putObj' _ D (.deferred none)) (by simp; omega)
    refine ⟨by simp, .inl ⟨_, _, rfl, run_takeDeferred hK, ?_⟩⟩
    exact ⟨_, results_box rfl agg3 _ _ _ _ rfl hr'.cell, by rw [HF.out], hB.trans (belowK_b (w := w) (Nat.le_refl _) _ D _ _ (by omega) hK rfl rfl)⟩
end Go.Proofs.Ytkamafkajfajpaa.pp
