/-
  The first place of a back of a block: contracts. No condition but the bounds that each theorem names.
-/
import Derived.Test.YtoifeinkaaclmaaDoorBkI
import Derived.RangeFuncNested
namespace Go.Proofs.YtoifeinkaaclmaaDoor.bk
open Go Go.RowKit Go.Shelf
open Go.Proofs.YtoifeinkaaclmaaDoor.tt (U zd row tyne add_lit lt_of range_grown grown_setCells grown_setRow grown_new grown_drewN below_of grown_alloc grown_refl grown_trans grown_drew Sl Pool Turn Next flat)
set_option linter.unusedVariables false
attribute [local go_sem] Oper.semAt_some
attribute [local simp] wide_fn

/-- The first place from k on whose back is of block X; -1, if there is none. -/
def ff (xs : List Bk) (X : Int) (k : Nat) : Int := match (xs.drop k).findIdx? (fun x => x.b == X) with | some j => ((k + j : Nat) : Int) | none => -1

theorem ff_hit {xs : List Bk} {x : Bk} {k : Nat} (h : xs[k]? = some x) : ff xs x.b k = (k : Int) := by
  obtain ⟨hk, e⟩ := List.getElem?_eq_some_iff.1 h
  unfold ff
  rw [List.drop_eq_getElem_cons hk, e, List.findIdx?_cons]
  simp
theorem ff_miss {xs : List Bk} {X : Int} {x : Bk} {k : Nat} (h : xs[k]? = some x) (hne : x.b ≠ X) : ff xs X k = ff xs X (k + 1) := by
  obtain ⟨hk, e⟩ := List.getElem?_eq_some_iff.1 h
  unfold ff
  rw [List.drop_eq_getElem_cons hk, e, List.findIdx?_cons]
  have : (x.b == X) = false := by simp [hne]
  simp only [this]
  cases (List.drop (k + 1) xs).findIdx? (fun x => x.b == X) with
  | none => simp
  | some j => simp; omega
theorem ff_end {xs : List Bk} {X : Int} {k : Nat} (h : xs.length ≤ k) : ff xs X k = -1 := by
  unfold ff
  rw [List.drop_of_length_le h]; rfl
theorem ff_skip (xs : List Bk) (X : Int) : ∀ j, j ≤ xs.length → (∀ i x, i < j → xs[i]? = some x → x.b ≠ X) → ff xs X 0 = ff xs X j
  | 0, _, _ => rfl
  | j + 1, hj, h => by
    rw [ff_skip xs X j (by omega) (fun i x hi => h i x (by omega))]
    exact ff_miss (List.getElem?_eq_getElem (by omega)) (h j _ (by omega) (List.getElem?_eq_getElem (by omega)))
theorem zip_pre {xs : List Bk} {pre : List (Bk × Nat)} {X : Int} (h : pre <+: xs.zipIdx) (hne : ∀ p ∈ pre, p.1.b ≠ X) : pre.length ≤ xs.length ∧ ∀ i x, i < pre.length → xs[i]? = some x → x.b ≠ X := by
  have hl := h.length_le
  rw [List.length_zipIdx] at hl
  refine ⟨hl, fun i x hi hx => ?_⟩
  have h1 : pre[i]? = some (x, i) := by
    rw [List.prefix_iff_getElem?] at h
    have := h i hi
    rw [List.getElem?_zipIdx, hx] at this
    rw [List.getElem?_eq_getElem hi, ← this]; simp
  exact hne _ (List.mem_of_getElem? h1)
theorem ff_all {xs : List Bk} {X : Int} (hne : ∀ p ∈ xs.zipIdx, p.1.b ≠ X) : ff xs X 0 = -1 := by
  obtain ⟨h1, h2⟩ := zip_pre (List.prefix_refl xs.zipIdx) hne
  rw [ff_skip xs X xs.length (Nat.le_refl _) (fun i x hi => h2 i x (by rw [List.length_zipIdx]; exact hi)), ff_end (Nat.le_refl _)]
theorem ff_at {xs : List Bk} {X : Int} {pre : List (Bk × Nat)} {x : Bk × Nat} (h : pre ++ [x] <+: xs.zipIdx) (hne : ∀ p ∈ pre, p.1.b ≠ X) (hx : x.1.b = X) : ff xs X 0 = (x.2 : Int) := by
  obtain ⟨h1, h2⟩ := zip_pre ((List.prefix_append pre [x]).trans h) hne
  rw [ff_skip xs X pre.length h1 h2]
  rw [List.prefix_iff_getElem?] at h
  have h3 := h pre.length (by simp)
  simp [List.getElem?_zipIdx] at h3
  obtain ⟨y, hy, he⟩ := h3
  subst he
  simp at hx
  subst hx
  exact ff_hit hy

theorem boxed_from {B : Nat} {β : Type} (k : Nat) (t : TypeId) (f : β → Value) : OwnFrom B (fun s W => Boxed W k t (f s)) := fun s A B' row hs hg hr => hs.kept hg fun e => by
  obtain ⟨hb, o, ho, hc⟩ := hr k e.symm
  rw [show A.heap[k]? = _ from hs] at ho; cases ho; cases hc

/-- What a function answers whose result is a variable that is boxed. -/
theorem results_box {P : Program} {fn : Func} {p : Tmp} {ty : TypeId} (h : fn.results = #[.cell p ty]) (hagg : ∀ w, (isAgg ty).run P w = .ok false w) (tmps : Array Value) (w : World) (a : Addr) (v : Value)
    (hp : tmps.getD p undef = .pointer (some a)) (hc : w.cell? a = some v) : (results fn tmps).run P w = .ok v w := by
  have hl : (load a).run P w = .ok v w := by simp [go_sem, hc]
  simp only [results, h]
  have hp' : tmps[p]?.getD undef = .pointer (some a) := by simpa using hp
  simp [Sem.run_bind, loadVar, asAddr, hp', hagg, hc, Result.andThen]
theorem agg3 : ∀ w, (isAgg 3).run Tryd.prog w = .ok false w := fun _ => by kernel_rfl

theorem is_in (n : Nat) (y : Bk) (X : Int) (o : Nat) (w : World) (h : w.cell? ⟨o, 0, none⟩ = some (.int .i64 X)) :
    CallsIn Fence.wide n Tryd.prog 42 #[.agg (ba y), .pointer (some ⟨o, 0, none⟩)] w fun e w' => e = .returned (.bool (y.b == X)) ∧ w.grownBy w' none := by
  have hg : w.grownBy (w.alloc (.cells (ba y) 57)) none := grown_alloc (grown_refl _ _) _
  have c0 := box w y 0 _ rfl
  have d0 := hg.cell h (by simp)
  have HG := Lib.hid hg
  clear h hg
  refine callsIn_of_wp Tryd.func42 rfl trivial ?_ rfl
  simp only [Tryd.ntmps42, List.size_toArray, List.length_cons, List.length_nil, Nat.reduceAdd, Nat.reduceSub, Array.replicate_succ, Array.replicate_zero, List.push_toArray, List.append_toArray, List.nil_append, List.cons_append]
  gi_wp2
  go_ret
  exact ⟨rfl, HG.out⟩

set_option maxRecDepth 1000000 in
set_option maxHeartbeats 4000000 in
theorem first_any (b o : Nat) (v : Value) (room : Nat) (xs : List Bk) (X : Int) (w : World) (hP : BPool w b v room xs) (hl : xs.length ≤ 65536) (ho : w.cell? ⟨o, 0, none⟩ = some (.int .i64 X)) :
    Calls Tryd.prog 41 #[.pointer (some ⟨b, 0, none⟩), .func (.func 42) #[] #[.pointer (some ⟨o, 0, none⟩)]] w fun e W' => e = .returned (.int .i64 (ff xs X 0)) ∧ Below w.heap.size w W' := by
  refine (callsIn_wide (n := 5)).1 ?_
  have hnil : ∀ w : World, (binOp BinOp.eql 81 (.func (.func 42) #[] #[.pointer (some ⟨o, 0, none⟩)]) .nilFunc).run Tryd.prog w = .ok (.bool false) w := fun _ => by kernel_rfl
  have HP := Lib.hid hP
  have HL := Lib.hid hl
  have HO := Lib.hid ho
  have hol := World.block_lt_of_cell? w _ ho
  have HZ : Hid (ba zb = _) := Lib.hid zb_ba
  clear hP hl ho
  refine callsIn_of_wp_marks Tryd.func41 rfl trivial ?_ rfl
  simp only [Tryd.ntmps41, List.size_toArray, List.length_cons, List.length_nil, Nat.reduceAdd, Nat.reduceSub, Array.replicate_succ, Array.replicate_zero, List.push_toArray, List.append_toArray, List.nil_append, List.cons_append]
  gi_wp2_with (gi_at_call 45; refine (pall_in _ _ _).mono ?_; rintro e w' ⟨rfl, rfl⟩)
  clear hnil
  have b1 := Boxed.new w 81 (Value.func (.func 42) #[] #[.pointer (some ⟨o, 0, none⟩)])
  have b2 := Boxed.new (w.alloc (.cells #[(Value.func (.func 42) #[] #[.pointer (some ⟨o, 0, none⟩)])] 81)) 3 (.int .i64 0)
  have b3 := Boxed.new ((w.alloc (.cells #[(Value.func (.func 42) #[] #[.pointer (some ⟨o, 0, none⟩)])] 81)).alloc (.cells #[.int .i64 0] 3)) 53 (.pointer (some ⟨b, 0, none⟩))
  rw [World.size_alloc] at b2
  rw [World.size_alloc, World.size_alloc] at b3
  have c1 := (b1.alloc (.cells #[.int .i64 0] 3)).alloc (.cells #[.pointer (some ⟨b, 0, none⟩)] 53)
  have c2 := b2.alloc (.cells #[.pointer (some ⟨b, 0, none⟩)] 53)
  obtain ⟨W0, hW0⟩ : ∃ W0, W0 = (((w.alloc (.cells #[(Value.func (.func 42) #[] #[.pointer (some ⟨o, 0, none⟩)])] 81)).alloc (.cells #[.int .i64 0] 3)).alloc (.cells #[.pointer (some ⟨b, 0, none⟩)] 53)) := ⟨_, rfl⟩
  have hB0 : Below w.heap.size w W0 := by
    rw [hW0]; exact (((Below.refl _ _).alloc (Nat.le_refl _) _).alloc (by simp) _).alloc (by simp; omega) _
  have hPW : BPool W0 b v room xs := HP.out.of_block (hB0.block b HP.out.lt) (fun g hg => hB0.block g (HP.out.sl.lt g hg))
  have HV : Hid (∀ k, v.ownBlock = some k → k < w.heap.size) := Lib.hid HP.out.sl.lt
  clear b1 b2
  rw [← hW0] at c1 c2 b3 ⊢
  have hs0 : W0.heap.size = w.heap.size + 3 := by rw [hW0]; simp
  clear hW0
  have n4 : 1 ≤ 5 - 1 := by omega
  apply wpIn_rangeFunc_ownH rfl (by omega) (gf := 47) (lb := #[.pointer (some ⟨w.heap.size + 1 + 1, 0, none⟩)]) rfl trivial (enters_of Tryd.func47 (by kernel_rfl) rfl)
    (Kp := Same v) (pall_stops (5 - 1) n4 (w.heap.size + 1 + 1) b v room xs W0 hPW HL.out b3.cell) (fun {A B C} h k => Same.trans h k) (Same.put (fun k hk => by have := HV.out k hk; omega)) (Below.refl _ _) (fun _ => rfl)
    (fun pre X1 => (Boxed X1 w.heap.size 81 (Value.func (.func 42) #[] #[.pointer (some ⟨o, 0, none⟩)]) ∧ Boxed X1 (w.heap.size + 1) 3 (.int .i64 0)) ∧ (∀ p ∈ pre, p.1.b ≠ X) ∧ Below w.heap.size w X1)
    (fun c ys X1 => ∃ pre x, (c = .ret ∧ ys = pre ++ [x] ∧ (∀ p ∈ pre, p.1.b ≠ X) ∧ x.1.b = X) ∧ Boxed X1 (w.heap.size + 1) 3 (.int .i64 (x.2 : Int)) ∧ Below w.heap.size w X1)
    (OwnFrom.and (OwnFrom.and (fun s A B row hs hg hr => boxed_from (B := W0.heap.size) _ _ (fun _ : Unit => (Value.func (.func 42) #[] #[.pointer (some ⟨o, 0, none⟩)])) () A B row hs hg hr) (fun s A B row hs hg hr => boxed_from (B := W0.heap.size) _ _ (fun _ : Unit => Value.int .i64 0) () A B row hs hg hr)) (OwnFrom.and (fun s A B row hs hg hr => hs) (ownFrom_below (Nat.le_refl _) (by omega))))
    (fun c' s A B row hs hg hr => by
      obtain ⟨pre, x, h1, h2, h3⟩ := hs
      exact ⟨pre, x, h1, boxed_from (B := W0.heap.size) _ _ (fun _ : Unit => Value.int .i64 (x.2 : Int)) () A B row h2 hg hr, ownFrom_below (B := W0.heap.size) (Nat.le_refl w.heap.size) (by omega) () A B row h3 hg hr⟩)
    ⟨⟨c1, c2⟩, by simp, hB0⟩
    (fun x a' X1 => ∃ Bx, w.heap.size + 1 < Bx ∧ X1.heap[Bx]? = some (.cells (ba x.1) 57 (0, 0)) ∧ a' = { tmps := #[.pointer (some ⟨b, 0, none⟩), (Value.func (.func 42) #[] #[.pointer (some ⟨o, 0, none⟩)]), undef, .pointer (some ⟨w.heap.size, 0, none⟩), .pointer (some ⟨w.heap.size + 1, 0, none⟩), .int .i64 (x.2 : Int), .pointer (some ⟨Bx, 0, none⟩), (Value.func (.func 42) #[] #[.pointer (some ⟨o, 0, none⟩)]), .bool false, .pointer (some ⟨b, 0, none⟩), .func (.func 47) #[] #[.pointer (some ⟨w.heap.size + 1 + 1, 0, none⟩)], .int .i64 (x.2 : Int), .agg (ba x.1), undef, undef, undef, undef], defers := [] })
  case hAx =>
    rintro x a' s A B row ⟨Bx, h1, h2, h3⟩ hg hr
    exact ⟨Bx, h1, (hg.block Bx (lt_of h2) (fun e => by
      obtain ⟨hb, o, ho, hc⟩ := hr _ e.symm
      rw [h2] at ho; cases ho; cases hc)).trans h2, h3⟩
  case hassign =>
    rintro l' pre ⟨x, i⟩ X1 K ⟨⟨hb, hr⟩, hne, hB⟩ hK
    have HX := Lib.hid (hK _ (X1.alloc (.cells (ba x) 57)) ((KeepsOthers.alloc _ _).from _) (Same.of_grown (fun k hk => by have := HV.out k hk; have := hb.lt; omega) (grown_alloc (grown_refl _ _) _)) ⟨⟨hb.alloc _, hr.alloc _⟩, hne, hB.alloc (by have := hb.lt; omega) _⟩ ⟨X1.heap.size, hr.lt, heap_alloc_new _ _, rfl⟩)
    clear hK
    unfold encB
    gi_wp2_with ((with_reducible refine store_newI x _ HZ.out _ _ ?_ ?_ ?_); (rfl); (rfl))
    exact HX.out
  case hbody =>
    rintro l pre ⟨y, i⟩ a' X1 hl' _ ⟨⟨hb, hr⟩, hne, hB⟩ ⟨Bx, hBx, hbx, rfl⟩ hlt
    have hfc := hb.cell
    have hrc := hr.cell
    have hrf := hr.frozen
    have hoc : X1.cell? ⟨o, 0, none⟩ = some (.int .i64 X) := (hB.cell (p := ⟨o, 0, none⟩) hol).trans HO.out
    have HI := Lib.hid (fun n => is_in n y X o X1 hoc)
    have HX : Hid (X1.rangeAt Bx 0 (bt y)) := Lib.hid (range_of hbx)
    have HR := Lib.hid hr
    have HB := Lib.hid hb
    have HBB := Lib.hid hB
    have HNE := Lib.hid hne
    have HVX : Hid (∀ k, v.ownBlock = some k → k < X1.heap.size) := Lib.hid fun k hk => by have := HV.out k hk; have := hb.lt; omega
    clear hb hr hB hne hbx hoc hlt
    by_cases hyx : y.b = X
    · have he : (y.b == X) = true := by simp [hyx]
      simp only [he] at HI
      have HY := Lib.hid hyx
      clear hyx he
      gi_wp2_with (first
        | ((with_reducible refine load_baI y _ Bx 0 ?_ HX.out ?_); (rfl))
        | (gi_at_call 42; refine (CallsIn.inRound l (HI.out _)).mono ?_; rintro e w' ⟨rfl, hg'⟩; have hrc' := hg'.cell hrc (by simp); have hrf' := (HR.out.kept hg' (by simp)).frozen; have HG' := Lib.hid hg'; clear hg'))
      have hr' := HR.out.kept HG'.out (by simp)
      exact ⟨(KeepsFrom.of_grownBy HG'.out (by simp)).trans ((KeepsOthers.setCell _ _ _).from _), pre, (y, i), ⟨rfl, rfl, HNE.out, HY.out⟩, hr'.set _, (HBB.out.trans ((below_of HG'.out).mono HBB.out.size)).setCell (p := ⟨w.heap.size + 1, 0, none⟩) (by simp) _⟩
    · have he : (y.b == X) = false := by simp [hyx]
      simp only [he] at HI
      have HY := Lib.hid hyx
      clear hyx he
      gi_wp2_with (first
        | ((with_reducible refine load_baI y _ Bx 0 ?_ HX.out ?_); (rfl))
        | (gi_at_call 42; refine (CallsIn.inRound l (HI.out _)).mono ?_; rintro e w' ⟨rfl, hg'⟩; have HG' := Lib.hid hg'; clear hg'))
      refine ⟨KeepsFrom.of_grownBy HG'.out (by simp), Same.of_grown HVX.out HG'.out, ⟨HB.out.kept HG'.out (by simp), HR.out.kept HG'.out (by simp)⟩, fun p hp => ?_, HBB.out.trans ((below_of HG'.out).mono HBB.out.size)⟩
      rcases List.mem_append.1 hp with hp | hp
      · exact HNE.out p hp
      · simp at hp; subst hp; exact HY.out
  case hdone =>
    rintro D ys X1 hD rfl ⟨⟨hb, hr⟩, hne, hB⟩ hK
    have hrc := hr.cell
    have hrf := hr.frozen
    have HFF := Lib.hid (ff_all hne)
    gi_wp2
    have hD1 : D ≠ w.heap.size + 1 := by omega
    have hK' : (X1.setCell ⟨w.heap.size + 1, 0, none⟩ (.int .i64 (-1))).heap[D]? = some (.deferred (some [])) := (Below.heap_setCell _ _ _ _ hD1).trans hK
    have hr' := (hr.set (.int .i64 (-1))).kept (grownBy_putObj' _ D (.deferred none)) (by simp; omega)
    refine ⟨by simp, .inl ⟨_, _, rfl, run_takeDeferred hK', ?_⟩⟩
    exact ⟨_, results_box rfl agg3 _ _ _ _ rfl hr'.cell, by rw [HFF.out], (hB.setCell (p := ⟨w.heap.size + 1, 0, none⟩) (by simp) _).trans (belowK_b (w := w) (Nat.le_refl _) _ D _ _ (by omega) hK' rfl rfl)⟩
  case hstop =>
    rintro D c pre X1 hD hpre ⟨pre', x, ⟨rfl, rfl, hne, hx⟩, hr, hB⟩ hK
    have hrc := hr.cell
    have HFF := Lib.hid (ff_at hpre hne hx)
    gi_wp2
    have hr' := hr.kept (grownBy_putObj' _ D (.deferred none)) (by simp; omega)
    refine ⟨by simp, .inl ⟨_, _, rfl, run_takeDeferred hK, ?_⟩⟩
    exact ⟨_, results_box rfl agg3 _ _ _ _ rfl hr'.cell, by rw [HFF.out], hB.trans (belowK_b (w := w) (Nat.le_refl _) _ D _ _ (by omega) hK rfl rfl)⟩
end Go.Proofs.YtoifeinkaaclmaaDoor.bk
