/-
  The law CacheSets returns true: the walk. Condition: the table of bounds lies in its variable as the program's text has it; that the script has its calls.
-/
import Derived.Test.YtjbapfjeildfoaaDoorC17
import Derived.RangeFuncNested
import Derived.Test.YtjbapfjeildfoaaDoorC15
namespace Go.Proofs.YtjbapfjeildfoaaDoor.kk
open Go Go.RowKit Go.Shelf
set_option linter.unusedVariables false
attribute [local go_sem] Oper.semAt_some
attribute [local simp] wide_fn

theorem agg4 : ∀ w, (isAgg 4).run Tryd.prog w = .ok false w := fun _ => by kernel_rfl
/-- What a function answers whose result is a variable that is boxed. -/
theorem results_box {P : Program} {fn : Func} {p : Tmp} {ty : TypeId} (h : fn.results = #[.cell p ty]) (hagg : ∀ w, (isAgg ty).run P w = .ok false w) (tmps : Array Value) (w : World) (a : Addr) (v : Value)
    (hp : tmps.getD p undef = .pointer (some a)) (hc : w.cell? a = some v) : (results fn tmps).run P w = .ok v w := by
  have hl : (load a).run P w = .ok v w := by simp [go_sem, hc]
  simp only [results, h]
  have hp' : tmps[p]?.getD undef = .pointer (some a) := by simpa using hp
  simp [Sem.run_bind, loadVar, asAddr, hp', hagg, hc, Result.andThen]
/-- The marks that the loops over an iterator have left. -/
def mark (D : Nat) : Deferred := { target := .collected D, args := #[] }
structure Marks (n0 : Nat) (W : World) (Ds : List Nat) : Prop where
  nd : Ds.Nodup
  at_ : ∀ D ∈ Ds, n0 ≤ D ∧ W.heap[D]? = some (.deferred (some []))
theorem leaves_all {F : Fence} {n : Nat} {fn : Func} {tmps : Array Value} {R : Ending → World → Prop} {n0 : Nat} (P' : World → Prop) (hP : ∀ W D, n0 ≤ D → W.heap[D]? = some (.deferred (some [])) → P' W → P' (W.putObj D (.deferred none)))
    (hend : ∀ W, P' W → LeavesIn F n Tryd.prog fn tmps R [] .returning W) : ∀ (Ds : List Nat) (W : World), Marks n0 W Ds → P' W → LeavesInM F n Tryd.prog fn tmps R (Ds.map mark) .returning W
  | [], W, _, hW => hend W hW
  | D :: Ds, W, hm, hW => by
    obtain ⟨h1, h2⟩ := hm.at_ D (by simp)
    have hnd := List.nodup_cons.1 hm.nd
    refine ⟨by simp, .inl ⟨D, _, rfl, run_takeDeferred h2, leaves_all P' hP hend Ds _ ⟨hnd.2, fun D' hD' => ?_⟩ (hP W D h1 h2 hW)⟩⟩
    obtain ⟨h3, h4⟩ := hm.at_ D' (by simp [hD'])
    exact ⟨h3, (World.putObj_heap_other (fun e => hnd.1 (by rw [← e]; exact hD'))).trans h4⟩


theorem sets_world (wz : World) (b A : Nat) {W1 : World} (hA : A = wz.heap.size) (h : W1 = ((((wz.alloc (.map #[] 0)).alloc (.map #[] 0)).alloc (.cells #[.map (some A)] 61)).alloc (.cells #[.map (some (A + 1))] 62)).alloc (.cells #[.pointer (some ⟨b, 0, none⟩)] 22)) :
    (MapAt W1 A (fun _ => none) ∧ MapAt W1 (A + 1) (fun _ => none)) ∧ (Boxed W1 (A + 1 + 1) 61 (.map (some A)) ∧ Boxed W1 (A + 1 + 1 + 1) 62 (.map (some (A + 1)))) ∧ W1.cell? ⟨A + 1 + 1 + 1 + 1, 0, none⟩ = some (.pointer (some ⟨b, 0, none⟩)) ∧ wz.grownBy W1 none ∧ A + 5 = W1.heap.size := by
  subst hA
  subst h
  have m1 := MapAt.new wz
  have m2 := MapAt.new (wz.alloc (.map #[] 0))
  have b1 := Boxed.new ((wz.alloc (.map #[] 0)).alloc (.map #[] 0)) 61 (.map (some wz.heap.size))
  have b2 := Boxed.new (((wz.alloc (.map #[] 0)).alloc (.map #[] 0)).alloc (.cells #[.map (some wz.heap.size)] 61)) 62 (.map (some (wz.heap.size + 1)))
  have b3 := Boxed.new ((((wz.alloc (.map #[] 0)).alloc (.map #[] 0)).alloc (.cells #[.map (some wz.heap.size)] 61)).alloc (.cells #[.map (some (wz.heap.size + 1))] 62)) 22 (.pointer (some ⟨b, 0, none⟩))
  simp only [World.size_alloc] at m2 b1 b2 b3
  have al : ∀ (W : World) (o : Obj) (k : Nat), k < W.heap.size → (W.alloc o).heap[k]? = W.heap[k]? := fun W o k hk => Below.heap_alloc W o k hk
  refine ⟨⟨?_, ?_⟩, ⟨(b1.alloc _).alloc _, b2.alloc _⟩, b3.cell, ?_, by simp only [World.size_alloc]⟩
  · exact m1.same ((al _ _ _ (by simp only [World.size_alloc]; omega)).trans ((al _ _ _ (by simp only [World.size_alloc]; omega)).trans ((al _ _ _ (by simp only [World.size_alloc]; omega)).trans (al _ _ _ (by simp only [World.size_alloc]; omega)))))
  · exact m2.same ((al _ _ _ (by simp only [World.size_alloc]; omega)).trans ((al _ _ _ (by simp only [World.size_alloc]; omega)).trans (al _ _ _ (by simp only [World.size_alloc]; omega))))
  · exact grown_alloc (grown_alloc (grown_alloc (grown_alloc (grown_alloc (grown_refl _ _) _) _) _) _) _

/-- What lies behind the maps' start: the two boxes; all that lay ahead of it is as it was. -/
structure SI (A : Nat) (W1 W : World) : Prop where
  below : Below A W1 W
  b1 : Boxed W (A + 1 + 1) 61 (.map (some A))
  b2 : Boxed W (A + 1 + 1 + 1) 62 (.map (some (A + 1)))
theorem SI.more {A : Nat} {W1 W W' : World} (h : SI A W1 W) {own : Option Nat} (hg : W.grownBy W' own) (hs : A ≤ W.heap.size) (ho : ∀ k, own = some k → A ≤ k ∧ k ≠ A + 1 + 1 ∧ k ≠ A + 1 + 1 + 1) : SI A W1 W' := by
  refine ⟨⟨hg.os.trans h.below.os, hg.tape.trans h.below.tape, hg.output.trans h.below.output, Nat.le_trans h.below.size hg.size, fun k hk => ?_⟩, ?_, ?_⟩
  · refine (hg.block k (by omega) (fun e => ?_)).trans (h.below.block k hk)
    have := (ho k e.symm).1; omega
  · exact h.b1.kept hg (fun e => (ho _ e.symm).2.1 rfl)
  · exact h.b2.kept hg (fun e => (ho _ e.symm).2.2 rfl)
/-- What a loop over the lines keeps: the two maps hold what came. -/
def IM (c : Cfg) (ss : List St) {q : Nat} (A : Nat) (W1 : World) (pre : List (Fin q)) (W : World) : Prop :=
  (∃ (f : Int → Option Bool) (g : Int → Option Int), MapAt W A (vb f) ∧ MapAt W (A + 1) (vi g) ∧ (∀ k n, g k = some n → 0 ≤ n ∧ n ≤ pre.length) ∧ (pre <+: List.finRange q → f = seenF (came ss pre) ∧ g = manyF c (came ss pre))) ∧ SI A W1 W
theorem IM.own {c : Cfg} {ss : List St} {q A : Nat} {W1 : World} (hA : A + 5 = W1.heap.size) : OwnFrom W1.heap.size (IM c ss A W1 (q := q)) := fun s X Y row hs hg hr => by
  obtain ⟨⟨f, g, h1, h2, h3, h4⟩, h5⟩ := hs
  have hsz := h5.below.size
  have hne : ∀ k, k < W1.heap.size → some k ≠ row := fun k hk e => by have := (hr k e.symm).1; omega
  exact ⟨⟨f, g, h1.same (hg.block _ h1.lt (hne _ (by omega))), h2.same (hg.block _ h2.lt (hne _ (by omega))), h3, h4⟩, h5.more hg (by omega) (fun k e => by have := (hr k e).1; omega)⟩
/-- The line of a round, in its variable. -/
def lineOf (ss : List St) {q : Nat} (x : Fin q) : Ln := (told ss).getD x.val zl
def frameOf (T : Array Value) (l : Ln) (B : Nat) : Act := { tmps := (T.setIfInBounds 72 (.agg (la l))).setIfInBounds 11 (.pointer (some ⟨B, 0, none⟩)), defers := [] }

theorem rf_sets {assign body : Code} {Q : Exit → Act → World → Prop} {T : Array Value} {ds : List Deferred} {W1 : World} (K : Loc) (c : Cfg) (ss : List St) (q : Nat) (hq : q = (told ss).length) (A : Nat) (hC : Cac W1 K c ss) (hK : ∀ k, K.any k → k < A)
    (hm1 : MapAt W1 A (fun _ => none)) (hm2 : MapAt W1 (A + 1) (fun _ => none)) (hb1 : Boxed W1 (A + 1 + 1) 61 (.map (some A))) (hb2 : Boxed W1 (A + 1 + 1 + 1) 62 (.map (some (A + 1)))) (hcb : W1.cell? ⟨A + 1 + 1 + 1 + 1, 0, none⟩ = some (.pointer (some ⟨K.b, 0, none⟩))) (hs : A + 5 = W1.heap.size)
    (hT : T.getD 71 undef = .func (.func 46) #[] #[.pointer (some ⟨A + 1 + 1 + 1 + 1, 0, none⟩)])
    (hassign : ∀ (l : Nat) (x : Fin q) (W : World) (K' : Act → World → Prop), K' (frameOf T (lineOf ss x) W.heap.size) (W.alloc (.cells (la (lineOf ss x)) 36)) →
      assign.wpIn (Fence.wide.inRound l) 3 Tryd.prog (Exit.then K' (fun _ _ _ => False)) { tmps := T.setIfInBounds 72 (.agg (la (lineOf ss x))), defers := [] } W)
    (hbody : ∀ (l : Nat) (pre : List (Fin q)) (x : Fin q) (W : World) (B : Nat), IM c ss A W1 pre W → A + 5 ≤ B → W.heap[B]? = some (.cells (la (lineOf ss x)) 36 (0, 0)) → pre.length < q →
      body.wpIn (Fence.wide.inRound l) 3 Tryd.prog (ownPostG W1.heap.size (SameK K) (IM c ss A W1) (fun c' ys _ => c' = .ret ∧ ¬ ys <+: List.finRange q) (pre ++ [x]) W) (frameOf T (lineOf ss x) B) W)
    (hdone : ∀ (D : Nat) (W : World), W1.heap.size ≤ D → Below A W1 W → W.heap[D]? = some (.deferred (some [])) → Q .normal { tmps := T, defers := mark D :: ds } W) :
    (Code.rangeFunc (.tmp 71) #[72] assign body).wpIn Fence.wide 5 Tryd.prog Q { tmps := T, defers := ds } W1 := by
  refine wpIn_rangeFunc_ownH (n := 5) rfl (by omega) (gf := 46) (lb := #[.pointer (some ⟨A + 1 + 1 + 1 + 1, 0, none⟩)]) hT trivial (enters_of Tryd.func46 (by kernel_rfl) rfl)
    (Kp := SameK K) (all_stops 4 (by omega) (A + 1 + 1 + 1 + 1) K c ss q hq W1 hC hcb) (fun {X Y Z} h k => SameK.trans h k) (SameK.put (fun k hk => by have := hK k hk; omega)) (Below.refl _ _) (fun _ => rfl)
    (IM c ss A W1) (fun c' ys _ => c' = .ret ∧ ¬ ys <+: List.finRange q) (IM.own hs) (fun c' s X Y row hs _ _ => hs)
    ⟨⟨fun _ => none, fun _ => none, hm1, hm2, fun k n h => by simp at h, fun _ => ⟨rfl, rfl⟩⟩, Below.refl _ _, hb1, hb2⟩
    (fun x a' W => ∃ B, A + 5 ≤ B ∧ W.heap[B]? = some (.cells (la (lineOf ss x)) 36 (0, 0)) ∧ a' = frameOf T (lineOf ss x) B) ?_ ?_ ?_ ?_ ?_
  · rintro x a' s X Y row ⟨B, h1, h2, h3⟩ hg hr
    refine ⟨B, h1, (hg.block B (lt_of h2) (fun e => ?_)).trans h2, h3⟩
    obtain ⟨_, o, ho, hc⟩ := hr B e.symm
    rw [h2] at ho; cases ho; cases hc
  · intro l pre x W K' hI hK'
    have e : ∀ T : Array Value, ((#[72].zip (encL ss x)).foldl (fun t (p, v) => t.setIfInBounds p v) T) = T.setIfInBounds 72 (.agg (la (lineOf ss x))) := fun T => by simp [encL, lineOf]
    rw [e]
    refine hassign l x W K' (hK' _ _ ((KeepsOthers.alloc _ _).from _) (SameK.of (fun k hk => by have := hK k hk; have := hI.2.below.size; omega) (grown_alloc (grown_refl _ _) _)) ?_ ⟨W.heap.size, by have := hI.2.below.size; omega, heap_alloc_new _ _, rfl⟩)
    exact IM.own hs pre _ _ none hI (grown_alloc (grown_refl _ _) _) (fun r e => by cases e)
  · rintro l pre x a' W _ _ hI ⟨B, h1, h2, rfl⟩ hlt
    exact hbody l pre x W B hI h1 h2 hlt
  · rintro D xs W hD rfl hI hd
    exact hdone D W hD hI.2.below hd
  · rintro D c' pre W hD hpre ⟨rfl, hn⟩ hd
    exact absurd hpre hn
theorem Marks.kept {n0 : Nat} {W W' : World} {Ds : List Nat} {K : Loc} {c : Cfg} {ss : List St} (h : Marks n0 W Ds) (hC : Cac W K c ss) (hk : Kept K.own W W') : Marks n0 W' Ds :=
  ⟨h.nd, fun D hD => by
    obtain ⟨h1, h2⟩ := h.at_ D hD
    refine ⟨h1, (hk.block D (lt_of h2) (fun ho => ?_)).trans h2⟩
    rcases ho with rfl | ⟨q, hq, rfl⟩
    · obtain ⟨_, hc⟩ := hC.sets
      rw [hc] at h2; cases h2
    · obtain ⟨_, hc⟩ := hC.rowOf hq
      rw [hc] at h2; cases h2⟩
theorem Marks.grown {n0 : Nat} {W W' : World} {Ds : List Nat} (h : Marks n0 W Ds) (hg : W.grownBy W' none) : Marks n0 W' Ds :=
  ⟨h.nd, fun D hD => by
    obtain ⟨h1, h2⟩ := h.at_ D hD
    exact ⟨h1, (hg.block D (lt_of h2) (by simp)).trans h2⟩⟩
theorem Marks.cons {n0 : Nat} {W : World} {Ds : List Nat} {D : Nat} (h : Marks n0 W Ds) (hD : W.heap[D]? = some (.deferred (some []))) (hn : n0 ≤ D) (hlt : ∀ D' ∈ Ds, D' < D) : Marks n0 W (D :: Ds) :=
  ⟨List.nodup_cons.2 ⟨fun hm => Nat.lt_irrefl _ (hlt D hm), h.nd⟩, fun D' hD' => by
    rcases List.mem_cons.1 hD' with rfl | hm
    · exact ⟨hn, hD⟩
    · exact h.at_ D' hm⟩
theorem grown_below {w4 W1 W : World} {A : Nat} (hA : A = w4.heap.size) (h : w4.grownBy W1 none) (hb : Below A W1 W) : w4.grownBy W none :=
  ⟨hb.os.trans h.os, hb.tape.trans h.tape, hb.output.trans h.output, Nat.le_trans h.size hb.size, fun k hk _ => (hb.block k (by omega)).trans (h.block k hk (by simp))⟩
theorem vb_get (f : Int → Option Bool) (k : Int) : ((vb f) k).getD (.bool false) = .bool ((f k).getD false) := by
  unfold vb; cases f k <;> rfl
theorem vi_get (f : Int → Option Int) (k : Int) : ((vi f) k).getD (.int .i64 0) = .int .i64 ((f k).getD 0) := by
  unfold vi; cases f k <;> rfl
theorem zero4 (w : World) : (zeroValue 4).run Tryd.prog w = .ok (.bool false) w := by kernel_rfl
theorem zero3 (w : World) : (zeroValue 3).run Tryd.prog w = .ok (.int .i64 0) w := by kernel_rfl
theorem look61 {W : World} {b : Nat} {f : Int → Option Bool} (h : MapAt W b (vb f)) (k : Int) : (Instr.lookup 61 (.map (some b)) (.int .i64 k) false).run Tryd.prog W = .ok (.bool ((f k).getD false)) W := by
  rw [run_lookup_map Tryd.underlying61 Tryd.underlying3 h (zero4 W) k, vb_get]
theorem look62 {W : World} {b : Nat} {f : Int → Option Int} (h : MapAt W b (vi f)) (k : Int) : (Instr.lookup 62 (.map (some b)) (.int .i64 k) false).run Tryd.prog W = .ok (.int .i64 ((f k).getD 0)) W := by
  rw [run_lookup_map Tryd.underlying62 Tryd.underlying3 h (zero3 W) k, vi_get]
/-- The maps behind a round. -/
theorem IM.next {c : Cfg} {ss : List St} {q A : Nat} {W1 W W' : World} {pre : List (Fin q)} {x : Fin q} {f : Int → Option Bool} {g : Int → Option Int}
    (h3 : ∀ k n, g k = some n → 0 ≤ n ∧ n ≤ pre.length) (h4 : pre <+: List.finRange q → f = seenF (came ss pre) ∧ g = manyF c (came ss pre))
    (hm1 : MapAt W' A (mput (vb f) (lineOf ss x).b (.bool true))) (hm2 : MapAt W' (A + 1) (mput (vi g) (setOf c (lineOf ss x).b : Int) (.int .i64 ((g (setOf c (lineOf ss x).b : Int)).getD 0 + 1)))) (hs : SI A W1 W') : IM c ss A W1 (pre ++ [x]) W' := by
  refine ⟨⟨_, _, by rw [mput_vb] at hm1; exact hm1, by rw [mput_vi] at hm2; exact hm2, fun k n hn => ?_, fun hp => ?_⟩, hs⟩
  · rw [List.length_append, List.length_singleton]
    by_cases hks : k = (setOf c (lineOf ss x).b : Int)
    · rw [if_pos hks] at hn
      cases hn
      have : 0 ≤ (g (setOf c (lineOf ss x).b : Int)).getD 0 ∧ (g (setOf c (lineOf ss x).b : Int)).getD 0 ≤ pre.length := by
        cases e : g (setOf c (lineOf ss x).b : Int) with
        | none => simp
        | some v => exact h3 _ _ e
      simp only [Int.natCast_add]
      omega
    · rw [if_neg hks] at hn
      have := h3 _ _ hn
      simp only [Int.natCast_add]
      omega
  · obtain ⟨e1, e2⟩ := h4 ((List.prefix_append pre [x]).trans hp)
    rw [came_snoc, seenF_snoc, manyF_snoc, ← e1, ← e2]
    exact ⟨rfl, rfl⟩
theorem box_grow {w w' : World} {B : Nat} {t : TypeId} {v : Value} (h : Boxed w B t v) (hg : w.grownBy w' none) : Boxed w' B t v := (hg.block B (Go.Boxed.lt h) (by simp)).trans h
theorem box_set {w : World} {B : Nat} {t : TypeId} {v : Value} (h : Boxed w B t v) (u : Value) (hf : ∀ W, W = w.setCell ⟨B, 0, none⟩ u → True) : Boxed (w.setCell ⟨B, 0, none⟩ u) B t u := Go.Boxed.set u h
theorem grown_own {w w1 w2 : World} {D : Nat} (h : w.grownBy w1 none) (hg : w1.grownBy w2 (some D)) (hD : w.heap.size ≤ D) : w.grownBy w2 none :=
  (Kept.one (O := fun k => k = D) hg rfl).below h (fun k e => by subst e; exact hD)
set_option maxRecDepth 1000000 in
set_option maxHeartbeats 8000000 in
theorem sets_some (c : Cfg) (os : List OpX) (ad : Option Addr) (len cap : Nat) (w : World) (hT : Tab w) (hlen : len = os.length) (hat : OpsAt w ad os) (h : len ≤ 300) (hm : c.may) :
    Calls Tryd.prog 5 #[.agg c.cells, .slice ad len cap] w fun e w' => e = .returned (.bool true) ∧ w.grownBy w' none := by
  refine (callsIn_wide (n := 5)).1 ?_
  have hd : decide ((300 : Int) < (len : Int)) = false := by simp; omega
  obtain ⟨w0, hw0⟩ : ∃ w0, w0 = (w.alloc (.cells c.cells 27)).alloc (.cells #[.bool false] 4) := ⟨_, rfl⟩
  have hg0 : w.grownBy w0 none := by rw [hw0]; exact grown_alloc (grown_alloc (grown_refl _ _) _) _
  have hs0 : w0.heap.size = w.heap.size + 2 := by rw [hw0]; simp
  have HCF : Hid (CfgAt w0 w.heap.size c) := Lib.hid (by rw [hw0]; exact (cfg_at w c).grown (grown_alloc (grown_refl _ _) _))
  have HBX : Hid (Boxed w0 (w.heap.size + 1) 4 (.bool false)) := Lib.hid (by
    have := Boxed.new (w.alloc (.cells c.cells 27)) 4 (.bool false)
    rw [World.size_alloc] at this
    rw [hw0]; exact this)
  have HN : Hid (∀ w', w0.grownBy w' none → _) := Lib.hid (fun w' h => new_ok c w' (hT.grown (grown_trans hg0 h)) hm)
  have HW : Hid (∀ w', w0.grownBy w' none → _) := Lib.hid (fun w' h => works_any w' (hT.grown (grown_trans hg0 h)))
  have HT := Lib.hid (fun w' (h : w0.grownBy w' none) => hT.grown (grown_trans hg0 h))
  have HM := Lib.hid hm
  have HG0 := Lib.hid hg0
  have HAT := Lib.hid (fun w' (h : w0.grownBy w' none) => hat.grown (grown_trans hg0 h))
  have HL := Lib.hid hlen
  have HW0 : Hid ((w.alloc (.cells c.cells 27)).alloc (.cells #[.bool false] 4) = w0) := Lib.hid hw0.symm
  clear hT hm hg0 hat hlen hw0
  unfold Cfg.cells at HN HW0 ⊢
  refine callsIn_of_wp_marks Tryd.func5 rfl trivial ?_ rfl
  simp only [Tryd.ntmps5, List.size_toArray, List.length_cons, List.length_nil, Nat.reduceAdd, Nat.reduceSub, Array.replicate_succ, Array.replicate_zero, List.push_toArray, List.append_toArray, List.nil_append, List.cons_append]
  gi_wp2_with (first
    | (rw [HW0.out]; gi_at_call 10; refine (callsIn_wide.2 (HW.out _ (grown_refl _ _))).mono ?_; rintro e w1 ⟨rfl, hg1⟩; have HG1 := Lib.hid hg1; have HC1 := Lib.hid (HCF.out.grown hg1); obtain ⟨c0, c1, c2, c3, c4, c5, c6, c7⟩ := HC1.out; clear hg1)
    | (gi_at_call 8; refine (callsIn_wide.2 (HN.out _ HG1.out)).mono ?_; rintro e w2 ⟨K, rfl, hc2, hg2, hf2⟩; have HR2 : Hid (Run w0 w2 K c (empty c)) := Lib.hid ⟨⟨hc2, grown_trans HG1.out hg2, fun k hk => Nat.le_trans HG1.out.size (hf2 k hk)⟩, Inv.empty c⟩; clear hc2 hg2 hf2 c0 c1 c2 c3 c4 c5 c6 c7))
  have hmm := @run_makeMap Tryd.prog
  refine wpIn_loop (fun a' w' => ∃ (u8 u9 u10 u11 u12 u29 u30 u31 u32 u33 u34 u35 u36 u37 u38 u39 u40 u41 u42 u43 u44 u45 u46 u47 u48 u49 u50 u51 u52 u53 u54 u55 u56 u57 u58 u59 u60 u61 u62 u63 u64 u65 u66 u67 u68 u69 u70 u71 u72 u73 u74 u75 u76 u77 u78 u79 u80 u81 u82 u83 u84 u85 u86 u87 u88 u89 u90 u91 u92 u93 u94 u95 u96 u97 u98 u99 u100 u101 u102 u103 u104 u105 u106 u107 : Value) (Ds : List Nat), (∃ (j : Nat) (ss : List St), j ≤ len ∧ u29 = .int .i64 (j : Int) ∧ Run w0 w' K c ss ∧ Marks w0.heap.size w' Ds) ∧ a' = { tmps := #[.agg #[.int .i64 c.co, .int .i64 c.se, .int .i64 c.wa, .int .i64 c.bl, .int .i64 c.lo, .int .i64 c.ba, .int .i64 c.ne, .int .i64 c.tr], .slice ad len cap, .pointer (some ⟨w.heap.size, 0, none⟩), undef, .pointer (some ⟨w.heap.size + 1, 0, none⟩), .pointer (some ⟨K.b, 0, none⟩), .int .i64 0, undef, u8, u9, u10, u11, u12, .bool true, .bool false, .slice ad len cap, .int .i64 (len : Int), .bool false, undef, .tuple #[.pointer (some ⟨K.b, 0, none⟩), .int .i64 0], .agg #[.int .i64 c.co, .int .i64 c.se, .int .i64 c.wa, .int .i64 c.bl, .int .i64 c.lo, .int .i64 c.ba, .int .i64 c.ne, .int .i64 c.tr], .tuple #[.pointer (some ⟨K.b, 0, none⟩), .int .i64 0], .pointer (some ⟨K.b, 0, none⟩), .int .i64 0, .int .i64 0, .bool false, undef, .slice ad len cap, .int .i64 (len : Int), u29, u30, u31, u32, u33, u34, u35, u36, u37, u38, u39, u40, u41, u42, u43, u44, u45, u46, u47, u48, u49, u50, u51, u52, u53, u54, u55, u56, u57, u58, u59, u60, u61, u62, u63, u64, u65, u66, u67, u68, u69, u70, u71, u72, u73, u74, u75, u76, u77, u78, u79, u80, u81, u82, u83, u84, u85, u86, u87, u88, u89, u90, u91, u92, u93, u94, u95, u96, u97, u98, u99, u100, u101, u102, u103, u104, u105, u106, u107], defers := Ds.map mark }) (fun a' _ => len - (intOf (a'.tmps.getD 29 undef)).toNat) ?_ ?_
  · exact ⟨_, _, _, _, _, _, _, _, _, _, _, _, _, _, _, _, _, _, _, _, _, _, _, _, _, _, _, _, _, _, _, _, _, _, _, _, _, _, _, _, _, _, _, _, _, _, _, _, _, _, _, _, _, _, _, _, _, _, _, _, _, _, _, _, _, _, _, _, _, _, _, _, _, _, _, _, _, _, _, _, _, _, _, _, [], ⟨0, _, Nat.zero_le _, rfl, HR2.out, ⟨List.nodup_nil, fun D hD => by cases hD⟩⟩, rfl⟩
  intro a' wr hinv
  obtain ⟨u8, hinv⟩ := hinv
  obtain ⟨u9, hinv⟩ := hinv
  obtain ⟨u10, hinv⟩ := hinv
  obtain ⟨u11, hinv⟩ := hinv
  obtain ⟨u12, hinv⟩ := hinv
  obtain ⟨u29, hinv⟩ := hinv
  obtain ⟨u30, hinv⟩ := hinv
  obtain ⟨u31, hinv⟩ := hinv
  obtain ⟨u32, hinv⟩ := hinv
  obtain ⟨u33, hinv⟩ := hinv
  obtain ⟨u34, hinv⟩ := hinv
  obtain ⟨u35, hinv⟩ := hinv
  obtain ⟨u36, hinv⟩ := hinv
  obtain ⟨u37, hinv⟩ := hinv
  obtain ⟨u38, hinv⟩ := hinv
  obtain ⟨u39, hinv⟩ := hinv
  obtain ⟨u40, hinv⟩ := hinv
  obtain ⟨u41, hinv⟩ := hinv
  obtain ⟨u42, hinv⟩ := hinv
  obtain ⟨u43, hinv⟩ := hinv
  obtain ⟨u44, hinv⟩ := hinv
  obtain ⟨u45, hinv⟩ := hinv
  obtain ⟨u46, hinv⟩ := hinv
  obtain ⟨u47, hinv⟩ := hinv
  obtain ⟨u48, hinv⟩ := hinv
  obtain ⟨u49, hinv⟩ := hinv
  obtain ⟨u50, hinv⟩ := hinv
  obtain ⟨u51, hinv⟩ := hinv
  obtain ⟨u52, hinv⟩ := hinv
  obtain ⟨u53, hinv⟩ := hinv
  obtain ⟨u54, hinv⟩ := hinv
  obtain ⟨u55, hinv⟩ := hinv
  obtain ⟨u56, hinv⟩ := hinv
  obtain ⟨u57, hinv⟩ := hinv
  obtain ⟨u58, hinv⟩ := hinv
  obtain ⟨u59, hinv⟩ := hinv
  obtain ⟨u60, hinv⟩ := hinv
  obtain ⟨u61, hinv⟩ := hinv
  obtain ⟨u62, hinv⟩ := hinv
  obtain ⟨u63, hinv⟩ := hinv
  obtain ⟨u64, hinv⟩ := hinv
  obtain ⟨u65, hinv⟩ := hinv
  obtain ⟨u66, hinv⟩ := hinv
  obtain ⟨u67, hinv⟩ := hinv
  obtain ⟨u68, hinv⟩ := hinv
  obtain ⟨u69, hinv⟩ := hinv
  obtain ⟨u70, hinv⟩ := hinv
  obtain ⟨u71, hinv⟩ := hinv
  obtain ⟨u72, hinv⟩ := hinv
  obtain ⟨u73, hinv⟩ := hinv
  obtain ⟨u74, hinv⟩ := hinv
  obtain ⟨u75, hinv⟩ := hinv
  obtain ⟨u76, hinv⟩ := hinv
  obtain ⟨u77, hinv⟩ := hinv
  obtain ⟨u78, hinv⟩ := hinv
  obtain ⟨u79, hinv⟩ := hinv
  obtain ⟨u80, hinv⟩ := hinv
  obtain ⟨u81, hinv⟩ := hinv
  obtain ⟨u82, hinv⟩ := hinv
  obtain ⟨u83, hinv⟩ := hinv
  obtain ⟨u84, hinv⟩ := hinv
  obtain ⟨u85, hinv⟩ := hinv
  obtain ⟨u86, hinv⟩ := hinv
  obtain ⟨u87, hinv⟩ := hinv
  obtain ⟨u88, hinv⟩ := hinv
  obtain ⟨u89, hinv⟩ := hinv
  obtain ⟨u90, hinv⟩ := hinv
  obtain ⟨u91, hinv⟩ := hinv
  obtain ⟨u92, hinv⟩ := hinv
  obtain ⟨u93, hinv⟩ := hinv
  obtain ⟨u94, hinv⟩ := hinv
  obtain ⟨u95, hinv⟩ := hinv
  obtain ⟨u96, hinv⟩ := hinv
  obtain ⟨u97, hinv⟩ := hinv
  obtain ⟨u98, hinv⟩ := hinv
  obtain ⟨u99, hinv⟩ := hinv
  obtain ⟨u100, hinv⟩ := hinv
  obtain ⟨u101, hinv⟩ := hinv
  obtain ⟨u102, hinv⟩ := hinv
  obtain ⟨u103, hinv⟩ := hinv
  obtain ⟨u104, hinv⟩ := hinv
  obtain ⟨u105, hinv⟩ := hinv
  obtain ⟨u106, hinv⟩ := hinv
  obtain ⟨u107, hinv⟩ := hinv
  obtain ⟨Ds, hrel, ha⟩ := hinv
  subst ha
  try dsimp only
  obtain ⟨j, ss, hj, rfl, hr, hmk⟩ := hrel
  clear HR2
  have HR := Lib.hid hr
  have HMK := Lib.hid hmk
  obtain ⟨ds, hds⟩ : ∃ ds, ds = Ds.map mark := ⟨_, rfl⟩
  have HDS := Lib.hid hds
  rw [← hds]
  by_cases hlt : j < len
  · obtain ⟨q, hq⟩ : ∃ q, os[j]? = some q := ⟨_, List.getElem?_eq_getElem (by have := HL.out; omega)⟩
    obtain ⟨g, off, rfl, d0, d1, d2, d3, d4⟩ := (HAT.out _ hr.go.grown) j q hq
    have HB : Hid (wr.grownBy (wr.alloc (.cells #[.int .i64 q.kind, .int .i64 q.b, .int .i64 q.wd, .int .u8 q.s, .int .u32 q.x] 50)) none) := Lib.hid (grown_alloc (grown_refl _ _) _)
    have HRB := Lib.hid (hr.more HB.out)
    clear hr hq hmk hds
    by_cases k0 : q.kind = 0
    · have ek : (q.kind == 0) = true := by simp [k0]
      clear k0
      gi_wp2_with (first
        | (gi_at_call 12; refine (callsIn_wide.2 (line_any q.b q.s _)).mono ?_; rintro e w3 ⟨rfl, hg3⟩; have HR3 := Lib.hid (HRB.out.more hg3); have HK3 : Hid (Kept K.own wr w3) := Lib.hid ((Kept.of HB.out).trans (Kept.of hg3)); clear hg3)
        | (gi_at_call 11; refine (callsIn_wide.2 (put_any K c ss _ HR3.out.go.cac (HT.out _ HR3.out.go.grown) (mk q.b q.s))).mono ?_; rintro e w4 ⟨rfl, hc4, hk4⟩; have HR4 := Lib.hid (HR3.out.next hc4 hk4 (HR3.out.inv.cput HR3.out.at _)); have HK4 := Lib.hid (HK3.out.trans hk4); clear hc4 hk4)
        | (gi_at_call 26; refine (all_in _ _ _).mono ?_; rintro e w5 ⟨rfl, rfl⟩))
      obtain ⟨s4, HR5⟩ : ∃ s4, Hid (Run w0 w4 K c s4) := ⟨_, HR4⟩
      clear HR4
      skip
      have HMK4 : Hid (Marks w0.heap.size w4 Ds) := Lib.hid (HMK.out.kept HR.out.go.cac HK4.out)
      obtain ⟨A, hA⟩ : ∃ A, A = w4.heap.size := ⟨_, rfl⟩
      have HAS : Hid (A = w4.heap.size) := Lib.hid hA
      skip
      rw [← hA]
      clear hA
      obtain ⟨W1, hW1⟩ : ∃ W1, W1 = ((((w4.alloc (.map #[] 0)).alloc (.map #[] 0)).alloc (.cells #[.map (some A)] 61)).alloc (.cells #[.map (some (A + 1))] 62)).alloc (.cells #[.pointer (some ⟨K.b, 0, none⟩)] 22) := ⟨_, rfl⟩
      obtain ⟨⟨hm1, hm2⟩, ⟨hb1, hb2⟩, hcb, hgw, hsw⟩ := sets_world w4 K.b A HAS.out hW1
      rw [← hW1]
      clear hW1
      have hKA : ∀ k, K.any k → k < A := fun k hk => by have := HR5.out.go.cac.lt hk; have := HAS.out; omega
      have HKA := Lib.hid hKA
      have HGW := Lib.hid hgw
      have HSW := Lib.hid hsw
      refine rf_sets K c s4 (told s4).length rfl A (HR5.out.go.cac.grown hgw) hKA hm1 hm2 hb1 hb2 hcb hsw rfl ?_ ?_ ?_
      all_goals clear hm1 hm2 hb1 hb2 hcb hKA hgw
      · intro l x W K' hK'
        have HK := Lib.hid hK'
        clear hK' hsw
        unfold frameOf at HK
        simp only [List.setIfInBounds_toArray, List.set_cons_succ, List.set_cons_zero] at HK ⊢
        gi_wp2_with (first
          | ((with_reducible refine store_newI (lineOf s4 x) 11 72 ?_ ?_ ?_); (rfl); (rfl)))
        exact HK.out
      · rintro l pre x W B ⟨⟨f, g', hm1, hm2, h3, h4⟩, hsi⟩ hB hl hlen
        have hgB : w4.grownBy W none := grown_below HAS.out HGW.out hsi.below
        have HRW := Lib.hid (HR5.out.more hgB)
        have hmay : (lineOf s4 x).may := told_may HR5.out.inv (told_at rfl x)
        have hl64 := told_64 HR5.out.go.cac
        obtain ⟨c0, c1, c2, c3, c4, c5, c6, c7⟩ := HCF.out.grown HRW.out.go.grown
        have l0 : W.cell? ⟨B, 0, none⟩ = some (.int .i64 (lineOf s4 x).b) := (cell_of_row _ _ _ _ _ _ hl).trans rfl
        have l1 : W.cell? ⟨B, 1, none⟩ = some (.int .u8 (lineOf s4 x).s) := (cell_of_row _ _ _ _ _ _ hl).trans rfl
        have t9 := hsi.b1.cell
        have t10 := hsi.b2.cell
        have HBW := Lib.hid (box_grow HBX.out HRW.out.go.grown)
        have hdm1 : decide ((lineOf s4 x).s < 1) = false := by have := hmay.2.1; simp; omega
        have hdm2 : decide (3 < (lineOf s4 x).s) = false := by have := hmay.2.2; simp; omega
        have hn : 0 ≤ (g' (setOf c (lineOf s4 x).b : Int)).getD 0 ∧ (g' (setOf c (lineOf s4 x).b : Int)).getD 0 ≤ 64 := by
          cases e : g' (setOf c (lineOf s4 x).b : Int) with
          | none => simp
          | some v => have := h3 _ _ e; simp; omega
        have HSA := Lib.hid (set_any c (lineOf s4 x).b W (HT.out _ HRW.out.go.grown) HM.out)
        have HP : Hid (pre ++ [x] <+: List.finRange (told s4).length → (f (lineOf s4 x).b).getD false = false ∧ (g' (setOf c (lineOf s4 x).b : Int)).getD 0 + 1 ≤ c.wa) := Lib.hid fun hp => by
          obtain ⟨e1, e2⟩ := h4 ((List.prefix_append pre [x]).trans hp)
          have r1 := came_new rfl HR5.out.inv hp
          have r2 := came_room rfl HR5.out.go.cac HR5.out.inv hp
          rw [e1, e2, manyF_get]
          exact ⟨by show (seenF (came s4 pre) ((told s4).getD x.val zl).b).getD false = false; rw [r1]; rfl, r2⟩
        have HNX : Hid (∀ W', MapAt W' A (mput (vb f) (lineOf s4 x).b (.bool true)) → MapAt W' (A + 1) (mput (vi g') (setOf c (lineOf s4 x).b : Int) (.int .i64 ((g' (setOf c (lineOf s4 x).b : Int)).getD 0 + 1))) → SI A W1 W' → IM c s4 A W1 (pre ++ [x]) W') := Lib.hid fun W' a1 a2 a3 => IM.next (W := W) h3 h4 a1 a2 a3
        have HM1 := Lib.hid hm1
        have HM2 := Lib.hid hm2
        have HSI := Lib.hid hsi
        have HLN := Lib.hid hl
        have HSZ := Lib.hid hsi.below.size
        obtain ⟨lb, hlb⟩ : ∃ lb, lb = (lineOf s4 x).b := ⟨_, rfl⟩
        obtain ⟨ls, hls⟩ : ∃ ls, ls = (lineOf s4 x).s := ⟨_, rfl⟩
        obtain ⟨s, hss⟩ : ∃ s, s = setOf c (lineOf s4 x).b := ⟨_, rfl⟩
        rw [← hss] at hn HSA HP HNX
        rw [← hlb] at l0 HSA HP HNX
        rw [← hls] at l1 hdm1 hdm2
        obtain ⟨n, hnn⟩ : ∃ n, n = (g' (s : Int)).getD 0 := ⟨_, rfl⟩
        obtain ⟨v, hv⟩ : ∃ v, v = (f lb).getD false := ⟨_, rfl⟩
        rw [← hnn] at hn HP HNX
        rw [← hv] at HP
        have HV := Lib.hid hv
        have HNN := Lib.hid hnn
        have HLB := Lib.hid hlb
        have HLS := Lib.hid hls
        have r62 := HNN.out ▸ look62 hm2 (s : Int)
        unfold Cfg.cells at HSA
        clear hm1 hm2 h3 h4 hsi hl hmay hlen hv hnn hlb hls hss hgB hsw hl64
        unfold frameOf
        simp only [List.setIfInBounds_toArray, List.set_cons_succ, List.set_cons_zero]
        have HG67 : Hid (∀ w6 w7, W.grownBy w6 none → w6.grownBy w7 (some (A + 1)) → KeepsFrom W1.heap.size W w7 ∧ SameK K W w7 ∧ SI A W1 w7 ∧ Boxed w7 (w.heap.size + 1) 4 (.bool false) ∧ CfgAt w7 w.heap.size c ∧ (w7.cell? ⟨B, 0, none⟩ = some (.int .i64 lb) ∧ w7.cell? ⟨B, 1, none⟩ = some (.int .u8 ls)) ∧ MapAt w7 A (vb f) ∧ w7.heap.size ≥ W.heap.size) := Lib.hid fun w6 w7 a1 a2 => by
          have hsz := HSZ.out
          have has := HAS.out
          have hsw := HSW.out
          have hw0 := HR5.out.go.grown.size
          have hA1 : A + 1 < W1.heap.size := by omega
          have hk : ∀ k, k < W.heap.size → k ≠ A + 1 → w7.heap[k]? = W.heap[k]? := fun k h1 h2 => (a2.block k (Nat.lt_of_lt_of_le h1 a1.size) (fun e => h2 (Option.some.inj e))).trans (a1.block k h1 (by simp))
          have hcell : ∀ (k i : Nat) v, k ≠ A + 1 → W.cell? ⟨k, i, none⟩ = some v → w7.cell? ⟨k, i, none⟩ = some v := fun k i v h1 h2 => by
            rw [World.cell?_of_block (w := W) (a := ⟨k, i, none⟩) (hk k (World.block_lt_of_cell? W ⟨k, i, none⟩ h2) h1)]; exact h2
          have hcf := HCF.out.grown HRW.out.go.grown
          have hne : w.heap.size ≠ A + 1 := by omega
          refine ⟨(KeepsFrom.of_grownBy a1 (fun j e => by cases e)).trans (KeepsFrom.of_grownBy a2 (fun j e => by have := Option.some.inj e; omega)), fun k hk' => hk k (by have := HKA.out k hk'; omega) (by have := HKA.out k hk'; omega), (HSI.out.more a1 (by omega) (fun k e => by cases e)).more a2 (by have := a1.size; omega) (fun k e => by have := Option.some.inj e; omega), (hk _ (by omega) (by omega)).trans HBW.out,
            ⟨hcell _ _ _ hne hcf.c0, hcell _ _ _ hne hcf.c1, hcell _ _ _ hne hcf.c2, hcell _ _ _ hne hcf.c3, hcell _ _ _ hne hcf.c4, hcell _ _ _ hne hcf.c5, hcell _ _ _ hne hcf.c6, hcell _ _ _ hne hcf.c7⟩, ⟨hcell _ _ _ (by omega) l0, hcell _ _ _ (by omega) l1⟩, HM1.out.same (hk A (by omega) (by omega)), Nat.le_trans a1.size a2.size⟩
        by_cases hv : v = true
        · subst hv
          gi_wp2_with (first
            | (gi_at_call 27; refine (CallsIn.inRound l (callsIn_wide.2 HSA.out)).mono ?_; rintro e w6 ⟨rfl, hg6⟩; have HG6 := Lib.hid hg6; have t10' := (HSI.out.more hg6 (by have := HSZ.out; have := HSW.out; omega) (fun k e => by cases e)).b2.cell; have r62 := HNN.out ▸ look62 (HM2.out.same (hg6.block _ HM2.out.lt (by simp))) (s : Int); have HM26 := Lib.hid (HM2.out.same (hg6.block _ HM2.out.lt (by simp))); clear hg6 t10)
            | ((with_reducible refine map_storeI 62 3 Tryd.underlying62 Tryd.underlying3 (.tmp 77) (.tmp 78) (.tmp 80) (A + 1) (vi g') (s : Int) (.int .i64 (n + 1)) ?_ ?_ ?_ HM26.out ?_); (rfl); (rfl); (rfl); intro w7 hm7 hg7; obtain ⟨x1, x2, x3, x4, ⟨c0, c1, c2, c3, c4, c5, c6, c7⟩, ⟨l0, l1⟩, x7, x8⟩ := HG67.out w6 w7 HG6.out hg7; have t9' := x3.b1.cell; have t10'' := x3.b2.cell; have r61 : (Instr.lookup 61 (.map (some A)) (.int .i64 lb) false).run Tryd.prog w7 = .ok (.bool true) w7 := (by rw [look61 x7 lb, ← HV.out]);  have hbc := Go.Boxed.cell x4; have hbf := Go.Boxed.frozen x4; have HX := Lib.hid x1;  clear hm7 hg7 x1 x2 x3 x4 x7 x8))
          exact ⟨HX.out.trans ((KeepsOthers.setCell _ _ _).from _), rfl, fun hp => by have := (HP.out hp).1; cases this⟩
        · have hv' : v = false := by simpa using hv
          subst hv'
          clear hv
          by_cases hw : c.wa < n + 1
          · have hdw : decide (c.wa < n + 1) = true := by simp; omega
            gi_wp2_with (first
              | (gi_at_call 27; refine (CallsIn.inRound l (callsIn_wide.2 HSA.out)).mono ?_; rintro e w6 ⟨rfl, hg6⟩; have HG6 := Lib.hid hg6; have t10' := (HSI.out.more hg6 (by have := HSZ.out; have := HSW.out; omega) (fun k e => by cases e)).b2.cell; have r62 := HNN.out ▸ look62 (HM2.out.same (hg6.block _ HM2.out.lt (by simp))) (s : Int); have HM26 := Lib.hid (HM2.out.same (hg6.block _ HM2.out.lt (by simp))); clear hg6 t10)
              | ((with_reducible refine map_storeI 62 3 Tryd.underlying62 Tryd.underlying3 (.tmp 77) (.tmp 78) (.tmp 80) (A + 1) (vi g') (s : Int) (.int .i64 (n + 1)) ?_ ?_ ?_ HM26.out ?_); (rfl); (rfl); (rfl); intro w7 hm7 hg7; obtain ⟨x1, x2, x3, x4, ⟨c0, c1, c2, c3, c4, c5, c6, c7⟩, ⟨l0, l1⟩, x7, x8⟩ := HG67.out w6 w7 HG6.out hg7; have t9' := x3.b1.cell; have t10'' := x3.b2.cell; have r61 : (Instr.lookup 61 (.map (some A)) (.int .i64 lb) false).run Tryd.prog w7 = .ok (.bool false) w7 := (by rw [look61 x7 lb, ← HV.out]); have r62b : (Instr.lookup 62 (.map (some (A + 1))) (.int .i64 (s : Int)) false).run Tryd.prog w7 = .ok (.int .i64 (n + 1)) w7 := (by rw [run_lookup_map Tryd.underlying62 Tryd.underlying3 hm7 (zero3 w7) (s : Int)]; simp [mput]); have hbc := Go.Boxed.cell x4; have hbf := Go.Boxed.frozen x4; have HX := Lib.hid x1;  clear hm7 hg7 x1 x2 x3 x4 x7 x8))
            exact ⟨HX.out.trans ((KeepsOthers.setCell _ _ _).from _), rfl, fun hp => by have := (HP.out hp).2; omega⟩
          · have hdw : decide (c.wa < n + 1) = false := by simp; omega
            gi_wp2_with (first
              | (gi_at_call 27; refine (CallsIn.inRound l (callsIn_wide.2 HSA.out)).mono ?_; rintro e w6 ⟨rfl, hg6⟩; have HG6 := Lib.hid hg6; have t10' := (HSI.out.more hg6 (by have := HSZ.out; have := HSW.out; omega) (fun k e => by cases e)).b2.cell; have r62 := HNN.out ▸ look62 (HM2.out.same (hg6.block _ HM2.out.lt (by simp))) (s : Int); have HM26 := Lib.hid (HM2.out.same (hg6.block _ HM2.out.lt (by simp))); clear hg6 t10)
              | ((with_reducible refine map_storeI 62 3 Tryd.underlying62 Tryd.underlying3 (.tmp 77) (.tmp 78) (.tmp 80) (A + 1) (vi g') (s : Int) (.int .i64 (n + 1)) ?_ ?_ ?_ HM26.out ?_); (rfl); (rfl); (rfl); intro w7 hm7 hg7; obtain ⟨x1, x2, x3, x4, ⟨c0, c1, c2, c3, c4, c5, c6, c7⟩, ⟨l0, l1⟩, x7, x8⟩ := HG67.out w6 w7 HG6.out hg7; have t9' := x3.b1.cell; have t10'' := x3.b2.cell; have r61 : (Instr.lookup 61 (.map (some A)) (.int .i64 lb) false).run Tryd.prog w7 = .ok (.bool false) w7 := (by rw [look61 x7 lb, ← HV.out]); have r62b : (Instr.lookup 62 (.map (some (A + 1))) (.int .i64 (s : Int)) false).run Tryd.prog w7 = .ok (.int .i64 (n + 1)) w7 := (by rw [run_lookup_map Tryd.underlying62 Tryd.underlying3 hm7 (zero3 w7) (s : Int)]; simp [mput]); have hbc := Go.Boxed.cell x4; have hbf := Go.Boxed.frozen x4; have HX := Lib.hid x1; have HSK := Lib.hid x2; have HS7 := Lib.hid x3; have HM7 := Lib.hid hm7; have HF7 := Lib.hid x7; have HZ7 := Lib.hid x8; clear hm7 hg7 x1 x2 x3 x4 x7 x8)
              | ((with_reducible refine map_storeI 61 4 Tryd.underlying61 Tryd.underlying3 (.tmp 103) (.tmp 105) (.const (.bool true)) A (vb f) lb (.bool true) ?_ ?_ ?_ HF7.out ?_); (rfl); (rfl); (rfl); intro w8 hm8 hg8; have HM8 := Lib.hid hm8; have HG8 := Lib.hid hg8; clear hm8 hg8))
            have hsz := HSZ.out
            have hsw := HSW.out
            have h7 := HZ7.out
            refine ⟨HX.out.trans (KeepsFrom.of_grownBy HG8.out (fun j e => by have := Option.some.inj e; omega)), HSK.out.trans (fun k hk' => HG8.out.block k (by have := HKA.out k hk'; omega) (fun e => by have := HKA.out k hk'; have := Option.some.inj e; omega)), ?_⟩
            exact HNX.out w8 HM8.out (HM7.out.same (HG8.out.block _ (by omega) (fun e => by have := Option.some.inj e; omega))) (HS7.out.more HG8.out (by omega) (fun k e => by have := Option.some.inj e; omega))
      · intro D W hD hbel hdef
        have hgB : w4.grownBy W none := grown_below HAS.out HGW.out hbel
        have HRW := Lib.hid (HR5.out.more hgB)
        have HMW : Hid (Marks w0.heap.size W (D :: Ds)) := Lib.hid ((HMK4.out.grown hgB).cons hdef (by have := HR5.out.go.grown.size; have := HAS.out; omega) (fun D' hD' => by have := lt_of (HMK4.out.at_ D' hD').2; have := HAS.out; omega))
        clear hD hbel hdef hgB hsw
        gi_wp2
        rw [HDS.out]
        refine ⟨⟨_, _, _, _, _, _, _, _, _, _, _, _, _, _, _, _, _, _, _, _, _, _, _, _, _, _, _, _, _, _, _, _, _, _, _, _, _, _, _, _, _, _, _, _, _, _, _, _, _, _, _, _, _, _, _, _, _, _, _, _, _, _, _, _, _, _, _, _, _, _, _, _, _, _, _, _, _, _, _, _, _, _, _, _, D :: Ds, ⟨j + 1, s4, by omega, by go_num, HRW.out, HMW.out⟩, rfl⟩, ?_⟩
        simp [intOf]; omega
    have e0 : (q.kind == 0) = false := by simp [k0]
    clear k0
    by_cases k1 : q.kind = 1
    · have e1 : (q.kind == 1) = true := by simp [k1]
      clear k1
      gi_wp2_with (first
        | (gi_at_call 15; refine (callsIn_wide.2 (drop_any K c ss _ HRB.out.go.cac (HT.out _ HRB.out.go.grown) q.b)).mono ?_; rintro e w4 ⟨rfl, hc4, hk4⟩; have HR4 := Lib.hid (HRB.out.next hc4 hk4 (HRB.out.inv.cdrop HRB.out.at _)); have HK4 : Hid (Kept K.own wr w4) := Lib.hid ((Kept.of HB.out).trans hk4); clear hc4 hk4)
        | (gi_at_call 26; refine (all_in _ _ _).mono ?_; rintro e w5 ⟨rfl, rfl⟩))
      obtain ⟨s4, HR5⟩ : ∃ s4, Hid (Run w0 w4 K c s4) := ⟨_, HR4⟩
      clear HR4
      skip
      have HMK4 : Hid (Marks w0.heap.size w4 Ds) := Lib.hid (HMK.out.kept HR.out.go.cac HK4.out)
      obtain ⟨A, hA⟩ : ∃ A, A = w4.heap.size := ⟨_, rfl⟩
      have HAS : Hid (A = w4.heap.size) := Lib.hid hA
      skip
      rw [← hA]
      clear hA
      obtain ⟨W1, hW1⟩ : ∃ W1, W1 = ((((w4.alloc (.map #[] 0)).alloc (.map #[] 0)).alloc (.cells #[.map (some A)] 61)).alloc (.cells #[.map (some (A + 1))] 62)).alloc (.cells #[.pointer (some ⟨K.b, 0, none⟩)] 22) := ⟨_, rfl⟩
      obtain ⟨⟨hm1, hm2⟩, ⟨hb1, hb2⟩, hcb, hgw, hsw⟩ := sets_world w4 K.b A HAS.out hW1
      rw [← hW1]
      clear hW1
      have hKA : ∀ k, K.any k → k < A := fun k hk => by have := HR5.out.go.cac.lt hk; have := HAS.out; omega
      have HKA := Lib.hid hKA
      have HGW := Lib.hid hgw
      have HSW := Lib.hid hsw
      refine rf_sets K c s4 (told s4).length rfl A (HR5.out.go.cac.grown hgw) hKA hm1 hm2 hb1 hb2 hcb hsw rfl ?_ ?_ ?_
      all_goals clear hm1 hm2 hb1 hb2 hcb hKA hgw
      · intro l x W K' hK'
        have HK := Lib.hid hK'
        clear hK' hsw
        unfold frameOf at HK
        simp only [List.setIfInBounds_toArray, List.set_cons_succ, List.set_cons_zero] at HK ⊢
        gi_wp2_with (first
          | ((with_reducible refine store_newI (lineOf s4 x) 11 72 ?_ ?_ ?_); (rfl); (rfl)))
        exact HK.out
      · rintro l pre x W B ⟨⟨f, g', hm1, hm2, h3, h4⟩, hsi⟩ hB hl hlen
        have hgB : w4.grownBy W none := grown_below HAS.out HGW.out hsi.below
        have HRW := Lib.hid (HR5.out.more hgB)
        have hmay : (lineOf s4 x).may := told_may HR5.out.inv (told_at rfl x)
        have hl64 := told_64 HR5.out.go.cac
        obtain ⟨c0, c1, c2, c3, c4, c5, c6, c7⟩ := HCF.out.grown HRW.out.go.grown
        have l0 : W.cell? ⟨B, 0, none⟩ = some (.int .i64 (lineOf s4 x).b) := (cell_of_row _ _ _ _ _ _ hl).trans rfl
        have l1 : W.cell? ⟨B, 1, none⟩ = some (.int .u8 (lineOf s4 x).s) := (cell_of_row _ _ _ _ _ _ hl).trans rfl
        have t9 := hsi.b1.cell
        have t10 := hsi.b2.cell
        have HBW := Lib.hid (box_grow HBX.out HRW.out.go.grown)
        have hdm1 : decide ((lineOf s4 x).s < 1) = false := by have := hmay.2.1; simp; omega
        have hdm2 : decide (3 < (lineOf s4 x).s) = false := by have := hmay.2.2; simp; omega
        have hn : 0 ≤ (g' (setOf c (lineOf s4 x).b : Int)).getD 0 ∧ (g' (setOf c (lineOf s4 x).b : Int)).getD 0 ≤ 64 := by
          cases e : g' (setOf c (lineOf s4 x).b : Int) with
          | none => simp
          | some v => have := h3 _ _ e; simp; omega
        have HSA := Lib.hid (set_any c (lineOf s4 x).b W (HT.out _ HRW.out.go.grown) HM.out)
        have HP : Hid (pre ++ [x] <+: List.finRange (told s4).length → (f (lineOf s4 x).b).getD false = false ∧ (g' (setOf c (lineOf s4 x).b : Int)).getD 0 + 1 ≤ c.wa) := Lib.hid fun hp => by
          obtain ⟨e1, e2⟩ := h4 ((List.prefix_append pre [x]).trans hp)
          have r1 := came_new rfl HR5.out.inv hp
          have r2 := came_room rfl HR5.out.go.cac HR5.out.inv hp
          rw [e1, e2, manyF_get]
          exact ⟨by show (seenF (came s4 pre) ((told s4).getD x.val zl).b).getD false = false; rw [r1]; rfl, r2⟩
        have HNX : Hid (∀ W', MapAt W' A (mput (vb f) (lineOf s4 x).b (.bool true)) → MapAt W' (A + 1) (mput (vi g') (setOf c (lineOf s4 x).b : Int) (.int .i64 ((g' (setOf c (lineOf s4 x).b : Int)).getD 0 + 1))) → SI A W1 W' → IM c s4 A W1 (pre ++ [x]) W') := Lib.hid fun W' a1 a2 a3 => IM.next (W := W) h3 h4 a1 a2 a3
        have HM1 := Lib.hid hm1
        have HM2 := Lib.hid hm2
        have HSI := Lib.hid hsi
        have HLN := Lib.hid hl
        have HSZ := Lib.hid hsi.below.size
        obtain ⟨lb, hlb⟩ : ∃ lb, lb = (lineOf s4 x).b := ⟨_, rfl⟩
        obtain ⟨ls, hls⟩ : ∃ ls, ls = (lineOf s4 x).s := ⟨_, rfl⟩
        obtain ⟨s, hss⟩ : ∃ s, s = setOf c (lineOf s4 x).b := ⟨_, rfl⟩
        rw [← hss] at hn HSA HP HNX
        rw [← hlb] at l0 HSA HP HNX
        rw [← hls] at l1 hdm1 hdm2
        obtain ⟨n, hnn⟩ : ∃ n, n = (g' (s : Int)).getD 0 := ⟨_, rfl⟩
        obtain ⟨v, hv⟩ : ∃ v, v = (f lb).getD false := ⟨_, rfl⟩
        rw [← hnn] at hn HP HNX
        rw [← hv] at HP
        have HV := Lib.hid hv
        have HNN := Lib.hid hnn
        have HLB := Lib.hid hlb
        have HLS := Lib.hid hls
        have r62 := HNN.out ▸ look62 hm2 (s : Int)
        unfold Cfg.cells at HSA
        clear hm1 hm2 h3 h4 hsi hl hmay hlen hv hnn hlb hls hss hgB hsw hl64
        unfold frameOf
        simp only [List.setIfInBounds_toArray, List.set_cons_succ, List.set_cons_zero]
        have HG67 : Hid (∀ w6 w7, W.grownBy w6 none → w6.grownBy w7 (some (A + 1)) → KeepsFrom W1.heap.size W w7 ∧ SameK K W w7 ∧ SI A W1 w7 ∧ Boxed w7 (w.heap.size + 1) 4 (.bool false) ∧ CfgAt w7 w.heap.size c ∧ (w7.cell? ⟨B, 0, none⟩ = some (.int .i64 lb) ∧ w7.cell? ⟨B, 1, none⟩ = some (.int .u8 ls)) ∧ MapAt w7 A (vb f) ∧ w7.heap.size ≥ W.heap.size) := Lib.hid fun w6 w7 a1 a2 => by
          have hsz := HSZ.out
          have has := HAS.out
          have hsw := HSW.out
          have hw0 := HR5.out.go.grown.size
          have hA1 : A + 1 < W1.heap.size := by omega
          have hk : ∀ k, k < W.heap.size → k ≠ A + 1 → w7.heap[k]? = W.heap[k]? := fun k h1 h2 => (a2.block k (Nat.lt_of_lt_of_le h1 a1.size) (fun e => h2 (Option.some.inj e))).trans (a1.block k h1 (by simp))
          have hcell : ∀ (k i : Nat) v, k ≠ A + 1 → W.cell? ⟨k, i, none⟩ = some v → w7.cell? ⟨k, i, none⟩ = some v := fun k i v h1 h2 => by
            rw [World.cell?_of_block (w := W) (a := ⟨k, i, none⟩) (hk k (World.block_lt_of_cell? W ⟨k, i, none⟩ h2) h1)]; exact h2
          have hcf := HCF.out.grown HRW.out.go.grown
          have hne : w.heap.size ≠ A + 1 := by omega
          refine ⟨(KeepsFrom.of_grownBy a1 (fun j e => by cases e)).trans (KeepsFrom.of_grownBy a2 (fun j e => by have := Option.some.inj e; omega)), fun k hk' => hk k (by have := HKA.out k hk'; omega) (by have := HKA.out k hk'; omega), (HSI.out.more a1 (by omega) (fun k e => by cases e)).more a2 (by have := a1.size; omega) (fun k e => by have := Option.some.inj e; omega), (hk _ (by omega) (by omega)).trans HBW.out,
            ⟨hcell _ _ _ hne hcf.c0, hcell _ _ _ hne hcf.c1, hcell _ _ _ hne hcf.c2, hcell _ _ _ hne hcf.c3, hcell _ _ _ hne hcf.c4, hcell _ _ _ hne hcf.c5, hcell _ _ _ hne hcf.c6, hcell _ _ _ hne hcf.c7⟩, ⟨hcell _ _ _ (by omega) l0, hcell _ _ _ (by omega) l1⟩, HM1.out.same (hk A (by omega) (by omega)), Nat.le_trans a1.size a2.size⟩
        by_cases hv : v = true
        · subst hv
          gi_wp2_with (first
            | (gi_at_call 27; refine (CallsIn.inRound l (callsIn_wide.2 HSA.out)).mono ?_; rintro e w6 ⟨rfl, hg6⟩; have HG6 := Lib.hid hg6; have t10' := (HSI.out.more hg6 (by have := HSZ.out; have := HSW.out; omega) (fun k e => by cases e)).b2.cell; have r62 := HNN.out ▸ look62 (HM2.out.same (hg6.block _ HM2.out.lt (by simp))) (s : Int); have HM26 := Lib.hid (HM2.out.same (hg6.block _ HM2.out.lt (by simp))); clear hg6 t10)
            | ((with_reducible refine map_storeI 62 3 Tryd.underlying62 Tryd.underlying3 (.tmp 77) (.tmp 78) (.tmp 80) (A + 1) (vi g') (s : Int) (.int .i64 (n + 1)) ?_ ?_ ?_ HM26.out ?_); (rfl); (rfl); (rfl); intro w7 hm7 hg7; obtain ⟨x1, x2, x3, x4, ⟨c0, c1, c2, c3, c4, c5, c6, c7⟩, ⟨l0, l1⟩, x7, x8⟩ := HG67.out w6 w7 HG6.out hg7; have t9' := x3.b1.cell; have t10'' := x3.b2.cell; have r61 : (Instr.lookup 61 (.map (some A)) (.int .i64 lb) false).run Tryd.prog w7 = .ok (.bool true) w7 := (by rw [look61 x7 lb, ← HV.out]);  have hbc := Go.Boxed.cell x4; have hbf := Go.Boxed.frozen x4; have HX := Lib.hid x1;  clear hm7 hg7 x1 x2 x3 x4 x7 x8))
          exact ⟨HX.out.trans ((KeepsOthers.setCell _ _ _).from _), rfl, fun hp => by have := (HP.out hp).1; cases this⟩
        · have hv' : v = false := by simpa using hv
          subst hv'
          clear hv
          by_cases hw : c.wa < n + 1
          · have hdw : decide (c.wa < n + 1) = true := by simp; omega
            gi_wp2_with (first
              | (gi_at_call 27; refine (CallsIn.inRound l (callsIn_wide.2 HSA.out)).mono ?_; rintro e w6 ⟨rfl, hg6⟩; have HG6 := Lib.hid hg6; have t10' := (HSI.out.more hg6 (by have := HSZ.out; have := HSW.out; omega) (fun k e => by cases e)).b2.cell; have r62 := HNN.out ▸ look62 (HM2.out.same (hg6.block _ HM2.out.lt (by simp))) (s : Int); have HM26 := Lib.hid (HM2.out.same (hg6.block _ HM2.out.lt (by simp))); clear hg6 t10)
              | ((with_reducible refine map_storeI 62 3 Tryd.underlying62 Tryd.underlying3 (.tmp 77) (.tmp 78) (.tmp 80) (A + 1) (vi g') (s : Int) (.int .i64 (n + 1)) ?_ ?_ ?_ HM26.out ?_); (rfl); (rfl); (rfl); intro w7 hm7 hg7; obtain ⟨x1, x2, x3, x4, ⟨c0, c1, c2, c3, c4, c5, c6, c7⟩, ⟨l0, l1⟩, x7, x8⟩ := HG67.out w6 w7 HG6.out hg7; have t9' := x3.b1.cell; have t10'' := x3.b2.cell; have r61 : (Instr.lookup 61 (.map (some A)) (.int .i64 lb) false).run Tryd.prog w7 = .ok (.bool false) w7 := (by rw [look61 x7 lb, ← HV.out]); have r62b : (Instr.lookup 62 (.map (some (A + 1))) (.int .i64 (s : Int)) false).run Tryd.prog w7 = .ok (.int .i64 (n + 1)) w7 := (by rw [run_lookup_map Tryd.underlying62 Tryd.underlying3 hm7 (zero3 w7) (s : Int)]; simp [mput]); have hbc := Go.Boxed.cell x4; have hbf := Go.Boxed.frozen x4; have HX := Lib.hid x1;  clear hm7 hg7 x1 x2 x3 x4 x7 x8))
            exact ⟨HX.out.trans ((KeepsOthers.setCell _ _ _).from _), rfl, fun hp => by have := (HP.out hp).2; omega⟩
          · have hdw : decide (c.wa < n + 1) = false := by simp; omega
            gi_wp2_with (first
              | (gi_at_call 27; refine (CallsIn.inRound l (callsIn_wide.2 HSA.out)).mono ?_; rintro e w6 ⟨rfl, hg6⟩; have HG6 := Lib.hid hg6; have t10' := (HSI.out.more hg6 (by have := HSZ.out; have := HSW.out; omega) (fun k e => by cases e)).b2.cell; have r62 := HNN.out ▸ look62 (HM2.out.same (hg6.block _ HM2.out.lt (by simp))) (s : Int); have HM26 := Lib.hid (HM2.out.same (hg6.block _ HM2.out.lt (by simp))); clear hg6 t10)
              | ((with_reducible refine map_storeI 62 3 Tryd.underlying62 Tryd.underlying3 (.tmp 77) (.tmp 78) (.tmp 80) (A + 1) (vi g') (s : Int) (.int .i64 (n + 1)) ?_ ?_ ?_ HM26.out ?_); (rfl); (rfl); (rfl); intro w7 hm7 hg7; obtain ⟨x1, x2, x3, x4, ⟨c0, c1, c2, c3, c4, c5, c6, c7⟩, ⟨l0, l1⟩, x7, x8⟩ := HG67.out w6 w7 HG6.out hg7; have t9' := x3.b1.cell; have t10'' := x3.b2.cell; have r61 : (Instr.lookup 61 (.map (some A)) (.int .i64 lb) false).run Tryd.prog w7 = .ok (.bool false) w7 := (by rw [look61 x7 lb, ← HV.out]); have r62b : (Instr.lookup 62 (.map (some (A + 1))) (.int .i64 (s : Int)) false).run Tryd.prog w7 = .ok (.int .i64 (n + 1)) w7 := (by rw [run_lookup_map Tryd.underlying62 Tryd.underlying3 hm7 (zero3 w7) (s : Int)]; simp [mput]); have hbc := Go.Boxed.cell x4; have hbf := Go.Boxed.frozen x4; have HX := Lib.hid x1; have HSK := Lib.hid x2; have HS7 := Lib.hid x3; have HM7 := Lib.hid hm7; have HF7 := Lib.hid x7; have HZ7 := Lib.hid x8; clear hm7 hg7 x1 x2 x3 x4 x7 x8)
              | ((with_reducible refine map_storeI 61 4 Tryd.underlying61 Tryd.underlying3 (.tmp 103) (.tmp 105) (.const (.bool true)) A (vb f) lb (.bool true) ?_ ?_ ?_ HF7.out ?_); (rfl); (rfl); (rfl); intro w8 hm8 hg8; have HM8 := Lib.hid hm8; have HG8 := Lib.hid hg8; clear hm8 hg8))
            have hsz := HSZ.out
            have hsw := HSW.out
            have h7 := HZ7.out
            refine ⟨HX.out.trans (KeepsFrom.of_grownBy HG8.out (fun j e => by have := Option.some.inj e; omega)), HSK.out.trans (fun k hk' => HG8.out.block k (by have := HKA.out k hk'; omega) (fun e => by have := HKA.out k hk'; have := Option.some.inj e; omega)), ?_⟩
            exact HNX.out w8 HM8.out (HM7.out.same (HG8.out.block _ (by omega) (fun e => by have := Option.some.inj e; omega))) (HS7.out.more HG8.out (by omega) (fun k e => by have := Option.some.inj e; omega))
      · intro D W hD hbel hdef
        have hgB : w4.grownBy W none := grown_below HAS.out HGW.out hbel
        have HRW := Lib.hid (HR5.out.more hgB)
        have HMW : Hid (Marks w0.heap.size W (D :: Ds)) := Lib.hid ((HMK4.out.grown hgB).cons hdef (by have := HR5.out.go.grown.size; have := HAS.out; omega) (fun D' hD' => by have := lt_of (HMK4.out.at_ D' hD').2; have := HAS.out; omega))
        clear hD hbel hdef hgB hsw
        gi_wp2
        rw [HDS.out]
        refine ⟨⟨_, _, _, _, _, _, _, _, _, _, _, _, _, _, _, _, _, _, _, _, _, _, _, _, _, _, _, _, _, _, _, _, _, _, _, _, _, _, _, _, _, _, _, _, _, _, _, _, _, _, _, _, _, _, _, _, _, _, _, _, _, _, _, _, _, _, _, _, _, _, _, _, _, _, _, _, _, _, _, _, _, _, _, _, D :: Ds, ⟨j + 1, s4, by omega, by go_num, HRW.out, HMW.out⟩, rfl⟩, ?_⟩
        simp [intOf]; omega
    have e1 : (q.kind == 1) = false := by simp [k1]
    clear k1
    by_cases k4 : q.kind = 4
    · have e4 : (q.kind == 4) = true := by simp [k4]
      clear k4
      gi_wp2_with (first
        | (gi_at_call 16; refine (callsIn_wide.2 (write_any K c ss _ HRB.out.go.cac (HT.out _ HRB.out.go.grown) q.b q.wd q.x)).mono ?_; rintro e w4 ⟨rfl, hc4, hk4⟩; have HR4 := Lib.hid (HRB.out.next hc4 hk4 (HRB.out.inv.cwrite HRB.out.at _ _ _)); have HK4 : Hid (Kept K.own wr w4) := Lib.hid ((Kept.of HB.out).trans hk4); clear hc4 hk4)
        | (gi_at_call 26; refine (all_in _ _ _).mono ?_; rintro e w5 ⟨rfl, rfl⟩))
      obtain ⟨s4, HR5⟩ : ∃ s4, Hid (Run w0 w4 K c s4) := ⟨_, HR4⟩
      clear HR4
      skip
      have HMK4 : Hid (Marks w0.heap.size w4 Ds) := Lib.hid (HMK.out.kept HR.out.go.cac HK4.out)
      obtain ⟨A, hA⟩ : ∃ A, A = w4.heap.size := ⟨_, rfl⟩
      have HAS : Hid (A = w4.heap.size) := Lib.hid hA
      skip
      rw [← hA]
      clear hA
      obtain ⟨W1, hW1⟩ : ∃ W1, W1 = ((((w4.alloc (.map #[] 0)).alloc (.map #[] 0)).alloc (.cells #[.map (some A)] 61)).alloc (.cells #[.map (some (A + 1))] 62)).alloc (.cells #[.pointer (some ⟨K.b, 0, none⟩)] 22) := ⟨_, rfl⟩
      obtain ⟨⟨hm1, hm2⟩, ⟨hb1, hb2⟩, hcb, hgw, hsw⟩ := sets_world w4 K.b A HAS.out hW1
      rw [← hW1]
      clear hW1
      have hKA : ∀ k, K.any k → k < A := fun k hk => by have := HR5.out.go.cac.lt hk; have := HAS.out; omega
      have HKA := Lib.hid hKA
      have HGW := Lib.hid hgw
      have HSW := Lib.hid hsw
      refine rf_sets K c s4 (told s4).length rfl A (HR5.out.go.cac.grown hgw) hKA hm1 hm2 hb1 hb2 hcb hsw rfl ?_ ?_ ?_
      all_goals clear hm1 hm2 hb1 hb2 hcb hKA hgw
      · intro l x W K' hK'
        have HK := Lib.hid hK'
        clear hK' hsw
        unfold frameOf at HK
        simp only [List.setIfInBounds_toArray, List.set_cons_succ, List.set_cons_zero] at HK ⊢
        gi_wp2_with (first
          | ((with_reducible refine store_newI (lineOf s4 x) 11 72 ?_ ?_ ?_); (rfl); (rfl)))
        exact HK.out
      · rintro l pre x W B ⟨⟨f, g', hm1, hm2, h3, h4⟩, hsi⟩ hB hl hlen
        have hgB : w4.grownBy W none := grown_below HAS.out HGW.out hsi.below
        have HRW := Lib.hid (HR5.out.more hgB)
        have hmay : (lineOf s4 x).may := told_may HR5.out.inv (told_at rfl x)
        have hl64 := told_64 HR5.out.go.cac
        obtain ⟨c0, c1, c2, c3, c4, c5, c6, c7⟩ := HCF.out.grown HRW.out.go.grown
        have l0 : W.cell? ⟨B, 0, none⟩ = some (.int .i64 (lineOf s4 x).b) := (cell_of_row _ _ _ _ _ _ hl).trans rfl
        have l1 : W.cell? ⟨B, 1, none⟩ = some (.int .u8 (lineOf s4 x).s) := (cell_of_row _ _ _ _ _ _ hl).trans rfl
        have t9 := hsi.b1.cell
        have t10 := hsi.b2.cell
        have HBW := Lib.hid (box_grow HBX.out HRW.out.go.grown)
        have hdm1 : decide ((lineOf s4 x).s < 1) = false := by have := hmay.2.1; simp; omega
        have hdm2 : decide (3 < (lineOf s4 x).s) = false := by have := hmay.2.2; simp; omega
        have hn : 0 ≤ (g' (setOf c (lineOf s4 x).b : Int)).getD 0 ∧ (g' (setOf c (lineOf s4 x).b : Int)).getD 0 ≤ 64 := by
          cases e : g' (setOf c (lineOf s4 x).b : Int) with
          | none => simp
          | some v => have := h3 _ _ e; simp; omega
        have HSA := Lib.hid (set_any c (lineOf s4 x).b W (HT.out _ HRW.out.go.grown) HM.out)
        have HP : Hid (pre ++ [x] <+: List.finRange (told s4).length → (f (lineOf s4 x).b).getD false = false ∧ (g' (setOf c (lineOf s4 x).b : Int)).getD 0 + 1 ≤ c.wa) := Lib.hid fun hp => by
          obtain ⟨e1, e2⟩ := h4 ((List.prefix_append pre [x]).trans hp)
          have r1 := came_new rfl HR5.out.inv hp
          have r2 := came_room rfl HR5.out.go.cac HR5.out.inv hp
          rw [e1, e2, manyF_get]
          exact ⟨by show (seenF (came s4 pre) ((told s4).getD x.val zl).b).getD false = false; rw [r1]; rfl, r2⟩
        have HNX : Hid (∀ W', MapAt W' A (mput (vb f) (lineOf s4 x).b (.bool true)) → MapAt W' (A + 1) (mput (vi g') (setOf c (lineOf s4 x).b : Int) (.int .i64 ((g' (setOf c (lineOf s4 x).b : Int)).getD 0 + 1))) → SI A W1 W' → IM c s4 A W1 (pre ++ [x]) W') := Lib.hid fun W' a1 a2 a3 => IM.next (W := W) h3 h4 a1 a2 a3
        have HM1 := Lib.hid hm1
        have HM2 := Lib.hid hm2
        have HSI := Lib.hid hsi
        have HLN := Lib.hid hl
        have HSZ := Lib.hid hsi.below.size
        obtain ⟨lb, hlb⟩ : ∃ lb, lb = (lineOf s4 x).b := ⟨_, rfl⟩
        obtain ⟨ls, hls⟩ : ∃ ls, ls = (lineOf s4 x).s := ⟨_, rfl⟩
        obtain ⟨s, hss⟩ : ∃ s, s = setOf c (lineOf s4 x).b := ⟨_, rfl⟩
        rw [← hss] at hn HSA HP HNX
        rw [← hlb] at l0 HSA HP HNX
        rw [← hls] at l1 hdm1 hdm2
        obtain ⟨n, hnn⟩ : ∃ n, n = (g' (s : Int)).getD 0 := ⟨_, rfl⟩
        obtain ⟨v, hv⟩ : ∃ v, v = (f lb).getD false := ⟨_, rfl⟩
        rw [← hnn] at hn HP HNX
        rw [← hv] at HP
        have HV := Lib.hid hv
        have HNN := Lib.hid hnn
        have HLB := Lib.hid hlb
        have HLS := Lib.hid hls
        have r62 := HNN.out ▸ look62 hm2 (s : Int)
        unfold Cfg.cells at HSA
        clear hm1 hm2 h3 h4 hsi hl hmay hlen hv hnn hlb hls hss hgB hsw hl64
        unfold frameOf
        simp only [List.setIfInBounds_toArray, List.set_cons_succ, List.set_cons_zero]
        have HG67 : Hid (∀ w6 w7, W.grownBy w6 none → w6.grownBy w7 (some (A + 1)) → KeepsFrom W1.heap.size W w7 ∧ SameK K W w7 ∧ SI A W1 w7 ∧ Boxed w7 (w.heap.size + 1) 4 (.bool false) ∧ CfgAt w7 w.heap.size c ∧ (w7.cell? ⟨B, 0, none⟩ = some (.int .i64 lb) ∧ w7.cell? ⟨B, 1, none⟩ = some (.int .u8 ls)) ∧ MapAt w7 A (vb f) ∧ w7.heap.size ≥ W.heap.size) := Lib.hid fun w6 w7 a1 a2 => by
          have hsz := HSZ.out
          have has := HAS.out
          have hsw := HSW.out
          have hw0 := HR5.out.go.grown.size
          have hA1 : A + 1 < W1.heap.size := by omega
          have hk : ∀ k, k < W.heap.size → k ≠ A + 1 → w7.heap[k]? = W.heap[k]? := fun k h1 h2 => (a2.block k (Nat.lt_of_lt_of_le h1 a1.size) (fun e => h2 (Option.some.inj e))).trans (a1.block k h1 (by simp))
          have hcell : ∀ (k i : Nat) v, k ≠ A + 1 → W.cell? ⟨k, i, none⟩ = some v → w7.cell? ⟨k, i, none⟩ = some v := fun k i v h1 h2 => by
            rw [World.cell?_of_block (w := W) (a := ⟨k, i, none⟩) (hk k (World.block_lt_of_cell? W ⟨k, i, none⟩ h2) h1)]; exact h2
          have hcf := HCF.out.grown HRW.out.go.grown
          have hne : w.heap.size ≠ A + 1 := by omega
          refine ⟨(KeepsFrom.of_grownBy a1 (fun j e => by cases e)).trans (KeepsFrom.of_grownBy a2 (fun j e => by have := Option.some.inj e; omega)), fun k hk' => hk k (by have := HKA.out k hk'; omega) (by have := HKA.out k hk'; omega), (HSI.out.more a1 (by omega) (fun k e => by cases e)).more a2 (by have := a1.size; omega) (fun k e => by have := Option.some.inj e; omega), (hk _ (by omega) (by omega)).trans HBW.out,
            ⟨hcell _ _ _ hne hcf.c0, hcell _ _ _ hne hcf.c1, hcell _ _ _ hne hcf.c2, hcell _ _ _ hne hcf.c3, hcell _ _ _ hne hcf.c4, hcell _ _ _ hne hcf.c5, hcell _ _ _ hne hcf.c6, hcell _ _ _ hne hcf.c7⟩, ⟨hcell _ _ _ (by omega) l0, hcell _ _ _ (by omega) l1⟩, HM1.out.same (hk A (by omega) (by omega)), Nat.le_trans a1.size a2.size⟩
        by_cases hv : v = true
        · subst hv
          gi_wp2_with (first
            | (gi_at_call 27; refine (CallsIn.inRound l (callsIn_wide.2 HSA.out)).mono ?_; rintro e w6 ⟨rfl, hg6⟩; have HG6 := Lib.hid hg6; have t10' := (HSI.out.more hg6 (by have := HSZ.out; have := HSW.out; omega) (fun k e => by cases e)).b2.cell; have r62 := HNN.out ▸ look62 (HM2.out.same (hg6.block _ HM2.out.lt (by simp))) (s : Int); have HM26 := Lib.hid (HM2.out.same (hg6.block _ HM2.out.lt (by simp))); clear hg6 t10)
            | ((with_reducible refine map_storeI 62 3 Tryd.underlying62 Tryd.underlying3 (.tmp 77) (.tmp 78) (.tmp 80) (A + 1) (vi g') (s : Int) (.int .i64 (n + 1)) ?_ ?_ ?_ HM26.out ?_); (rfl); (rfl); (rfl); intro w7 hm7 hg7; obtain ⟨x1, x2, x3, x4, ⟨c0, c1, c2, c3, c4, c5, c6, c7⟩, ⟨l0, l1⟩, x7, x8⟩ := HG67.out w6 w7 HG6.out hg7; have t9' := x3.b1.cell; have t10'' := x3.b2.cell; have r61 : (Instr.lookup 61 (.map (some A)) (.int .i64 lb) false).run Tryd.prog w7 = .ok (.bool true) w7 := (by rw [look61 x7 lb, ← HV.out]);  have hbc := Go.Boxed.cell x4; have hbf := Go.Boxed.frozen x4; have HX := Lib.hid x1;  clear hm7 hg7 x1 x2 x3 x4 x7 x8))
          exact ⟨HX.out.trans ((KeepsOthers.setCell _ _ _).from _), rfl, fun hp => by have := (HP.out hp).1; cases this⟩
        · have hv' : v = false := by simpa using hv
          subst hv'
          clear hv
          by_cases hw : c.wa < n + 1
          · have hdw : decide (c.wa < n + 1) = true := by simp; omega
            gi_wp2_with (first
              | (gi_at_call 27; refine (CallsIn.inRound l (callsIn_wide.2 HSA.out)).mono ?_; rintro e w6 ⟨rfl, hg6⟩; have HG6 := Lib.hid hg6; have t10' := (HSI.out.more hg6 (by have := HSZ.out; have := HSW.out; omega) (fun k e => by cases e)).b2.cell; have r62 := HNN.out ▸ look62 (HM2.out.same (hg6.block _ HM2.out.lt (by simp))) (s : Int); have HM26 := Lib.hid (HM2.out.same (hg6.block _ HM2.out.lt (by simp))); clear hg6 t10)
              | ((with_reducible refine map_storeI 62 3 Tryd.underlying62 Tryd.underlying3 (.tmp 77) (.tmp 78) (.tmp 80) (A + 1) (vi g') (s : Int) (.int .i64 (n + 1)) ?_ ?_ ?_ HM26.out ?_); (rfl); (rfl); (rfl); intro w7 hm7 hg7; obtain ⟨x1, x2, x3, x4, ⟨c0, c1, c2, c3, c4, c5, c6, c7⟩, ⟨l0, l1⟩, x7, x8⟩ := HG67.out w6 w7 HG6.out hg7; have t9' := x3.b1.cell; have t10'' := x3.b2.cell; have r61 : (Instr.lookup 61 (.map (some A)) (.int .i64 lb) false).run Tryd.prog w7 = .ok (.bool false) w7 := (by rw [look61 x7 lb, ← HV.out]); have r62b : (Instr.lookup 62 (.map (some (A + 1))) (.int .i64 (s : Int)) false).run Tryd.prog w7 = .ok (.int .i64 (n + 1)) w7 := (by rw [run_lookup_map Tryd.underlying62 Tryd.underlying3 hm7 (zero3 w7) (s : Int)]; simp [mput]); have hbc := Go.Boxed.cell x4; have hbf := Go.Boxed.frozen x4; have HX := Lib.hid x1;  clear hm7 hg7 x1 x2 x3 x4 x7 x8))
            exact ⟨HX.out.trans ((KeepsOthers.setCell _ _ _).from _), rfl, fun hp => by have := (HP.out hp).2; omega⟩
          · have hdw : decide (c.wa < n + 1) = false := by simp; omega
            gi_wp2_with (first
              | (gi_at_call 27; refine (CallsIn.inRound l (callsIn_wide.2 HSA.out)).mono ?_; rintro e w6 ⟨rfl, hg6⟩; have HG6 := Lib.hid hg6; have t10' := (HSI.out.more hg6 (by have := HSZ.out; have := HSW.out; omega) (fun k e => by cases e)).b2.cell; have r62 := HNN.out ▸ look62 (HM2.out.same (hg6.block _ HM2.out.lt (by simp))) (s : Int); have HM26 := Lib.hid (HM2.out.same (hg6.block _ HM2.out.lt (by simp))); clear hg6 t10)
              | ((with_reducible refine map_storeI 62 3 Tryd.underlying62 Tryd.underlying3 (.tmp 77) (.tmp 78) (.tmp 80) (A + 1) (vi g') (s : Int) (.int .i64 (n + 1)) ?_ ?_ ?_ HM26.out ?_); (rfl); (rfl); (rfl); intro w7 hm7 hg7; obtain ⟨x1, x2, x3, x4, ⟨c0, c1, c2, c3, c4, c5, c6, c7⟩, ⟨l0, l1⟩, x7, x8⟩ := HG67.out w6 w7 HG6.out hg7; have t9' := x3.b1.cell; have t10'' := x3.b2.cell; have r61 : (Instr.lookup 61 (.map (some A)) (.int .i64 lb) false).run Tryd.prog w7 = .ok (.bool false) w7 := (by rw [look61 x7 lb, ← HV.out]); have r62b : (Instr.lookup 62 (.map (some (A + 1))) (.int .i64 (s : Int)) false).run Tryd.prog w7 = .ok (.int .i64 (n + 1)) w7 := (by rw [run_lookup_map Tryd.underlying62 Tryd.underlying3 hm7 (zero3 w7) (s : Int)]; simp [mput]); have hbc := Go.Boxed.cell x4; have hbf := Go.Boxed.frozen x4; have HX := Lib.hid x1; have HSK := Lib.hid x2; have HS7 := Lib.hid x3; have HM7 := Lib.hid hm7; have HF7 := Lib.hid x7; have HZ7 := Lib.hid x8; clear hm7 hg7 x1 x2 x3 x4 x7 x8)
              | ((with_reducible refine map_storeI 61 4 Tryd.underlying61 Tryd.underlying3 (.tmp 103) (.tmp 105) (.const (.bool true)) A (vb f) lb (.bool true) ?_ ?_ ?_ HF7.out ?_); (rfl); (rfl); (rfl); intro w8 hm8 hg8; have HM8 := Lib.hid hm8; have HG8 := Lib.hid hg8; clear hm8 hg8))
            have hsz := HSZ.out
            have hsw := HSW.out
            have h7 := HZ7.out
            refine ⟨HX.out.trans (KeepsFrom.of_grownBy HG8.out (fun j e => by have := Option.some.inj e; omega)), HSK.out.trans (fun k hk' => HG8.out.block k (by have := HKA.out k hk'; omega) (fun e => by have := HKA.out k hk'; have := Option.some.inj e; omega)), ?_⟩
            exact HNX.out w8 HM8.out (HM7.out.same (HG8.out.block _ (by omega) (fun e => by have := Option.some.inj e; omega))) (HS7.out.more HG8.out (by omega) (fun k e => by have := Option.some.inj e; omega))
      · intro D W hD hbel hdef
        have hgB : w4.grownBy W none := grown_below HAS.out HGW.out hbel
        have HRW := Lib.hid (HR5.out.more hgB)
        have HMW : Hid (Marks w0.heap.size W (D :: Ds)) := Lib.hid ((HMK4.out.grown hgB).cons hdef (by have := HR5.out.go.grown.size; have := HAS.out; omega) (fun D' hD' => by have := lt_of (HMK4.out.at_ D' hD').2; have := HAS.out; omega))
        clear hD hbel hdef hgB hsw
        gi_wp2
        rw [HDS.out]
        refine ⟨⟨_, _, _, _, _, _, _, _, _, _, _, _, _, _, _, _, _, _, _, _, _, _, _, _, _, _, _, _, _, _, _, _, _, _, _, _, _, _, _, _, _, _, _, _, _, _, _, _, _, _, _, _, _, _, _, _, _, _, _, _, _, _, _, _, _, _, _, _, _, _, _, _, _, _, _, _, _, _, _, _, _, _, _, _, D :: Ds, ⟨j + 1, s4, by omega, by go_num, HRW.out, HMW.out⟩, rfl⟩, ?_⟩
        simp [intOf]; omega
    have e4 : (q.kind == 4) = false := by simp [k4]
    clear k4
    by_cases k5 : q.kind = 5
    · have e5 : (q.kind == 5) = true := by simp [k5]
      clear k5
      gi_wp2_with (first
        | (gi_at_call 17; refine (callsIn_wide.2 (turn_any K c ss _ HRB.out.go.cac (HT.out _ HRB.out.go.grown) q.b q.s)).mono ?_; rintro e w4 ⟨rfl, hc4, hk4⟩; have HR4 := Lib.hid (HRB.out.next hc4 hk4 (HRB.out.inv.cturn HRB.out.at _ _)); have HK4 : Hid (Kept K.own wr w4) := Lib.hid ((Kept.of HB.out).trans hk4); clear hc4 hk4)
        | (gi_at_call 26; refine (all_in _ _ _).mono ?_; rintro e w5 ⟨rfl, rfl⟩))
      obtain ⟨s4, HR5⟩ : ∃ s4, Hid (Run w0 w4 K c s4) := ⟨_, HR4⟩
      clear HR4
      skip
      have HMK4 : Hid (Marks w0.heap.size w4 Ds) := Lib.hid (HMK.out.kept HR.out.go.cac HK4.out)
      obtain ⟨A, hA⟩ : ∃ A, A = w4.heap.size := ⟨_, rfl⟩
      have HAS : Hid (A = w4.heap.size) := Lib.hid hA
      skip
      rw [← hA]
      clear hA
      obtain ⟨W1, hW1⟩ : ∃ W1, W1 = ((((w4.alloc (.map #[] 0)).alloc (.map #[] 0)).alloc (.cells #[.map (some A)] 61)).alloc (.cells #[.map (some (A + 1))] 62)).alloc (.cells #[.pointer (some ⟨K.b, 0, none⟩)] 22) := ⟨_, rfl⟩
      obtain ⟨⟨hm1, hm2⟩, ⟨hb1, hb2⟩, hcb, hgw, hsw⟩ := sets_world w4 K.b A HAS.out hW1
      rw [← hW1]
      clear hW1
      have hKA : ∀ k, K.any k → k < A := fun k hk => by have := HR5.out.go.cac.lt hk; have := HAS.out; omega
      have HKA := Lib.hid hKA
      have HGW := Lib.hid hgw
      have HSW := Lib.hid hsw
      refine rf_sets K c s4 (told s4).length rfl A (HR5.out.go.cac.grown hgw) hKA hm1 hm2 hb1 hb2 hcb hsw rfl ?_ ?_ ?_
      all_goals clear hm1 hm2 hb1 hb2 hcb hKA hgw
      · intro l x W K' hK'
        have HK := Lib.hid hK'
        clear hK' hsw
        unfold frameOf at HK
        simp only [List.setIfInBounds_toArray, List.set_cons_succ, List.set_cons_zero] at HK ⊢
        gi_wp2_with (first
          | ((with_reducible refine store_newI (lineOf s4 x) 11 72 ?_ ?_ ?_); (rfl); (rfl)))
        exact HK.out
      · rintro l pre x W B ⟨⟨f, g', hm1, hm2, h3, h4⟩, hsi⟩ hB hl hlen
        have hgB : w4.grownBy W none := grown_below HAS.out HGW.out hsi.below
        have HRW := Lib.hid (HR5.out.more hgB)
        have hmay : (lineOf s4 x).may := told_may HR5.out.inv (told_at rfl x)
        have hl64 := told_64 HR5.out.go.cac
        obtain ⟨c0, c1, c2, c3, c4, c5, c6, c7⟩ := HCF.out.grown HRW.out.go.grown
        have l0 : W.cell? ⟨B, 0, none⟩ = some (.int .i64 (lineOf s4 x).b) := (cell_of_row _ _ _ _ _ _ hl).trans rfl
        have l1 : W.cell? ⟨B, 1, none⟩ = some (.int .u8 (lineOf s4 x).s) := (cell_of_row _ _ _ _ _ _ hl).trans rfl
        have t9 := hsi.b1.cell
        have t10 := hsi.b2.cell
        have HBW := Lib.hid (box_grow HBX.out HRW.out.go.grown)
        have hdm1 : decide ((lineOf s4 x).s < 1) = false := by have := hmay.2.1; simp; omega
        have hdm2 : decide (3 < (lineOf s4 x).s) = false := by have := hmay.2.2; simp; omega
        have hn : 0 ≤ (g' (setOf c (lineOf s4 x).b : Int)).getD 0 ∧ (g' (setOf c (lineOf s4 x).b : Int)).getD 0 ≤ 64 := by
          cases e : g' (setOf c (lineOf s4 x).b : Int) with
          | none => simp
          | some v => have := h3 _ _ e; simp; omega
        have HSA := Lib.hid (set_any c (lineOf s4 x).b W (HT.out _ HRW.out.go.grown) HM.out)
        have HP : Hid (pre ++ [x] <+: List.finRange (told s4).length → (f (lineOf s4 x).b).getD false = false ∧ (g' (setOf c (lineOf s4 x).b : Int)).getD 0 + 1 ≤ c.wa) := Lib.hid fun hp => by
          obtain ⟨e1, e2⟩ := h4 ((List.prefix_append pre [x]).trans hp)
          have r1 := came_new rfl HR5.out.inv hp
          have r2 := came_room rfl HR5.out.go.cac HR5.out.inv hp
          rw [e1, e2, manyF_get]
          exact ⟨by show (seenF (came s4 pre) ((told s4).getD x.val zl).b).getD false = false; rw [r1]; rfl, r2⟩
        have HNX : Hid (∀ W', MapAt W' A (mput (vb f) (lineOf s4 x).b (.bool true)) → MapAt W' (A + 1) (mput (vi g') (setOf c (lineOf s4 x).b : Int) (.int .i64 ((g' (setOf c (lineOf s4 x).b : Int)).getD 0 + 1))) → SI A W1 W' → IM c s4 A W1 (pre ++ [x]) W') := Lib.hid fun W' a1 a2 a3 => IM.next (W := W) h3 h4 a1 a2 a3
        have HM1 := Lib.hid hm1
        have HM2 := Lib.hid hm2
        have HSI := Lib.hid hsi
        have HLN := Lib.hid hl
        have HSZ := Lib.hid hsi.below.size
        obtain ⟨lb, hlb⟩ : ∃ lb, lb = (lineOf s4 x).b := ⟨_, rfl⟩
        obtain ⟨ls, hls⟩ : ∃ ls, ls = (lineOf s4 x).s := ⟨_, rfl⟩
        obtain ⟨s, hss⟩ : ∃ s, s = setOf c (lineOf s4 x).b := ⟨_, rfl⟩
        rw [← hss] at hn HSA HP HNX
        rw [← hlb] at l0 HSA HP HNX
        rw [← hls] at l1 hdm1 hdm2
        obtain ⟨n, hnn⟩ : ∃ n, n = (g' (s : Int)).getD 0 := ⟨_, rfl⟩
        obtain ⟨v, hv⟩ : ∃ v, v = (f lb).getD false := ⟨_, rfl⟩
        rw [← hnn] at hn HP HNX
        rw [← hv] at HP
        have HV := Lib.hid hv
        have HNN := Lib.hid hnn
        have HLB := Lib.hid hlb
        have HLS := Lib.hid hls
        have r62 := HNN.out ▸ look62 hm2 (s : Int)
        unfold Cfg.cells at HSA
        clear hm1 hm2 h3 h4 hsi hl hmay hlen hv hnn hlb hls hss hgB hsw hl64
        unfold frameOf
        simp only [List.setIfInBounds_toArray, List.set_cons_succ, List.set_cons_zero]
        have HG67 : Hid (∀ w6 w7, W.grownBy w6 none → w6.grownBy w7 (some (A + 1)) → KeepsFrom W1.heap.size W w7 ∧ SameK K W w7 ∧ SI A W1 w7 ∧ Boxed w7 (w.heap.size + 1) 4 (.bool false) ∧ CfgAt w7 w.heap.size c ∧ (w7.cell? ⟨B, 0, none⟩ = some (.int .i64 lb) ∧ w7.cell? ⟨B, 1, none⟩ = some (.int .u8 ls)) ∧ MapAt w7 A (vb f) ∧ w7.heap.size ≥ W.heap.size) := Lib.hid fun w6 w7 a1 a2 => by
          have hsz := HSZ.out
          have has := HAS.out
          have hsw := HSW.out
          have hw0 := HR5.out.go.grown.size
          have hA1 : A + 1 < W1.heap.size := by omega
          have hk : ∀ k, k < W.heap.size → k ≠ A + 1 → w7.heap[k]? = W.heap[k]? := fun k h1 h2 => (a2.block k (Nat.lt_of_lt_of_le h1 a1.size) (fun e => h2 (Option.some.inj e))).trans (a1.block k h1 (by simp))
          have hcell : ∀ (k i : Nat) v, k ≠ A + 1 → W.cell? ⟨k, i, none⟩ = some v → w7.cell? ⟨k, i, none⟩ = some v := fun k i v h1 h2 => by
            rw [World.cell?_of_block (w := W) (a := ⟨k, i, none⟩) (hk k (World.block_lt_of_cell? W ⟨k, i, none⟩ h2) h1)]; exact h2
          have hcf := HCF.out.grown HRW.out.go.grown
          have hne : w.heap.size ≠ A + 1 := by omega
          refine ⟨(KeepsFrom.of_grownBy a1 (fun j e => by cases e)).trans (KeepsFrom.of_grownBy a2 (fun j e => by have := Option.some.inj e; omega)), fun k hk' => hk k (by have := HKA.out k hk'; omega) (by have := HKA.out k hk'; omega), (HSI.out.more a1 (by omega) (fun k e => by cases e)).more a2 (by have := a1.size; omega) (fun k e => by have := Option.some.inj e; omega), (hk _ (by omega) (by omega)).trans HBW.out,
            ⟨hcell _ _ _ hne hcf.c0, hcell _ _ _ hne hcf.c1, hcell _ _ _ hne hcf.c2, hcell _ _ _ hne hcf.c3, hcell _ _ _ hne hcf.c4, hcell _ _ _ hne hcf.c5, hcell _ _ _ hne hcf.c6, hcell _ _ _ hne hcf.c7⟩, ⟨hcell _ _ _ (by omega) l0, hcell _ _ _ (by omega) l1⟩, HM1.out.same (hk A (by omega) (by omega)), Nat.le_trans a1.size a2.size⟩
        by_cases hv : v = true
        · subst hv
          gi_wp2_with (first
            | (gi_at_call 27; refine (CallsIn.inRound l (callsIn_wide.2 HSA.out)).mono ?_; rintro e w6 ⟨rfl, hg6⟩; have HG6 := Lib.hid hg6; have t10' := (HSI.out.more hg6 (by have := HSZ.out; have := HSW.out; omega) (fun k e => by cases e)).b2.cell; have r62 := HNN.out ▸ look62 (HM2.out.same (hg6.block _ HM2.out.lt (by simp))) (s : Int); have HM26 := Lib.hid (HM2.out.same (hg6.block _ HM2.out.lt (by simp))); clear hg6 t10)
            | ((with_reducible refine map_storeI 62 3 Tryd.underlying62 Tryd.underlying3 (.tmp 77) (.tmp 78) (.tmp 80) (A + 1) (vi g') (s : Int) (.int .i64 (n + 1)) ?_ ?_ ?_ HM26.out ?_); (rfl); (rfl); (rfl); intro w7 hm7 hg7; obtain ⟨x1, x2, x3, x4, ⟨c0, c1, c2, c3, c4, c5, c6, c7⟩, ⟨l0, l1⟩, x7, x8⟩ := HG67.out w6 w7 HG6.out hg7; have t9' := x3.b1.cell; have t10'' := x3.b2.cell; have r61 : (Instr.lookup 61 (.map (some A)) (.int .i64 lb) false).run Tryd.prog w7 = .ok (.bool true) w7 := (by rw [look61 x7 lb, ← HV.out]);  have hbc := Go.Boxed.cell x4; have hbf := Go.Boxed.frozen x4; have HX := Lib.hid x1;  clear hm7 hg7 x1 x2 x3 x4 x7 x8))
          exact ⟨HX.out.trans ((KeepsOthers.setCell _ _ _).from _), rfl, fun hp => by have := (HP.out hp).1; cases this⟩
        · have hv' : v = false := by simpa using hv
          subst hv'
          clear hv
          by_cases hw : c.wa < n + 1
          · have hdw : decide (c.wa < n + 1) = true := by simp; omega
            gi_wp2_with (first
              | (gi_at_call 27; refine (CallsIn.inRound l (callsIn_wide.2 HSA.out)).mono ?_; rintro e w6 ⟨rfl, hg6⟩; have HG6 := Lib.hid hg6; have t10' := (HSI.out.more hg6 (by have := HSZ.out; have := HSW.out; omega) (fun k e => by cases e)).b2.cell; have r62 := HNN.out ▸ look62 (HM2.out.same (hg6.block _ HM2.out.lt (by simp))) (s : Int); have HM26 := Lib.hid (HM2.out.same (hg6.block _ HM2.out.lt (by simp))); clear hg6 t10)
              | ((with_reducible refine map_storeI 62 3 Tryd.underlying62 Tryd.underlying3 (.tmp 77) (.tmp 78) (.tmp 80) (A + 1) (vi g') (s : Int) (.int .i64 (n + 1)) ?_ ?_ ?_ HM26.out ?_); (rfl); (rfl); (rfl); intro w7 hm7 hg7; obtain ⟨x1, x2, x3, x4, ⟨c0, c1, c2, c3, c4, c5, c6, c7⟩, ⟨l0, l1⟩, x7, x8⟩ := HG67.out w6 w7 HG6.out hg7; have t9' := x3.b1.cell; have t10'' := x3.b2.cell; have r61 : (Instr.lookup 61 (.map (some A)) (.int .i64 lb) false).run Tryd.prog w7 = .ok (.bool false) w7 := (by rw [look61 x7 lb, ← HV.out]); have r62b : (Instr.lookup 62 (.map (some (A + 1))) (.int .i64 (s : Int)) false).run Tryd.prog w7 = .ok (.int .i64 (n + 1)) w7 := (by rw [run_lookup_map Tryd.underlying62 Tryd.underlying3 hm7 (zero3 w7) (s : Int)]; simp [mput]); have hbc := Go.Boxed.cell x4; have hbf := Go.Boxed.frozen x4; have HX := Lib.hid x1;  clear hm7 hg7 x1 x2 x3 x4 x7 x8))
            exact ⟨HX.out.trans ((KeepsOthers.setCell _ _ _).from _), rfl, fun hp => by have := (HP.out hp).2; omega⟩
          · have hdw : decide (c.wa < n + 1) = false := by simp; omega
            gi_wp2_with (first
              | (gi_at_call 27; refine (CallsIn.inRound l (callsIn_wide.2 HSA.out)).mono ?_; rintro e w6 ⟨rfl, hg6⟩; have HG6 := Lib.hid hg6; have t10' := (HSI.out.more hg6 (by have := HSZ.out; have := HSW.out; omega) (fun k e => by cases e)).b2.cell; have r62 := HNN.out ▸ look62 (HM2.out.same (hg6.block _ HM2.out.lt (by simp))) (s : Int); have HM26 := Lib.hid (HM2.out.same (hg6.block _ HM2.out.lt (by simp))); clear hg6 t10)
              | ((with_reducible refine map_storeI 62 3 Tryd.underlying62 Tryd.underlying3 (.tmp 77) (.tmp 78) (.tmp 80) (A + 1) (vi g') (s : Int) (.int .i64 (n + 1)) ?_ ?_ ?_ HM26.out ?_); (rfl); (rfl); (rfl); intro w7 hm7 hg7; obtain ⟨x1, x2, x3, x4, ⟨c0, c1, c2, c3, c4, c5, c6, c7⟩, ⟨l0, l1⟩, x7, x8⟩ := HG67.out w6 w7 HG6.out hg7; have t9' := x3.b1.cell; have t10'' := x3.b2.cell; have r61 : (Instr.lookup 61 (.map (some A)) (.int .i64 lb) false).run Tryd.prog w7 = .ok (.bool false) w7 := (by rw [look61 x7 lb, ← HV.out]); have r62b : (Instr.lookup 62 (.map (some (A + 1))) (.int .i64 (s : Int)) false).run Tryd.prog w7 = .ok (.int .i64 (n + 1)) w7 := (by rw [run_lookup_map Tryd.underlying62 Tryd.underlying3 hm7 (zero3 w7) (s : Int)]; simp [mput]); have hbc := Go.Boxed.cell x4; have hbf := Go.Boxed.frozen x4; have HX := Lib.hid x1; have HSK := Lib.hid x2; have HS7 := Lib.hid x3; have HM7 := Lib.hid hm7; have HF7 := Lib.hid x7; have HZ7 := Lib.hid x8; clear hm7 hg7 x1 x2 x3 x4 x7 x8)
              | ((with_reducible refine map_storeI 61 4 Tryd.underlying61 Tryd.underlying3 (.tmp 103) (.tmp 105) (.const (.bool true)) A (vb f) lb (.bool true) ?_ ?_ ?_ HF7.out ?_); (rfl); (rfl); (rfl); intro w8 hm8 hg8; have HM8 := Lib.hid hm8; have HG8 := Lib.hid hg8; clear hm8 hg8))
            have hsz := HSZ.out
            have hsw := HSW.out
            have h7 := HZ7.out
            refine ⟨HX.out.trans (KeepsFrom.of_grownBy HG8.out (fun j e => by have := Option.some.inj e; omega)), HSK.out.trans (fun k hk' => HG8.out.block k (by have := HKA.out k hk'; omega) (fun e => by have := HKA.out k hk'; have := Option.some.inj e; omega)), ?_⟩
            exact HNX.out w8 HM8.out (HM7.out.same (HG8.out.block _ (by omega) (fun e => by have := Option.some.inj e; omega))) (HS7.out.more HG8.out (by omega) (fun k e => by have := Option.some.inj e; omega))
      · intro D W hD hbel hdef
        have hgB : w4.grownBy W none := grown_below HAS.out HGW.out hbel
        have HRW := Lib.hid (HR5.out.more hgB)
        have HMW : Hid (Marks w0.heap.size W (D :: Ds)) := Lib.hid ((HMK4.out.grown hgB).cons hdef (by have := HR5.out.go.grown.size; have := HAS.out; omega) (fun D' hD' => by have := lt_of (HMK4.out.at_ D' hD').2; have := HAS.out; omega))
        clear hD hbel hdef hgB hsw
        gi_wp2
        rw [HDS.out]
        refine ⟨⟨_, _, _, _, _, _, _, _, _, _, _, _, _, _, _, _, _, _, _, _, _, _, _, _, _, _, _, _, _, _, _, _, _, _, _, _, _, _, _, _, _, _, _, _, _, _, _, _, _, _, _, _, _, _, _, _, _, _, _, _, _, _, _, _, _, _, _, _, _, _, _, _, _, _, _, _, _, _, _, _, _, _, _, _, D :: Ds, ⟨j + 1, s4, by omega, by go_num, HRW.out, HMW.out⟩, rfl⟩, ?_⟩
        simp [intOf]; omega
    · have e5 : (q.kind == 5) = false := by simp [k5]
      clear k5
      obtain ⟨w4, hw4⟩ : ∃ w4, w4 = wr.alloc (.cells #[.int .i64 q.kind, .int .i64 q.b, .int .i64 q.wd, .int .u8 q.s, .int .u32 q.x] 50) := ⟨_, rfl⟩
      have HW4 : Hid (wr.alloc (.cells #[.int .i64 q.kind, .int .i64 q.b, .int .i64 q.wd, .int .u8 q.s, .int .u32 q.x] 50) = w4) := Lib.hid hw4.symm
      have HR4 : Hid (Run w0 w4 K c ss) := Lib.hid (by rw [hw4]; exact HRB.out)
      have HK4 : Hid (Kept K.own wr w4) := Lib.hid (by rw [hw4]; exact Kept.of HB.out)
      have HZ4 : Hid (w4.heap.size = wr.heap.size + 1) := Lib.hid (by rw [hw4]; simp)
      clear hw4
      gi_wp2_with (first
        | (gi_at_call 26; refine (all_in _ _ _).mono ?_; rintro e w5 ⟨rfl, rfl⟩))
      obtain ⟨s4, HR5⟩ : ∃ s4, Hid (Run w0 w4 K c s4) := ⟨_, HR4⟩
      clear HR4
      skip
      have HMK4 : Hid (Marks w0.heap.size w4 Ds) := Lib.hid (HMK.out.kept HR.out.go.cac HK4.out)
      obtain ⟨A, hA⟩ : ∃ A, A = wr.heap.size + 1 := ⟨_, rfl⟩
      have HAS : Hid (A = w4.heap.size) := Lib.hid (by rw [hA]; exact HZ4.out.symm)
      rw [HW4.out]
      rw [← hA]
      clear hA
      obtain ⟨W1, hW1⟩ : ∃ W1, W1 = ((((w4.alloc (.map #[] 0)).alloc (.map #[] 0)).alloc (.cells #[.map (some A)] 61)).alloc (.cells #[.map (some (A + 1))] 62)).alloc (.cells #[.pointer (some ⟨K.b, 0, none⟩)] 22) := ⟨_, rfl⟩
      obtain ⟨⟨hm1, hm2⟩, ⟨hb1, hb2⟩, hcb, hgw, hsw⟩ := sets_world w4 K.b A HAS.out hW1
      rw [← hW1]
      clear hW1
      have hKA : ∀ k, K.any k → k < A := fun k hk => by have := HR5.out.go.cac.lt hk; have := HAS.out; omega
      have HKA := Lib.hid hKA
      have HGW := Lib.hid hgw
      have HSW := Lib.hid hsw
      refine rf_sets K c s4 (told s4).length rfl A (HR5.out.go.cac.grown hgw) hKA hm1 hm2 hb1 hb2 hcb hsw rfl ?_ ?_ ?_
      all_goals clear hm1 hm2 hb1 hb2 hcb hKA hgw
      · intro l x W K' hK'
        have HK := Lib.hid hK'
        clear hK' hsw
        unfold frameOf at HK
        simp only [List.setIfInBounds_toArray, List.set_cons_succ, List.set_cons_zero] at HK ⊢
        gi_wp2_with (first
          | ((with_reducible refine store_newI (lineOf s4 x) 11 72 ?_ ?_ ?_); (rfl); (rfl)))
        exact HK.out
      · rintro l pre x W B ⟨⟨f, g', hm1, hm2, h3, h4⟩, hsi⟩ hB hl hlen
        have hgB : w4.grownBy W none := grown_below HAS.out HGW.out hsi.below
        have HRW := Lib.hid (HR5.out.more hgB)
        have hmay : (lineOf s4 x).may := told_may HR5.out.inv (told_at rfl x)
        have hl64 := told_64 HR5.out.go.cac
        obtain ⟨c0, c1, c2, c3, c4, c5, c6, c7⟩ := HCF.out.grown HRW.out.go.grown
        have l0 : W.cell? ⟨B, 0, none⟩ = some (.int .i64 (lineOf s4 x).b) := (cell_of_row _ _ _ _ _ _ hl).trans rfl
        have l1 : W.cell? ⟨B, 1, none⟩ = some (.int .u8 (lineOf s4 x).s) := (cell_of_row _ _ _ _ _ _ hl).trans rfl
        have t9 := hsi.b1.cell
        have t10 := hsi.b2.cell
        have HBW := Lib.hid (box_grow HBX.out HRW.out.go.grown)
        have hdm1 : decide ((lineOf s4 x).s < 1) = false := by have := hmay.2.1; simp; omega
        have hdm2 : decide (3 < (lineOf s4 x).s) = false := by have := hmay.2.2; simp; omega
        have hn : 0 ≤ (g' (setOf c (lineOf s4 x).b : Int)).getD 0 ∧ (g' (setOf c (lineOf s4 x).b : Int)).getD 0 ≤ 64 := by
          cases e : g' (setOf c (lineOf s4 x).b : Int) with
          | none => simp
          | some v => have := h3 _ _ e; simp; omega
        have HSA := Lib.hid (set_any c (lineOf s4 x).b W (HT.out _ HRW.out.go.grown) HM.out)
        have HP : Hid (pre ++ [x] <+: List.finRange (told s4).length → (f (lineOf s4 x).b).getD false = false ∧ (g' (setOf c (lineOf s4 x).b : Int)).getD 0 + 1 ≤ c.wa) := Lib.hid fun hp => by
          obtain ⟨e1, e2⟩ := h4 ((List.prefix_append pre [x]).trans hp)
          have r1 := came_new rfl HR5.out.inv hp
          have r2 := came_room rfl HR5.out.go.cac HR5.out.inv hp
          rw [e1, e2, manyF_get]
          exact ⟨by show (seenF (came s4 pre) ((told s4).getD x.val zl).b).getD false = false; rw [r1]; rfl, r2⟩
        have HNX : Hid (∀ W', MapAt W' A (mput (vb f) (lineOf s4 x).b (.bool true)) → MapAt W' (A + 1) (mput (vi g') (setOf c (lineOf s4 x).b : Int) (.int .i64 ((g' (setOf c (lineOf s4 x).b : Int)).getD 0 + 1))) → SI A W1 W' → IM c s4 A W1 (pre ++ [x]) W') := Lib.hid fun W' a1 a2 a3 => IM.next (W := W) h3 h4 a1 a2 a3
        have HM1 := Lib.hid hm1
        have HM2 := Lib.hid hm2
        have HSI := Lib.hid hsi
        have HLN := Lib.hid hl
        have HSZ := Lib.hid hsi.below.size
        obtain ⟨lb, hlb⟩ : ∃ lb, lb = (lineOf s4 x).b := ⟨_, rfl⟩
        obtain ⟨ls, hls⟩ : ∃ ls, ls = (lineOf s4 x).s := ⟨_, rfl⟩
        obtain ⟨s, hss⟩ : ∃ s, s = setOf c (lineOf s4 x).b := ⟨_, rfl⟩
        rw [← hss] at hn HSA HP HNX
        rw [← hlb] at l0 HSA HP HNX
        rw [← hls] at l1 hdm1 hdm2
        obtain ⟨n, hnn⟩ : ∃ n, n = (g' (s : Int)).getD 0 := ⟨_, rfl⟩
        obtain ⟨v, hv⟩ : ∃ v, v = (f lb).getD false := ⟨_, rfl⟩
        rw [← hnn] at hn HP HNX
        rw [← hv] at HP
        have HV := Lib.hid hv
        have HNN := Lib.hid hnn
        have HLB := Lib.hid hlb
        have HLS := Lib.hid hls
        have r62 := HNN.out ▸ look62 hm2 (s : Int)
        unfold Cfg.cells at HSA
        clear hm1 hm2 h3 h4 hsi hl hmay hlen hv hnn hlb hls hss hgB hsw hl64
        unfold frameOf
        simp only [List.setIfInBounds_toArray, List.set_cons_succ, List.set_cons_zero]
        have HG67 : Hid (∀ w6 w7, W.grownBy w6 none → w6.grownBy w7 (some (A + 1)) → KeepsFrom W1.heap.size W w7 ∧ SameK K W w7 ∧ SI A W1 w7 ∧ Boxed w7 (w.heap.size + 1) 4 (.bool false) ∧ CfgAt w7 w.heap.size c ∧ (w7.cell? ⟨B, 0, none⟩ = some (.int .i64 lb) ∧ w7.cell? ⟨B, 1, none⟩ = some (.int .u8 ls)) ∧ MapAt w7 A (vb f) ∧ w7.heap.size ≥ W.heap.size) := Lib.hid fun w6 w7 a1 a2 => by
          have hsz := HSZ.out
          have has := HAS.out
          have hsw := HSW.out
          have hw0 := HR5.out.go.grown.size
          have hA1 : A + 1 < W1.heap.size := by omega
          have hk : ∀ k, k < W.heap.size → k ≠ A + 1 → w7.heap[k]? = W.heap[k]? := fun k h1 h2 => (a2.block k (Nat.lt_of_lt_of_le h1 a1.size) (fun e => h2 (Option.some.inj e))).trans (a1.block k h1 (by simp))
          have hcell : ∀ (k i : Nat) v, k ≠ A + 1 → W.cell? ⟨k, i, none⟩ = some v → w7.cell? ⟨k, i, none⟩ = some v := fun k i v h1 h2 => by
            rw [World.cell?_of_block (w := W) (a := ⟨k, i, none⟩) (hk k (World.block_lt_of_cell? W ⟨k, i, none⟩ h2) h1)]; exact h2
          have hcf := HCF.out.grown HRW.out.go.grown
          have hne : w.heap.size ≠ A + 1 := by omega
          refine ⟨(KeepsFrom.of_grownBy a1 (fun j e => by cases e)).trans (KeepsFrom.of_grownBy a2 (fun j e => by have := Option.some.inj e; omega)), fun k hk' => hk k (by have := HKA.out k hk'; omega) (by have := HKA.out k hk'; omega), (HSI.out.more a1 (by omega) (fun k e => by cases e)).more a2 (by have := a1.size; omega) (fun k e => by have := Option.some.inj e; omega), (hk _ (by omega) (by omega)).trans HBW.out,
            ⟨hcell _ _ _ hne hcf.c0, hcell _ _ _ hne hcf.c1, hcell _ _ _ hne hcf.c2, hcell _ _ _ hne hcf.c3, hcell _ _ _ hne hcf.c4, hcell _ _ _ hne hcf.c5, hcell _ _ _ hne hcf.c6, hcell _ _ _ hne hcf.c7⟩, ⟨hcell _ _ _ (by omega) l0, hcell _ _ _ (by omega) l1⟩, HM1.out.same (hk A (by omega) (by omega)), Nat.le_trans a1.size a2.size⟩
        by_cases hv : v = true
        · subst hv
          gi_wp2_with (first
            | (gi_at_call 27; refine (CallsIn.inRound l (callsIn_wide.2 HSA.out)).mono ?_; rintro e w6 ⟨rfl, hg6⟩; have HG6 := Lib.hid hg6; have t10' := (HSI.out.more hg6 (by have := HSZ.out; have := HSW.out; omega) (fun k e => by cases e)).b2.cell; have r62 := HNN.out ▸ look62 (HM2.out.same (hg6.block _ HM2.out.lt (by simp))) (s : Int); have HM26 := Lib.hid (HM2.out.same (hg6.block _ HM2.out.lt (by simp))); clear hg6 t10)
            | ((with_reducible refine map_storeI 62 3 Tryd.underlying62 Tryd.underlying3 (.tmp 77) (.tmp 78) (.tmp 80) (A + 1) (vi g') (s : Int) (.int .i64 (n + 1)) ?_ ?_ ?_ HM26.out ?_); (rfl); (rfl); (rfl); intro w7 hm7 hg7; obtain ⟨x1, x2, x3, x4, ⟨c0, c1, c2, c3, c4, c5, c6, c7⟩, ⟨l0, l1⟩, x7, x8⟩ := HG67.out w6 w7 HG6.out hg7; have t9' := x3.b1.cell; have t10'' := x3.b2.cell; have r61 : (Instr.lookup 61 (.map (some A)) (.int .i64 lb) false).run Tryd.prog w7 = .ok (.bool true) w7 := (by rw [look61 x7 lb, ← HV.out]);  have hbc := Go.Boxed.cell x4; have hbf := Go.Boxed.frozen x4; have HX := Lib.hid x1;  clear hm7 hg7 x1 x2 x3 x4 x7 x8))
          exact ⟨HX.out.trans ((KeepsOthers.setCell _ _ _).from _), rfl, fun hp => by have := (HP.out hp).1; cases this⟩
        · have hv' : v = false := by simpa using hv
          subst hv'
          clear hv
          by_cases hw : c.wa < n + 1
          · have hdw : decide (c.wa < n + 1) = true := by simp; omega
            gi_wp2_with (first
              | (gi_at_call 27; refine (CallsIn.inRound l (callsIn_wide.2 HSA.out)).mono ?_; rintro e w6 ⟨rfl, hg6⟩; have HG6 := Lib.hid hg6; have t10' := (HSI.out.more hg6 (by have := HSZ.out; have := HSW.out; omega) (fun k e => by cases e)).b2.cell; have r62 := HNN.out ▸ look62 (HM2.out.same (hg6.block _ HM2.out.lt (by simp))) (s : Int); have HM26 := Lib.hid (HM2.out.same (hg6.block _ HM2.out.lt (by simp))); clear hg6 t10)
              | ((with_reducible refine map_storeI 62 3 Tryd.underlying62 Tryd.underlying3 (.tmp 77) (.tmp 78) (.tmp 80) (A + 1) (vi g') (s : Int) (.int .i64 (n + 1)) ?_ ?_ ?_ HM26.out ?_); (rfl); (rfl); (rfl); intro w7 hm7 hg7; obtain ⟨x1, x2, x3, x4, ⟨c0, c1, c2, c3, c4, c5, c6, c7⟩, ⟨l0, l1⟩, x7, x8⟩ := HG67.out w6 w7 HG6.out hg7; have t9' := x3.b1.cell; have t10'' := x3.b2.cell; have r61 : (Instr.lookup 61 (.map (some A)) (.int .i64 lb) false).run Tryd.prog w7 = .ok (.bool false) w7 := (by rw [look61 x7 lb, ← HV.out]); have r62b : (Instr.lookup 62 (.map (some (A + 1))) (.int .i64 (s : Int)) false).run Tryd.prog w7 = .ok (.int .i64 (n + 1)) w7 := (by rw [run_lookup_map Tryd.underlying62 Tryd.underlying3 hm7 (zero3 w7) (s : Int)]; simp [mput]); have hbc := Go.Boxed.cell x4; have hbf := Go.Boxed.frozen x4; have HX := Lib.hid x1;  clear hm7 hg7 x1 x2 x3 x4 x7 x8))
            exact ⟨HX.out.trans ((KeepsOthers.setCell _ _ _).from _), rfl, fun hp => by have := (HP.out hp).2; omega⟩
          · have hdw : decide (c.wa < n + 1) = false := by simp; omega
            gi_wp2_with (first
              | (gi_at_call 27; refine (CallsIn.inRound l (callsIn_wide.2 HSA.out)).mono ?_; rintro e w6 ⟨rfl, hg6⟩; have HG6 := Lib.hid hg6; have t10' := (HSI.out.more hg6 (by have := HSZ.out; have := HSW.out; omega) (fun k e => by cases e)).b2.cell; have r62 := HNN.out ▸ look62 (HM2.out.same (hg6.block _ HM2.out.lt (by simp))) (s : Int); have HM26 := Lib.hid (HM2.out.same (hg6.block _ HM2.out.lt (by simp))); clear hg6 t10)
              | ((with_reducible refine map_storeI 62 3 Tryd.underlying62 Tryd.underlying3 (.tmp 77) (.tmp 78) (.tmp 80) (A + 1) (vi g') (s : Int) (.int .i64 (n + 1)) ?_ ?_ ?_ HM26.out ?_); (rfl); (rfl); (rfl); intro w7 hm7 hg7; obtain ⟨x1, x2, x3, x4, ⟨c0, c1, c2, c3, c4, c5, c6, c7⟩, ⟨l0, l1⟩, x7, x8⟩ := HG67.out w6 w7 HG6.out hg7; have t9' := x3.b1.cell; have t10'' := x3.b2.cell; have r61 : (Instr.lookup 61 (.map (some A)) (.int .i64 lb) false).run Tryd.prog w7 = .ok (.bool false) w7 := (by rw [look61 x7 lb, ← HV.out]); have r62b : (Instr.lookup 62 (.map (some (A + 1))) (.int .i64 (s : Int)) false).run Tryd.prog w7 = .ok (.int .i64 (n + 1)) w7 := (by rw [run_lookup_map Tryd.underlying62 Tryd.underlying3 hm7 (zero3 w7) (s : Int)]; simp [mput]); have hbc := Go.Boxed.cell x4; have hbf := Go.Boxed.frozen x4; have HX := Lib.hid x1; have HSK := Lib.hid x2; have HS7 := Lib.hid x3; have HM7 := Lib.hid hm7; have HF7 := Lib.hid x7; have HZ7 := Lib.hid x8; clear hm7 hg7 x1 x2 x3 x4 x7 x8)
              | ((with_reducible refine map_storeI 61 4 Tryd.underlying61 Tryd.underlying3 (.tmp 103) (.tmp 105) (.const (.bool true)) A (vb f) lb (.bool true) ?_ ?_ ?_ HF7.out ?_); (rfl); (rfl); (rfl); intro w8 hm8 hg8; have HM8 := Lib.hid hm8; have HG8 := Lib.hid hg8; clear hm8 hg8))
            have hsz := HSZ.out
            have hsw := HSW.out
            have h7 := HZ7.out
            refine ⟨HX.out.trans (KeepsFrom.of_grownBy HG8.out (fun j e => by have := Option.some.inj e; omega)), HSK.out.trans (fun k hk' => HG8.out.block k (by have := HKA.out k hk'; omega) (fun e => by have := HKA.out k hk'; have := Option.some.inj e; omega)), ?_⟩
            exact HNX.out w8 HM8.out (HM7.out.same (HG8.out.block _ (by omega) (fun e => by have := Option.some.inj e; omega))) (HS7.out.more HG8.out (by omega) (fun k e => by have := Option.some.inj e; omega))
      · intro D W hD hbel hdef
        have hgB : w4.grownBy W none := grown_below HAS.out HGW.out hbel
        have HRW := Lib.hid (HR5.out.more hgB)
        have HMW : Hid (Marks w0.heap.size W (D :: Ds)) := Lib.hid ((HMK4.out.grown hgB).cons hdef (by have := HR5.out.go.grown.size; have := HAS.out; omega) (fun D' hD' => by have := lt_of (HMK4.out.at_ D' hD').2; have := HAS.out; omega))
        clear hD hbel hdef hgB hsw
        gi_wp2
        rw [HDS.out]
        refine ⟨⟨_, _, _, _, _, _, _, _, _, _, _, _, _, _, _, _, _, _, _, _, _, _, _, _, _, _, _, _, _, _, _, _, _, _, _, _, _, _, _, _, _, _, _, _, _, _, _, _, _, _, _, _, _, _, _, _, _, _, _, _, _, _, _, _, _, _, _, _, _, _, _, _, _, _, _, _, _, _, _, _, _, _, _, _, D :: Ds, ⟨j + 1, s4, by omega, by go_num, HRW.out, HMW.out⟩, rfl⟩, ?_⟩
        simp [intOf]; omega
  · obtain rfl : j = len := by omega
    have hbx := box_grow HBX.out hr.go.grown
    have HBR := Lib.hid hbx
    have hbc := Go.Boxed.cell hbx
    clear hr hmk hds
    gi_wp2_with (first
      | (gi_at_call 10; refine (callsIn_wide.2 (HW.out _ HR.out.go.grown)).mono ?_; rintro e w9 ⟨rfl, hg9⟩; have hb9 := box_grow HBR.out hg9; have hbc9 := Go.Boxed.cell hb9; have hbf9 := Go.Boxed.frozen hb9; have HB9 := Lib.hid hb9; have HG9 := Lib.hid hg9; clear hg9 hb9))
    rw [HDS.out]
    have hgw := grown_trans HG0.out (grown_trans HR.out.go.grown HG9.out)
    refine leaves_all (n0 := w0.heap.size) (fun W => Boxed W (w.heap.size + 1) 4 (.bool true) ∧ w.grownBy W none) ?_ ?_ Ds _ ?_ ?_
    · rintro W D hD hW ⟨a1, a2⟩
      exact ⟨a1.kept (grownBy_putObj' W D (.deferred none)) (fun e => by have := Option.some.inj e; omega), grown_own a2 (grownBy_putObj' W D (.deferred none)) (by omega)⟩
    · rintro W ⟨a1, a2⟩
      exact ⟨_, results_box rfl agg4 _ _ _ _ rfl a1.cell, rfl, a2⟩
    · have hm := HMK.out.grown HG9.out
      exact ⟨hm.nd, fun D hD => ⟨(hm.at_ D hD).1, (Below.heap_setCell _ _ _ _ (show D ≠ w.heap.size + 1 from by have := (hm.at_ D hD).1; omega)).trans (hm.at_ D hD).2⟩⟩
    · exact ⟨Go.Boxed.set _ HB9.out, grown_own hgw (grown_setCell _ _ _ _) (by omega)⟩

set_option maxRecDepth 1000000 in
set_option maxHeartbeats 4000000 in
theorem sets_long (c : Cfg) (ad : Option Addr) (len cap : Nat) (w : World) (hT : Tab w) (h : 300 < len) :
    Calls Tryd.prog 5 #[.agg c.cells, .slice ad len cap] w fun e w' => e = .returned (.bool true) ∧ w.grownBy w' none := by
  refine (callsIn_wide (n := 5)).1 ?_
  have hd : decide ((300 : Int) < (len : Int)) = true := by simp; omega
  obtain ⟨w0, hw0⟩ : ∃ w0, w0 = (w.alloc (.cells c.cells 27)).alloc (.cells #[.bool false] 4) := ⟨_, rfl⟩
  have hg0 : w.grownBy w0 none := by rw [hw0]; exact grown_alloc (grown_alloc (grown_refl _ _) _) _
  have hs0 : w0.heap.size = w.heap.size + 2 := by rw [hw0]; simp
  have HCF : Hid (CfgAt w0 w.heap.size c) := Lib.hid (by rw [hw0]; exact (cfg_at w c).grown (grown_alloc (grown_refl _ _) _))
  have HBX : Hid (Boxed w0 (w.heap.size + 1) 4 (.bool false)) := Lib.hid (by
    have := Boxed.new (w.alloc (.cells c.cells 27)) 4 (.bool false)
    rw [World.size_alloc] at this
    rw [hw0]; exact this)
  have HW : Hid (∀ w', w0.grownBy w' none → _) := Lib.hid (fun w' h => works_any w' (hT.grown (grown_trans hg0 h)))
  have HNO : Hid (∀ w', w0.grownBy w' none → ¬ c.may → _) := Lib.hid (fun w' h hm => new_no c w' (hT.grown (grown_trans hg0 h)) hm)
  have HG0 := Lib.hid hg0
  have HW0 : Hid ((w.alloc (.cells c.cells 27)).alloc (.cells #[.bool false] 4) = w0) := Lib.hid hw0.symm
  clear hT hg0 hw0
  unfold Cfg.cells at HNO HW0 ⊢
  refine callsIn_of_wp_marks Tryd.func5 rfl trivial ?_ rfl
  simp only [Tryd.ntmps5, List.size_toArray, List.length_cons, List.length_nil, Nat.reduceAdd, Nat.reduceSub, Array.replicate_succ, Array.replicate_zero, List.push_toArray, List.append_toArray, List.nil_append, List.cons_append]
  gi_wp2_with (first
    | (rw [HW0.out]; gi_at_call 10; refine (callsIn_wide.2 (HW.out _ (grown_refl _ _))).mono ?_; rintro e w1 ⟨rfl, hg1⟩; have HG1 := Lib.hid hg1; obtain ⟨c0, c1, c2, c3, c4, c5, c6, c7⟩ := HCF.out.grown hg1; clear hg1)
    | (gi_at_call 10; refine (callsIn_wide.2 (HW.out _ HG1.out)).mono ?_; rintro e w9 ⟨rfl, hg9⟩; have hb9 := box_grow HBX.out (grown_trans HG1.out hg9); have hbc9 := Go.Boxed.cell hb9; have hbf9 := Go.Boxed.frozen hb9; have HB9 := Lib.hid hb9; have HG9 := Lib.hid (grown_trans HG1.out hg9); clear hg9 hb9))
  exact ⟨_, results_box rfl agg4 _ _ _ _ rfl (Go.Boxed.set _ HB9.out).cell, rfl, grown_own (grown_trans HG0.out HG9.out) (grown_setCell _ _ _ _) (by omega)⟩

set_option maxRecDepth 1000000 in
set_option maxHeartbeats 4000000 in
theorem sets_no (c : Cfg) (ad : Option Addr) (len cap : Nat) (w : World) (hT : Tab w) (h : len ≤ 300) (hm : ¬ c.may) :
    Calls Tryd.prog 5 #[.agg c.cells, .slice ad len cap] w fun e w' => e = .returned (.bool true) ∧ w.grownBy w' none := by
  refine (callsIn_wide (n := 5)).1 ?_
  have hd : decide ((300 : Int) < (len : Int)) = false := by simp; omega
  have HMN := Lib.hid hm
  obtain ⟨w0, hw0⟩ : ∃ w0, w0 = (w.alloc (.cells c.cells 27)).alloc (.cells #[.bool false] 4) := ⟨_, rfl⟩
  have hg0 : w.grownBy w0 none := by rw [hw0]; exact grown_alloc (grown_alloc (grown_refl _ _) _) _
  have hs0 : w0.heap.size = w.heap.size + 2 := by rw [hw0]; simp
  have HCF : Hid (CfgAt w0 w.heap.size c) := Lib.hid (by rw [hw0]; exact (cfg_at w c).grown (grown_alloc (grown_refl _ _) _))
  have HBX : Hid (Boxed w0 (w.heap.size + 1) 4 (.bool false)) := Lib.hid (by
    have := Boxed.new (w.alloc (.cells c.cells 27)) 4 (.bool false)
    rw [World.size_alloc] at this
    rw [hw0]; exact this)
  have HW : Hid (∀ w', w0.grownBy w' none → _) := Lib.hid (fun w' h => works_any w' (hT.grown (grown_trans hg0 h)))
  have HNO : Hid (∀ w', w0.grownBy w' none → ¬ c.may → _) := Lib.hid (fun w' h hm => new_no c w' (hT.grown (grown_trans hg0 h)) hm)
  have HG0 := Lib.hid hg0
  have HW0 : Hid ((w.alloc (.cells c.cells 27)).alloc (.cells #[.bool false] 4) = w0) := Lib.hid hw0.symm
  clear hT hg0 hw0
  unfold Cfg.cells at HNO HW0 ⊢
  refine callsIn_of_wp_marks Tryd.func5 rfl trivial ?_ rfl
  simp only [Tryd.ntmps5, List.size_toArray, List.length_cons, List.length_nil, Nat.reduceAdd, Nat.reduceSub, Array.replicate_succ, Array.replicate_zero, List.push_toArray, List.append_toArray, List.nil_append, List.cons_append]
  gi_wp2_with (first
    | (rw [HW0.out]; gi_at_call 10; refine (callsIn_wide.2 (HW.out _ (grown_refl _ _))).mono ?_; rintro e w1 ⟨rfl, hg1⟩; have HG1 := Lib.hid hg1; obtain ⟨c0, c1, c2, c3, c4, c5, c6, c7⟩ := HCF.out.grown hg1; clear hg1)
    | (gi_at_call 8; refine (callsIn_wide.2 (HNO.out _ HG1.out HMN.out)).mono ?_; rintro e w2 ⟨rfl, hg2⟩; have HG2 := Lib.hid (grown_trans HG1.out hg2); clear hg2)
    | (gi_at_call 10; refine (callsIn_wide.2 (HW.out _ HG2.out)).mono ?_; rintro e w9 ⟨rfl, hg9⟩; have hb9 := box_grow HBX.out (grown_trans HG2.out hg9); have hbc9 := Go.Boxed.cell hb9; have hbf9 := Go.Boxed.frozen hb9; have HB9 := Lib.hid hb9; have HG9 := Lib.hid (grown_trans HG2.out hg9); clear hg9 hb9))
  exact ⟨_, results_box rfl agg4 _ _ _ _ rfl (Go.Boxed.set _ HB9.out).cell, rfl, grown_own (grown_trans HG0.out HG9.out) (grown_setCell _ _ _ _) (by omega)⟩

theorem sets_true (c : Cfg) (os : List OpX) (ad : Option Addr) (len cap : Nat) (w : World) (hT : Tab w) (hlen : len = os.length) (hat : OpsAt w ad os) :
    Calls Tryd.prog 5 #[.agg c.cells, .slice ad len cap] w fun e w' => e = .returned (.bool true) ∧ w.grownBy w' none := by
  by_cases h : 300 < len
  · exact sets_long c ad len cap w hT h
  · by_cases hm : c.may
    · exact sets_some c os ad len cap w hT hlen hat (by omega) hm
    · exact sets_no c ad len cap w hT (by omega) hm
end Go.Proofs.YtjbapfjeildfoaaDoor.kk
