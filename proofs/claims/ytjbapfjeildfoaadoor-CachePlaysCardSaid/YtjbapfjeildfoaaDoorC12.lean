/-
  What All, Len answer: contracts. No condition but the bounds that each theorem names.
-/
import Derived.Test.YtjbapfjeildfoaaDoorC11
namespace Go.Proofs.YtjbapfjeildfoaaDoor.kk
open Go Go.RowKit Go.Shelf
set_option linter.unusedVariables false
attribute [local go_sem] Oper.semAt_some
attribute [local simp] wide_fn

set_option maxHeartbeats 1000000 in
theorem all_in (n : Nat) (v : Option Addr) (w : World) :
    CallsIn Fence.wide n Tryd.prog 26 #[.pointer v] w fun e w' => e = .returned (.func (.func 46) #[] #[.pointer (some ⟨w.heap.size, 0, none⟩)]) ∧ w' = w.alloc (.cells #[.pointer v] 22) := by
  refine callsIn_of_wp Tryd.func26 rfl trivial ?_ rfl
  simp only [Tryd.ntmps26, List.size_toArray, List.length_cons, List.length_nil, Nat.reduceAdd, Nat.reduceSub, Array.replicate_succ, Array.replicate_zero, List.push_toArray, List.append_toArray, List.nil_append, List.cons_append]
  gi_wp2
  go_ret
  exact ⟨rfl, rfl⟩
theorem below_same {K : Loc} {A B : World} (hv : ∀ k, K.any k → k < A.heap.size) (h : Below A.heap.size A B) : SameK K A B := fun k hk => h.block k (hv k hk)
theorem all_stops (n : Nat) (hn : 1 ≤ n) (Bn : Nat) (K : Loc) (c : Cfg) (ss : List St) (q : Nat) (hq : q = (told ss).length) (w : World) (hC : Cac w K c ss) (hc : w.cell? ⟨Bn, 0, none⟩ = some (.pointer (some ⟨K.b, 0, none⟩))) :
    SeqStopsK Fence.wide n Tryd.prog 46 #[.pointer (some ⟨Bn, 0, none⟩)] (encL ss : Fin q → Array Value) (SameK K) (fun ys => ys = List.finRange q) (fun pre => pre <+: List.finRange q) q w := fun l J Jx W hW hAJ _ hY h0 =>
  all1_in n hn l Bn W.heap.size K c ss q hq J Jx hAJ hY W ((hW.cell (p := ⟨Bn, 0, none⟩) (World.block_lt_of_cell? w _ hc)).trans hc) (hC.same (below_same (fun k hk => hC.lt hk) hW)) h0
theorem all_nil (n : Nat) (Bn : Nat) (w : World) (hc : w.cell? ⟨Bn, 0, none⟩ = some (.pointer none)) :
    SeqStopsK Fence.wide n Tryd.prog 46 #[.pointer (some ⟨Bn, 0, none⟩)] (encL [] : Fin 0 → Array Value) (SameK ⟨0, 0, 0, []⟩) (fun ys => ys = List.finRange 0) (fun pre => pre <+: List.finRange 0) 0 w := fun l J Jx W hW hAJ _ hY h0 => by
  have hB := (hW.cell (p := ⟨Bn, 0, none⟩) (World.block_lt_of_cell? w _ hc)).trans hc
  have H0 := Lib.hid h0
  clear hc hY h0 hAJ hW
  refine callsIn_of_wp Tryd.func46 rfl trivial ?_ rfl
  simp only [Tryd.ntmps46, List.size_toArray, List.length_cons, List.length_nil, Nat.reduceAdd, Nat.reduceSub, Array.replicate_succ, Array.replicate_zero, List.push_toArray, List.append_toArray, List.nil_append, List.cons_append]
  gi_wp2
  refine bodyPost_ret (results_none rfl _ _ _) rfl ?_
  exact ⟨⟨_, rfl⟩, .inl ⟨[], rfl, H0.out⟩⟩
theorem boxed_own {W W' : World} {row : Option Nat} {B : Nat} {t : TypeId} {v : Value} (h : Boxed W B t v) (hg : W.grownBy W' row) (hr : ∀ r, row = some r → ∃ o : Obj, W.heap[r]? = some o ∧ o.isCells = false) : Boxed W' B t v :=
  h.kept hg fun e => by
    obtain ⟨o, ho, hc⟩ := hr B e.symm
    rw [show W.heap[B]? = _ from h] at ho; cases ho; cases hc

set_option maxRecDepth 1000000 in
set_option maxHeartbeats 4000000 in
theorem len_of (v : Option Addr) (q : Nat) (enc1 : Fin q → Value) (K : Loc) (w : World) (hq : q ≤ 64)
    (hlt : ∀ W, w.grownBy W none → ∀ k, K.any k → k < W.heap.size)
    (hst : ∀ (Bn : Nat) (W : World), w.grownBy W none → W.cell? ⟨Bn, 0, none⟩ = some (.pointer v) → SeqStopsK Fence.wide 4 Tryd.prog 46 #[.pointer (some ⟨Bn, 0, none⟩)] (fun x => #[enc1 x]) (SameK K) (fun ys => ys = List.finRange q) (fun pre => pre <+: List.finRange q) q W) :
    Calls Tryd.prog 19 #[.pointer v] w fun e w' => e = .returned (.int .i64 (q : Int)) ∧ w.grownBy w' none := by
  refine (callsIn_wide (n := 5)).1 ?_
  have HST := Lib.hid hst
  have HLT := Lib.hid hlt
  clear hst hlt
  refine callsIn_of_wp_marks Tryd.func19 rfl trivial ?_ rfl
  simp only [Tryd.ntmps19, List.size_toArray, List.length_cons, List.length_nil, Nat.reduceAdd, Nat.reduceSub, Array.replicate_succ, Array.replicate_zero, List.push_toArray, List.append_toArray, List.nil_append, List.cons_append]
  gi_wp2_with (gi_at_call 26; refine (all_in _ _ _).mono ?_; rintro e w' ⟨rfl, rfl⟩)
  have bn := Boxed.new w 3 (.int .i64 0)
  have bp := Boxed.new (w.alloc (.cells #[.int .i64 0] 3)) 22 (.pointer v)
  rw [World.size_alloc] at bp
  have bn' := bn.alloc (.cells #[.pointer v] 22)
  have hg0 : w.grownBy ((w.alloc (.cells #[.int .i64 0] 3)).alloc (.cells #[.pointer v] 22)) none := grown_alloc (grown_alloc (grown_refl _ _) _) _
  obtain ⟨W0, hW0⟩ : ∃ W0, W0 = ((w.alloc (.cells #[.int .i64 0] 3)).alloc (.cells #[.pointer v] 22)) := ⟨_, rfl⟩
  have hs0 : W0.heap.size = w.heap.size + 2 := by rw [hW0]; simp
  rw [← hW0] at bp bn' hg0 ⊢
  have HG0 := Lib.hid hg0
  clear bn hW0 hg0
  apply wpIn_rangeFunc_ownF rfl (by omega) (gf := 46) (lb := #[.pointer (some ⟨w.heap.size + 1, 0, none⟩)]) rfl trivial (enters_of Tryd.func46 (by kernel_rfl) rfl)
    (Kp := SameK K) (HST.out (w.heap.size + 1) W0 HG0.out bp.cell) (fun {A B C} h k => SameK.trans h k) (SameK.put (HLT.out W0 HG0.out)) (Below.refl _ _) (fun _ => rfl)
    (fun pre W => Boxed W w.heap.size 3 (.int .i64 (pre.length : Int)) ∧ Below w.heap.size w W)
    (fun c ys W => False)
    (OwnFrom.and (fun s A B row hs hg hr => boxed_own hs hg (fun r e => (hr r e).2)) (ownFrom_below (Nat.le_refl _) (by omega)))
    (fun c' s A B row hs hg hr => hs)
    ⟨bn', ⟨HG0.out.os, HG0.out.tape, HG0.out.output, HG0.out.size, fun k hk => HG0.out.block k hk (by simp)⟩⟩
  case hassign =>
    intro l x W K' hK
    have HK := Lib.hid hK
    clear hK
    gi_wp2
    exact HK.out
  case hbody =>
    rintro l pre x W ⟨hbn, hb⟩ hlt
    have hn := Go.Boxed.cell hbn
    have hnf := Go.Boxed.frozen hbn
    have HLX := Lib.hid (show ((pre ++ [x]).length : Int) = (pre.length : Int) + 1 by simp)
    have hbn2 := Go.Boxed.set (.int .i64 ((pre.length : Int) + 1)) hbn
    have hb2 := hb.setCell (p := ⟨w.heap.size, 0, none⟩) (Nat.le_refl _) (.int .i64 ((pre.length : Int) + 1))
    have hltB : w.heap.size < W0.heap.size := by omega
    have hsame : SameK K W (W.setCell ⟨w.heap.size, 0, none⟩ (.int .i64 ((pre.length : Int) + 1))) := fun j hj => Below.heap_setCell _ _ _ _ (show _ ≠ w.heap.size from by have := HLT.out w (grown_refl _ _) j hj; omega)
    have hlen : pre.length ≤ 64 := by omega
    have HB := Lib.hid (And.intro hbn2 hb2)
    have HS := Lib.hid hsame
    clear hbn hb hbn2 hb2 hsame hlt
    gi_wp2
    exact ⟨KeepsOthers.setCell _ _ _, HS.out, by rw [HLX.out]; exact HB.out.1, HB.out.2⟩
  case hdone =>
    rintro D ys W hD rfl ⟨hbn, hb⟩ hK
    rw [List.length_finRange] at hbn
    have hn := Go.Boxed.cell hbn
    have HB := Lib.hid hb
    clear hbn hb
    gi_wp2
    refine ⟨by simp, .inl ⟨_, _, rfl, run_takeDeferred hK, ?_⟩⟩
    have hb2 : Below w.heap.size W (W.putObj D (.deferred none)) := belowK_b (w := w) (Nat.le_refl _) _ D _ _ (by omega) hK rfl rfl
    have hb3 := HB.out.trans hb2
    refine ⟨_, results_tmp rfl _ _ _, rfl, ?_⟩
    exact ⟨hb3.os, hb3.tape, hb3.output, hb3.size, fun k hk _ => hb3.block k hk⟩
  case hstop =>
    rintro D c ys W hD hpre hf
    exact hf.elim

/-- Len: how many lines there are. -/
theorem told_le (ss : List St) : (told ss).length ≤ (ss.map fun p => p.1.length).sum := by
  induction ss with
  | nil => simp [told]
  | cons p r ih =>
    unfold told at ih ⊢
    rw [List.flatMap_cons, List.length_append, List.map_cons, List.sum_cons]
    have := List.length_filter_le live p.1
    omega
theorem told_64 {w : World} {K : Loc} {c : Cfg} {ss : List St} (hC : Cac w K c ss) : (told ss).length ≤ 64 := by
  refine Nat.le_trans (told_le ss) ?_
  have h4 : ∀ p ∈ ss, p.1.length ≤ 4 := fun p hp => (hC.wid4 hp).1
  have h16 : ss.length ≤ 16 := by have := hC.len; have := hC.may.sets; omega
  have : ∀ (l : List St), (∀ p ∈ l, p.1.length ≤ 4) → (l.map fun p => p.1.length).sum ≤ l.length * 4 := by
    intro l
    induction l with
    | nil => intro _; simp
    | cons p r ih =>
      intro h
      have h1 := h p (by simp)
      have h2 := ih (fun p' hp' => h p' (by simp [hp']))
      rw [List.map_cons, List.sum_cons, List.length_cons]; omega
  have := this ss h4
  omega
theorem len_any (K : Loc) (c : Cfg) (ss : List St) (w : World) (hC : Cac w K c ss) : Calls Tryd.prog 19 #[.pointer (some ⟨K.b, 0, none⟩)] w fun e w' => e = .returned (.int .i64 ((told ss).length : Int)) ∧ w.grownBy w' none :=
  len_of (some ⟨K.b, 0, none⟩) (told ss).length (fun x => .agg (la ((told ss).getD x.val zl))) K w (told_64 hC) (fun W hg k hk => Nat.lt_of_lt_of_le (hC.lt hk) hg.size)
    (fun Bn W hg hc => all_stops 4 (by omega) Bn K c ss _ rfl W (hC.grown hg) hc)

theorem len_nil (w : World) (hT : Tab w) : Calls Tryd.prog 19 #[.pointer none] w fun e w' => e = .returned (.int .i64 0) ∧ w.grownBy w' none := by
  have h0 : 0 < w.heap.size := World.block_lt_of_cell? w _ (hT 0 (by omega)).1
  exact len_of none 0 (fun x => .agg (la ((told []).getD x.val zl))) ⟨0, 0, 0, []⟩ w (by omega) (fun W hg k hk => by
    have h1 := hg.size
    rcases hk with e | e | ⟨q, hq, e⟩
    · have : k = 0 := e
      omega
    · have : k = 0 := e
      omega
    · simp at hq) (fun Bn W hg hc => all_nil 4 Bn W hc)
end Go.Proofs.YtjbapfjeildfoaaDoor.kk
