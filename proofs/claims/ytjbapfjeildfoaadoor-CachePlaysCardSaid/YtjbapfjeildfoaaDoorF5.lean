/-
  What slices.AppendSeq and slices.Collect make of a cache's iterator: contracts. No condition but what each theorem names.
-/
import Derived.Test.YtjbapfjeildfoaaDoorF2
import Derived.Test.YtjbapfjeildfoaaDoorC12
namespace Go.Proofs.YtjbapfjeildfoaaDoor.kk
open Go Go.ChangeShapes Go.WideShapes Go.ChangeAt Go.RowKit Go.Shelf
set_option linter.unusedVariables false
attribute [local go_sem] Oper.semAt_some
attribute [local simp] wide_fn

theorem sl_own {W W' : World} {row : Option Nat} {e : TypeId} {s n : Nat} {v : Value} {xs : List Value} (h : sl.Sl W e s v n xs) (hg : W.grownBy W' row) (hr : ∀ r, row = some r → ∃ o : Obj, W.heap[r]? = some o ∧ o.isCells = false) : sl.Sl W' e s v n xs :=
  h.of_block fun g hv => hg.block g (h.lt g hv) fun e' => by
    obtain ⟨o, ho, hc⟩ := hr g e'.symm
    obtain ⟨cur, hb⟩ := h.type g hv
    rw [hb] at ho; cases ho; cases hc
theorem append_slI {F : Fence} {n : Nat} {P : Program} {w : World} {ops : Array Oper} {rest : List Oper} {o : Oper} {a : Act} {Q : Exit → Act → World → Prop} (hgd : o.guard = none) (x y : Operand) (t : TypeId)
    (ho : o.op = .call { callee := .builtin .append, args := #[x, y], argTypes := #[t, t] }) (e : TypeId) (s : Nat) (i : TypeInfo) (z : Value) (bytes : Nat) (ht : P.underlying t = some (.slice e)) (hi : P.info? e = some i) (hz : i.zero = some z) (hsize : i.size = s) (hby : i.bytes = bytes) (hzs : z.cells.size = s)
    (v : Value) (m : Nat) (xs : List Value) (hsv : a.eval x = v) (hsl : sl.Sl w e s v m xs) (u : Value) (k : Nat) (news : List Value) (hsu : a.eval y = u) (hs : Src P s t u k news w) (h63 : m + k ≤ maxLen) (hbytes : (m + k) * bytes ≤ 140737488355328)
    (h : ∀ v' w', sl.Sl w' e s v' (m + k) (xs ++ news) → w.grownBy w' v.ownBlock → sl.Next w w' v v' → wpListIn F n P ops Q rest (a.put o.dst v') w') : wpListIn F n P ops Q (o :: rest) a w := by
  refine wpListIn_plain hgd fun K hK' => ?_
  obtain ⟨v', w', hrun, r1, r2, r3⟩ := sl.run_append_sl (P := P) w t t o.type e s i z bytes ht hi hz hsize hby hzs v m xs hsl u k news hs h63 hbytes
  unfold Oper.wpIn
  refine ⟨?_, ?_⟩
  · simp [Oper.about, ho, resolve, Target.leads, Sem.run_pure]
  · rw [Oper.semAt_plain F _ _ (by rw [ho]; intro c hc'; cases hc')]
    simp [execOp, ho, resolve, invoke, builtin, hsv, hsu, hrun, Result.andThen]
    exact hK' _ _ (h v' w' r1 r2 r3)

/-- What an append of one line leaves alone, where the slice lies behind the place B0 and its variable ahead of it. -/
theorem lacc_step {w X X4 : World} {b0 B0 : Nat} {u v4 : Value} {K : Loc} {pre : List Ln} {x : Ln} (hb : Boxed X b0 53 u) (hs : LSl X u pre) (hk : ∀ k, u.ownBlock = some k → B0 ≤ k) (hbl : Below w.heap.size w X) (h0 : b0 < B0) (hw : w.heap.size ≤ b0) (hsz : B0 ≤ X.heap.size) (hv : ∀ k, K.any k → k < w.heap.size)
    (h4 : sl.Sl X4 36 18 v4 (pre.length + 1) (sl.flat ln pre ++ ln x)) (hg : (X.alloc (.cells (la x) 36)).grownBy X4 u.ownBlock) (hn : sl.Next (X.alloc (.cells (la x) 36)) X4 u v4) :
    (X4.cell? ⟨b0, 0, none⟩ = some u ∧ X4.frozen? ⟨b0, 0, none⟩ = false) ∧ KeepsFrom B0 X (X4.setCell ⟨b0, 0, none⟩ v4) ∧ SameK K X (X4.setCell ⟨b0, 0, none⟩ v4) ∧
      (∃ u', Boxed (X4.setCell ⟨b0, 0, none⟩ v4) b0 53 u' ∧ LSl (X4.setCell ⟨b0, 0, none⟩ v4) u' (pre ++ [x]) ∧ ∀ k, u'.ownBlock = some k → B0 ≤ k) ∧ Below w.heap.size w (X4.setCell ⟨b0, 0, none⟩ v4) := by
  have keep : ∀ k, k < X.heap.size → some k ≠ u.ownBlock → X4.heap[k]? = X.heap[k]? := fun k hk he => (hg.block k (by simp; omega) he).trans (Below.heap_alloc _ _ _ hk)
  have hbl0 := Go.Boxed.lt hb
  have b4 : Boxed X4 b0 53 u := (keep b0 hbl0 (fun e => by have := hk _ e.symm; omega)).trans hb
  have hk4 : ∀ k, v4.ownBlock = some k → B0 ≤ k := fun k e => by
    rcases hn with h | h
    · exact hk k (h ▸ e)
    · have := h k e; simp at this; omega
  have hs0 := hbl.size
  have hz4 := hg.size
  simp at hz4
  have keep5 : ∀ k, k < X.heap.size → k ≠ b0 → some k ≠ u.ownBlock → (X4.setCell ⟨b0, 0, none⟩ v4).heap[k]? = X.heap[k]? := fun k h1 h2 h3 => (Below.heap_setCell _ _ _ _ h2).trans (keep k h1 h3)
  have hz5 : (X4.setCell ⟨b0, 0, none⟩ v4).heap.size = X4.heap.size := by simp [World.setCell]
  refine ⟨⟨b4.cell, b4.frozen⟩, ⟨by rw [hz5]; omega, fun k o h1 ho hc => ?_⟩, fun k e => keep5 k (by have := hv k e; omega) (by have := hv k e; omega) (fun e' => by have := hk _ e'.symm; have := hv k e; omega), ⟨v4, b4.set v4, ?_, hk4⟩, ?_⟩
  · refine (keep5 k (lt_of ho) (by omega) (fun e => ?_)).trans ho
    obtain ⟨cur, hcur⟩ := hs.type k e.symm
    rw [hcur] at ho; cases ho; cases hc
  · exact snoc_lsl (h4.of_block fun g hg => Below.heap_setCell _ _ _ _ (show g ≠ b0 by have := hk4 g hg; omega))
  · exact ((hbl.alloc hbl.size _).grown hg (by simp; omega) (fun r e => by have := hk r e; omega)).setCell (p := ⟨b0, 0, none⟩) hw _
theorem lacc_from {q B : Nat} (f : Fin q → Ln) (b0 B1 : Nat) : OwnFrom B (fun (pre : List (Fin q)) X => ∃ u, Boxed X b0 53 u ∧ LSl X u (pre.map f) ∧ ∀ k, u.ownBlock = some k → B1 ≤ k) := by
  rintro s A B' row ⟨u, h1, h2, h3⟩ hg hr
  refine ⟨u, h1.kept hg fun e => ?_, sl_own h2 hg (fun r e => (hr r e).2), h3⟩
  obtain ⟨hb, o, ho, hc⟩ := hr _ e.symm
  rw [show A.heap[b0]? = _ from h1] at ho; cases ho; cases hc
theorem fin_told (l : List Ln) (q : Nat) (hq : q = l.length) : (List.finRange q).map (fun x => l.getD x.val zl) = l := by
  subst hq
  apply List.ext_getElem?
  intro i
  rw [List.getElem?_map]
  by_cases hi : i < l.length
  · rw [fins_at _ i hi, List.getElem?_eq_getElem hi]
    simp [List.getD]
  · rw [List.getElem?_eq_none (by simp; omega), List.getElem?_eq_none (by omega)]; rfl

set_option maxRecDepth 1000000 in
set_option maxHeartbeats 4000000 in
theorem appseq_any (K : Loc) (c : Cfg) (ss : List St) (Bn : Nat) (w : World) (hC : Cac w K c ss) (hB : w.cell? ⟨Bn, 0, none⟩ = some (.pointer (some ⟨K.b, 0, none⟩))) :
    Calls Tryd.prog 45 #[.slice none 0 0, .func (.func 46) #[] #[.pointer (some ⟨Bn, 0, none⟩)]] w fun e W' => ∃ u, e = .returned u ∧ LSl W' u (told ss) ∧ w.grownBy W' none := by
  refine (callsIn_wide (n := 9)).1 ?_
  obtain ⟨i0, hi, hz0, hz1, hz2⟩ := info_parts info36z
  have HL := Lib.hid (told_64 hC)
  have HV : Hid (∀ k, K.any k → k < w.heap.size) := Lib.hid fun k hk => hC.lt hk
  obtain ⟨q, hq⟩ : ∃ q, q = (told ss).length := ⟨_, rfl⟩
  have HQ := Lib.hid hq
  obtain ⟨f, hf⟩ : ∃ f : Fin q → Ln, f = fun x => (told ss).getD x.val zl := ⟨_, rfl⟩
  have hbn := World.block_lt_of_cell? w _ hB
  have b1 := Boxed.new w 53 (.slice none 0 0)
  obtain ⟨W0, hW0⟩ : ∃ W0, W0 = w.alloc (.cells #[.slice none 0 0] 53) := ⟨_, rfl⟩
  have hgW : w.grownBy W0 none := by rw [hW0]; exact grown_alloc (grown_refl _ _) _
  have hs0 : W0.heap.size = w.heap.size + 1 := by rw [hW0]; simp
  have hW0' := hW0.symm
  rw [← hW0] at b1
  have HB1 := Lib.hid b1
  have HG := Lib.hid hgW
  have HST := Lib.hid (all_stops 8 (by omega) Bn K c ss q hq W0 (hC.grown hgW) (hgW.cell hB (by simp)))
  have HEN : Hid (∀ x : Fin q, (encL ss x : Array Value) = #[.agg (la (f x))]) := Lib.hid fun x => by rw [hf]; rfl
  have HFT : Hid ((List.finRange q).map f = told ss) := Lib.hid (by rw [hf]; exact fin_told _ q hq)
  clear hC hB hW0 b1 hgW hq hf
  refine callsIn_of_wp_marks Tryd.func45 rfl trivial ?_ rfl
  simp only [Tryd.ntmps45, List.size_toArray, List.length_cons, List.length_nil, Nat.reduceAdd, Nat.reduceSub, Array.replicate_succ, Array.replicate_zero, List.push_toArray, List.append_toArray, List.nil_append, List.cons_append]
  gi_wp2_with fail
  clear hW0'
  apply wpIn_rangeFunc_ownH rfl (by omega) (gf := 46) (lb := #[.pointer (some ⟨Bn, 0, none⟩)]) rfl trivial (enters_of Tryd.func46 (by kernel_rfl) rfl)
    (Kp := SameK K) HST.out (fun {A B C} h k => SameK.trans h k) (SameK.put (fun k hk => by have := HV.out k hk; omega)) (Below.refl _ _) (fun _ => rfl)
    (fun pre X => (∃ u, Boxed X w.heap.size 53 u ∧ LSl X u (pre.map f) ∧ ∀ k, u.ownBlock = some k → W0.heap.size ≤ k) ∧ Below w.heap.size w X)
    (fun cc ys X => False)
    (OwnFrom.and (lacc_from f _ _) (ownFrom_below (Nat.le_refl _) (by omega)))
    (fun c' s A B row hs hg hr => hs)
    ⟨⟨_, HB1.out, sl.Sl.nil _ _ _, by simp [Value.ownBlock]⟩, ⟨HG.out.os, HG.out.tape, HG.out.output, HG.out.size, fun k hk => HG.out.block k hk (by simp)⟩⟩
    (fun x a' X => ∃ Bx, W0.heap.size ≤ Bx ∧ X.heap[Bx]? = some (.cells (la (f x)) 36 (0, 0)) ∧ a' = { tmps := #[.slice none 0 0, .func (.func 46) #[] #[.pointer (some ⟨Bn, 0, none⟩)], .pointer (some ⟨w.heap.size, 0, none⟩), undef, .slice none 0 0, .pointer (some ⟨Bx, 0, none⟩), .func (.func 46) #[] #[.pointer (some ⟨Bn, 0, none⟩)], .agg (la (f x)), undef, undef, undef, undef, undef], defers := [] })
  case hAx =>
    rintro x a' s A B row ⟨Bx, h1, h2, h3⟩ hg hr
    exact ⟨Bx, h1, (hg.block Bx (lt_of h2) (fun e => by
      obtain ⟨hb, o, ho, hc⟩ := hr _ e.symm
      rw [h2] at ho; cases ho; cases hc)).trans h2, h3⟩
  case hassign =>
    rintro l' pre x X K' ⟨⟨u, hb1, hb2, hb3⟩, hbl⟩ hK
    have hgx : X.grownBy (X.alloc (.cells (la (f x)) 36)) none := grown_alloc (grown_refl _ _) _
    have hbl2 := hbl.size
    have hb1l := Go.Boxed.lt hb1
    have HX := Lib.hid (hK _ (X.alloc (.cells (la (f x)) 36)) ((KeepsOthers.alloc _ _).from _) (SameK.of (fun k hk => by have := HV.out k hk; omega) hgx) ⟨⟨u, hb1.alloc _, hb2.grown hgx, hb3⟩, hbl.alloc hbl.size _⟩ ⟨X.heap.size, by omega, heap_alloc_new _ _, rfl⟩)
    rw [HEN.out x]
    clear hK hb1 hb2 hbl hgx hbl2
    gi_wp2_with ((with_reducible refine store_newI (f x) _ _ ?_ ?_ ?_); (rfl); (rfl))
    exact HX.out
  case hbody =>
    rintro l' pre x a' X hl' ⟨rr, hrr⟩ ⟨⟨u, hb1, hb2, hb3⟩, hbl⟩ ⟨Bx, hBx, hbx, rfl⟩ hlt
    obtain ⟨ad, cap, rfl⟩ := hb2.form
    have hlx := lt_of hrr
    have HX : Hid (X.rangeAt Bx 0 (ln (f x))) := Lib.hid (range_of hbx)
    have hc1 := hb1.cell
    have hnsz := la_size (f x)
    have hfd := build_ln (f x)
    have HS := Lib.hid (hb2.grown (w' := X.alloc (.cells (la (f x)) 36)) (grown_alloc (grown_refl _ _) _))
    have HR : Hid (Src Tryd.prog 18 53 (.slice (some ⟨X.heap.size, 0, none⟩) 1 1) 1 (ln (f x)) (X.alloc (.cells (la (f x)) 36))) := Lib.hid (sl.src_one' _ X.heap.size (la (f x)) _ (ln (f x)) 18 Tryd.underlying53 (heap_alloc_new _ _) rfl (ln_len (f x)) (ln_one (f x)))
    have HA : Hid ((pre.map f).length + 1 ≤ 65537) := Lib.hid (by rw [List.length_map]; have := HL.out; have := HQ.out; omega)
    have HMP : Hid ((pre ++ [x]).map f = pre.map f ++ [f x]) := Lib.hid (by simp)
    have HST2 : Hid (∀ v4 X4, _ → _ → _ → _) := Lib.hid fun v4 X4 h4 hg hn => lacc_step (B0 := W0.heap.size) (K := K) hb1 hb2 hb3 hbl (by omega) (Nat.le_refl _) (by omega) HV.out (v4 := v4) (X4 := X4) (x := f x) h4 hg hn
    obtain ⟨lx, hlx9⟩ : ∃ lx, lx = f x := ⟨_, rfl⟩
    obtain ⟨ps, hps⟩ : ∃ ps, ps = pre.map f := ⟨_, rfl⟩
    rw [← hlx9] at HX hnsz hfd HS HR HMP HST2 ⊢
    rw [← hps] at HS HA HMP HST2 hc1
    clear hb1 hb2 hb3 hbl hbx hlt hl' hrr hlx hlx9 hps
    gi_wp2_with (first
      | ((with_reducible refine load_lnI lx _ Bx 0 ?_ HX.out ?_); (rfl))
      | (gi_at_builtin; go_loud (refine append_slI rfl _ _ 53 rfl 36 18 i0 (.agg (la zl)) 80 Tryd.underlying53 hi hz0 hz1 hz2 zl_cells _ ps.length (sl.flat ln ps) rfl HS.out _ 1 (ln lx) rfl HR.out (by have := HA.out; unfold maxLen; omega) (by have := HA.out; omega) ?_; intro v4 X4 h4 hg4 hn4; obtain ⟨⟨hc4, hf4⟩, h5⟩ := HST2.out v4 X4 h4 hg4 hn4; have HF := Lib.hid h5; clear h5 hg4 hn4; obtain ⟨ad4, cap4, rfl⟩ := h4.form; clear h4)))
    refine ⟨HF.out.1, HF.out.2.1, ?_⟩
    dsimp only
    rw [HMP.out]
    exact HF.out.2.2
  case hdone =>
    rintro D ys X hD rfl ⟨⟨u, hb1, hb2, hb3⟩, hbl⟩ hK
    have hc1 := hb1.cell
    rw [HFT.out] at hb2
    gi_wp2
    refine ⟨by simp, .inl ⟨_, _, rfl, run_takeDeferred hK, ?_⟩⟩
    have hbb := hbl.trans (belowK_b (w := w) (Nat.le_refl _) X D (.deferred (some [])) (.deferred none) (by omega) hK rfl rfl)
    refine ⟨_, results_tmp rfl _ _ _, u, rfl, hb2.of_block (fun g hg => World.putObj_heap_other (fun e => ?_)), ⟨hbb.os, hbb.tape, hbb.output, hbb.size, fun k hk _ => hbb.block k hk⟩⟩
    obtain ⟨cur, hcur⟩ := hb2.type g hg
    subst e
    rw [hcur] at hK; cases hK
  case hstop =>
    rintro D c' pre X hD hpre hF hK
    exact hF.elim
theorem collect_any (K : Loc) (c : Cfg) (ss : List St) (Bn : Nat) (w : World) (hC : Cac w K c ss) (hB : w.cell? ⟨Bn, 0, none⟩ = some (.pointer (some ⟨K.b, 0, none⟩))) :
    Calls Tryd.prog 25 #[.func (.func 46) #[] #[.pointer (some ⟨Bn, 0, none⟩)]] w fun e W' => ∃ u, e = .returned u ∧ LSl W' u (told ss) ∧ w.grownBy W' none := by
  have HA := Lib.hid (appseq_any K c ss Bn w hC hB)
  clear hC hB
  go_enter Tryd.func25, Tryd.ntmps25
  go_wp2_with (go_at_call 45; ((with_reducible refine HA.out.mono ?_); rintro e w1 ⟨u, rfl, h1, h3⟩; have H1 := Lib.hid h1; have H3 := Lib.hid h3; clear h1 h3))
  go_ret
  exact ⟨u, rfl, H1.out, H3.out⟩
end Go.Proofs.YtjbapfjeildfoaaDoor.kk
