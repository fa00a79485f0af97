/-
  What slices.AppendSeq and slices.Collect make of a net's iterator; that slices.Equal of two slices of the same notes says yes: contracts. No condition but what each theorem names.
-/
import Derived.Test.YtoemkhmbeiindaaDoorNr
namespace Go.Proofs.YtoemkhmbeiindaaDoor.tt
open Go Go.ChangeShapes Go.WideShapes Go.ChangeAt Go.RowKit Go.Shelf
set_option linter.unusedVariables false
attribute [local go_sem] Oper.semAt_some
attribute [local simp] wide_fn

theorem Sl.own {W W' : World} {row : Option Nat} {e : TypeId} {s n : Nat} {v : Value} {xs : List Value} (h : Sl W e s v n xs) (hg : W.grownBy W' row) (hr : ∀ r, row = some r → ∃ o : Obj, W.heap[r]? = some o ∧ o.isCells = false) : Sl W' e s v n xs :=
  h.of_block fun g hv => hg.block g (h.lt g hv) fun e' => by
    obtain ⟨o, ho, hc⟩ := hr g e'.symm
    obtain ⟨cur, hb⟩ := h.type g hv
    rw [hb] at ho; cases ho; cases hc
theorem append_slI {F : Fence} {n : Nat} {P : Program} {w : World} {ops : Array Oper} {rest : List Oper} {o : Oper} {a : Act} {Q : Exit → Act → World → Prop} (hgd : o.guard = none) (x y : Operand) (t : TypeId)
    (ho : o.op = .call { callee := .builtin .append, args := #[x, y], argTypes := #[t, t] }) (e : TypeId) (s : Nat) (i : TypeInfo) (z : Value) (bytes : Nat) (ht : P.underlying t = some (.slice e)) (hi : P.info? e = some i) (hz : i.zero = some z) (hsize : i.size = s) (hby : i.bytes = bytes) (hzs : z.cells.size = s)
    (v : Value) (m : Nat) (xs : List Value) (hsv : a.eval x = v) (hsl : Sl w e s v m xs) (u : Value) (k : Nat) (news : List Value) (hsu : a.eval y = u) (hs : Src P s t u k news w) (h63 : m + k ≤ maxLen) (hbytes : (m + k) * bytes ≤ 140737488355328)
    (h : ∀ v' w', Sl w' e s v' (m + k) (xs ++ news) → w.grownBy w' v.ownBlock → Next w w' v v' → wpListIn F n P ops Q rest (a.put o.dst v') w') : wpListIn F n P ops Q (o :: rest) a w := by
  refine wpListIn_plain hgd fun K hK' => ?_
  obtain ⟨v', w', hrun, r1, r2, r3⟩ := run_append_sl (P := P) w t t o.type e s i z bytes ht hi hz hsize hby hzs v m xs hsl u k news hs h63 hbytes
  unfold Oper.wpIn
  refine ⟨?_, ?_⟩
  · simp [Oper.about, ho, resolve, Target.leads, Sem.run_pure]
  · rw [Oper.semAt_plain F _ _ (by rw [ho]; intro c hc'; cases hc')]
    simp [execOp, ho, resolve, invoke, builtin, hsv, hsu, hrun, Result.andThen]
    exact hK' _ _ (h v' w' r1 r2 r3)

/-- What an append of one note leaves alone, where the slice lies behind the place B and its variable ahead of it. -/
theorem acc_step {w X X4 : World} {b0 B0 B : Nat} {u v4 v : Value} {pre : List Nt} {x : Nt} (hb : Boxed X b0 50 u) (hs : NSl X u pre) (hk : ∀ k, u.ownBlock = some k → B ≤ k) (hbl : Below w.heap.size w X) (h0 : b0 < B0) (hB0 : B0 + 3 = B) (hw : w.heap.size ≤ b0) (hsz : B ≤ X.heap.size) (hv : ∀ k, v.ownBlock = some k → k < w.heap.size)
    (h4 : Sl X4 37 24 v4 (pre.length + 1) (flat nt pre ++ nt x)) (hg : (X.alloc (.cells (na x) 37)).grownBy X4 u.ownBlock) (hn : Next (X.alloc (.cells (na x) 37)) X4 u v4) :
    (X4.cell? ⟨b0, 0, none⟩ = some u ∧ X4.frozen? ⟨b0, 0, none⟩ = false) ∧ (KeepsFrom B0 X (X4.setCell ⟨b0, 0, none⟩ v4) ∧ Holds (B0 + 2) 1 X (X4.setCell ⟨b0, 0, none⟩ v4)) ∧ Same v X (X4.setCell ⟨b0, 0, none⟩ v4) ∧
      (∃ u', Boxed (X4.setCell ⟨b0, 0, none⟩ v4) b0 50 u' ∧ NSl (X4.setCell ⟨b0, 0, none⟩ v4) u' (pre ++ [x]) ∧ ∀ k, u'.ownBlock = some k → B ≤ k) ∧ Below w.heap.size w (X4.setCell ⟨b0, 0, none⟩ v4) := by
  have keep : ∀ k, k < X.heap.size → some k ≠ u.ownBlock → X4.heap[k]? = X.heap[k]? := fun k hk he => (hg.block k (by simp; omega) he).trans (Below.heap_alloc _ _ _ hk)
  have hbl0 := Go.Boxed.lt hb
  have b4 : Boxed X4 b0 50 u := (keep b0 hbl0 (fun e => by have := hk _ e.symm; omega)).trans hb
  have hk4 : ∀ k, v4.ownBlock = some k → B ≤ k := fun k e => by
    rcases hn with h | h
    · exact hk k (h ▸ e)
    · have := h k e; simp at this; omega
  have hs0 := hbl.size
  have hz4 := hg.size
  simp at hz4
  have keep5 : ∀ k, k < X.heap.size → k ≠ b0 → some k ≠ u.ownBlock → (X4.setCell ⟨b0, 0, none⟩ v4).heap[k]? = X.heap[k]? := fun k h1 h2 h3 => (Below.heap_setCell _ _ _ _ h2).trans (keep k h1 h3)
  have hz5 : (X4.setCell ⟨b0, 0, none⟩ v4).heap.size = X4.heap.size := by simp [World.setCell]
  have hkf : ∀ B', B0 ≤ B' → KeepsFrom B' X (X4.setCell ⟨b0, 0, none⟩ v4) := fun B' hB' => ⟨by rw [hz5]; omega, fun k o h1 ho hc => by
    refine (keep5 k (lt_of ho) (by omega) (fun e => ?_)).trans ho
    obtain ⟨cur, hcur⟩ := hs.type k e.symm
    rw [hcur] at ho; cases ho; cases hc⟩
  refine ⟨⟨b4.cell, b4.frozen⟩, ⟨hkf _ (Nat.le_refl _), hkf _ (by omega), fun k h1 h2 => keep5 k (by omega) (by omega) (fun e => by have := hk _ e.symm; omega)⟩, fun k e => keep5 k (by have := hv k e; omega) (by have := hv k e; omega) (fun e' => by have := hk _ e'.symm; have := hv k e; omega), ⟨v4, b4.set v4, ?_, hk4⟩, ?_⟩
  · show Sl _ _ 24 v4 (pre ++ [x]).length (flat nt (pre ++ [x]))
    rw [flat_append, flat_single, List.length_append]
    exact h4.of_block fun g hg => Below.heap_setCell _ _ _ _ (show g ≠ b0 by have := hk4 g hg; omega)
  · exact ((hbl.alloc hbl.size _).grown hg (by simp; omega) (fun r e => by have := hk r e; omega)).setCell (p := ⟨b0, 0, none⟩) hw _
theorem acc_from {B : Nat} (b0 B1 : Nat) : OwnFrom B (fun (pre : List Nt) X => ∃ u, Boxed X b0 50 u ∧ NSl X u pre ∧ ∀ k, u.ownBlock = some k → B1 ≤ k) := by
  rintro s A B' row ⟨u, h1, h2, h3⟩ hg hr
  refine ⟨u, h1.kept hg fun e => ?_, h2.own hg (fun r e => (hr r e).2), h3⟩
  obtain ⟨hb, o, ho, hc⟩ := hr _ e.symm
  rw [show A.heap[b0]? = _ from h1] at ho; cases ho; cases hc

set_option maxRecDepth 1000000 in
set_option maxHeartbeats 4000000 in
theorem appseq_any (t p r : Nat) (c : Cfg) (v : Value) (ns : List Nt) (h : Int) (Bn : Nat) (w : World) (H : NetAt w t p c r v ns h) (hB : w.cell? ⟨Bn, 0, none⟩ = some (.pointer (some ⟨t, 0, none⟩))) :
    Calls Tryd.prog 45 #[.slice none 0 0, .func (.func 46) #[] #[.pointer (some ⟨Bn, 0, none⟩)]] w fun e W' => ∃ u, e = .returned u ∧ NSl W' u ns ∧ (∀ k, u.ownBlock = some k → w.heap.size ≤ k) ∧ w.grownBy W' none := by
  refine (callsIn_wide (n := 9)).1 ?_
  obtain ⟨i0, hi, hz0, hz1, hz2⟩ := info_parts infoN
  have HL := Lib.hid (len_64k H.inv)
  have HV : Hid (∀ k, v.ownBlock = some k → k < w.heap.size) := Lib.hid H.pool.sl.lt
  have HZ : Hid (na zn = _) := Lib.hid (bare_na 0 0 0 0 0 0 false false)
  have hbn := World.block_lt_of_cell? w _ hB
  have b1 := Boxed.new w 50 (.slice none 0 0)
  obtain ⟨W0, hW0⟩ : ∃ W0, W0 = w.alloc (.cells #[.slice none 0 0] 50) := ⟨_, rfl⟩
  have hgW : w.grownBy W0 none := by rw [hW0]; exact grown_alloc (grown_refl _ _) _
  have hs0 : W0.heap.size = w.heap.size + 1 := by rw [hW0]; simp
  have hW0' := hW0.symm
  rw [← hW0] at b1
  have HB1 := Lib.hid b1
  have HG := Lib.hid hgW
  have HH := Lib.hid (H.grown hgW)
  have HBC := Lib.hid (hgW.cell hB (by simp))
  clear H hB hW0 b1 hgW
  refine callsIn_of_wp_marks Tryd.func45 rfl trivial ?_ rfl
  simp only [Tryd.ntmps45, List.size_toArray, List.length_cons, List.length_nil, Nat.reduceAdd, Nat.reduceSub, Array.replicate_succ, Array.replicate_zero, List.push_toArray, List.append_toArray, List.nil_append, List.cons_append]
  gi_wp2_with fail
  clear hW0'
  apply rangeR rfl (by omega) (gf := 46) (lb := #[.pointer (some ⟨Bn, 0, none⟩)]) rfl trivial (enters_of Tryd.func46 (by kernel_rfl) rfl)
    (Kp := Same v) (nall_stops 8 (by omega) Bn t p r c v ns h W0 HH.out HBC.out) (fun {A B C} h k => Same.trans h k) (Same.put (fun k hk => by have := HV.out k hk; omega)) (Below.refl _ _) (fun _ => rfl)
    (fun pre X => (∃ u, Boxed X w.heap.size 50 u ∧ NSl X u pre ∧ ∀ k, u.ownBlock = some k → W0.heap.size + 3 ≤ k) ∧ Below w.heap.size w X)
    (fun cc ys X => False)
    (OwnFrom.and (acc_from _ _) (ownFrom_below (Nat.le_refl _) (by omega)))
    (fun c' s A B row hs hg hr => hs)
    ⟨⟨_, HB1.out, Sl.nil _ _ _, by simp [Value.ownBlock]⟩, below_of HG.out⟩
    (fun x a' X => ∃ Bx, W0.heap.size ≤ Bx ∧ X.heap[Bx]? = some (.cells (na x) 37 (0, 0)) ∧ a' = { tmps := #[.slice none 0 0, .func (.func 46) #[] #[.pointer (some ⟨Bn, 0, none⟩)], .pointer (some ⟨w.heap.size, 0, none⟩), undef, .slice none 0 0, .pointer (some ⟨Bx, 0, none⟩), .func (.func 46) #[] #[.pointer (some ⟨Bn, 0, none⟩)], .agg (na x), undef, undef, undef, undef, undef], defers := [] })
  case hAx =>
    rintro x a' s A B row ⟨Bx, h1, h2, h3⟩ hg hr
    exact ⟨Bx, h1, (hg.block Bx (lt_of h2) (fun e => by
      obtain ⟨hb, o, ho, hc⟩ := hr _ e.symm
      rw [h2] at ho; cases ho; cases hc)).trans h2, h3⟩
  case hassign =>
    rintro l' pre x X K ⟨⟨u, hb1, hb2, hb3⟩, hbl⟩ hsz hK
    have hgx : X.grownBy (X.alloc (.cells (na x) 37)) none := grown_alloc (grown_refl _ _) _
    have hbl2 := hbl.size
    have HX := Lib.hid (hK _ (X.alloc (.cells (na x) 37)) ⟨(KeepsOthers.alloc _ _).from _, Holds.of_grown hgx (fun r e => by cases e) (by omega)⟩ (Same.of_grown (fun k hk => by have := HV.out k hk; omega) hgx) ⟨⟨u, hb1.alloc _, hb2.grown hgx, hb3⟩, hbl.alloc hbl.size _⟩ ⟨X.heap.size, by omega, heap_alloc_new _ _, rfl⟩)
    clear hK hb1 hb2 hbl hgx hbl2
    unfold encN
    gi_wp2_with ((with_reducible refine store_newI x _ HZ.out _ _ ?_ ?_ ?_); (rfl); (rfl))
    exact HX.out
  case hbody =>
    rintro l' pre x a' X hl' ⟨⟨u, hb1, hb2, hb3⟩, hbl⟩ ⟨Bx, hBx, hbx, rfl⟩ hsz hlt
    obtain ⟨ad, cap, rfl⟩ := hb2.form
    have HX : Hid (X.rangeAt Bx 0 (nt x)) := Lib.hid (range_of hbx)
    have hc1 := hb1.cell
    have hnsz := na_size x
    have hfd := build_na x
    have HS := Lib.hid (hb2.grown (w' := X.alloc (.cells (na x) 37)) (grown_alloc (grown_refl _ _) _))
    have HR : Hid (Src Tryd.prog 24 50 (.slice (some ⟨X.heap.size, 0, none⟩) 1 1) 1 (nt x) (X.alloc (.cells (na x) 37))) := Lib.hid (src_one' _ X.heap.size (na x) _ (nt x) 24 Tryd.underlying50 (heap_alloc_new _ _) rfl (nt_len x) (nt_one x))
    have HA : Hid (pre.length + 1 ≤ 65537) := Lib.hid (by have := HL.out; omega)
    have HST : Hid (∀ v4 X4, _ → _ → _ → _) := Lib.hid fun v4 X4 h4 hg hn => acc_step (B0 := W0.heap.size) (v := v) hb1 hb2 hb3 hbl (by omega) rfl (Nat.le_refl _) (by omega) HV.out (v4 := v4) (X4 := X4) (x := x) h4 hg hn
    clear hb1 hb2 hb3 hbl hbx hlt hl' hsz
    gi_wp2_with (first
      | ((with_reducible refine load_naI x _ Bx 0 ?_ HX.out ?_); (rfl))
      | (gi_at_builtin; go_loud (refine append_slI rfl _ _ 50 rfl 37 24 i0 (.agg (na zn)) 112 Tryd.underlying50 hi hz0 hz1 hz2 zn_cells _ pre.length (flat nt pre) rfl HS.out _ 1 (nt x) rfl HR.out (by have := HA.out; unfold maxLen; omega) (by have := HA.out; omega) ?_; intro v4 X4 h4 hg4 hn4; obtain ⟨⟨hc4, hf4⟩, h5⟩ := HST.out v4 X4 h4 hg4 hn4; have HF := Lib.hid h5; clear h5 hg4 hn4; obtain ⟨ad4, cap4, rfl⟩ := h4.form; clear h4)))
    exact HF.out
  case hdone =>
    rintro D ys X hD rfl ⟨⟨u, hb1, hb2, hb3⟩, hbl⟩ hK
    have hc1 := hb1.cell
    gi_wp2
    refine ⟨by simp, .inl ⟨_, _, rfl, run_takeDeferred hK, ?_⟩⟩
    have hbb := hbl.trans (belowK_b (w := w) (Nat.le_refl _) X D (.deferred (some [])) (.deferred none) (by omega) hK rfl rfl)
    refine ⟨_, results_tmp rfl _ _ _, u, rfl, hb2.of_block (fun g hg => World.putObj_heap_other (fun e => ?_)), fun k hk => by have := hb3 k hk; omega, ⟨hbb.os, hbb.tape, hbb.output, hbb.size, fun k hk _ => hbb.block k hk⟩⟩
    obtain ⟨cur, hcur⟩ := hb2.type g hg
    subst e
    rw [hcur] at hK; cases hK
  case hstop =>
    rintro D c' pre X hD hpre hF hK
    exact hF.elim
theorem collect_any (t p r : Nat) (c : Cfg) (v : Value) (ns : List Nt) (h : Int) (Bn : Nat) (w : World) (H : NetAt w t p c r v ns h) (hB : w.cell? ⟨Bn, 0, none⟩ = some (.pointer (some ⟨t, 0, none⟩))) :
    Calls Tryd.prog 25 #[.func (.func 46) #[] #[.pointer (some ⟨Bn, 0, none⟩)]] w fun e W' => ∃ u, e = .returned u ∧ NSl W' u ns ∧ (∀ k, u.ownBlock = some k → w.heap.size ≤ k) ∧ w.grownBy W' none := by
  have HA := Lib.hid (appseq_any t p r c v ns h Bn w H hB)
  clear H hB
  go_enter Tryd.func25, Tryd.ntmps25
  go_wp2_with (go_at_call 45; ((with_reducible refine HA.out.mono ?_); rintro e w1 ⟨u, rfl, h1, h2, h3⟩; have H1 := Lib.hid h1; have H2 := Lib.hid h2; have H3 := Lib.hid h3; clear h1 h2 h3))
  go_ret
  exact ⟨u, rfl, H1.out, H2.out, H3.out⟩
/-- All of a net: a function that tells its notes. -/
theorem nall_any (t : Nat) (w : World) : Calls Tryd.prog 26 #[.pointer (some ⟨t, 0, none⟩)] w fun e w' => e = .returned (.func (.func 46) #[] #[.pointer (some ⟨w.heap.size, 0, none⟩)]) ∧ w' = w.alloc (.cells #[.pointer (some ⟨t, 0, none⟩)] 22) := (callsIn_wide (n := 9)).1 (nall_in 9 t w)
end Go.Proofs.YtoemkhmbeiindaaDoor.tt
