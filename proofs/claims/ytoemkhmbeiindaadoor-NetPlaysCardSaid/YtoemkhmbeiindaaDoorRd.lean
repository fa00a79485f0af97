/-
  What the document's Take of a net answers, and the net behind it: contracts. Condition: none but what each theorem names.
-/
import Derived.Test.YtoemkhmbeiindaaDoorRc
namespace Go.Proofs.YtoemkhmbeiindaaDoor.tt
open Go Go.ChangeShapes Go.WideShapes Go.ChangeAt Go.RowKit Go.Shelf
set_option linter.unusedVariables false

set_option maxRecDepth 100000 in
set_option maxHeartbeats 1000000 in
theorem rtake_out (q : Nat) (c : Cfg) (r : Nat) (u : Value) (ns : List Nt) (h : Int) (w : World) (H : RNet w q c r u ns h) (i : Int) (hi : i < 0 ∨ (ns.length : Int) ≤ i) : Calls Tryd.prog 22 #[.pointer (some ⟨q, 0, none⟩), .int .i64 i] w fun e w' => e = .returned (.tuple #[.agg (na zn), .int .i64 5]) ∧ w.grownBy w' none := by
  have HZ : Hid (na zn = _) := Lib.hid (bare_na 0 0 0 0 0 0 false false)
  have hz := HZ.out
  have hg : w.grownBy (w.alloc (.cells (na zn) 37)) none := grown_alloc (grown_refl _ _) _
  rw [hz] at hg
  have H2 := H.grown hg
  have c9 := H2.c9
  obtain ⟨ad, cap, rfl⟩ := H2.sl.form
  obtain ⟨l, hl⟩ : ∃ l, l = ns.length := ⟨_, rfl⟩
  rw [← hl] at c9 hi
  clear H H2 hl hz hg
  by_cases h1 : i < 0
  · have d1 : decide (i < 0) = true := by simp; omega
    clear hi h1
    go_enter Tryd.func22, Tryd.ntmps22
    go_wp2_with ((with_reducible refine store_lit _ _ HZ.out _ _ _ ?_ ?_ ?_ ?_); (rfl); (rfl); (rfl))
    exact ret_nte rfl _ zn _ w.heap.size _ _ (by rfl) (by rfl) (range_of (heap_alloc_new w (.cells (na zn) 37))) ⟨rfl, grown_alloc (grown_refl _ _) _⟩
  · have d1 : decide (i < 0) = false := by simp; omega
    have d2 : decide ((l : Int) ≤ i) = true := by simp; omega
    clear hi h1
    go_enter Tryd.func22, Tryd.ntmps22
    go_wp2_with ((with_reducible refine store_lit _ _ HZ.out _ _ _ ?_ ?_ ?_ ?_); (rfl); (rfl); (rfl))
    exact ret_nte rfl _ zn _ w.heap.size _ _ (by rfl) (by rfl) (range_of (heap_alloc_new w (.cells (na zn) 37))) ⟨rfl, grown_alloc (grown_refl _ _) _⟩

theorem px_py (n : Int) (h1 : -1 ≤ n) (h2 : n ≤ 15) : (-100 ≤ px n ∧ px n ≤ 100) ∧ (-100 ≤ py n ∧ py n ≤ 100) := by
  unfold px py
  split <;> omega
set_option maxRecDepth 100000 in
set_option maxHeartbeats 4000000 in
theorem rtake_in (q : Nat) (c : Cfg) (r : Nat) (u : Value) (ns : List Nt) (h : Int) (w : World) (H : RNet w q c r u ns h) (k : Nat) (x : Nt) (hx : ns[k]? = some x) (hxo : x.ok) (hl : ns.length ≤ 65536) (hh1 : 0 ≤ h) (hh2 : h ≤ 1000000000) :
    Calls Tryd.prog 22 #[.pointer (some ⟨q, 0, none⟩), .int .i64 (k : Int)] w fun e w' => e = .returned (.tuple #[.agg (na x), .int .i64 0]) ∧ ∃ u', RNet w' q c r u' (ns.eraseIdx k) (h + far x) ∧ w.grownBy w' (some q) ∧ ∀ k, u'.ownBlock = some k → w.heap.size ≤ k := by
  obtain ⟨i0, hi, hz0, hz1, hz2⟩ := info_parts infoN
  obtain ⟨w2, hw, hg2, hb2, hs2⟩ := onez w
  have hz : na zn = _ := bare_na 0 0 0 0 0 0 false false
  rw [hz] at hw
  have H2 := H.grown hg2
  have c9 := H2.c9
  have hk : k < ns.length := (List.getElem?_eq_some_iff.1 hx).1
  obtain ⟨ad, cap, rfl⟩ := H2.sl.form
  obtain ⟨g, off, had, hqe, hr⟩ := nsl_at H2.sl k x hx
  subst had
  clear hqe
  obtain ⟨l, hll⟩ : ∃ l, l = ns.length := ⟨_, rfl⟩
  have HLL := Lib.hid hll
  have hslz : Sl w2 37 24 (.slice (some ⟨g, off, none⟩) ns.length cap) ns.length (flat nt ns) := H2.sl
  rw [← hll] at c9 hk hl H2 hslz
  obtain ⟨hcap, hlc⟩ : cap ≤ 9223372036854775807 ∧ l ≤ cap := by
    rcases hslz with ⟨h, _⟩ | ⟨g', off', cap', cur, h, hb, h1, h2, h3, h4, h5⟩
    · cases h
    · cases h; unfold maxLen at h3; exact ⟨by omega, h2⟩
  have hfb := far_bounds hxo
  have hen := ok_ends hxo
  have HP1 := Lib.hid (px_py x.f hen.1.1 hen.1.2)
  have HP2 := Lib.hid (px_py x.t hen.2.1 hen.2.2)
  have HPF : Hid (∀ w, _) := Lib.hid fun w => ref_yes x.f w hen.1.1 hen.1.2
  have HPT : Hid (∀ w, _) := Lib.hid fun w => ref_yes x.t w hen.2.1 hen.2.2
  have HHO : Hid (∀ w, _) := Lib.hid fun w => rhops_any (px x.f) (py x.f) (px x.t) (py x.t) w HP1.out.1 HP1.out.2 HP2.out.1 HP2.out.2
  rw [show dist (px x.f) (py x.f) (px x.t) (py x.t) = far x from rfl] at HHO
  obtain ⟨d, hd⟩ : ∃ d, d = far x := ⟨_, rfl⟩
  rw [← hd] at HHO hfb ⊢
  have hwr : IntKind.i64.wrap (h + d) = h + d := IntWalk.i64_in _ (by omega)
  have HR := Lib.hid hr
  have HG := Lib.hid hg2
  have HB := Lib.hid hb2
  have HS := Lib.hid hs2
  have HRN := Lib.hid H2
  have HQL : Hid (q < w.heap.size) := Lib.hid H.lt
  have HL := Lib.hid hl
  have hkd : decide ((l : Int) ≤ (k : Int)) = false := by simp; omega
  have hkc : k ≤ cap := by omega
  have hkc1 : k + 1 ≤ cap := by omega
  have hkl1 : k + 1 ≤ l := by omega
  have hwk : IntKind.i64.wrap ((k : Int) + 1) = ((k : Int) + 1) := IntWalk.i64_in _ (by omega)
  have htk : ((k : Int) + 1).toNat = k + 1 := by omega
  have hk1 : 0 ≤ (k : Int) + 1 := by omega
  have hk2 : (k : Int) + 1 ≤ (l : Int) := by omega
  have hx3 : (w2.alloc (.cells (na x) 37)).heap[w2.heap.size]? = some (.cells (na x) 37 (0, 0)) := heap_alloc_new _ _
  obtain ⟨w3, hw3⟩ : ∃ w3, w2.alloc (.cells (na x) 37) = w3 := ⟨_, rfl⟩
  have hg3 : w2.grownBy w3 none := by rw [← hw3]; exact grown_alloc (grown_refl _ _) _
  rw [hw3] at hx3
  have e1 : w3.cell? ⟨w2.heap.size, 1, none⟩ = some (.int .i64 x.f) := (cell_of_row _ _ _ _ _ _ hx3).trans rfl
  have e2 : w3.cell? ⟨w2.heap.size, 2, none⟩ = some (.int .i64 x.t) := (cell_of_row _ _ _ _ _ _ hx3).trans rfl
  have HG3 := Lib.hid hg3
  have HX3 := Lib.hid hx3
  have HR3 := Lib.hid (H2.grown hg3)
  have HRD := Lib.hid ((H2.grown hg3).grown (grown_drew (grown_refl w3 none)))
  have f10 := HRD.out.c10
  have g10 := HRD.out.frozen 10
  have HKL := Lib.hid hk
  clear H H2 hx hxo hg2 hb2 hs2 hr hz hd hen hg3 hx3 hslz hll hfb
  go_enter Tryd.func22, Tryd.ntmps22
  go_wp2_with (first
    | ((with_reducible refine load_na x _ g (off + k * 24) ?_ HR.out ?_); (rfl))
    | ((with_reducible refine store_new x _ _ _ ?_ ?_ ?_ ?_); (rfl); (rfl); (rfl))
    | (go_at_call 43; ((with_reducible refine (HPF.out _).mono ?_); rintro e w9 ⟨rfl, rfl⟩))
    | (go_at_call 43; ((with_reducible refine (HPT.out _).mono ?_); rintro e w9 ⟨rfl, rfl⟩)))
  refine wp_region_held_drew (S := fun _ => True) (by kernel_rfl) trivial (fun hHeld => ?_)
  refine wpAnyH_take (i := 0) (oi := ⟨some 47, Op.move (Operand.tmp 0), _, _, _, _⟩) (v := ?v1) rfl (by kernel_rfl) (by kernel_rfl) (by kernel_rfl) (fun _ _ _ h => h) (Or.inl ⟨by rfl, ?hy1⟩) (by assumption) ?rest1
  case hy1 => ((intro w0 hSw; go_simp); try (with_reducible rfl))
  try simp only [Act.put, List.setIfInBounds_toArray, List.set_cons_zero, List.set_cons_succ]
  refine wpAnyH_take (i := 1) (oi := ⟨some 48, Op.move (Operand.tmp 0), _, _, _, _⟩) (v := ?v2) rfl (by kernel_rfl) (by kernel_rfl) (by kernel_rfl) (fun _ _ _ h => h) (Or.inl ⟨by rfl, ?hy2⟩) (by assumption) ?rest2
  case hy2 => ((intro w0 hSw; go_simp); try (with_reducible rfl))
  try simp only [Act.put, List.setIfInBounds_toArray, List.set_cons_zero, List.set_cons_succ]
  refine wpAnyH_take (i := 2) (oi := ⟨some 49, Op.nilCheck (Operand.tmp 48), _, _, _, _⟩) (v := ?v3) rfl (by kernel_rfl) (by kernel_rfl) (by kernel_rfl) (fun _ _ _ h => h) (Or.inl ⟨by rfl, ?hy3⟩) (by assumption) ?rest3
  case hy3 => ((intro w0 hSw; go_simp); try (with_reducible rfl))
  try simp only [Act.put, List.setIfInBounds_toArray, List.set_cons_zero, List.set_cons_succ]
  refine wpAnyH_take (i := 3) (oi := ⟨some 50, Op.fieldAddr 52 (Operand.tmp 49) 3, _, _, _, _⟩) (v := ?v4) rfl (by kernel_rfl) (by kernel_rfl) (by kernel_rfl) (fun _ _ _ h => h) (Or.inl ⟨by rfl, ?hy4⟩) (by assumption) ?rest4
  case hy4 => ((intro w0 hSw; go_simp); try (with_reducible rfl))
  try simp only [Act.put, List.setIfInBounds_toArray, List.set_cons_zero, List.set_cons_succ]
  refine wpAnyH_take (i := 5) (oi := ⟨some 52, Op.move (Operand.tmp 7), _, _, _, _⟩) (v := ?v5) rfl (by kernel_rfl) (by kernel_rfl) (by kernel_rfl) (fun _ _ _ h => h) (Or.inl ⟨by rfl, ?hy5⟩) (by assumption) ?rest5
  case hy5 => ((intro w0 hSw; go_simp); try (with_reducible rfl))
  try simp only [Act.put, List.setIfInBounds_toArray, List.set_cons_zero, List.set_cons_succ]
  refine wpAnyH_take (i := 6) (oi := ⟨some 53, Op.move (Operand.tmp 8), _, _, _, _⟩) (v := ?v6) rfl (by kernel_rfl) (by kernel_rfl) (by kernel_rfl) (fun _ _ _ h => h) (Or.inl ⟨by rfl, ?hy6⟩) (by assumption) ?rest6
  case hy6 => ((intro w0 hSw; go_simp); try (with_reducible rfl))
  try simp only [Act.put, List.setIfInBounds_toArray, List.set_cons_zero, List.set_cons_succ]
  refine wpAnyH_take (i := 7) (oi := ⟨some 54, Op.move (Operand.tmp 10), _, _, _, _⟩) (v := ?v7) rfl (by kernel_rfl) (by kernel_rfl) (by kernel_rfl) (fun _ _ _ h => h) (Or.inl ⟨by rfl, ?hy7⟩) (by assumption) ?rest7
  case hy7 => ((intro w0 hSw; go_simp); try (with_reducible rfl))
  try simp only [Act.put, List.setIfInBounds_toArray, List.set_cons_zero, List.set_cons_succ]
  refine wpAnyH_take (i := 8) (oi := ⟨some 55, Op.move (Operand.tmp 11), _, _, _, _⟩) (v := ?v8) rfl (by kernel_rfl) (by kernel_rfl) (by kernel_rfl) (fun _ _ _ h => h) (Or.inl ⟨by rfl, ?hy8⟩) (by assumption) ?rest8
  case hy8 => ((intro w0 hSw; go_simp); try (with_reducible rfl))
  try simp only [Act.put, List.setIfInBounds_toArray, List.set_cons_zero, List.set_cons_succ]
  refine wpAnyH_ready (rs := [4, 9]) (by kernel_rfl) (by simp) ?_
  refine AllReadyH.cons (o := ⟨some 51, Op.load 3 (Operand.tmp 50), _, _, _, _⟩) rfl (fun K hK => ?_) (AllReadyH.cons (o := ⟨some 56, Op.call { callee := Callee.value (Operand.func 44), args := #[(Operand.tmp 52), (Operand.tmp 53), (Operand.tmp 54), (Operand.tmp 55)], argTypes := #[3, 3, 3, 3] }, _, _, _, _⟩) rfl (fun K hK => ?_) AllReadyH.nil)
  · skip
    go_simp
    refine hK.out _ _ trivial (fun hHeld => ?_)
    clear hK K
    try simp only [Act.put, List.setIfInBounds_toArray, List.set_cons_zero, List.set_cons_succ]
    refine wpAnyH_ready (rs := [9]) (by kernel_rfl) (by simp) ?_
    refine AllReadyH.cons (o := ⟨some 56, Op.call { callee := Callee.value (Operand.func 44), args := #[(Operand.tmp 52), (Operand.tmp 53), (Operand.tmp 54), (Operand.tmp 55)], argTypes := #[3, 3, 3, 3] }, _, _, _, _⟩) rfl (fun K hK => ?_) AllReadyH.nil
    go_simp
    (with_reducible refine (HHO.out _).mono ?_); rintro e w9 ⟨rfl, rfl⟩
    go_wp2_with fail
    refine hK.out _ _ trivial (fun hHeld => ?_)
    clear hK K
    try simp only [Act.put, List.setIfInBounds_toArray, List.set_cons_zero, List.set_cons_succ]
    refine wpAnyH_take (i := 10) (oi := ⟨some 57, Op.binOp BinOp.add 3 (Operand.tmp 51) (Operand.tmp 56) 3, _, _, _, _⟩) (v := ?v9) rfl (by kernel_rfl) (by kernel_rfl) (by kernel_rfl) (fun _ _ _ h => h) (Or.inl ⟨by rfl, ?hy9⟩) (by assumption) ?rest9
    case hy9 => ((intro w0 hSw; go_simp); try (with_reducible rfl))
    try simp only [Act.put, List.setIfInBounds_toArray, List.set_cons_zero, List.set_cons_succ]
    refine wpAnyH_take (i := 11) (oi := ⟨some 58, Op.nilCheck (Operand.tmp 47), _, _, _, _⟩) (v := ?v10) rfl (by kernel_rfl) (by kernel_rfl) (by kernel_rfl) (fun _ _ _ h => h) (Or.inl ⟨by rfl, ?hy10⟩) (by assumption) ?rest10
    case hy10 => ((intro w0 hSw; go_simp); try (with_reducible rfl))
    try simp only [Act.put, List.setIfInBounds_toArray, List.set_cons_zero, List.set_cons_succ]
    refine wpAnyH_take (i := 12) (oi := ⟨some 59, Op.fieldAddr 52 (Operand.tmp 58) 3, _, _, _, _⟩) (v := ?v11) rfl (by kernel_rfl) (by kernel_rfl) (by kernel_rfl) (fun _ _ _ h => h) (Or.inl ⟨by rfl, ?hy11⟩) (by assumption) ?rest11
    case hy11 => ((intro w0 hSw; go_simp); try (with_reducible rfl))
    try simp only [Act.put, List.setIfInBounds_toArray, List.set_cons_zero, List.set_cons_succ]
    refine wpAnyH_ready (rs := [13]) (by kernel_rfl) (by simp) ?_
    refine AllReadyH.cons (o := ⟨none, Op.store 3 (Operand.tmp 59) (Operand.tmp 57), _, _, _, _⟩) rfl (fun K hK => ?_) AllReadyH.nil
    go_simp
    refine hK.out _ _ trivial (fun hHeld => ?_)
    clear hK K
    try simp only [Act.put, List.setIfInBounds_toArray, List.set_cons_zero, List.set_cons_succ]
    refine wpAnyH_done (by kernel_rfl) ?_ _
    obtain ⟨w4, hw4⟩ : ∃ w4, (w3.setCell ⟨q, 10, none⟩ (.int .i64 (h + d))).drew = w4 := ⟨_, rfl⟩
    have hR4 := (HR3.out.hops (h + d)).grown (grown_drew (grown_refl _ _))
    have hX4 : w4.heap[w2.heap.size]? = some (.cells (na x) 37 (0, 0)) := by
      rw [← hw4]
      exact (Below.heap_setCell _ _ _ _ (show w2.heap.size ≠ q by have := HQL.out; have := HG.out.size; omega)).trans HX3.out
    have hB4 : w4.heap[w.heap.size]? = some (.cells (na zn) 37 (0, 0)) := by
      rw [← hw4]
      exact (Below.heap_setCell _ _ _ _ (show w.heap.size ≠ q by have := HQL.out; omega)).trans ((HG3.out.block _ (by have := HS.out; omega) (by simp)).trans HB.out)
    have hG4 : w.grownBy w4 (some q) := by
      rw [← hw4]
      exact grown_drew (grown_set (grown_trans HG.out HG3.out))
    rw [hw4] at hR4 ⊢
    have HR4 := Lib.hid hR4
    have HX4 := Lib.hid hX4
    have HB4 := Lib.hid hB4
    have HG4 := Lib.hid hG4
    have HQ4 : Hid (q < w4.heap.size) := Lib.hid hR4.lt
    have c94 := hR4.c9
    have hsl4 : Sl w4 37 24 (.slice (some ⟨g, off, none⟩) l cap) l (flat nt ns) := by have := hR4.sl; rw [HLL.out] at this ⊢; exact this
    have HH := Lib.hid (head_sl hsl4 k (by omega) cap hkc (Nat.le_refl _))
    have HSL4 := Lib.hid hsl4
    have HE := Lib.hid (flat_erase nt_len ns k (by rw [← HLL.out]; exact HKL.out))
    have HNN : Hid ((ns.eraseIdx k).length = k + (l - (k + 1))) := Lib.hid (by rw [List.length_eraseIdx_of_lt (by rw [← HLL.out]; exact HKL.out), ← HLL.out]; have := HKL.out; omega)
    clear hw4 hR4 hX4 hB4 hG4 hsl4 f10 g10
    go_wp2_with (first
      | ((with_reducible refine append_sl 50 37 24 i0 (.agg (na zn)) 112 _ _ Tryd.underlying50 hi hz0 hz1 hz2 zn_cells (.slice none 0 0) 0 [] ?_ (Sl.nil _ _ _) (.slice (some ⟨g, off, none⟩) k cap) k ((flat nt ns).take (k * 24)) ?_ (HH.out.src Tryd.underlying50 (fun u hu => nflat_one ns u (List.mem_of_mem_take hu))) ?_ ?_ ?_); (rfl); (rfl); (have := HL.out; unfold maxLen; omega); (have := HL.out; omega); (intro v1 w5 hsl1 hgr1 hnx1; rw [Nat.zero_add, List.nil_append] at hsl1; have hgr1' : w4.grownBy w5 none := hgr1; have HG5 := Lib.hid hgr1'; have HS1 := Lib.hid hsl1; have HV1 : Hid (∀ k, v1.ownBlock = some k → w4.heap.size ≤ k) := Lib.hid (hnx1.ge (Nat.le_refl _) (fun k e => by simp [Value.ownBlock] at e)); have c95 := (HR4.out.grown hgr1').c9; obtain ⟨A, hA, hsrc, _, _⟩ := tail_sl (P := Tryd.prog) (HSL4.out.grown hgr1') (k + 1) hkl1 Tryd.underlying50 (nflat_one ns); have HSRC := Lib.hid hsrc; clear hsl1 hgr1 hgr1' hnx1 hsrc c94))
      | ((with_reducible refine append_sl 50 37 24 i0 (.agg (na zn)) 112 _ _ Tryd.underlying50 hi hz0 hz1 hz2 zn_cells v1 k ((flat nt ns).take (k * 24)) ?_ HS1.out (.slice (some A) (l - (k + 1)) (cap - (k + 1))) (l - (k + 1)) ((flat nt ns).drop ((k + 1) * 24)) ?_ HSRC.out ?_ ?_ ?_); (rfl); (rfl); (have := HL.out; have := HKL.out; unfold maxLen; omega); (have := HL.out; have := HKL.out; omega); (intro v2 w6 hsl2 hgr2 hnx2; have hg6 := grown_newO HG5.out HV1.out hgr2; have HG6 := Lib.hid hg6; have HV2 := Lib.hid (hnx2.ge HG5.out.size HV1.out); have HS2 := Lib.hid hsl2; have c96 := (HR4.out.grown hg6).c9; have g96 := (HR4.out.grown hg6).frozen 9; have HR6 := Lib.hid (HR4.out.grown hg6); have hX7 : (w6.setCell ⟨q, 9, none⟩ v2).heap[w2.heap.size]? = some (.cells (na x) 37 (0, 0)) := (Below.heap_setCell _ _ _ _ (show w2.heap.size ≠ q by have := HQL.out; have := HG.out.size; omega)).trans ((hg6.block _ (lt_of HX4.out) (by simp)).trans HX4.out); have hB7 : (w6.setCell ⟨q, 9, none⟩ v2).heap[w.heap.size]? = some (.cells (na zn) 37 (0, 0)) := (Below.heap_setCell _ _ _ _ (show w.heap.size ≠ q by have := HQL.out; omega)).trans ((hg6.block _ (lt_of HB4.out) (by simp)).trans HB4.out); have HX7 := Lib.hid hX7; have HB7 := Lib.hid hB7; obtain ⟨ad2, cap2, rfl⟩ := hsl2.form; clear hsl2 hgr2 hnx2 hg6 hX7 hB7 c95))
      | ((with_reducible refine load_nt x _ w2.heap.size ?_ (range_of HX7.out) ?_); (rfl))
      | ((with_reducible refine store_any x _ _ _ w.heap.size ?_ ?_ HB7.out ?_ ?_); (rfl); (rfl); (rfl)))
    have hR7 : RNet (w6.setCell ⟨q, 9, none⟩ (.slice ad2 (k + (l - (k + 1))) cap2)) q c r (.slice ad2 (k + (l - (k + 1))) cap2) (ns.eraseIdx k) (h + d) := HR6.out.put (by have := HS2.out; rw [HE.out] at this; rw [← HNN.out] at this ⊢; exact this)
    have hG7 : w.grownBy (w6.setCell ⟨q, 9, none⟩ (.slice ad2 (k + (l - (k + 1))) cap2)) (some q) := ⟨HG6.out.os.trans HG4.out.os, HG6.out.tape.trans HG4.out.tape, HG6.out.output.trans HG4.out.output, by have h1 := HG4.out.size; have h2 := HG6.out.size; simp [World.setCell]; omega, fun i hi hn => (Below.heap_setCell _ _ _ _ (show i ≠ q from fun e => hn (by rw [e]))).trans ((HG6.out.block i (by have := HG4.out.size; omega) (by simp)).trans (HG4.out.block i hi hn))⟩
    refine ret_nte rfl _ x _ w.heap.size _ _ (by rfl) (by rfl) (range_of (setRow_heap _ _ _ _ _ _ HB7.out)) ⟨rfl, _, hR7.of_block (setRow_other _ _ _ _ (show q ≠ w.heap.size by have := HQL.out; omega)) (fun g' hg' => setRow_other _ _ _ _ (fun e => ?_)), ⟨hG7.os, hG7.tape, hG7.output, by have := hG7.size; simpa using this, fun i hi hn => (setRow_other _ _ _ _ (by omega)).trans (hG7.block i hi hn)⟩, fun k' hk' => Nat.le_trans HG4.out.size (HV2.out k' hk')⟩
    have h1 := HV2.out g' hg'
    have h2 := lt_of HB4.out
    omega
  · skip
    go_simp
    (with_reducible refine (HHO.out _).mono ?_); rintro e w9 ⟨rfl, rfl⟩
    go_wp2_with fail
    refine hK.out _ _ trivial (fun hHeld => ?_)
    clear hK K
    try simp only [Act.put, List.setIfInBounds_toArray, List.set_cons_zero, List.set_cons_succ]
    refine wpAnyH_ready (rs := [4]) (by kernel_rfl) (by simp) ?_
    refine AllReadyH.cons (o := ⟨some 51, Op.load 3 (Operand.tmp 50), _, _, _, _⟩) rfl (fun K hK => ?_) AllReadyH.nil
    go_simp
    refine hK.out _ _ trivial (fun hHeld => ?_)
    clear hK K
    try simp only [Act.put, List.setIfInBounds_toArray, List.set_cons_zero, List.set_cons_succ]
    refine wpAnyH_take (i := 10) (oi := ⟨some 57, Op.binOp BinOp.add 3 (Operand.tmp 51) (Operand.tmp 56) 3, _, _, _, _⟩) (v := ?v12) rfl (by kernel_rfl) (by kernel_rfl) (by kernel_rfl) (fun _ _ _ h => h) (Or.inl ⟨by rfl, ?hy12⟩) (by assumption) ?rest12
    case hy12 => ((intro w0 hSw; go_simp); try (with_reducible rfl))
    try simp only [Act.put, List.setIfInBounds_toArray, List.set_cons_zero, List.set_cons_succ]
    refine wpAnyH_take (i := 11) (oi := ⟨some 58, Op.nilCheck (Operand.tmp 47), _, _, _, _⟩) (v := ?v13) rfl (by kernel_rfl) (by kernel_rfl) (by kernel_rfl) (fun _ _ _ h => h) (Or.inl ⟨by rfl, ?hy13⟩) (by assumption) ?rest13
    case hy13 => ((intro w0 hSw; go_simp); try (with_reducible rfl))
    try simp only [Act.put, List.setIfInBounds_toArray, List.set_cons_zero, List.set_cons_succ]
    refine wpAnyH_take (i := 12) (oi := ⟨some 59, Op.fieldAddr 52 (Operand.tmp 58) 3, _, _, _, _⟩) (v := ?v14) rfl (by kernel_rfl) (by kernel_rfl) (by kernel_rfl) (fun _ _ _ h => h) (Or.inl ⟨by rfl, ?hy14⟩) (by assumption) ?rest14
    case hy14 => ((intro w0 hSw; go_simp); try (with_reducible rfl))
    try simp only [Act.put, List.setIfInBounds_toArray, List.set_cons_zero, List.set_cons_succ]
    refine wpAnyH_ready (rs := [13]) (by kernel_rfl) (by simp) ?_
    refine AllReadyH.cons (o := ⟨none, Op.store 3 (Operand.tmp 59) (Operand.tmp 57), _, _, _, _⟩) rfl (fun K hK => ?_) AllReadyH.nil
    go_simp
    refine hK.out _ _ trivial (fun hHeld => ?_)
    clear hK K
    try simp only [Act.put, List.setIfInBounds_toArray, List.set_cons_zero, List.set_cons_succ]
    refine wpAnyH_done (by kernel_rfl) ?_ _
    obtain ⟨w4, hw4⟩ : ∃ w4, (w3.setCell ⟨q, 10, none⟩ (.int .i64 (h + d))).drew = w4 := ⟨_, rfl⟩
    have hR4 := (HR3.out.hops (h + d)).grown (grown_drew (grown_refl _ _))
    have hX4 : w4.heap[w2.heap.size]? = some (.cells (na x) 37 (0, 0)) := by
      rw [← hw4]
      exact (Below.heap_setCell _ _ _ _ (show w2.heap.size ≠ q by have := HQL.out; have := HG.out.size; omega)).trans HX3.out
    have hB4 : w4.heap[w.heap.size]? = some (.cells (na zn) 37 (0, 0)) := by
      rw [← hw4]
      exact (Below.heap_setCell _ _ _ _ (show w.heap.size ≠ q by have := HQL.out; omega)).trans ((HG3.out.block _ (by have := HS.out; omega) (by simp)).trans HB.out)
    have hG4 : w.grownBy w4 (some q) := by
      rw [← hw4]
      exact grown_drew (grown_set (grown_trans HG.out HG3.out))
    rw [hw4] at hR4 ⊢
    have HR4 := Lib.hid hR4
    have HX4 := Lib.hid hX4
    have HB4 := Lib.hid hB4
    have HG4 := Lib.hid hG4
    have HQ4 : Hid (q < w4.heap.size) := Lib.hid hR4.lt
    have c94 := hR4.c9
    have hsl4 : Sl w4 37 24 (.slice (some ⟨g, off, none⟩) l cap) l (flat nt ns) := by have := hR4.sl; rw [HLL.out] at this ⊢; exact this
    have HH := Lib.hid (head_sl hsl4 k (by omega) cap hkc (Nat.le_refl _))
    have HSL4 := Lib.hid hsl4
    have HE := Lib.hid (flat_erase nt_len ns k (by rw [← HLL.out]; exact HKL.out))
    have HNN : Hid ((ns.eraseIdx k).length = k + (l - (k + 1))) := Lib.hid (by rw [List.length_eraseIdx_of_lt (by rw [← HLL.out]; exact HKL.out), ← HLL.out]; have := HKL.out; omega)
    clear hw4 hR4 hX4 hB4 hG4 hsl4 f10 g10
    go_wp2_with (first
      | ((with_reducible refine append_sl 50 37 24 i0 (.agg (na zn)) 112 _ _ Tryd.underlying50 hi hz0 hz1 hz2 zn_cells (.slice none 0 0) 0 [] ?_ (Sl.nil _ _ _) (.slice (some ⟨g, off, none⟩) k cap) k ((flat nt ns).take (k * 24)) ?_ (HH.out.src Tryd.underlying50 (fun u hu => nflat_one ns u (List.mem_of_mem_take hu))) ?_ ?_ ?_); (rfl); (rfl); (have := HL.out; unfold maxLen; omega); (have := HL.out; omega); (intro v1 w5 hsl1 hgr1 hnx1; rw [Nat.zero_add, List.nil_append] at hsl1; have hgr1' : w4.grownBy w5 none := hgr1; have HG5 := Lib.hid hgr1'; have HS1 := Lib.hid hsl1; have HV1 : Hid (∀ k, v1.ownBlock = some k → w4.heap.size ≤ k) := Lib.hid (hnx1.ge (Nat.le_refl _) (fun k e => by simp [Value.ownBlock] at e)); have c95 := (HR4.out.grown hgr1').c9; obtain ⟨A, hA, hsrc, _, _⟩ := tail_sl (P := Tryd.prog) (HSL4.out.grown hgr1') (k + 1) hkl1 Tryd.underlying50 (nflat_one ns); have HSRC := Lib.hid hsrc; clear hsl1 hgr1 hgr1' hnx1 hsrc c94))
      | ((with_reducible refine append_sl 50 37 24 i0 (.agg (na zn)) 112 _ _ Tryd.underlying50 hi hz0 hz1 hz2 zn_cells v1 k ((flat nt ns).take (k * 24)) ?_ HS1.out (.slice (some A) (l - (k + 1)) (cap - (k + 1))) (l - (k + 1)) ((flat nt ns).drop ((k + 1) * 24)) ?_ HSRC.out ?_ ?_ ?_); (rfl); (rfl); (have := HL.out; have := HKL.out; unfold maxLen; omega); (have := HL.out; have := HKL.out; omega); (intro v2 w6 hsl2 hgr2 hnx2; have hg6 := grown_newO HG5.out HV1.out hgr2; have HG6 := Lib.hid hg6; have HV2 := Lib.hid (hnx2.ge HG5.out.size HV1.out); have HS2 := Lib.hid hsl2; have c96 := (HR4.out.grown hg6).c9; have g96 := (HR4.out.grown hg6).frozen 9; have HR6 := Lib.hid (HR4.out.grown hg6); have hX7 : (w6.setCell ⟨q, 9, none⟩ v2).heap[w2.heap.size]? = some (.cells (na x) 37 (0, 0)) := (Below.heap_setCell _ _ _ _ (show w2.heap.size ≠ q by have := HQL.out; have := HG.out.size; omega)).trans ((hg6.block _ (lt_of HX4.out) (by simp)).trans HX4.out); have hB7 : (w6.setCell ⟨q, 9, none⟩ v2).heap[w.heap.size]? = some (.cells (na zn) 37 (0, 0)) := (Below.heap_setCell _ _ _ _ (show w.heap.size ≠ q by have := HQL.out; omega)).trans ((hg6.block _ (lt_of HB4.out) (by simp)).trans HB4.out); have HX7 := Lib.hid hX7; have HB7 := Lib.hid hB7; obtain ⟨ad2, cap2, rfl⟩ := hsl2.form; clear hsl2 hgr2 hnx2 hg6 hX7 hB7 c95))
      | ((with_reducible refine load_nt x _ w2.heap.size ?_ (range_of HX7.out) ?_); (rfl))
      | ((with_reducible refine store_any x _ _ _ w.heap.size ?_ ?_ HB7.out ?_ ?_); (rfl); (rfl); (rfl)))
    have hR7 : RNet (w6.setCell ⟨q, 9, none⟩ (.slice ad2 (k + (l - (k + 1))) cap2)) q c r (.slice ad2 (k + (l - (k + 1))) cap2) (ns.eraseIdx k) (h + d) := HR6.out.put (by have := HS2.out; rw [HE.out] at this; rw [← HNN.out] at this ⊢; exact this)
    have hG7 : w.grownBy (w6.setCell ⟨q, 9, none⟩ (.slice ad2 (k + (l - (k + 1))) cap2)) (some q) := ⟨HG6.out.os.trans HG4.out.os, HG6.out.tape.trans HG4.out.tape, HG6.out.output.trans HG4.out.output, by have h1 := HG4.out.size; have h2 := HG6.out.size; simp [World.setCell]; omega, fun i hi hn => (Below.heap_setCell _ _ _ _ (show i ≠ q from fun e => hn (by rw [e]))).trans ((HG6.out.block i (by have := HG4.out.size; omega) (by simp)).trans (HG4.out.block i hi hn))⟩
    refine ret_nte rfl _ x _ w.heap.size _ _ (by rfl) (by rfl) (range_of (setRow_heap _ _ _ _ _ _ HB7.out)) ⟨rfl, _, hR7.of_block (setRow_other _ _ _ _ (show q ≠ w.heap.size by have := HQL.out; omega)) (fun g' hg' => setRow_other _ _ _ _ (fun e => ?_)), ⟨hG7.os, hG7.tape, hG7.output, by have := hG7.size; simpa using this, fun i hi hn => (setRow_other _ _ _ _ (by omega)).trans (hG7.block i hi hn)⟩, fun k' hk' => Nat.le_trans HG4.out.size (HV2.out k' hk')⟩
    have h1 := HV2.out g' hg'
    have h2 := lt_of HB4.out
    omega
theorem rtake_any (q : Nat) (c : Cfg) (r : Nat) (u : Value) (ns : List Nt) (h : Int) (w : World) (H : RNet w q c r u ns h) (i : Int) (ho : ∀ n ∈ ns, n.ok) (hl : ns.length ≤ 65536) (hh1 : 0 ≤ h) (hh2 : h ≤ 1000000000) :
    (∃ k x, i = ((k : Nat) : Int) ∧ ns[k]? = some x ∧ Calls Tryd.prog 22 #[.pointer (some ⟨q, 0, none⟩), .int .i64 i] w fun e w' => e = .returned (.tuple #[.agg (na x), .int .i64 0]) ∧ ∃ u', RNet w' q c r u' (ns.eraseIdx k) (h + far x) ∧ w.grownBy w' (some q) ∧ ∀ k, u'.ownBlock = some k → w.heap.size ≤ k) ∨
    ((i < 0 ∨ (ns.length : Int) ≤ i) ∧ Calls Tryd.prog 22 #[.pointer (some ⟨q, 0, none⟩), .int .i64 i] w fun e w' => e = .returned (.tuple #[.agg (na zn), .int .i64 5]) ∧ w.grownBy w' none) := by
  by_cases hi : i < 0 ∨ (ns.length : Int) ≤ i
  · exact .inr ⟨hi, rtake_out q c r u ns h w H i hi⟩
  · obtain ⟨k, rfl⟩ : ∃ k : Nat, i = (k : Int) := ⟨i.toNat, by omega⟩
    obtain ⟨x, hx⟩ : ∃ x, ns[k]? = some x := ⟨_, List.getElem?_eq_getElem (by omega)⟩
    exact .inl ⟨k, x, rfl, hx, rtake_in q c r u ns h w H k x hx (ho x (List.mem_of_getElem? hx)) hl hh1 hh2⟩
end Go.Proofs.YtoemkhmbeiindaaDoor.tt
