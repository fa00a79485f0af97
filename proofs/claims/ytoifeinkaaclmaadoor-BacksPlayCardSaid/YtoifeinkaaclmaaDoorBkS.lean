/-
  What the document's own Backs answer to New, Find, Drop, Kill, Put, and what is there behind them: contracts. No condition but what each theorem names.
-/
import Derived.Test.YtoifeinkaaclmaaDoorBkM
import Derived.Laws.MakeOwn
namespace Go.Proofs.YtoifeinkaaclmaaDoor.bk
open Go Go.ChangeShapes Go.WideShapes Go.ChangeAt Go.RowKit
open Go.Proofs.YtoifeinkaaclmaaDoor.tt (Cfg Tab CfgAt cfg_at rdata_any U zd row tyne add_lit lt_of range_grown heap_setCells_other setCells_rest grown_setCells grown_setRow grown_new grown_drewN below_of grown_alloc grown_refl grown_trans grown_drew Sl Pool Turn Next flat flat_len flat_at heap_setCells)
set_option linter.unusedVariables false
set_option linter.unusedSimpArgs false
set_option maxRecDepth 1000000

theorem ra_info (x : Rb) : (Tryd.prog.info? 72).map (·.size) = some (ra x).size := by
  have h : (Tryd.prog.info? 72).map (·.size) = some 18 := by kernel_rfl
  rw [ra_size]; exact h
theorem ra_one (x : Rb) : (ra x).all (·.oneCell') = true := all_oneCell_toArray (rt_one x)
theorem RAt.there {w : World} {r g N m : Nat} {ns : List Bk} (h : RAt w r g N m ns) {k : Nat} (hk : k < N) : w.there g (k * 18) 18 := fun i hi => by
  obtain ⟨v, hv⟩ : ∃ v, (rt (rof (look ns (k : Int))))[i]? = some v := ⟨_, List.getElem?_eq_getElem (by rw [rt_len]; exact hi)⟩
  exact ⟨by rw [h.at_ hk i v hv]; rfl, h.frozen _⟩
section
variable {w : World} {ops : Array Oper} {rest : List Oper} {a : Act} {Q : Exit → Act → World → Prop} {dst : Option Tmp} {ty : TypeId} {pos : String} {after : Array Edge}
theorem store_rt (e : Rb) (A : Array Value) (hA : ra e = A) (x y : Tmp) (g o : Nat) (hx : a.eval (.tmp x) = .pointer (some ⟨g, o, none⟩)) (hy : a.eval (.tmp y) = .agg A) (hg : w.there g o 18)
    (h : wpList Tryd.prog ops Q rest (a.put dst undef) (w.setCells g o (rt e))) : wpList Tryd.prog ops Q (⟨dst, .store 72 (.tmp x) (.tmp y), ty, pos, after, none⟩ :: rest) a w := by
  subst hA
  exact wpList_store_mid rfl 72 (.tmp x) (.tmp y) rfl g o (ra e) hx hy (by rw [ra_size]; exact hg) (ra_info e) (ra_one e) h
end
theorem store_rat (e : Rb) (W : World) (g o : Nat) (ht : W.there g o 18) : (storeCells ⟨g, o, none⟩ (ra e).toList 0).run Tryd.prog W = .ok () (W.setCells g o (rt e)) := by
  have := run_storeCells_cells (P := Tryd.prog) g o (rt e) 0 W (fun j hj => by simpa using (ht j (by simpa [rt_len] using hj)).1) (fun j hj => by simpa using (ht j (by simpa [rt_len] using hj)).2) (rt_one e)
  simpa [ra] using this
theorem zero_rt : ra (rof none) = #[.bool false, .bool false, .int .u32 0, .int .u32 0, .int .u32 0, .int .u32 0, .int .u32 0, .int .u32 0, .int .u32 0, .int .u32 0, .int .u32 0, .int .u32 0, .int .u32 0, .int .u32 0, .int .u32 0, .int .u32 0, .int .u32 0, .int .u32 0] := rfl

section
variable {w : World} {r g N m : Nat} {ns : List Bk} (H : RAt w r g N m ns)
include H
set_option maxHeartbeats 1000000 in
theorem rdrop_any (hI : Nd ns) (hR : Rg (N : Int) ns) (b : Int) : Calls Tryd.prog 22 #[.pointer (some ⟨r, 0, none⟩), .int .i64 b] w fun e w' => e = .returned (.bool (look ns b).isSome) ∧ RAt w' r g N m (rem ns b) ∧ w.grownBy w' (some g) := by
  have hc := H.c0
  have HHA := Lib.hid (rhas_any H hR b)
  cases hs : (look ns b).isSome with
  | false =>
    rw [hs] at HHA
    have hn : look ns b = none := by simpa using hs
    have HE : Hid (rem ns b = ns) := Lib.hid (rem_none hn)
    have HH := Lib.hid H
    clear H hR hs hn
    go_enter Tryd.func22, Tryd.ntmps22
    go_wp2_with (go_at_call 38; ((with_reducible refine HHA.out.mono ?_); rintro e w1 ⟨rfl, rfl⟩))
    go_ret
    exact ⟨rfl, by rw [HE.out]; exact HH.out, grown_refl _ _⟩
  | true =>
    rw [hs] at HHA
    obtain ⟨x, hx⟩ := Option.isSome_iff_exists.1 hs
    have hb := hR x (look_mem hx)
    rw [look_b hx] at hb
    obtain ⟨k, rfl⟩ : ∃ k : Nat, b = (k : Int) := ⟨b.toNat, by omega⟩
    have hk : k < N := by omega
    have HTH := Lib.hid (H.there hk)
    have HP := Lib.hid (H.put (ns' := rem ns (k : Int)) hk (fun c hc => by rw [look_rem _ _ hI, if_neg (by omega)]))
    have he : look (rem ns (k : Int)) (k : Int) = none := by rw [look_rem _ _ hI, if_pos rfl]
    rw [he] at HP
    have hk1 : (k : Int) < (N : Int) := by omega
    clear H hR hI hs hx he hb
    go_enter Tryd.func22, Tryd.ntmps22
    go_wp2_with (first
      | (go_at_call 38; ((with_reducible refine HHA.out.mono ?_); rintro e w1 ⟨rfl, rfl⟩))
      | ((with_reducible refine store_rt (rof none) _ zero_rt _ _ g (k * 18) ?_ ?_ HTH.out ?_); (rfl); (rfl)))
    go_ret
    exact ⟨rfl, HP.out.1, HP.out.2⟩
set_option maxHeartbeats 1000000 in
theorem rkill_any (hI : Nd ns) (hR : Rg (N : Int) ns) (b : Int) : Calls Tryd.prog 21 #[.pointer (some ⟨r, 0, none⟩), .int .i64 b] w fun e w' => e = .returned (.bool (fl (look ns b))) ∧ RAt w' r g N m (kills ns b) ∧ w.grownBy w' (some g) := by
  have hc := H.c0
  have HHA := Lib.hid (rhas_any H hR b)
  have hfz := H.frozen
  cases hs : look ns b with
  | none =>
    rw [hs] at HHA
    have HE : Hid (kills ns b = ns) := Lib.hid (by unfold kills; rw [hs])
    have HH := Lib.hid H
    clear H hR hs hfz
    simp only [Option.isSome_none] at HHA
    go_enter Tryd.func21, Tryd.ntmps21
    go_wp2_with (go_at_call 38; ((with_reducible refine HHA.out.mono ?_); rintro e w1 ⟨rfl, rfl⟩))
    go_ret
    exact ⟨rfl, by rw [HE.out]; exact HH.out, grown_refl _ _⟩
  | some x =>
    rw [hs] at HHA
    have hb := hR x (look_mem hs)
    have hxb := look_b hs
    rw [hxb] at hb
    obtain ⟨k, rfl⟩ : ∃ k : Nat, b = (k : Int) := ⟨b.toNat, by omega⟩
    have hk : k < N := by omega
    have hcl := H.cl hk
    have hk1 : (k : Int) < (N : Int) := by omega
    have hlk : ∀ c : Nat, c ≠ k → look (kills ns (k : Int)) (c : Int) = look ns (c : Int) := fun c hc => by rw [look_kills _ _ hI, if_neg (by omega)]
    have hlk2 : look (kills ns (k : Int)) (k : Int) = some (dead x) := by rw [look_kills _ _ hI, if_pos rfl, hs]; rfl
    rw [hs] at hcl
    simp only [Option.isSome_some] at HHA
    have HFX : Hid (fl (some x) = x.l) := Lib.hid rfl
    rw [HFX.out] at hcl ⊢
    cases hxl : x.l with
    | false =>
      rw [hxl] at hcl
      have HH := Lib.hid (H.same (ns' := kills ns (k : Int)) (fun c => by
        by_cases hck : c = k
        · subst hck
          rw [hlk2, hs]
          obtain ⟨xb, xd, xl, xh⟩ := x
          cases hxl; rfl
        · exact hlk c hck))
      clear H hR hI hs hlk hlk2 hxl hxb hb hfz HFX
      go_enter Tryd.func21, Tryd.ntmps21
      go_wp2_with (go_at_call 38; ((with_reducible refine HHA.out.mono ?_); rintro e w1 ⟨rfl, rfl⟩))
      go_ret
      exact ⟨rfl, HH.out, grown_refl _ _⟩
    | true =>
      rw [hxl] at hcl
      have hf := hfz (k * 18 + 1)
      have hl := H.live (ns' := kills ns (k : Int)) hk hlk (by rw [hlk2, hs]; rfl) (by rw [hlk2, hs]; rfl)
      rw [show fl (look (kills ns (k : Int)) (k : Int)) = false by rw [hlk2]; rfl] at hl
      have HH := Lib.hid hl
      clear H hR hI hs hlk hlk2 hxl hxb hb hl hfz HFX
      go_enter Tryd.func21, Tryd.ntmps21
      go_wp2_with (go_at_call 38; ((with_reducible refine HHA.out.mono ?_); rintro e w1 ⟨rfl, rfl⟩))
      go_ret
      exact ⟨rfl, HH.out.1, HH.out.2⟩
set_option maxHeartbeats 2000000 in
theorem rfind_any (hR : Rg (N : Int) ns) (b : Int) : Calls Tryd.prog 23 #[.pointer (some ⟨r, 0, none⟩), .int .i64 b] w fun e w' => e = .returned (.tuple #[.agg (row (fd (look ns b))), .bool (fl (look ns b)), .bool (look ns b).isSome]) ∧ w.grownBy w' none := by
  obtain ⟨w2, hw, hg2, hb2, _⟩ := onerow w
  have hz : row zd = _ := zrow
  rw [hz] at hw
  have HB2 := Lib.hid hb2
  have HG2 := Lib.hid hg2
  have H2 := H.grown hg2
  have hc := H2.c0
  have HHA := Lib.hid (rhas_any H2 hR b)
  cases hs : look ns b with
  | none =>
    rw [hs] at HHA
    simp only [Option.isSome_none] at HHA
    clear H H2 hR hs hz hg2 hb2
    go_enter Tryd.func23, Tryd.ntmps23
    go_wp2_with (first
      | (go_at_call 38; ((with_reducible refine HHA.out.mono ?_); rintro e w3 ⟨rfl, rfl⟩))
      | ((with_reducible refine store_row zd rfl _ _ zrow _ _ w.heap.size ?_ ?_ HB2.out ?_ ?_); (rfl); (rfl); (rfl)))
    have hr : (w2.setRow w.heap.size (row zd)).rangeAt w.heap.size 0 (zd.map U) := range_row (setRow_heap _ _ _ _ _ _ HB2.out)
    exact ret_row3 rfl _ zd rfl _ _ w.heap.size _ _ (by rfl) (by rfl) (by rfl) hr ⟨rfl, grown_setRow HG2.out _ (Nat.le_refl _) _⟩
  | some x =>
    rw [hs] at HHA
    simp only [Option.isSome_some] at HHA
    have hb := hR x (look_mem hs)
    rw [look_b hs] at hb
    obtain ⟨k, rfl⟩ : ∃ k : Nat, b = (k : Int) := ⟨b.toNat, by omega⟩
    have hk : k < N := by omega
    have hk1 : (k : Int) < (N : Int) := by omega
    have hcl := H2.cl hk
    have hcd := H2.cd hk
    rw [hs] at hcl hcd
    obtain ⟨cur, hty⟩ := H2.typ
    have HNG : Hid (w.heap.size ≠ g) := Lib.hid (tyne hb2 hty (by decide))
    have HNR : Hid (w.heap.size ≠ r) := Lib.hid (tyne hb2 H2.blk (by decide))
    obtain ⟨ty, sz, HTY, hagg, hsize, hld, hsr, hst⟩ := named29
    have hsr := hsr x.d x.hd
    have HS0 : Hid (w2.drew.cell? ⟨r, 0, none⟩ = some (.slice (some ⟨g, 0, none⟩) N N) ∧ (loadCellsFrom ⟨g, k * 18 + 2, none⟩ 0 sz #[]).run Tryd.prog w2.drew = .ok (row x.d) w2.drew ∧ w2.drew.cell? ⟨g, k * 18 + 1, none⟩ = some (.bool x.l)) := Lib.hid ⟨hc, hld g (k * 18 + 2) x.d x.hd w2.drew hcd, hcl⟩
    have HS1 : Hid ((w2.drew.setCells w.heap.size 0 (x.d.map U)).cell? ⟨r, 0, none⟩ = some (.slice (some ⟨g, 0, none⟩) N N) ∧ (loadCellsFrom ⟨g, k * 18 + 2, none⟩ 0 sz #[]).run Tryd.prog (w2.drew.setCells w.heap.size 0 (x.d.map U)) = .ok (row x.d) (w2.drew.setCells w.heap.size 0 (x.d.map U)) ∧ (w2.drew.setCells w.heap.size 0 (x.d.map U)).cell? ⟨g, k * 18 + 1, none⟩ = some (.bool x.l)) := Lib.hid ⟨(World.cell?_of_block (heap_setCells_other _ r (Ne.symm HNR.out) _ _ _)).trans hc, hld g (k * 18 + 2) x.d x.hd _ (fun j v hv => (World.cell?_of_block (heap_setCells_other _ g (Ne.symm HNG.out) _ _ _)).trans (hcd j v hv)), (World.cell?_of_block (heap_setCells_other _ g (Ne.symm HNG.out) _ _ _)).trans hcl⟩
    have hs2 := hst w.heap.size 0 x.d x.hd w2.drew (there16 (w := w2.drew) hb2 rfl)
    have HRR : Hid ((w2.drew.setCells w.heap.size 0 (x.d.map U)).rangeAt w.heap.size 0 (x.d.map U)) := Lib.hid (World.rangeAt_setCells_same _ _ _ _ (fun i hi => (there16 (w := w2.drew) hb2 rfl) i (by simpa [x.hd] using hi)))
    have HGR : Hid (w.grownBy (w2.drew.setCells w.heap.size 0 (x.d.map U)) none) := Lib.hid (grown_new (grown_trans hg2 (grown_drew (grown_refl _ _))) (Nat.le_refl _) (grown_setCells _ _ _ _))
    clear H H2 hR hs hz hg2 hb2 hb hcl hcd hty hld hst
    go_enter Tryd.func23, Tryd.ntmps23
    go_wp2_with (go_at_call 38; ((with_reducible refine HHA.out.mono ?_); rintro e w3 ⟨rfl, rfl⟩))
    rw [HTY.out.1, HTY.out.2]
    refine wp_region_held_drew (S := fun W => W.cell? ⟨r, 0, none⟩ = some (.slice (some ⟨g, 0, none⟩) N N) ∧ (loadCellsFrom ⟨g, k * 18 + 2, none⟩ 0 sz #[]).run Tryd.prog W = .ok (row x.d) W ∧ W.cell? ⟨g, k * 18 + 1, none⟩ = some (.bool x.l)) (by kernel_rfl) HS0.out (fun hHeld => ?_)
    generalize w2.drew = W0 at hHeld hs2 HS0 HS1 HRR HGR ⊢
    refine wpAnyH_take (i := 0) (oi := ⟨some 12, Op.move (Operand.tmp 0), _, _, _, _⟩) (v := ?v1) rfl (by kernel_rfl) (by kernel_rfl) (by kernel_rfl) (fun _ _ _ h => h) (Or.inl ⟨by rfl, ?hy1⟩) (by assumption) ?rest1
    case hy1 => ((intro w0 hSw; obtain ⟨h1, h2, h3⟩ := hSw; go_simp); try (with_reducible rfl))
    try simp only [Act.put, List.setIfInBounds_toArray, List.set_cons_zero, List.set_cons_succ]
    refine wpAnyH_take (i := 1) (oi := ⟨some 13, Op.nilCheck (Operand.tmp 12), _, _, _, _⟩) (v := ?v2) rfl (by kernel_rfl) (by kernel_rfl) (by kernel_rfl) (fun _ _ _ h => h) (Or.inl ⟨by rfl, ?hy2⟩) (by assumption) ?rest2
    case hy2 => ((intro w0 hSw; obtain ⟨h1, h2, h3⟩ := hSw; go_simp); try (with_reducible rfl))
    try simp only [Act.put, List.setIfInBounds_toArray, List.set_cons_zero, List.set_cons_succ]
    refine wpAnyH_take (i := 2) (oi := ⟨some 14, Op.fieldAddr 70 (Operand.tmp 13) 0, _, _, _, _⟩) (v := ?v3) rfl (by kernel_rfl) (by kernel_rfl) (by kernel_rfl) (fun _ _ _ h => h) (Or.inl ⟨by rfl, ?hy3⟩) (by assumption) ?rest3
    case hy3 => ((intro w0 hSw; obtain ⟨h1, h2, h3⟩ := hSw; go_simp); try (with_reducible rfl))
    try simp only [Act.put, List.setIfInBounds_toArray, List.set_cons_zero, List.set_cons_succ]
    refine wpAnyH_take (i := 3) (oi := ⟨some 15, Op.load 68 (Operand.tmp 14), _, _, _, _⟩) (v := ?v4) rfl (by kernel_rfl) (by kernel_rfl) (by kernel_rfl) (fun _ _ _ h => h) (Or.inl ⟨by rfl, ?hy4⟩) (by assumption) ?rest4
    case hy4 => ((intro w0 hSw; obtain ⟨h1, h2, h3⟩ := hSw; go_simp); try (with_reducible rfl))
    try simp only [Act.put, List.setIfInBounds_toArray, List.set_cons_zero, List.set_cons_succ]
    refine wpAnyH_take (i := 4) (oi := ⟨some 16, Op.move (Operand.tmp 1), _, _, _, _⟩) (v := ?v5) rfl (by kernel_rfl) (by kernel_rfl) (by kernel_rfl) (fun _ _ _ h => h) (Or.inl ⟨by rfl, ?hy5⟩) (by assumption) ?rest5
    case hy5 => ((intro w0 hSw; obtain ⟨h1, h2, h3⟩ := hSw; go_simp); try (with_reducible rfl))
    try simp only [Act.put, List.setIfInBounds_toArray, List.set_cons_zero, List.set_cons_succ]
    refine wpAnyH_take (i := 5) (oi := ⟨some 17, Op.indexAddr 68 (Operand.tmp 15) (Operand.tmp 16), _, _, _, _⟩) (v := ?v6) rfl (by kernel_rfl) (by kernel_rfl) (by kernel_rfl) (fun _ _ _ h => h) (Or.inl ⟨by rfl, ?hy6⟩) (by assumption) ?rest6
    case hy6 => ((intro w0 hSw; obtain ⟨h1, h2, h3⟩ := hSw; go_simp); try (with_reducible rfl))
    try simp only [Act.put, List.setIfInBounds_toArray, List.set_cons_zero, List.set_cons_succ]
    refine wpAnyH_take (i := 6) (oi := ⟨some 18, Op.fieldAddr 72 (Operand.tmp 17) 2, _, _, _, _⟩) (v := ?v7) rfl (by kernel_rfl) (by kernel_rfl) (by kernel_rfl) (fun _ _ _ h => h) (Or.inl ⟨by rfl, ?hy7⟩) (by assumption) ?rest7
    case hy7 => ((intro w0 hSw; obtain ⟨h1, h2, h3⟩ := hSw; go_simp); try (with_reducible rfl))
    try simp only [Act.put, List.setIfInBounds_toArray, List.set_cons_zero, List.set_cons_succ]
    refine wpAnyH_take (i := 7) (oi := ⟨some 19, Op.load ty (Operand.tmp 18), _, _, _, _⟩) (v := ?v8) rfl (by kernel_rfl) (by kernel_rfl) (by kernel_rfl) (fun _ _ _ h => h) (Or.inl ⟨by rfl, ?hy8⟩) (by assumption) ?rest8
    case hy8 => ((intro w0 hSw; obtain ⟨h1, h2, h3⟩ := hSw; go_simp); try (with_reducible rfl))
    try simp only [Act.put, List.setIfInBounds_toArray, List.set_cons_zero, List.set_cons_succ]
    refine wpAnyH_take (i := 8) (oi := ⟨some 20, Op.move (Operand.tmp 0), _, _, _, _⟩) (v := ?v9) rfl (by kernel_rfl) (by kernel_rfl) (by kernel_rfl) (fun _ _ _ h => h) (Or.inl ⟨by rfl, ?hy9⟩) (by assumption) ?rest9
    case hy9 => ((intro w0 hSw; obtain ⟨h1, h2, h3⟩ := hSw; go_simp); try (with_reducible rfl))
    try simp only [Act.put, List.setIfInBounds_toArray, List.set_cons_zero, List.set_cons_succ]
    refine wpAnyH_take (i := 9) (oi := ⟨some 21, Op.nilCheck (Operand.tmp 20), _, _, _, _⟩) (v := ?v10) rfl (by kernel_rfl) (by kernel_rfl) (by kernel_rfl) (fun _ _ _ h => h) (Or.inl ⟨by rfl, ?hy10⟩) (by assumption) ?rest10
    case hy10 => ((intro w0 hSw; obtain ⟨h1, h2, h3⟩ := hSw; go_simp); try (with_reducible rfl))
    try simp only [Act.put, List.setIfInBounds_toArray, List.set_cons_zero, List.set_cons_succ]
    refine wpAnyH_take (i := 10) (oi := ⟨some 22, Op.fieldAddr 70 (Operand.tmp 21) 0, _, _, _, _⟩) (v := ?v11) rfl (by kernel_rfl) (by kernel_rfl) (by kernel_rfl) (fun _ _ _ h => h) (Or.inl ⟨by rfl, ?hy11⟩) (by assumption) ?rest11
    case hy11 => ((intro w0 hSw; obtain ⟨h1, h2, h3⟩ := hSw; go_simp); try (with_reducible rfl))
    try simp only [Act.put, List.setIfInBounds_toArray, List.set_cons_zero, List.set_cons_succ]
    refine wpAnyH_take (i := 11) (oi := ⟨some 23, Op.load 68 (Operand.tmp 22), _, _, _, _⟩) (v := ?v12) rfl (by kernel_rfl) (by kernel_rfl) (by kernel_rfl) (fun _ _ _ h => h) (Or.inl ⟨by rfl, ?hy12⟩) (by assumption) ?rest12
    case hy12 => ((intro w0 hSw; obtain ⟨h1, h2, h3⟩ := hSw; go_simp); try (with_reducible rfl))
    try simp only [Act.put, List.setIfInBounds_toArray, List.set_cons_zero, List.set_cons_succ]
    refine wpAnyH_take (i := 12) (oi := ⟨some 24, Op.move (Operand.tmp 1), _, _, _, _⟩) (v := ?v13) rfl (by kernel_rfl) (by kernel_rfl) (by kernel_rfl) (fun _ _ _ h => h) (Or.inl ⟨by rfl, ?hy13⟩) (by assumption) ?rest13
    case hy13 => ((intro w0 hSw; obtain ⟨h1, h2, h3⟩ := hSw; go_simp); try (with_reducible rfl))
    try simp only [Act.put, List.setIfInBounds_toArray, List.set_cons_zero, List.set_cons_succ]
    refine wpAnyH_take (i := 13) (oi := ⟨some 25, Op.indexAddr 68 (Operand.tmp 23) (Operand.tmp 24), _, _, _, _⟩) (v := ?v14) rfl (by kernel_rfl) (by kernel_rfl) (by kernel_rfl) (fun _ _ _ h => h) (Or.inl ⟨by rfl, ?hy14⟩) (by assumption) ?rest14
    case hy14 => ((intro w0 hSw; obtain ⟨h1, h2, h3⟩ := hSw; go_simp); try (with_reducible rfl))
    try simp only [Act.put, List.setIfInBounds_toArray, List.set_cons_zero, List.set_cons_succ]
    refine wpAnyH_take (i := 14) (oi := ⟨some 26, Op.fieldAddr 72 (Operand.tmp 25) 1, _, _, _, _⟩) (v := ?v15) rfl (by kernel_rfl) (by kernel_rfl) (by kernel_rfl) (fun _ _ _ h => h) (Or.inl ⟨by rfl, ?hy15⟩) (by assumption) ?rest15
    case hy15 => ((intro w0 hSw; obtain ⟨h1, h2, h3⟩ := hSw; go_simp); try (with_reducible rfl))
    try simp only [Act.put, List.setIfInBounds_toArray, List.set_cons_zero, List.set_cons_succ]
    refine wpAnyH_take (i := 15) (oi := ⟨some 27, Op.load 4 (Operand.tmp 26), _, _, _, _⟩) (v := ?v16) rfl (by kernel_rfl) (by kernel_rfl) (by kernel_rfl) (fun _ _ _ h => h) (Or.inl ⟨by rfl, ?hy16⟩) (by assumption) ?rest16
    case hy16 => ((intro w0 hSw; obtain ⟨h1, h2, h3⟩ := hSw; go_simp); try (with_reducible rfl))
    try simp only [Act.put, List.setIfInBounds_toArray, List.set_cons_zero, List.set_cons_succ]
    refine wpAnyH_ready (rs := [16]) (by kernel_rfl) (by simp) ?_
    refine AllReadyH.cons (o := ⟨none, Op.store ty (Operand.tmp 4) (Operand.tmp 19), _, _, _, _⟩) rfl (fun K hK => ?_) AllReadyH.nil
    go_simp
    refine hK.out _ _ HS1.out (fun hHeld => ?_)
    clear hK K
    try simp only [Act.put, List.setIfInBounds_toArray, List.set_cons_zero, List.set_cons_succ]
    refine wpAnyH_take (i := 17) (oi := ⟨some 5, Op.assign (Operand.tmp 27), _, _, _, _⟩) (v := ?v17) rfl (by kernel_rfl) (by kernel_rfl) (by kernel_rfl) (fun _ _ _ h => h) (Or.inl ⟨by rfl, ?hy17⟩) (by assumption) ?rest17
    case hy17 => ((intro w0 hSw; go_simp); try (with_reducible rfl))
    try simp only [Act.put, List.setIfInBounds_toArray, List.set_cons_zero, List.set_cons_succ]
    refine wpAnyH_take (i := 18) (oi := ⟨some 6, Op.assign (Operand.const (Value.bool true)), _, _, _, _⟩) (v := ?v18) rfl (by kernel_rfl) (by kernel_rfl) (by kernel_rfl) (fun _ _ _ h => h) (Or.inl ⟨by rfl, ?hy18⟩) (by assumption) ?rest18
    case hy18 => ((intro w0 hSw; go_simp); try (with_reducible rfl))
    try simp only [Act.put, List.setIfInBounds_toArray, List.set_cons_zero, List.set_cons_succ]
    refine wpAnyH_done (by kernel_rfl) ?_ _
    clear hs2 hHeld HS0 HS1
    generalize W0.setCells w.heap.size 0 (x.d.map U) = Y at HRR HGR ⊢
    go_wp2_with fail
    exact ret_row3 rfl _ x.d x.hd _ _ w.heap.size _ _ (by rfl) (by rfl) (by rfl) HRR.out ⟨rfl, HGR.out⟩
end
end Go.Proofs.YtoifeinkaaclmaaDoor.bk
