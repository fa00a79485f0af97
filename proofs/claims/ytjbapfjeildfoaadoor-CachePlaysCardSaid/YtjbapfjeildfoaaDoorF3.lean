/-
  What does answers: one call on a cache and on the document's cache, both of which stay the same: a contract. Condition: the table of bounds lies in its variable as the program's text has it.
-/
import Derived.Test.YtjbapfjeildfoaaDoorF2
import Derived.Test.YtjbapfjeildfoaaDoorC15
namespace Go.Proofs.YtjbapfjeildfoaaDoor.kk
open Go Go.ChangeShapes Go.WideShapes Go.ChangeAt Go.RowKit Go.Shelf
set_option linter.unusedVariables false

theorem Kept.mono {O O' : Nat → Prop} {w w' : World} (h : Kept O w w') (ho : ∀ k, O k → O' k) : Kept O' w w' := ⟨h.os, h.tape, h.output, h.size, fun k hk hn => h.block k hk (fun e => hn (ho k e))⟩
/-- A line of which the first k words are x. -/
def flx (b s x : Int) (k : Nat) : Ln := ⟨b, s, List.replicate (min k 16) x ++ List.replicate (16 - k) 0, by simp; omega⟩
theorem flx_zero (b s x : Int) : flx b s x 0 = mk b s := rfl
theorem flx_succ (b s x : Int) (k : Nat) (hk : k < 16) : (la (flx b s x k)).set! (2 + k) (U x) = la (flx b s x (k + 1)) := by
  have : k = 0 ∨ k = 1 ∨ k = 2 ∨ k = 3 ∨ k = 4 ∨ k = 5 ∨ k = 6 ∨ k = 7 ∨ k = 8 ∨ k = 9 ∨ k = 10 ∨ k = 11 ∨ k = 12 ∨ k = 13 ∨ k = 14 ∨ k = 15 := by omega
  rcases this with rfl | rfl | rfl | rfl | rfl | rfl | rfl | rfl | rfl | rfl | rfl | rfl | rfl | rfl | rfl | rfl <;> rfl
/-- Both caches, of the same sets. -/
structure Both (w : World) (K : Loc) (R : RLoc) (c : Cfg) (ss : List St) : Prop where
  cac : Cac w K c ss
  rac : Rac w R c ss
  inv : Inv c ss
  apart : ∀ k, K.any k → ¬ R.any k
section
variable {w w' w2 : World} {K : Loc} {R : RLoc} {c : Cfg} {ss ss' : List St}
theorem Both.grown (B : Both w K R c ss) (hg : w.grownBy w' none) : Both w' K R c ss := ⟨B.cac.grown hg, B.rac.grown hg, B.inv, B.apart⟩
theorem Both.k (B : Both w K R c ss) (hk : Kept K.own w w') : Rac w' R c ss := B.rac.same fun k hr => hk.block k (B.rac.lt hr) (fun ho => B.apart k (.inr ho) hr)
theorem Both.r (B : Both w K R c ss) (hk : Kept K.own w w') (hc : Cac w' K c ss') (hr : Kept R.own w' w2) (h2 : Rac w2 R c ss') (hi : Inv c ss') : Both w2 K R c ss' ∧ Kept (fun k => K.own k ∨ R.own k) w w2 :=
  ⟨⟨hc.same fun k h => hr.block k (hc.lt h) (fun ho => B.apart k h (.inr ho)), h2, hi, B.apart⟩, ⟨hr.os.trans hk.os, hr.tape.trans hk.tape, hr.output.trans hk.output, Nat.le_trans hk.size hr.size, fun k h hn => (hr.block k (Nat.lt_of_lt_of_le h hk.size) (fun ho => hn (.inr ho))).trans (hk.block k h (fun ho => hn (.inl ho)))⟩⟩
theorem cells_kept {O : Nat → Prop} {w1 w2 : World} {b : Nat} {cs : Array Value} {t : TypeId} (h : w1.heap[b]? = some (.cells cs t (0, 0))) (hk : Kept O w1 w2) (hb : ¬ O b) : w2.heap[b]? = some (.cells cs t (0, 0)) := (hk.block b (lt_of h) hb).trans h
/-- What does makes of both. -/
structure Done (w w' : World) (K K' : Loc) (R : RLoc) (c : Cfg) (ss' : List St) : Prop where
  both : Both w' K' R c ss'
  kept : Kept (fun k => K.own k ∨ R.own k) w w'
  loc : K' = K ∨ ∀ k, K'.any k → w.heap.size ≤ k
theorem Done.pre {w0 : World} {K' : Loc} (hg : w0.grownBy w none) (D : Done w w' K K' R c ss') : Done w0 w' K K' R c ss' :=
  ⟨D.both, (Kept.of hg).trans D.kept, by
    rcases D.loc with h | h
    · exact .inl h
    · exact .inr fun k hk => Nat.le_trans hg.size (h k hk)⟩
end
theorem opc_cells (w : World) (b : Nat) (o : OpX) (h : w.heap[b]? = some (.cells (opCells o) 50 (0, 0))) : (w.cell? ⟨b, 0, none⟩ = some (.int .i64 o.kind) ∧ w.cell? ⟨b, 1, none⟩ = some (.int .i64 o.b) ∧ w.cell? ⟨b, 2, none⟩ = some (.int .i64 o.wd)) ∧ w.cell? ⟨b, 3, none⟩ = some (.int .u8 o.s) ∧ w.cell? ⟨b, 4, none⟩ = some (.int .u32 o.x) :=
  ⟨⟨(cell_of_row _ _ _ _ _ _ h).trans rfl, (cell_of_row _ _ _ _ _ _ h).trans rfl, (cell_of_row _ _ _ _ _ _ h).trans rfl⟩, (cell_of_row _ _ _ _ _ _ h).trans rfl, (cell_of_row _ _ _ _ _ _ h).trans rfl⟩
theorem binE36 : ∀ x w, (binOp .eql 36 (.agg (la x)) (.agg (la x))).run Tryd.prog w = .ok (.bool true) w := fun x w => by rw [q36e, decide_eq_true rfl]

set_option maxRecDepth 1000000 in
set_option maxHeartbeats 16000000 in
theorem does_any (K : Loc) (R : RLoc) (c : Cfg) (ss : List St) (o : OpX) (w : World) (hB : Both w K R c ss) (hT : Tab w) :
    Calls Tryd.prog 22 #[.pointer (some ⟨K.b, 0, none⟩), .pointer (some ⟨R.b, 0, none⟩), .agg (opCells o)] w fun e w' => ∃ K' ss', e = .returned (.tuple #[.pointer (some ⟨K'.b, 0, none⟩), .bool true]) ∧ Done w w' K K' R c ss' := by
  have h5 : (w.alloc (.cells (opCells o) 50)).heap[w.heap.size]? = some (.cells (opCells o) 50 (0, 0)) := heap_alloc_new _ _
  obtain ⟨⟨k0, k1, k2⟩, k3, k4⟩ := opc_cells _ _ o h5
  have HB := Lib.hid hB
  have HT := Lib.hid (fun w' (h : w.grownBy w' none) => hT.grown h)
  have HG5 : Hid (w.grownBy (w.alloc (.cells (opCells o) 50)) none) := Lib.hid (grown_alloc (grown_refl _ _) _)
  obtain ⟨w5, hw5⟩ : ∃ w5, w.alloc (.cells (opCells o) 50) = w5 := ⟨_, rfl⟩
  have hl5 := lt_of h5
  rw [hw5] at h5 k0 k1 k2 k3 k4 HG5 hl5
  have H5 := Lib.hid h5
  have HL5 := Lib.hid hl5
  have HW5 : Hid (w.alloc (.cells #[.int .i64 o.kind, .int .i64 o.b, .int .i64 o.wd, .int .u8 o.s, .int .u32 o.x] 50) = w5) := Lib.hid hw5
  have hw5' := HW5.out
  clear hB hT h5 hw5 hl5
  unfold opCells
  go_enter Tryd.func22, Tryd.ntmps22
  go_wp2_with (first
    | (go_at_call 12; ((with_reducible refine (line_any o.b o.s w5).mono ?_); rintro e w6 ⟨rfl, hg6⟩; have HG6 := Lib.hid (grown_trans HG5.out hg6); have H56 := Lib.hid ((hg6.block _ HL5.out (by simp)).trans H5.out); have HL6 := Lib.hid (Nat.lt_of_lt_of_le HL5.out hg6.size); have HN6 : Hid ((w6.alloc (.cells (la (mk o.b o.s)) 36)).heap[w6.heap.size]? = some (.cells (la (mk o.b o.s)) 36 (0, 0))) := Lib.hid (heap_alloc_new _ _); have HG7 := Lib.hid (grown_alloc HG6.out (.cells (la (mk o.b o.s)) 36)); have H57 := Lib.hid ((Below.heap_alloc w6 (.cells (la (mk o.b o.s)) 36) _ HL6.out).trans H56.out); clear hg6 k0 k1 k2 k3 k4 hw5'))
    | ((with_reducible refine store_new' (mk o.b o.s) 8 23 ?_ ?_ ?_); (rfl); (rfl)))
  obtain ⟨w7, hw7⟩ : ∃ w7, w6.alloc (.cells (la (mk o.b o.s)) 36) = w7 := ⟨_, rfl⟩
  obtain ⟨B8, hB8⟩ : ∃ B8, B8 = w6.heap.size := ⟨_, rfl⟩
  rw [hw7] at HN6 HG7 H57 ⊢
  rw [← hB8] at HN6 HL6 ⊢
  have HB8 : Hid (w.heap.size < B8) := Lib.hid HL6.out
  have HB8w : Hid (w.heap.size ≤ B8) := Lib.hid (Nat.le_of_lt HL6.out)
  clear hw7 hB8 H56
  go_loopw [24] (fun i wr => ∃ k : Nat, k ≤ 16 ∧ i = .int .i64 (k : Int) ∧ wr.heap[B8]? = some (.cells (la (flx o.b o.s o.x k)) 36 (0, 0)) ∧ w7.grownBy wr (some B8)) (fun i _ => 16 - (intOf i).toNat)
  case atStart => exact ⟨0, by omega, rfl, HN6.out, grown_refl _ _⟩
  case round =>
    obtain ⟨k, hk, rfl, h8, hg8⟩ := hrel
    have H8 := Lib.hid h8
    have HG8 := Lib.hid hg8
    have h5r : wr.heap[w.heap.size]? = some (.cells (opCells o) 50 (0, 0)) := (hg8.block _ (lt_of H57.out) (fun e => by have := HB8.out; have := Option.some.inj e; omega)).trans H57.out
    have HGW : Hid (w.grownBy wr none) := Lib.hid (grown_newO HG7.out (fun k e => by cases e; exact HB8w.out) hg8)
    have H5R := Lib.hid h5r
    obtain ⟨⟨k0, k1, k2⟩, k3, k4⟩ := opc_cells _ _ o h5r
    clear hg8 h5r h8
    by_cases hlt : k < 16
    · obtain ⟨u8, hu8⟩ : ∃ u, wr.cell? ⟨B8, 2 + k, none⟩ = some u := ⟨_, (cell_of_row _ _ _ _ _ _ H8.out).trans (Array.getElem?_eq_getElem (by rw [la_size]; omega))⟩
      have hf8 : wr.frozen? ⟨B8, 2 + k, none⟩ = false := frozen_of_row _ _ _ _ _ H8.out
      have HS8 : Hid ((wr.setCell ⟨B8, 2 + k, none⟩ (.int .u32 o.x)).heap[B8]? = some (.cells (la (flx o.b o.s o.x (k + 1))) 36 (0, 0))) := Lib.hid (by have := blk_setCell (o := 2 + k) (U o.x) H8.out; rw [flx_succ _ _ _ _ hlt] at this; exact this)
      have HGS : Hid (w7.grownBy (wr.setCell ⟨B8, 2 + k, none⟩ (.int .u32 o.x)) (some B8)) := Lib.hid (grown_trans HG8.out (grown_setCell _ _ _ _))
      go_wp2_with fail
      go_roundw
      case rel => exact ⟨k + 1, by omega, by go_num, HS8.out, HGS.out⟩
      case measure => simp [intOf]; omega
    · obtain rfl : k = 16 := by omega
      have HBL := Lib.hid (HB.out.grown HGW.out)
      have HTL := Lib.hid (HT.out _ HGW.out)
      obtain ⟨l, hl⟩ : ∃ l, l = flx o.b o.s o.x 16 := ⟨_, rfl⟩
      rw [← hl] at H8
      have HK5 : Hid (¬ K.own w.heap.size) := Lib.hid (fun h => by have := HB.out.cac.lt (.inr h); omega)
      have HR5 : Hid (¬ R.own w.heap.size) := Lib.hid (fun h => by have := HB.out.rac.lt (.inr h); omega)
      have HK8 : Hid (¬ K.own B8) := Lib.hid (fun h => by have := HB.out.cac.lt (.inr h); have := HB8.out; omega)
      have HR8 : Hid (¬ R.own B8) := Lib.hid (fun h => by have := HB.out.rac.lt (.inr h); have := HB8.out; omega)
      have hd16 : decide ((16 : Int) < 16) = false := by decide
      clear hl hlt hk
      by_cases e0 : o.kind = 0
      · skip
        have ek0 : (o.kind == 0) = true := by simp; omega
        clear e0
        obtain ⟨z, hz9⟩ : ∃ z, z = (cput c ss l).2 := ⟨_, rfl⟩
        obtain ⟨ss', hs9⟩ : ∃ ss', ss' = (cput c ss l).1 := ⟨_, rfl⟩
        have HKC := Lib.hid (put_any K c ss wr.drew (HBL.out.grown (grown_drew (grown_refl _ _))).cac (HTL.out.grown (grown_drew (grown_refl _ _))) l)
        have HRC : Hid (∀ w', Rac w' R c ss → _) := Lib.hid fun w' h => rput_any R c ss w' h HBL.out.inv l
        rw [← hz9, ← hs9] at HKC HRC
        have HIN : Hid (Inv c ss') := Lib.hid (by rw [hs9]; exact HBL.out.inv.cput (fun b => Cac.here K c ss wr HBL.out.cac b) l)
        obtain ⟨t0, m0, HT0, hagg0, hsize0, hld0, hsz0, hst0⟩ := named2
        have HX0 : Hid (∀ w', w'.heap[B8]? = some (.cells (la l) 36 (0, 0)) → (loadCellsFrom ⟨B8, 0, none⟩ 0 m0 #[]).run Tryd.prog w' = .ok (la l) w') := Lib.hid fun w' h' => hld0 _ _ _ _ (range_of h')
        clear hld0 hsz0 hst0
        clear hz9 hs9
        go_wp2_with fail
        rw [HT0.out.1]
        refine wp_region_held_drew (S := fun w' => (loadCellsFrom ⟨B8, 0, none⟩ 0 m0 #[]).run Tryd.prog w' = .ok (la l) w') (by kernel_rfl) (HX0.out _ H8.out) (fun hHeld => ?_)
        refine wpAnyH_take (i := 0) (oi := ⟨some 37, Op.move (Operand.tmp 0), _, _, _, _⟩) (v := ?v1) rfl (by kernel_rfl) (by kernel_rfl) (by kernel_rfl) (fun _ _ _ h => h) (Or.inl ⟨by rfl, ?hy1⟩) (by assumption) ?rest1
        case hy1 => ((intro w0 hSw; have hs1 := hSw; go_simp); try (with_reducible rfl))
        try simp only [Act.put, List.setIfInBounds_toArray, List.set_cons_zero, List.set_cons_succ]
        refine wpAnyH_take (i := 1) (oi := ⟨some 38, Op.move (Operand.tmp 0), _, _, _, _⟩) (v := ?v2) rfl (by kernel_rfl) (by kernel_rfl) (by kernel_rfl) (fun _ _ _ h => h) (Or.inl ⟨by rfl, ?hy2⟩) (by assumption) ?rest2
        case hy2 => ((intro w0 hSw; have hs1 := hSw; go_simp); try (with_reducible rfl))
        try simp only [Act.put, List.setIfInBounds_toArray, List.set_cons_zero, List.set_cons_succ]
        refine wpAnyH_take (i := 2) (oi := ⟨some 39, Op.load t0 (Operand.tmp 8), _, _, _, _⟩) (v := ?v3) rfl (by kernel_rfl) (by kernel_rfl) (by kernel_rfl) (fun _ _ _ h => h) (Or.inl ⟨by rfl, ?hy3⟩) (by assumption) ?rest3
        case hy3 => ((intro w0 hSw; have hs1 := hSw; go_simp); try (with_reducible rfl))
        try simp only [Act.put, List.setIfInBounds_toArray, List.set_cons_zero, List.set_cons_succ]
        refine wpAnyH_take (i := 4) (oi := ⟨some 41, Op.move (Operand.tmp 1), _, _, _, _⟩) (v := ?v4) rfl (by kernel_rfl) (by kernel_rfl) (by kernel_rfl) (fun _ _ _ h => h) (Or.inl ⟨by rfl, ?hy4⟩) (by assumption) ?rest4
        case hy4 => ((intro w0 hSw; have hs1 := hSw; go_simp); try (with_reducible rfl))
        try simp only [Act.put, List.setIfInBounds_toArray, List.set_cons_zero, List.set_cons_succ]
        refine wpAnyH_take (i := 5) (oi := ⟨some 42, Op.load t0 (Operand.tmp 8), _, _, _, _⟩) (v := ?v5) rfl (by kernel_rfl) (by kernel_rfl) (by kernel_rfl) (fun _ _ _ h => h) (Or.inl ⟨by rfl, ?hy5⟩) (by assumption) ?rest5
        case hy5 => ((intro w0 hSw; have hs1 := hSw; go_simp); try (with_reducible rfl))
        try simp only [Act.put, List.setIfInBounds_toArray, List.set_cons_zero, List.set_cons_succ]
        refine wpAnyH_ready (rs := [3]) (by kernel_rfl) (by simp) ?_
        refine AllReadyH.cons (o := ⟨some 40, Op.call { callee := Callee.value (Operand.func 11), args := #[(Operand.tmp 38), (Operand.tmp 39)], argTypes := #[22, 36] }, _, _, _, _⟩) rfl (fun K hK => ?_) AllReadyH.nil
        go_simp
        (with_reducible refine HKC.out.mono ?_); rintro e w4 ⟨rfl, hc4, hk4⟩; have HC4 := Lib.hid hc4; have HK4 := Lib.hid hk4; have HR4 := Lib.hid ((HBL.out.grown (grown_drew (grown_refl _ _))).k hk4); have HX5 := Lib.hid (cells_kept (show wr.drew.heap[w.heap.size]? = _ from H5R.out) hk4 HK5.out); have HX8 := Lib.hid (cells_kept (show wr.drew.heap[B8]? = _ from H8.out) hk4 HK8.out); clear hc4 hk4
        go_wp2_with fail
        refine hK.out _ _ (HX0.out _ HX8.out) (fun hHeld => ?_)
        clear hK K
        try simp only [Act.put, List.setIfInBounds_toArray, List.set_cons_zero, List.set_cons_succ]
        refine wpAnyH_ready (rs := [6]) (by kernel_rfl) (by simp) ?_
        refine AllReadyH.cons (o := ⟨some 43, Op.call { callee := Callee.value (Operand.func 38), args := #[(Operand.tmp 41), (Operand.tmp 42)], argTypes := #[46, 36] }, _, _, _, _⟩) rfl (fun K hK => ?_) AllReadyH.nil
        go_simp
        (with_reducible refine (HRC.out _ HR4.out).mono ?_); rintro e w9 ⟨rfl, hr9, hk9⟩; have HD9 := Lib.hid ((HBL.out.grown (grown_drew (grown_refl _ _))).r HK4.out HC4.out hk9 hr9 HIN.out); have HY5 := Lib.hid (cells_kept HX5.out hk9 HR5.out); have HY8 := Lib.hid (cells_kept HX8.out hk9 HR8.out); clear hr9 hk9
        go_wp2_with fail
        refine hK.out _ _ (HX0.out _ HY8.out) (fun hHeld => ?_)
        clear hK K
        try simp only [Act.put, List.setIfInBounds_toArray, List.set_cons_zero, List.set_cons_succ]
        refine wpAnyH_take (i := 7) (oi := ⟨some 44, Op.binOp BinOp.eql 23 (Operand.tmp 40) (Operand.tmp 43) 23, _, _, _, _⟩) (v := ?v6) rfl (by kernel_rfl) (by kernel_rfl) (by kernel_rfl) (fun _ _ _ h => h) (Or.inl ⟨by rfl, ?hy6⟩) (by assumption) ?rest6
        case hy6 => ((intro w0 hSw; go_simp); try (with_reducible rfl))
        try simp only [Act.put, List.setIfInBounds_toArray, List.set_cons_zero, List.set_cons_succ]
        refine wpAnyH_take (i := 8) (oi := ⟨some 6, Op.assign (Operand.tmp 37), _, _, _, _⟩) (v := ?v7) rfl (by kernel_rfl) (by kernel_rfl) (by kernel_rfl) (fun _ _ _ h => h) (Or.inl ⟨by rfl, ?hy7⟩) (by assumption) ?rest7
        case hy7 => ((intro w0 hSw; go_simp); try (with_reducible rfl))
        try simp only [Act.put, List.setIfInBounds_toArray, List.set_cons_zero, List.set_cons_succ]
        refine wpAnyH_take (i := 9) (oi := ⟨some 7, Op.assign (Operand.tmp 44), _, _, _, _⟩) (v := ?v8) rfl (by kernel_rfl) (by kernel_rfl) (by kernel_rfl) (fun _ _ _ h => h) (Or.inl ⟨by rfl, ?hy8⟩) (by assumption) ?rest8
        case hy8 => ((intro w0 hSw; go_simp); try (with_reducible rfl))
        try simp only [Act.put, List.setIfInBounds_toArray, List.set_cons_zero, List.set_cons_succ]
        refine wpAnyH_done (by kernel_rfl) ?_ _
        have HDN := Lib.hid (Done.pre HGW.out (⟨HD9.out.1, (Kept.of (grown_drew (grown_refl _ _))).trans HD9.out.2, .inl rfl⟩))
        go_wp2_with fail
        go_ret2
        exact ⟨_, _, rfl, HDN.out⟩
      · skip
        by_cases e1 : o.kind = 1
        · skip
          have ek0 : (o.kind == 0) = false := by simp; omega
          have ek1 : (o.kind == 1) = true := by simp; omega
          clear e0 e1
          obtain ⟨z, hz9⟩ : ∃ z, z = (cdrop c ss o.b).2 := ⟨_, rfl⟩
          obtain ⟨ss', hs9⟩ : ∃ ss', ss' = (cdrop c ss o.b).1 := ⟨_, rfl⟩
          have HKC := Lib.hid (drop_any K c ss wr.drew (HBL.out.grown (grown_drew (grown_refl _ _))).cac (HTL.out.grown (grown_drew (grown_refl _ _))) o.b)
          have HRC : Hid (∀ w', Rac w' R c ss → _) := Lib.hid fun w' h => rdrop_any R c ss w' h HBL.out.inv o.b
          rw [← hz9, ← hs9] at HKC HRC
          have HIN : Hid (Inv c ss') := Lib.hid (by rw [hs9]; exact HBL.out.inv.cdrop (fun b => Cac.here K c ss wr HBL.out.cac b) o.b)
          clear hz9 hs9
          go_wp2_with fail
          refine wp_region_held_drew (S := fun w' => (w'.cell? ⟨w.heap.size, 1, none⟩ = some (.int .i64 o.b) ∧ w'.cell? ⟨w.heap.size, 2, none⟩ = some (.int .i64 o.wd)) ∧ w'.cell? ⟨w.heap.size, 3, none⟩ = some (.int .u8 o.s) ∧ w'.cell? ⟨w.heap.size, 4, none⟩ = some (.int .u32 o.x)) (by kernel_rfl) ⟨⟨(opc_cells _ _ o (show wr.drew.heap[w.heap.size]? = _ from H5R.out)).1.2.1, (opc_cells _ _ o (show wr.drew.heap[w.heap.size]? = _ from H5R.out)).1.2.2⟩, (opc_cells _ _ o (show wr.drew.heap[w.heap.size]? = _ from H5R.out)).2⟩ (fun hHeld => ?_)
          refine wpAnyH_take (i := 0) (oi := ⟨some 47, Op.move (Operand.tmp 0), _, _, _, _⟩) (v := ?v9) rfl (by kernel_rfl) (by kernel_rfl) (by kernel_rfl) (fun _ _ _ h => h) (Or.inl ⟨by rfl, ?hy9⟩) (by assumption) ?rest9
          case hy9 => ((intro w0 hSw; obtain ⟨⟨hs1, hs2⟩, hs3, hs4⟩ := hSw; go_simp); try (with_reducible rfl))
          try simp only [Act.put, List.setIfInBounds_toArray, List.set_cons_zero, List.set_cons_succ]
          refine wpAnyH_take (i := 1) (oi := ⟨some 48, Op.move (Operand.tmp 0), _, _, _, _⟩) (v := ?v10) rfl (by kernel_rfl) (by kernel_rfl) (by kernel_rfl) (fun _ _ _ h => h) (Or.inl ⟨by rfl, ?hy10⟩) (by assumption) ?rest10
          case hy10 => ((intro w0 hSw; obtain ⟨⟨hs1, hs2⟩, hs3, hs4⟩ := hSw; go_simp); try (with_reducible rfl))
          try simp only [Act.put, List.setIfInBounds_toArray, List.set_cons_zero, List.set_cons_succ]
          refine wpAnyH_take (i := 2) (oi := ⟨some 49, Op.fieldAddr 50 (Operand.tmp 5) 1, _, _, _, _⟩) (v := ?v11) rfl (by kernel_rfl) (by kernel_rfl) (by kernel_rfl) (fun _ _ _ h => h) (Or.inl ⟨by rfl, ?hy11⟩) (by assumption) ?rest11
          case hy11 => ((intro w0 hSw; obtain ⟨⟨hs1, hs2⟩, hs3, hs4⟩ := hSw; go_simp); try (with_reducible rfl))
          try simp only [Act.put, List.setIfInBounds_toArray, List.set_cons_zero, List.set_cons_succ]
          refine wpAnyH_take (i := 3) (oi := ⟨some 50, Op.load 3 (Operand.tmp 49), _, _, _, _⟩) (v := ?v12) rfl (by kernel_rfl) (by kernel_rfl) (by kernel_rfl) (fun _ _ _ h => h) (Or.inl ⟨by rfl, ?hy12⟩) (by assumption) ?rest12
          case hy12 => ((intro w0 hSw; obtain ⟨⟨hs1, hs2⟩, hs3, hs4⟩ := hSw; go_simp); try (with_reducible rfl))
          try simp only [Act.put, List.setIfInBounds_toArray, List.set_cons_zero, List.set_cons_succ]
          refine wpAnyH_take (i := 5) (oi := ⟨some 52, Op.move (Operand.tmp 1), _, _, _, _⟩) (v := ?v13) rfl (by kernel_rfl) (by kernel_rfl) (by kernel_rfl) (fun _ _ _ h => h) (Or.inl ⟨by rfl, ?hy13⟩) (by assumption) ?rest13
          case hy13 => ((intro w0 hSw; obtain ⟨⟨hs1, hs2⟩, hs3, hs4⟩ := hSw; go_simp); try (with_reducible rfl))
          try simp only [Act.put, List.setIfInBounds_toArray, List.set_cons_zero, List.set_cons_succ]
          refine wpAnyH_take (i := 6) (oi := ⟨some 53, Op.fieldAddr 50 (Operand.tmp 5) 1, _, _, _, _⟩) (v := ?v14) rfl (by kernel_rfl) (by kernel_rfl) (by kernel_rfl) (fun _ _ _ h => h) (Or.inl ⟨by rfl, ?hy14⟩) (by assumption) ?rest14
          case hy14 => ((intro w0 hSw; obtain ⟨⟨hs1, hs2⟩, hs3, hs4⟩ := hSw; go_simp); try (with_reducible rfl))
          try simp only [Act.put, List.setIfInBounds_toArray, List.set_cons_zero, List.set_cons_succ]
          refine wpAnyH_take (i := 7) (oi := ⟨some 54, Op.load 3 (Operand.tmp 53), _, _, _, _⟩) (v := ?v15) rfl (by kernel_rfl) (by kernel_rfl) (by kernel_rfl) (fun _ _ _ h => h) (Or.inl ⟨by rfl, ?hy15⟩) (by assumption) ?rest15
          case hy15 => ((intro w0 hSw; obtain ⟨⟨hs1, hs2⟩, hs3, hs4⟩ := hSw; go_simp); try (with_reducible rfl))
          try simp only [Act.put, List.setIfInBounds_toArray, List.set_cons_zero, List.set_cons_succ]
          refine wpAnyH_ready (rs := [4]) (by kernel_rfl) (by simp) ?_
          refine AllReadyH.cons (o := ⟨some 51, Op.call { callee := Callee.value (Operand.func 15), args := #[(Operand.tmp 48), (Operand.tmp 50)], argTypes := #[22, 3] }, _, _, _, _⟩) rfl (fun K hK => ?_) AllReadyH.nil
          go_simp
          (with_reducible refine HKC.out.mono ?_); rintro e w4 ⟨rfl, hc4, hk4⟩; have HC4 := Lib.hid hc4; have HK4 := Lib.hid hk4; have HR4 := Lib.hid ((HBL.out.grown (grown_drew (grown_refl _ _))).k hk4); have HX5 := Lib.hid (cells_kept (show wr.drew.heap[w.heap.size]? = _ from H5R.out) hk4 HK5.out); have HX8 := Lib.hid (cells_kept (show wr.drew.heap[B8]? = _ from H8.out) hk4 HK8.out); clear hc4 hk4
          go_wp2_with fail
          refine hK.out _ _ ⟨⟨(opc_cells _ _ o HX5.out).1.2.1, (opc_cells _ _ o HX5.out).1.2.2⟩, (opc_cells _ _ o HX5.out).2⟩ (fun hHeld => ?_)
          clear hK K
          try simp only [Act.put, List.setIfInBounds_toArray, List.set_cons_zero, List.set_cons_succ]
          refine wpAnyH_ready (rs := [8]) (by kernel_rfl) (by simp) ?_
          refine AllReadyH.cons (o := ⟨some 55, Op.call { callee := Callee.value (Operand.func 39), args := #[(Operand.tmp 52), (Operand.tmp 54)], argTypes := #[46, 3] }, _, _, _, _⟩) rfl (fun K hK => ?_) AllReadyH.nil
          go_simp
          (with_reducible refine (HRC.out _ HR4.out).mono ?_); rintro e w9 ⟨rfl, hr9, hk9⟩; have HD9 := Lib.hid ((HBL.out.grown (grown_drew (grown_refl _ _))).r HK4.out HC4.out hk9 hr9 HIN.out); have HY5 := Lib.hid (cells_kept HX5.out hk9 HR5.out); have HY8 := Lib.hid (cells_kept HX8.out hk9 HR8.out); clear hr9 hk9
          go_wp2_with fail
          refine hK.out _ _ ⟨⟨(opc_cells _ _ o HY5.out).1.2.1, (opc_cells _ _ o HY5.out).1.2.2⟩, (opc_cells _ _ o HY5.out).2⟩ (fun hHeld => ?_)
          clear hK K
          try simp only [Act.put, List.setIfInBounds_toArray, List.set_cons_zero, List.set_cons_succ]
          refine wpAnyH_take (i := 9) (oi := ⟨some 56, Op.binOp BinOp.eql 4 (Operand.tmp 51) (Operand.tmp 55) 4, _, _, _, _⟩) (v := ?v16) rfl (by kernel_rfl) (by kernel_rfl) (by kernel_rfl) (fun _ _ _ h => h) (Or.inl ⟨by rfl, ?hy16⟩) (by assumption) ?rest16
          case hy16 => ((intro w0 hSw; go_simp); try (with_reducible rfl))
          try simp only [Act.put, List.setIfInBounds_toArray, List.set_cons_zero, List.set_cons_succ]
          refine wpAnyH_take (i := 10) (oi := ⟨some 6, Op.assign (Operand.tmp 47), _, _, _, _⟩) (v := ?v17) rfl (by kernel_rfl) (by kernel_rfl) (by kernel_rfl) (fun _ _ _ h => h) (Or.inl ⟨by rfl, ?hy17⟩) (by assumption) ?rest17
          case hy17 => ((intro w0 hSw; go_simp); try (with_reducible rfl))
          try simp only [Act.put, List.setIfInBounds_toArray, List.set_cons_zero, List.set_cons_succ]
          refine wpAnyH_take (i := 11) (oi := ⟨some 7, Op.assign (Operand.tmp 56), _, _, _, _⟩) (v := ?v18) rfl (by kernel_rfl) (by kernel_rfl) (by kernel_rfl) (fun _ _ _ h => h) (Or.inl ⟨by rfl, ?hy18⟩) (by assumption) ?rest18
          case hy18 => ((intro w0 hSw; go_simp); try (with_reducible rfl))
          try simp only [Act.put, List.setIfInBounds_toArray, List.set_cons_zero, List.set_cons_succ]
          refine wpAnyH_done (by kernel_rfl) ?_ _
          have HDN := Lib.hid (Done.pre HGW.out (⟨HD9.out.1, (Kept.of (grown_drew (grown_refl _ _))).trans HD9.out.2, .inl rfl⟩))
          go_wp2_with fail
          go_ret2
          exact ⟨_, _, rfl, HDN.out⟩
        · skip
          by_cases e2 : o.kind = 2
          · skip
            have ek0 : (o.kind == 0) = false := by simp; omega
            have ek1 : (o.kind == 1) = false := by simp; omega
            have ek2 : (o.kind == 2) = true := by simp; omega
            clear e0 e1 e2
            obtain ⟨z, hz9⟩ : ∃ z, z = (cuse c ss o.b).2 := ⟨_, rfl⟩
            obtain ⟨ss', hs9⟩ : ∃ ss', ss' = (cuse c ss o.b).1 := ⟨_, rfl⟩
            have HKC := Lib.hid (uses_any K c ss wr.drew (HBL.out.grown (grown_drew (grown_refl _ _))).cac (HTL.out.grown (grown_drew (grown_refl _ _))) o.b)
            have HRC : Hid (∀ w', Rac w' R c ss → _) := Lib.hid fun w' h => ruse_any R c ss w' h HBL.out.inv o.b
            rw [← hz9, ← hs9] at HKC HRC
            have HIN : Hid (Inv c ss') := Lib.hid (by rw [hs9]; exact HBL.out.inv.cuse (fun b => Cac.here K c ss wr HBL.out.cac b) o.b)
            clear hz9 hs9
            go_wp2_with fail
            refine wp_region_held_drew (S := fun w' => (w'.cell? ⟨w.heap.size, 1, none⟩ = some (.int .i64 o.b) ∧ w'.cell? ⟨w.heap.size, 2, none⟩ = some (.int .i64 o.wd)) ∧ w'.cell? ⟨w.heap.size, 3, none⟩ = some (.int .u8 o.s) ∧ w'.cell? ⟨w.heap.size, 4, none⟩ = some (.int .u32 o.x)) (by kernel_rfl) ⟨⟨(opc_cells _ _ o (show wr.drew.heap[w.heap.size]? = _ from H5R.out)).1.2.1, (opc_cells _ _ o (show wr.drew.heap[w.heap.size]? = _ from H5R.out)).1.2.2⟩, (opc_cells _ _ o (show wr.drew.heap[w.heap.size]? = _ from H5R.out)).2⟩ (fun hHeld => ?_)
            refine wpAnyH_take (i := 0) (oi := ⟨some 59, Op.move (Operand.tmp 0), _, _, _, _⟩) (v := ?v19) rfl (by kernel_rfl) (by kernel_rfl) (by kernel_rfl) (fun _ _ _ h => h) (Or.inl ⟨by rfl, ?hy19⟩) (by assumption) ?rest19
            case hy19 => ((intro w0 hSw; obtain ⟨⟨hs1, hs2⟩, hs3, hs4⟩ := hSw; go_simp); try (with_reducible rfl))
            try simp only [Act.put, List.setIfInBounds_toArray, List.set_cons_zero, List.set_cons_succ]
            refine wpAnyH_take (i := 1) (oi := ⟨some 60, Op.move (Operand.tmp 0), _, _, _, _⟩) (v := ?v20) rfl (by kernel_rfl) (by kernel_rfl) (by kernel_rfl) (fun _ _ _ h => h) (Or.inl ⟨by rfl, ?hy20⟩) (by assumption) ?rest20
            case hy20 => ((intro w0 hSw; obtain ⟨⟨hs1, hs2⟩, hs3, hs4⟩ := hSw; go_simp); try (with_reducible rfl))
            try simp only [Act.put, List.setIfInBounds_toArray, List.set_cons_zero, List.set_cons_succ]
            refine wpAnyH_take (i := 2) (oi := ⟨some 61, Op.fieldAddr 50 (Operand.tmp 5) 1, _, _, _, _⟩) (v := ?v21) rfl (by kernel_rfl) (by kernel_rfl) (by kernel_rfl) (fun _ _ _ h => h) (Or.inl ⟨by rfl, ?hy21⟩) (by assumption) ?rest21
            case hy21 => ((intro w0 hSw; obtain ⟨⟨hs1, hs2⟩, hs3, hs4⟩ := hSw; go_simp); try (with_reducible rfl))
            try simp only [Act.put, List.setIfInBounds_toArray, List.set_cons_zero, List.set_cons_succ]
            refine wpAnyH_take (i := 3) (oi := ⟨some 62, Op.load 3 (Operand.tmp 61), _, _, _, _⟩) (v := ?v22) rfl (by kernel_rfl) (by kernel_rfl) (by kernel_rfl) (fun _ _ _ h => h) (Or.inl ⟨by rfl, ?hy22⟩) (by assumption) ?rest22
            case hy22 => ((intro w0 hSw; obtain ⟨⟨hs1, hs2⟩, hs3, hs4⟩ := hSw; go_simp); try (with_reducible rfl))
            try simp only [Act.put, List.setIfInBounds_toArray, List.set_cons_zero, List.set_cons_succ]
            refine wpAnyH_take (i := 5) (oi := ⟨some 64, Op.move (Operand.tmp 1), _, _, _, _⟩) (v := ?v23) rfl (by kernel_rfl) (by kernel_rfl) (by kernel_rfl) (fun _ _ _ h => h) (Or.inl ⟨by rfl, ?hy23⟩) (by assumption) ?rest23
            case hy23 => ((intro w0 hSw; obtain ⟨⟨hs1, hs2⟩, hs3, hs4⟩ := hSw; go_simp); try (with_reducible rfl))
            try simp only [Act.put, List.setIfInBounds_toArray, List.set_cons_zero, List.set_cons_succ]
            refine wpAnyH_take (i := 6) (oi := ⟨some 65, Op.fieldAddr 50 (Operand.tmp 5) 1, _, _, _, _⟩) (v := ?v24) rfl (by kernel_rfl) (by kernel_rfl) (by kernel_rfl) (fun _ _ _ h => h) (Or.inl ⟨by rfl, ?hy24⟩) (by assumption) ?rest24
            case hy24 => ((intro w0 hSw; obtain ⟨⟨hs1, hs2⟩, hs3, hs4⟩ := hSw; go_simp); try (with_reducible rfl))
            try simp only [Act.put, List.setIfInBounds_toArray, List.set_cons_zero, List.set_cons_succ]
            refine wpAnyH_take (i := 7) (oi := ⟨some 66, Op.load 3 (Operand.tmp 65), _, _, _, _⟩) (v := ?v25) rfl (by kernel_rfl) (by kernel_rfl) (by kernel_rfl) (fun _ _ _ h => h) (Or.inl ⟨by rfl, ?hy25⟩) (by assumption) ?rest25
            case hy25 => ((intro w0 hSw; obtain ⟨⟨hs1, hs2⟩, hs3, hs4⟩ := hSw; go_simp); try (with_reducible rfl))
            try simp only [Act.put, List.setIfInBounds_toArray, List.set_cons_zero, List.set_cons_succ]
            refine wpAnyH_ready (rs := [4]) (by kernel_rfl) (by simp) ?_
            refine AllReadyH.cons (o := ⟨some 63, Op.call { callee := Callee.value (Operand.func 13), args := #[(Operand.tmp 60), (Operand.tmp 62)], argTypes := #[22, 3] }, _, _, _, _⟩) rfl (fun K hK => ?_) AllReadyH.nil
            go_simp
            (with_reducible refine HKC.out.mono ?_); rintro e w4 ⟨rfl, hc4, hk4⟩; have HC4 := Lib.hid hc4; have HK4 := Lib.hid hk4; have HR4 := Lib.hid ((HBL.out.grown (grown_drew (grown_refl _ _))).k hk4); have HX5 := Lib.hid (cells_kept (show wr.drew.heap[w.heap.size]? = _ from H5R.out) hk4 HK5.out); have HX8 := Lib.hid (cells_kept (show wr.drew.heap[B8]? = _ from H8.out) hk4 HK8.out); clear hc4 hk4
            go_wp2_with fail
            refine hK.out _ _ ⟨⟨(opc_cells _ _ o HX5.out).1.2.1, (opc_cells _ _ o HX5.out).1.2.2⟩, (opc_cells _ _ o HX5.out).2⟩ (fun hHeld => ?_)
            clear hK K
            try simp only [Act.put, List.setIfInBounds_toArray, List.set_cons_zero, List.set_cons_succ]
            refine wpAnyH_ready (rs := [8]) (by kernel_rfl) (by simp) ?_
            refine AllReadyH.cons (o := ⟨some 67, Op.call { callee := Callee.value (Operand.func 40), args := #[(Operand.tmp 64), (Operand.tmp 66)], argTypes := #[46, 3] }, _, _, _, _⟩) rfl (fun K hK => ?_) AllReadyH.nil
            go_simp
            (with_reducible refine (HRC.out _ HR4.out).mono ?_); rintro e w9 ⟨rfl, hr9, hk9⟩; have HD9 := Lib.hid ((HBL.out.grown (grown_drew (grown_refl _ _))).r HK4.out HC4.out hk9 hr9 HIN.out); have HY5 := Lib.hid (cells_kept HX5.out hk9 HR5.out); have HY8 := Lib.hid (cells_kept HX8.out hk9 HR8.out); clear hr9 hk9
            go_wp2_with fail
            refine hK.out _ _ ⟨⟨(opc_cells _ _ o HY5.out).1.2.1, (opc_cells _ _ o HY5.out).1.2.2⟩, (opc_cells _ _ o HY5.out).2⟩ (fun hHeld => ?_)
            clear hK K
            try simp only [Act.put, List.setIfInBounds_toArray, List.set_cons_zero, List.set_cons_succ]
            refine wpAnyH_take (i := 9) (oi := ⟨some 68, Op.binOp BinOp.eql 4 (Operand.tmp 63) (Operand.tmp 67) 4, _, _, _, _⟩) (v := ?v26) rfl (by kernel_rfl) (by kernel_rfl) (by kernel_rfl) (fun _ _ _ h => h) (Or.inl ⟨by rfl, ?hy26⟩) (by assumption) ?rest26
            case hy26 => ((intro w0 hSw; go_simp); try (with_reducible rfl))
            try simp only [Act.put, List.setIfInBounds_toArray, List.set_cons_zero, List.set_cons_succ]
            refine wpAnyH_take (i := 10) (oi := ⟨some 6, Op.assign (Operand.tmp 59), _, _, _, _⟩) (v := ?v27) rfl (by kernel_rfl) (by kernel_rfl) (by kernel_rfl) (fun _ _ _ h => h) (Or.inl ⟨by rfl, ?hy27⟩) (by assumption) ?rest27
            case hy27 => ((intro w0 hSw; go_simp); try (with_reducible rfl))
            try simp only [Act.put, List.setIfInBounds_toArray, List.set_cons_zero, List.set_cons_succ]
            refine wpAnyH_take (i := 11) (oi := ⟨some 7, Op.assign (Operand.tmp 68), _, _, _, _⟩) (v := ?v28) rfl (by kernel_rfl) (by kernel_rfl) (by kernel_rfl) (fun _ _ _ h => h) (Or.inl ⟨by rfl, ?hy28⟩) (by assumption) ?rest28
            case hy28 => ((intro w0 hSw; go_simp); try (with_reducible rfl))
            try simp only [Act.put, List.setIfInBounds_toArray, List.set_cons_zero, List.set_cons_succ]
            refine wpAnyH_done (by kernel_rfl) ?_ _
            have HDN := Lib.hid (Done.pre HGW.out (⟨HD9.out.1, (Kept.of (grown_drew (grown_refl _ _))).trans HD9.out.2, .inl rfl⟩))
            go_wp2_with fail
            go_ret2
            exact ⟨_, _, rfl, HDN.out⟩
          · skip
            by_cases e3 : o.kind = 3
            · skip
              have ek0 : (o.kind == 0) = false := by simp; omega
              have ek1 : (o.kind == 1) = false := by simp; omega
              have ek2 : (o.kind == 2) = false := by simp; omega
              have ek3 : (o.kind == 3) = true := by simp; omega
              clear e0 e1 e2 e3
              obtain ⟨lv, gb, hlv⟩ : ∃ lv gb, cgoes c ss o.b = (lv, gb) := ⟨_, _, rfl⟩
              have HKC := Lib.hid (goes_any K c ss wr HBL.out.cac HTL.out o.b)
              have HRC : Hid (∀ w', Rac w' R c ss → _) := Lib.hid fun w' h => rgoes_any R c ss w' h HBL.out.inv o.b
              rw [hlv] at HKC HRC
              have hqe := binE36 lv
              clear hlv
              go_wp2_with (first
                | (go_at_call 14; ((with_reducible refine HKC.out.mono ?_); rintro e w4 ⟨rfl, hg4⟩; have HG4 := Lib.hid (grown_alloc hg4 (.cells (la lv) 36)); have HR4 := Lib.hid (HBL.out.rac.grown HG4.out); have H54 := (HG4.out.block _ (lt_of H5R.out) (by simp)).trans H5R.out; have HN4 : Hid ((w4.alloc (.cells (la lv) 36)).heap[w4.heap.size]? = some (.cells (la lv) 36 (0, 0))) := Lib.hid (heap_alloc_new _ _); have kk1 := (opc_cells _ _ o H54).1.2.1; have HLW4 : Hid (w4.heap.size < (w4.alloc (.cells (la lv) 36)).heap.size) := Lib.hid (by simp); clear hg4))
                | ((with_reducible refine store_new' lv 10 76 ?_ ?_ ?_); (rfl); (rfl))
                | (go_at_call 41; ((with_reducible refine (HRC.out _ HR4.out).mono ?_); rintro e w9 ⟨rfl, hg9⟩; have HG9 := Lib.hid (grown_alloc (grown_trans HG4.out hg9) (.cells (la lv) 36)); have HZ4 := Lib.hid ((Below.heap_alloc w9 (.cells (la lv) 36) _ (Nat.lt_of_lt_of_le HLW4.out hg9.size)).trans ((hg9.block _ HLW4.out (by simp)).trans HN4.out)); have HZ9 : Hid ((w9.alloc (.cells (la lv) 36)).heap[w9.heap.size]? = some (.cells (la lv) 36 (0, 0))) := Lib.hid (heap_alloc_new _ _); clear hg9))
                | ((with_reducible refine store_new' lv 12 83 ?_ ?_ ?_); (rfl); (rfl))
                | ((with_reducible refine load_ln lv _ w4.heap.size 0 ?_ (range_of HZ4.out) ?_); (rfl))
                | ((with_reducible refine load_ln lv _ w9.heap.size 0 ?_ (range_of HZ9.out) ?_); (rfl)))
              have HDN := Lib.hid (Done.pre HGW.out (⟨HBL.out.grown HG9.out, Kept.of HG9.out, .inl rfl⟩))
              go_wp2_with fail
              go_ret2
              exact ⟨_, _, rfl, HDN.out⟩
            · skip
              by_cases e4 : o.kind = 4
              · skip
                have ek0 : (o.kind == 0) = false := by simp; omega
                have ek1 : (o.kind == 1) = false := by simp; omega
                have ek2 : (o.kind == 2) = false := by simp; omega
                have ek3 : (o.kind == 3) = false := by simp; omega
                have ek4 : (o.kind == 4) = true := by simp; omega
                clear e0 e1 e2 e3 e4
                obtain ⟨z, hz9⟩ : ∃ z, z = (cwrite c ss o.b o.wd o.x).2 := ⟨_, rfl⟩
                obtain ⟨ss', hs9⟩ : ∃ ss', ss' = (cwrite c ss o.b o.wd o.x).1 := ⟨_, rfl⟩
                have HKC := Lib.hid (write_any K c ss wr.drew (HBL.out.grown (grown_drew (grown_refl _ _))).cac (HTL.out.grown (grown_drew (grown_refl _ _))) o.b o.wd o.x)
                have HRC : Hid (∀ w', Rac w' R c ss → _) := Lib.hid fun w' h => rwrite_any R c ss w' h HBL.out.inv o.b o.wd o.x
                rw [← hz9, ← hs9] at HKC HRC
                have HIN : Hid (Inv c ss') := Lib.hid (by rw [hs9]; exact HBL.out.inv.cwrite (fun b => Cac.here K c ss wr HBL.out.cac b) o.b o.wd o.x)
                clear hz9 hs9
                go_wp2_with fail
                refine wp_region_held_drew (S := fun w' => (w'.cell? ⟨w.heap.size, 1, none⟩ = some (.int .i64 o.b) ∧ w'.cell? ⟨w.heap.size, 2, none⟩ = some (.int .i64 o.wd)) ∧ w'.cell? ⟨w.heap.size, 3, none⟩ = some (.int .u8 o.s) ∧ w'.cell? ⟨w.heap.size, 4, none⟩ = some (.int .u32 o.x)) (by kernel_rfl) ⟨⟨(opc_cells _ _ o (show wr.drew.heap[w.heap.size]? = _ from H5R.out)).1.2.1, (opc_cells _ _ o (show wr.drew.heap[w.heap.size]? = _ from H5R.out)).1.2.2⟩, (opc_cells _ _ o (show wr.drew.heap[w.heap.size]? = _ from H5R.out)).2⟩ (fun hHeld => ?_)
                refine wpAnyH_take (i := 0) (oi := ⟨some 96, Op.move (Operand.tmp 0), _, _, _, _⟩) (v := ?v29) rfl (by kernel_rfl) (by kernel_rfl) (by kernel_rfl) (fun _ _ _ h => h) (Or.inl ⟨by rfl, ?hy29⟩) (by assumption) ?rest29
                case hy29 => ((intro w0 hSw; obtain ⟨⟨hs1, hs2⟩, hs3, hs4⟩ := hSw; go_simp); try (with_reducible rfl))
                try simp only [Act.put, List.setIfInBounds_toArray, List.set_cons_zero, List.set_cons_succ]
                refine wpAnyH_take (i := 1) (oi := ⟨some 97, Op.move (Operand.tmp 0), _, _, _, _⟩) (v := ?v30) rfl (by kernel_rfl) (by kernel_rfl) (by kernel_rfl) (fun _ _ _ h => h) (Or.inl ⟨by rfl, ?hy30⟩) (by assumption) ?rest30
                case hy30 => ((intro w0 hSw; obtain ⟨⟨hs1, hs2⟩, hs3, hs4⟩ := hSw; go_simp); try (with_reducible rfl))
                try simp only [Act.put, List.setIfInBounds_toArray, List.set_cons_zero, List.set_cons_succ]
                refine wpAnyH_take (i := 2) (oi := ⟨some 98, Op.fieldAddr 50 (Operand.tmp 5) 1, _, _, _, _⟩) (v := ?v31) rfl (by kernel_rfl) (by kernel_rfl) (by kernel_rfl) (fun _ _ _ h => h) (Or.inl ⟨by rfl, ?hy31⟩) (by assumption) ?rest31
                case hy31 => ((intro w0 hSw; obtain ⟨⟨hs1, hs2⟩, hs3, hs4⟩ := hSw; go_simp); try (with_reducible rfl))
                try simp only [Act.put, List.setIfInBounds_toArray, List.set_cons_zero, List.set_cons_succ]
                refine wpAnyH_take (i := 3) (oi := ⟨some 99, Op.load 3 (Operand.tmp 98), _, _, _, _⟩) (v := ?v32) rfl (by kernel_rfl) (by kernel_rfl) (by kernel_rfl) (fun _ _ _ h => h) (Or.inl ⟨by rfl, ?hy32⟩) (by assumption) ?rest32
                case hy32 => ((intro w0 hSw; obtain ⟨⟨hs1, hs2⟩, hs3, hs4⟩ := hSw; go_simp); try (with_reducible rfl))
                try simp only [Act.put, List.setIfInBounds_toArray, List.set_cons_zero, List.set_cons_succ]
                refine wpAnyH_take (i := 4) (oi := ⟨some 100, Op.fieldAddr 50 (Operand.tmp 5) 2, _, _, _, _⟩) (v := ?v33) rfl (by kernel_rfl) (by kernel_rfl) (by kernel_rfl) (fun _ _ _ h => h) (Or.inl ⟨by rfl, ?hy33⟩) (by assumption) ?rest33
                case hy33 => ((intro w0 hSw; obtain ⟨⟨hs1, hs2⟩, hs3, hs4⟩ := hSw; go_simp); try (with_reducible rfl))
                try simp only [Act.put, List.setIfInBounds_toArray, List.set_cons_zero, List.set_cons_succ]
                refine wpAnyH_take (i := 5) (oi := ⟨some 101, Op.load 3 (Operand.tmp 100), _, _, _, _⟩) (v := ?v34) rfl (by kernel_rfl) (by kernel_rfl) (by kernel_rfl) (fun _ _ _ h => h) (Or.inl ⟨by rfl, ?hy34⟩) (by assumption) ?rest34
                case hy34 => ((intro w0 hSw; obtain ⟨⟨hs1, hs2⟩, hs3, hs4⟩ := hSw; go_simp); try (with_reducible rfl))
                try simp only [Act.put, List.setIfInBounds_toArray, List.set_cons_zero, List.set_cons_succ]
                refine wpAnyH_take (i := 6) (oi := ⟨some 102, Op.fieldAddr 50 (Operand.tmp 5) 4, _, _, _, _⟩) (v := ?v35) rfl (by kernel_rfl) (by kernel_rfl) (by kernel_rfl) (fun _ _ _ h => h) (Or.inl ⟨by rfl, ?hy35⟩) (by assumption) ?rest35
                case hy35 => ((intro w0 hSw; obtain ⟨⟨hs1, hs2⟩, hs3, hs4⟩ := hSw; go_simp); try (with_reducible rfl))
                try simp only [Act.put, List.setIfInBounds_toArray, List.set_cons_zero, List.set_cons_succ]
                refine wpAnyH_take (i := 7) (oi := ⟨some 103, Op.load 32 (Operand.tmp 102), _, _, _, _⟩) (v := ?v36) rfl (by kernel_rfl) (by kernel_rfl) (by kernel_rfl) (fun _ _ _ h => h) (Or.inl ⟨by rfl, ?hy36⟩) (by assumption) ?rest36
                case hy36 => ((intro w0 hSw; obtain ⟨⟨hs1, hs2⟩, hs3, hs4⟩ := hSw; go_simp); try (with_reducible rfl))
                try simp only [Act.put, List.setIfInBounds_toArray, List.set_cons_zero, List.set_cons_succ]
                refine wpAnyH_take (i := 9) (oi := ⟨some 105, Op.move (Operand.tmp 1), _, _, _, _⟩) (v := ?v37) rfl (by kernel_rfl) (by kernel_rfl) (by kernel_rfl) (fun _ _ _ h => h) (Or.inl ⟨by rfl, ?hy37⟩) (by assumption) ?rest37
                case hy37 => ((intro w0 hSw; obtain ⟨⟨hs1, hs2⟩, hs3, hs4⟩ := hSw; go_simp); try (with_reducible rfl))
                try simp only [Act.put, List.setIfInBounds_toArray, List.set_cons_zero, List.set_cons_succ]
                refine wpAnyH_take (i := 10) (oi := ⟨some 106, Op.fieldAddr 50 (Operand.tmp 5) 1, _, _, _, _⟩) (v := ?v38) rfl (by kernel_rfl) (by kernel_rfl) (by kernel_rfl) (fun _ _ _ h => h) (Or.inl ⟨by rfl, ?hy38⟩) (by assumption) ?rest38
                case hy38 => ((intro w0 hSw; obtain ⟨⟨hs1, hs2⟩, hs3, hs4⟩ := hSw; go_simp); try (with_reducible rfl))
                try simp only [Act.put, List.setIfInBounds_toArray, List.set_cons_zero, List.set_cons_succ]
                refine wpAnyH_take (i := 11) (oi := ⟨some 107, Op.load 3 (Operand.tmp 106), _, _, _, _⟩) (v := ?v39) rfl (by kernel_rfl) (by kernel_rfl) (by kernel_rfl) (fun _ _ _ h => h) (Or.inl ⟨by rfl, ?hy39⟩) (by assumption) ?rest39
                case hy39 => ((intro w0 hSw; obtain ⟨⟨hs1, hs2⟩, hs3, hs4⟩ := hSw; go_simp); try (with_reducible rfl))
                try simp only [Act.put, List.setIfInBounds_toArray, List.set_cons_zero, List.set_cons_succ]
                refine wpAnyH_take (i := 12) (oi := ⟨some 108, Op.fieldAddr 50 (Operand.tmp 5) 2, _, _, _, _⟩) (v := ?v40) rfl (by kernel_rfl) (by kernel_rfl) (by kernel_rfl) (fun _ _ _ h => h) (Or.inl ⟨by rfl, ?hy40⟩) (by assumption) ?rest40
                case hy40 => ((intro w0 hSw; obtain ⟨⟨hs1, hs2⟩, hs3, hs4⟩ := hSw; go_simp); try (with_reducible rfl))
                try simp only [Act.put, List.setIfInBounds_toArray, List.set_cons_zero, List.set_cons_succ]
                refine wpAnyH_take (i := 13) (oi := ⟨some 109, Op.load 3 (Operand.tmp 108), _, _, _, _⟩) (v := ?v41) rfl (by kernel_rfl) (by kernel_rfl) (by kernel_rfl) (fun _ _ _ h => h) (Or.inl ⟨by rfl, ?hy41⟩) (by assumption) ?rest41
                case hy41 => ((intro w0 hSw; obtain ⟨⟨hs1, hs2⟩, hs3, hs4⟩ := hSw; go_simp); try (with_reducible rfl))
                try simp only [Act.put, List.setIfInBounds_toArray, List.set_cons_zero, List.set_cons_succ]
                refine wpAnyH_take (i := 14) (oi := ⟨some 110, Op.fieldAddr 50 (Operand.tmp 5) 4, _, _, _, _⟩) (v := ?v42) rfl (by kernel_rfl) (by kernel_rfl) (by kernel_rfl) (fun _ _ _ h => h) (Or.inl ⟨by rfl, ?hy42⟩) (by assumption) ?rest42
                case hy42 => ((intro w0 hSw; obtain ⟨⟨hs1, hs2⟩, hs3, hs4⟩ := hSw; go_simp); try (with_reducible rfl))
                try simp only [Act.put, List.setIfInBounds_toArray, List.set_cons_zero, List.set_cons_succ]
                refine wpAnyH_take (i := 15) (oi := ⟨some 111, Op.load 32 (Operand.tmp 110), _, _, _, _⟩) (v := ?v43) rfl (by kernel_rfl) (by kernel_rfl) (by kernel_rfl) (fun _ _ _ h => h) (Or.inl ⟨by rfl, ?hy43⟩) (by assumption) ?rest43
                case hy43 => ((intro w0 hSw; obtain ⟨⟨hs1, hs2⟩, hs3, hs4⟩ := hSw; go_simp); try (with_reducible rfl))
                try simp only [Act.put, List.setIfInBounds_toArray, List.set_cons_zero, List.set_cons_succ]
                refine wpAnyH_ready (rs := [8]) (by kernel_rfl) (by simp) ?_
                refine AllReadyH.cons (o := ⟨some 104, Op.call { callee := Callee.value (Operand.func 16), args := #[(Operand.tmp 97), (Operand.tmp 99), (Operand.tmp 101), (Operand.tmp 103)], argTypes := #[22, 3, 3, 32] }, _, _, _, _⟩) rfl (fun K hK => ?_) AllReadyH.nil
                go_simp
                (with_reducible refine HKC.out.mono ?_); rintro e w4 ⟨rfl, hc4, hk4⟩; have HC4 := Lib.hid hc4; have HK4 := Lib.hid hk4; have HR4 := Lib.hid ((HBL.out.grown (grown_drew (grown_refl _ _))).k hk4); have HX5 := Lib.hid (cells_kept (show wr.drew.heap[w.heap.size]? = _ from H5R.out) hk4 HK5.out); have HX8 := Lib.hid (cells_kept (show wr.drew.heap[B8]? = _ from H8.out) hk4 HK8.out); clear hc4 hk4
                go_wp2_with fail
                refine hK.out _ _ ⟨⟨(opc_cells _ _ o HX5.out).1.2.1, (opc_cells _ _ o HX5.out).1.2.2⟩, (opc_cells _ _ o HX5.out).2⟩ (fun hHeld => ?_)
                clear hK K
                try simp only [Act.put, List.setIfInBounds_toArray, List.set_cons_zero, List.set_cons_succ]
                refine wpAnyH_ready (rs := [16]) (by kernel_rfl) (by simp) ?_
                refine AllReadyH.cons (o := ⟨some 112, Op.call { callee := Callee.value (Operand.func 42), args := #[(Operand.tmp 105), (Operand.tmp 107), (Operand.tmp 109), (Operand.tmp 111)], argTypes := #[46, 3, 3, 32] }, _, _, _, _⟩) rfl (fun K hK => ?_) AllReadyH.nil
                go_simp
                (with_reducible refine (HRC.out _ HR4.out).mono ?_); rintro e w9 ⟨rfl, hr9, hk9⟩; have HD9 := Lib.hid ((HBL.out.grown (grown_drew (grown_refl _ _))).r HK4.out HC4.out hk9 hr9 HIN.out); have HY5 := Lib.hid (cells_kept HX5.out hk9 HR5.out); have HY8 := Lib.hid (cells_kept HX8.out hk9 HR8.out); clear hr9 hk9
                go_wp2_with fail
                refine hK.out _ _ ⟨⟨(opc_cells _ _ o HY5.out).1.2.1, (opc_cells _ _ o HY5.out).1.2.2⟩, (opc_cells _ _ o HY5.out).2⟩ (fun hHeld => ?_)
                clear hK K
                try simp only [Act.put, List.setIfInBounds_toArray, List.set_cons_zero, List.set_cons_succ]
                refine wpAnyH_take (i := 17) (oi := ⟨some 113, Op.binOp BinOp.eql 23 (Operand.tmp 104) (Operand.tmp 112) 23, _, _, _, _⟩) (v := ?v44) rfl (by kernel_rfl) (by kernel_rfl) (by kernel_rfl) (fun _ _ _ h => h) (Or.inl ⟨by rfl, ?hy44⟩) (by assumption) ?rest44
                case hy44 => ((intro w0 hSw; go_simp); try (with_reducible rfl))
                try simp only [Act.put, List.setIfInBounds_toArray, List.set_cons_zero, List.set_cons_succ]
                refine wpAnyH_take (i := 18) (oi := ⟨some 6, Op.assign (Operand.tmp 96), _, _, _, _⟩) (v := ?v45) rfl (by kernel_rfl) (by kernel_rfl) (by kernel_rfl) (fun _ _ _ h => h) (Or.inl ⟨by rfl, ?hy45⟩) (by assumption) ?rest45
                case hy45 => ((intro w0 hSw; go_simp); try (with_reducible rfl))
                try simp only [Act.put, List.setIfInBounds_toArray, List.set_cons_zero, List.set_cons_succ]
                refine wpAnyH_take (i := 19) (oi := ⟨some 7, Op.assign (Operand.tmp 113), _, _, _, _⟩) (v := ?v46) rfl (by kernel_rfl) (by kernel_rfl) (by kernel_rfl) (fun _ _ _ h => h) (Or.inl ⟨by rfl, ?hy46⟩) (by assumption) ?rest46
                case hy46 => ((intro w0 hSw; go_simp); try (with_reducible rfl))
                try simp only [Act.put, List.setIfInBounds_toArray, List.set_cons_zero, List.set_cons_succ]
                refine wpAnyH_done (by kernel_rfl) ?_ _
                have HDN := Lib.hid (Done.pre HGW.out (⟨HD9.out.1, (Kept.of (grown_drew (grown_refl _ _))).trans HD9.out.2, .inl rfl⟩))
                go_wp2_with fail
                go_ret2
                exact ⟨_, _, rfl, HDN.out⟩
              · skip
                by_cases e5 : o.kind = 5
                · skip
                  have ek0 : (o.kind == 0) = false := by simp; omega
                  have ek1 : (o.kind == 1) = false := by simp; omega
                  have ek2 : (o.kind == 2) = false := by simp; omega
                  have ek3 : (o.kind == 3) = false := by simp; omega
                  have ek4 : (o.kind == 4) = false := by simp; omega
                  have ek5 : (o.kind == 5) = true := by simp; omega
                  clear e0 e1 e2 e3 e4 e5
                  obtain ⟨z, hz9⟩ : ∃ z, z = (cturn c ss o.b o.s).2 := ⟨_, rfl⟩
                  obtain ⟨ss', hs9⟩ : ∃ ss', ss' = (cturn c ss o.b o.s).1 := ⟨_, rfl⟩
                  have HKC := Lib.hid (turn_any K c ss wr.drew (HBL.out.grown (grown_drew (grown_refl _ _))).cac (HTL.out.grown (grown_drew (grown_refl _ _))) o.b o.s)
                  have HRC : Hid (∀ w', Rac w' R c ss → _) := Lib.hid fun w' h => rturn_any R c ss w' h HBL.out.inv o.b o.s
                  rw [← hz9, ← hs9] at HKC HRC
                  have HIN : Hid (Inv c ss') := Lib.hid (by rw [hs9]; exact HBL.out.inv.cturn (fun b => Cac.here K c ss wr HBL.out.cac b) o.b o.s)
                  clear hz9 hs9
                  go_wp2_with fail
                  refine wp_region_held_drew (S := fun w' => (w'.cell? ⟨w.heap.size, 1, none⟩ = some (.int .i64 o.b) ∧ w'.cell? ⟨w.heap.size, 2, none⟩ = some (.int .i64 o.wd)) ∧ w'.cell? ⟨w.heap.size, 3, none⟩ = some (.int .u8 o.s) ∧ w'.cell? ⟨w.heap.size, 4, none⟩ = some (.int .u32 o.x)) (by kernel_rfl) ⟨⟨(opc_cells _ _ o (show wr.drew.heap[w.heap.size]? = _ from H5R.out)).1.2.1, (opc_cells _ _ o (show wr.drew.heap[w.heap.size]? = _ from H5R.out)).1.2.2⟩, (opc_cells _ _ o (show wr.drew.heap[w.heap.size]? = _ from H5R.out)).2⟩ (fun hHeld => ?_)
                  refine wpAnyH_take (i := 0) (oi := ⟨some 116, Op.move (Operand.tmp 0), _, _, _, _⟩) (v := ?v47) rfl (by kernel_rfl) (by kernel_rfl) (by kernel_rfl) (fun _ _ _ h => h) (Or.inl ⟨by rfl, ?hy47⟩) (by assumption) ?rest47
                  case hy47 => ((intro w0 hSw; obtain ⟨⟨hs1, hs2⟩, hs3, hs4⟩ := hSw; go_simp); try (with_reducible rfl))
                  try simp only [Act.put, List.setIfInBounds_toArray, List.set_cons_zero, List.set_cons_succ]
                  refine wpAnyH_take (i := 1) (oi := ⟨some 117, Op.move (Operand.tmp 0), _, _, _, _⟩) (v := ?v48) rfl (by kernel_rfl) (by kernel_rfl) (by kernel_rfl) (fun _ _ _ h => h) (Or.inl ⟨by rfl, ?hy48⟩) (by assumption) ?rest48
                  case hy48 => ((intro w0 hSw; obtain ⟨⟨hs1, hs2⟩, hs3, hs4⟩ := hSw; go_simp); try (with_reducible rfl))
                  try simp only [Act.put, List.setIfInBounds_toArray, List.set_cons_zero, List.set_cons_succ]
                  refine wpAnyH_take (i := 2) (oi := ⟨some 118, Op.fieldAddr 50 (Operand.tmp 5) 1, _, _, _, _⟩) (v := ?v49) rfl (by kernel_rfl) (by kernel_rfl) (by kernel_rfl) (fun _ _ _ h => h) (Or.inl ⟨by rfl, ?hy49⟩) (by assumption) ?rest49
                  case hy49 => ((intro w0 hSw; obtain ⟨⟨hs1, hs2⟩, hs3, hs4⟩ := hSw; go_simp); try (with_reducible rfl))
                  try simp only [Act.put, List.setIfInBounds_toArray, List.set_cons_zero, List.set_cons_succ]
                  refine wpAnyH_take (i := 3) (oi := ⟨some 119, Op.load 3 (Operand.tmp 118), _, _, _, _⟩) (v := ?v50) rfl (by kernel_rfl) (by kernel_rfl) (by kernel_rfl) (fun _ _ _ h => h) (Or.inl ⟨by rfl, ?hy50⟩) (by assumption) ?rest50
                  case hy50 => ((intro w0 hSw; obtain ⟨⟨hs1, hs2⟩, hs3, hs4⟩ := hSw; go_simp); try (with_reducible rfl))
                  try simp only [Act.put, List.setIfInBounds_toArray, List.set_cons_zero, List.set_cons_succ]
                  refine wpAnyH_take (i := 4) (oi := ⟨some 120, Op.fieldAddr 50 (Operand.tmp 5) 3, _, _, _, _⟩) (v := ?v51) rfl (by kernel_rfl) (by kernel_rfl) (by kernel_rfl) (fun _ _ _ h => h) (Or.inl ⟨by rfl, ?hy51⟩) (by assumption) ?rest51
                  case hy51 => ((intro w0 hSw; obtain ⟨⟨hs1, hs2⟩, hs3, hs4⟩ := hSw; go_simp); try (with_reducible rfl))
                  try simp only [Act.put, List.setIfInBounds_toArray, List.set_cons_zero, List.set_cons_succ]
                  refine wpAnyH_take (i := 5) (oi := ⟨some 121, Op.load 31 (Operand.tmp 120), _, _, _, _⟩) (v := ?v52) rfl (by kernel_rfl) (by kernel_rfl) (by kernel_rfl) (fun _ _ _ h => h) (Or.inl ⟨by rfl, ?hy52⟩) (by assumption) ?rest52
                  case hy52 => ((intro w0 hSw; obtain ⟨⟨hs1, hs2⟩, hs3, hs4⟩ := hSw; go_simp); try (with_reducible rfl))
                  try simp only [Act.put, List.setIfInBounds_toArray, List.set_cons_zero, List.set_cons_succ]
                  refine wpAnyH_take (i := 7) (oi := ⟨some 123, Op.move (Operand.tmp 1), _, _, _, _⟩) (v := ?v53) rfl (by kernel_rfl) (by kernel_rfl) (by kernel_rfl) (fun _ _ _ h => h) (Or.inl ⟨by rfl, ?hy53⟩) (by assumption) ?rest53
                  case hy53 => ((intro w0 hSw; obtain ⟨⟨hs1, hs2⟩, hs3, hs4⟩ := hSw; go_simp); try (with_reducible rfl))
                  try simp only [Act.put, List.setIfInBounds_toArray, List.set_cons_zero, List.set_cons_succ]
                  refine wpAnyH_take (i := 8) (oi := ⟨some 124, Op.fieldAddr 50 (Operand.tmp 5) 1, _, _, _, _⟩) (v := ?v54) rfl (by kernel_rfl) (by kernel_rfl) (by kernel_rfl) (fun _ _ _ h => h) (Or.inl ⟨by rfl, ?hy54⟩) (by assumption) ?rest54
                  case hy54 => ((intro w0 hSw; obtain ⟨⟨hs1, hs2⟩, hs3, hs4⟩ := hSw; go_simp); try (with_reducible rfl))
                  try simp only [Act.put, List.setIfInBounds_toArray, List.set_cons_zero, List.set_cons_succ]
                  refine wpAnyH_take (i := 9) (oi := ⟨some 125, Op.load 3 (Operand.tmp 124), _, _, _, _⟩) (v := ?v55) rfl (by kernel_rfl) (by kernel_rfl) (by kernel_rfl) (fun _ _ _ h => h) (Or.inl ⟨by rfl, ?hy55⟩) (by assumption) ?rest55
                  case hy55 => ((intro w0 hSw; obtain ⟨⟨hs1, hs2⟩, hs3, hs4⟩ := hSw; go_simp); try (with_reducible rfl))
                  try simp only [Act.put, List.setIfInBounds_toArray, List.set_cons_zero, List.set_cons_succ]
                  refine wpAnyH_take (i := 10) (oi := ⟨some 126, Op.fieldAddr 50 (Operand.tmp 5) 3, _, _, _, _⟩) (v := ?v56) rfl (by kernel_rfl) (by kernel_rfl) (by kernel_rfl) (fun _ _ _ h => h) (Or.inl ⟨by rfl, ?hy56⟩) (by assumption) ?rest56
                  case hy56 => ((intro w0 hSw; obtain ⟨⟨hs1, hs2⟩, hs3, hs4⟩ := hSw; go_simp); try (with_reducible rfl))
                  try simp only [Act.put, List.setIfInBounds_toArray, List.set_cons_zero, List.set_cons_succ]
                  refine wpAnyH_take (i := 11) (oi := ⟨some 127, Op.load 31 (Operand.tmp 126), _, _, _, _⟩) (v := ?v57) rfl (by kernel_rfl) (by kernel_rfl) (by kernel_rfl) (fun _ _ _ h => h) (Or.inl ⟨by rfl, ?hy57⟩) (by assumption) ?rest57
                  case hy57 => ((intro w0 hSw; obtain ⟨⟨hs1, hs2⟩, hs3, hs4⟩ := hSw; go_simp); try (with_reducible rfl))
                  try simp only [Act.put, List.setIfInBounds_toArray, List.set_cons_zero, List.set_cons_succ]
                  refine wpAnyH_ready (rs := [6]) (by kernel_rfl) (by simp) ?_
                  refine AllReadyH.cons (o := ⟨some 122, Op.call { callee := Callee.value (Operand.func 17), args := #[(Operand.tmp 117), (Operand.tmp 119), (Operand.tmp 121)], argTypes := #[22, 3, 31] }, _, _, _, _⟩) rfl (fun K hK => ?_) AllReadyH.nil
                  go_simp
                  (with_reducible refine HKC.out.mono ?_); rintro e w4 ⟨rfl, hc4, hk4⟩; have HC4 := Lib.hid hc4; have HK4 := Lib.hid hk4; have HR4 := Lib.hid ((HBL.out.grown (grown_drew (grown_refl _ _))).k hk4); have HX5 := Lib.hid (cells_kept (show wr.drew.heap[w.heap.size]? = _ from H5R.out) hk4 HK5.out); have HX8 := Lib.hid (cells_kept (show wr.drew.heap[B8]? = _ from H8.out) hk4 HK8.out); clear hc4 hk4
                  go_wp2_with fail
                  refine hK.out _ _ ⟨⟨(opc_cells _ _ o HX5.out).1.2.1, (opc_cells _ _ o HX5.out).1.2.2⟩, (opc_cells _ _ o HX5.out).2⟩ (fun hHeld => ?_)
                  clear hK K
                  try simp only [Act.put, List.setIfInBounds_toArray, List.set_cons_zero, List.set_cons_succ]
                  refine wpAnyH_ready (rs := [12]) (by kernel_rfl) (by simp) ?_
                  refine AllReadyH.cons (o := ⟨some 128, Op.call { callee := Callee.value (Operand.func 43), args := #[(Operand.tmp 123), (Operand.tmp 125), (Operand.tmp 127)], argTypes := #[46, 3, 31] }, _, _, _, _⟩) rfl (fun K hK => ?_) AllReadyH.nil
                  go_simp
                  (with_reducible refine (HRC.out _ HR4.out).mono ?_); rintro e w9 ⟨rfl, hr9, hk9⟩; have HD9 := Lib.hid ((HBL.out.grown (grown_drew (grown_refl _ _))).r HK4.out HC4.out hk9 hr9 HIN.out); have HY5 := Lib.hid (cells_kept HX5.out hk9 HR5.out); have HY8 := Lib.hid (cells_kept HX8.out hk9 HR8.out); clear hr9 hk9
                  go_wp2_with fail
                  refine hK.out _ _ ⟨⟨(opc_cells _ _ o HY5.out).1.2.1, (opc_cells _ _ o HY5.out).1.2.2⟩, (opc_cells _ _ o HY5.out).2⟩ (fun hHeld => ?_)
                  clear hK K
                  try simp only [Act.put, List.setIfInBounds_toArray, List.set_cons_zero, List.set_cons_succ]
                  refine wpAnyH_take (i := 13) (oi := ⟨some 129, Op.binOp BinOp.eql 23 (Operand.tmp 122) (Operand.tmp 128) 23, _, _, _, _⟩) (v := ?v58) rfl (by kernel_rfl) (by kernel_rfl) (by kernel_rfl) (fun _ _ _ h => h) (Or.inl ⟨by rfl, ?hy58⟩) (by assumption) ?rest58
                  case hy58 => ((intro w0 hSw; go_simp); try (with_reducible rfl))
                  try simp only [Act.put, List.setIfInBounds_toArray, List.set_cons_zero, List.set_cons_succ]
                  refine wpAnyH_take (i := 14) (oi := ⟨some 6, Op.assign (Operand.tmp 116), _, _, _, _⟩) (v := ?v59) rfl (by kernel_rfl) (by kernel_rfl) (by kernel_rfl) (fun _ _ _ h => h) (Or.inl ⟨by rfl, ?hy59⟩) (by assumption) ?rest59
                  case hy59 => ((intro w0 hSw; go_simp); try (with_reducible rfl))
                  try simp only [Act.put, List.setIfInBounds_toArray, List.set_cons_zero, List.set_cons_succ]
                  refine wpAnyH_take (i := 15) (oi := ⟨some 7, Op.assign (Operand.tmp 129), _, _, _, _⟩) (v := ?v60) rfl (by kernel_rfl) (by kernel_rfl) (by kernel_rfl) (fun _ _ _ h => h) (Or.inl ⟨by rfl, ?hy60⟩) (by assumption) ?rest60
                  case hy60 => ((intro w0 hSw; go_simp); try (with_reducible rfl))
                  try simp only [Act.put, List.setIfInBounds_toArray, List.set_cons_zero, List.set_cons_succ]
                  refine wpAnyH_done (by kernel_rfl) ?_ _
                  have HDN := Lib.hid (Done.pre HGW.out (⟨HD9.out.1, (Kept.of (grown_drew (grown_refl _ _))).trans HD9.out.2, .inl rfl⟩))
                  go_wp2_with fail
                  go_ret2
                  exact ⟨_, _, rfl, HDN.out⟩
                · skip
                  by_cases e6 : o.kind = 6
                  · skip
                    have ek0 : (o.kind == 0) = false := by simp; omega
                    have ek1 : (o.kind == 1) = false := by simp; omega
                    have ek2 : (o.kind == 2) = false := by simp; omega
                    have ek3 : (o.kind == 3) = false := by simp; omega
                    have ek4 : (o.kind == 4) = false := by simp; omega
                    have ek5 : (o.kind == 5) = false := by simp; omega
                    have ek6 : (o.kind == 6) = true := by simp; omega
                    clear e0 e1 e2 e3 e4 e5 e6
                    obtain ⟨lv, gb, hlv⟩ : ∃ lv gb, cfind c ss o.b = (lv, gb) := ⟨_, _, rfl⟩
                    have HKC := Lib.hid (find_any K c ss wr HBL.out.cac HTL.out o.b)
                    have HRC : Hid (∀ w', Rac w' R c ss → _) := Lib.hid fun w' h => rfind_any R c ss w' h HBL.out.inv o.b
                    rw [hlv] at HKC HRC
                    have hqe := binE36 lv
                    clear hlv
                    go_wp2_with (first
                      | (go_at_call 18; ((with_reducible refine HKC.out.mono ?_); rintro e w4 ⟨rfl, hg4⟩; have HG4 := Lib.hid (grown_alloc hg4 (.cells (la lv) 36)); have HR4 := Lib.hid (HBL.out.rac.grown HG4.out); have H54 := (HG4.out.block _ (lt_of H5R.out) (by simp)).trans H5R.out; have HN4 : Hid ((w4.alloc (.cells (la lv) 36)).heap[w4.heap.size]? = some (.cells (la lv) 36 (0, 0))) := Lib.hid (heap_alloc_new _ _); have kk1 := (opc_cells _ _ o H54).1.2.1; have HLW4 : Hid (w4.heap.size < (w4.alloc (.cells (la lv) 36)).heap.size) := Lib.hid (by simp); clear hg4))
                      | ((with_reducible refine store_new' lv 14 137 ?_ ?_ ?_); (rfl); (rfl))
                      | (go_at_call 44; ((with_reducible refine (HRC.out _ HR4.out).mono ?_); rintro e w9 ⟨rfl, hg9⟩; have HG9 := Lib.hid (grown_alloc (grown_trans HG4.out hg9) (.cells (la lv) 36)); have HZ4 := Lib.hid ((Below.heap_alloc w9 (.cells (la lv) 36) _ (Nat.lt_of_lt_of_le HLW4.out hg9.size)).trans ((hg9.block _ HLW4.out (by simp)).trans HN4.out)); have HZ9 : Hid ((w9.alloc (.cells (la lv) 36)).heap[w9.heap.size]? = some (.cells (la lv) 36 (0, 0))) := Lib.hid (heap_alloc_new _ _); clear hg9))
                      | ((with_reducible refine store_new' lv 16 144 ?_ ?_ ?_); (rfl); (rfl))
                      | ((with_reducible refine load_ln lv _ w4.heap.size 0 ?_ (range_of HZ4.out) ?_); (rfl))
                      | ((with_reducible refine load_ln lv _ w9.heap.size 0 ?_ (range_of HZ9.out) ?_); (rfl)))
                    have HDN := Lib.hid (Done.pre HGW.out (⟨HBL.out.grown HG9.out, Kept.of HG9.out, .inl rfl⟩))
                    go_wp2_with fail
                    go_ret2
                    exact ⟨_, _, rfl, HDN.out⟩
                  · skip
                    by_cases e7 : o.kind = 7
                    · skip
                      have ek0 : (o.kind == 0) = false := by simp; omega
                      have ek1 : (o.kind == 1) = false := by simp; omega
                      have ek2 : (o.kind == 2) = false := by simp; omega
                      have ek3 : (o.kind == 3) = false := by simp; omega
                      have ek4 : (o.kind == 4) = false := by simp; omega
                      have ek5 : (o.kind == 5) = false := by simp; omega
                      have ek6 : (o.kind == 6) = false := by simp; omega
                      have ek7 : (o.kind == 7) = true := by simp; omega
                      clear e0 e1 e2 e3 e4 e5 e6 e7
                      have HCP := Lib.hid (copy_any K c ss wr HBL.out.cac)
                      go_wp2_with (first
                        | (go_at_call 20; ((with_reducible refine HCP.out.mono ?_); rintro e w4 ⟨K2, rfl, hc4, hg4, hf4⟩; have HG4 := Lib.hid hg4; have HB4 := Lib.hid (HBL.out.grown hg4); have HC4 := Lib.hid hc4; have HF4 := Lib.hid hf4; have HT4 := Lib.hid (HTL.out.grown hg4); have H54 := (hg4.block _ (lt_of H5R.out) (by simp)).trans H5R.out; have kk1 := (opc_cells _ _ o H54).1.2.1; clear hc4 hg4 hf4))
                        | (go_at_call 15; ((with_reducible refine (drop_any K c ss w4 HB4.out.cac HT4.out o.b).mono ?_); rintro e w9 ⟨rfl, hc9, hk9⟩; have HK9 := Lib.hid hk9; have HR9 := Lib.hid (HB4.out.k hk9); have HC9 : Hid (Cac w9 K2 c ss) := Lib.hid (HC4.out.same (fun k hk => hk9.block k (HC4.out.lt hk) (fun ho => by have h1 := HF4.out k hk; have h2 := HBL.out.cac.lt (.inr ho); omega))); clear hc9 hk9)))
                      have HDN := Lib.hid (Done.pre HGW.out (⟨⟨HC9.out, HR9.out, HBL.out.inv, fun k hk hr => by have h1 := HF4.out k hk; have h2 := HBL.out.rac.lt hr; omega⟩, ((Kept.of HG4.out).trans HK9.out).mono (fun k h => .inl h), .inr (fun k hk => HF4.out k hk)⟩))
                      go_wp2_with fail
                      go_ret2
                      exact ⟨_, _, rfl, HDN.out⟩
                    · skip
                      have ek0 : (o.kind == 0) = false := by simp; omega
                      have ek1 : (o.kind == 1) = false := by simp; omega
                      have ek2 : (o.kind == 2) = false := by simp; omega
                      have ek3 : (o.kind == 3) = false := by simp; omega
                      have ek4 : (o.kind == 4) = false := by simp; omega
                      have ek5 : (o.kind == 5) = false := by simp; omega
                      have ek6 : (o.kind == 6) = false := by simp; omega
                      have ek7 : (o.kind == 7) = false := by simp; omega
                      clear e0 e1 e2 e3 e4 e5 e6 e7
                      have HDN := Lib.hid (Done.pre HGW.out (⟨HBL.out, Kept.of (grown_refl _ _), .inl rfl⟩))
                      go_wp2_with fail
                      go_ret2
                      exact ⟨_, _, rfl, HDN.out⟩
end Go.Proofs.YtjbapfjeildfoaaDoor.kk
