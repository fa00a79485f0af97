/-
  What Take and Copy of a net answer, and the nets behind these: contracts. Condition: the tables of bounds and of kinds lie in their variables as the program's text has them.
-/
import Derived.Test.YtoemkhmbeiindaaDoorNd
namespace Go.Proofs.YtoemkhmbeiindaaDoor.tt
open Go Go.ChangeShapes Go.WideShapes Go.ChangeAt Go.RowKit
set_option linter.unusedVariables false

theorem NetAt.hops {w : World} {t p r : Nat} {c : Cfg} {v : Value} {ns : List Nt} {h : Int} (H : NetAt w t p c r v ns h) (h' : Int) : NetAt (w.setCell ⟨t, 10, none⟩ (.int .i64 h')) t p c r v ns h' := by
  refine ⟨?_, H.pool.of_block (Below.heap_setCell _ _ _ _ (fun e => H.tp e.symm)) (fun g hg => Below.heap_setCell _ _ _ _ (fun e => H.tv (by rw [hg, e]))), H.inv⟩
  obtain ⟨hlt, hk⟩ := Array.getElem?_eq_some_iff.1 H.blk
  show (w.heap.modify t _)[t]? = _
  rw [Array.getElem?_eq_getElem (by rw [Array.size_modify]; exact hlt), Array.getElem_modify_self, hk]
  rfl
theorem NTurn.hops (w : World) (t p : Nat) (v u : Value) : NTurn w (w.setCell ⟨t, 10, none⟩ u) t p v v :=
  ⟨rfl, rfl, rfl, by simp [World.setCell], fun k _ ht _ _ => Below.heap_setCell _ _ _ _ ht, .inl rfl⟩
section
variable (t p : Nat) (c : Cfg) (r : Nat) (v : Value) (ns : List Nt) (h : Int) (w : World) (H : NetAt w t p c r v ns h)
include H
set_option maxRecDepth 100000 in
set_option maxHeartbeats 1000000 in
theorem ntake_out (i : Int) (hi : i < 0 ∨ (ns.length : Int) ≤ i) : Calls Tryd.prog 14 #[.pointer (some ⟨t, 0, none⟩), .int .i64 i] w fun e w' => e = .returned (.tuple #[.agg (na zn), .int .i64 5]) ∧ w.grownBy w' none := by
  obtain ⟨w2, hw, hg2, hb2, hs2⟩ := onez w
  have hz : na zn = _ := bare_na 0 0 0 0 0 0 false false
  rw [hz] at hw
  have H2 := H.grown hg2
  have c9 := H2.c9
  have HA := Lib.hid (ptake_out p v (capOf c r) ns i w2 H2.pool hi)
  have HG := Lib.hid hg2
  have HB := Lib.hid hb2
  have HS := Lib.hid hs2
  clear H H2 hi hz hg2 hb2 hs2
  go_enter Tryd.func14, Tryd.ntmps14
  go_wp2_with (first
    | (go_at_call 34; ((with_reducible refine HA.out.mono ?_); rintro e w3 ⟨rfl, hg3⟩; have HG3 := Lib.hid (grown_alloc hg3 (.cells (na zn) 37)); have HZ3 := Lib.hid hg3.size; clear hg3))
    | ((with_reducible refine store_new zn _ _ _ ?_ ?_ ?_ ?_); (rfl); (rfl); (rfl))
    | ((with_reducible refine load_nt zn _ w3.heap.size ?_ (range_of (heap_alloc_new _ _)) ?_); (rfl))
    | ((with_reducible refine store_any zn _ _ _ w.heap.size ?_ ?_ ((HG3.out.block w.heap.size (by rw [HS.out]; omega) (by simp)).trans HB.out) ?_ ?_); (rfl); (rfl); (rfl)))
  have hres := set_res (grown_trans HG.out HG3.out) ((HG3.out.block w.heap.size (by rw [HS.out]; omega) (by simp)).trans HB.out) zn
  exact ret_nte rfl _ zn _ w.heap.size _ _ (by rfl) (by rfl) hres.1 ⟨rfl, hres.2⟩
set_option maxRecDepth 100000 in
set_option maxHeartbeats 2000000 in
theorem ntake_in (k : Nat) (x : Nt) (hx : ns[k]? = some x) (hh1 : 0 ≤ h) (hh2 : h ≤ 1000000000) : Calls Tryd.prog 14 #[.pointer (some ⟨t, 0, none⟩), .int .i64 (k : Int)] w fun e w' => e = .returned (.tuple #[.agg (na x), .int .i64 0]) ∧ ∃ v', NetAt w' t p c r v' (ns.eraseIdx k) (h + far x) ∧ NTurn w w' t p v v' := by
  obtain ⟨w2, hw, hg2, hb2, hs2⟩ := onez w
  have hz : na zn = _ := bare_na 0 0 0 0 0 0 false false
  rw [hz] at hw
  have H2 := H.grown hg2
  have c9 := H2.c9
  have hxo := (H.inv.all x (List.mem_of_getElem? hx)).1
  have hfb := far_bounds hxo
  have HA := Lib.hid (ptake_in p v (capOf c r) ns k x w2 H2.pool hx (len_64k H.inv))
  have HO : Hid (∀ w, _) := Lib.hid fun w => hops_any x hxo w
  have HI := Lib.hid (H.inv.erase k)
  have HH2 := Lib.hid H2
  have HG := Lib.hid hg2
  have HB := Lib.hid hb2
  have HS := Lib.hid hs2
  have HLT := Lib.hid H.lt
  have HLP := Lib.hid H.pool.lt
  have HLV : Hid (∀ k, v.ownBlock = some k → k < w.heap.size) := Lib.hid H.pool.sl.lt
  obtain ⟨d, hd⟩ : ∃ d, d = far x := ⟨_, rfl⟩
  rw [← hd] at HO hfb ⊢
  have HWR : Hid (IntKind.i64.wrap (h + d) = h + d) := Lib.hid (IntWalk.i64_in _ (by omega))
  obtain ⟨t', mm, HTT, hagg, hsize, hld⟩ := named
  clear H H2 hz hg2 hb2 hs2 hx hxo hd hfb hh1 hh2
  go_enter Tryd.func14, Tryd.ntmps14
  go_wp2_with (first
    | (go_at_call 34; ((with_reducible refine HA.out.mono ?_); rintro e w3 ⟨rfl, v', hP3, hT3⟩; have H3 := HH2.out.put hP3 hT3 HI.out; have HH3 := Lib.hid (H3.grown (grown_alloc (grown_refl _ _) (.cells (na x) 37))); have HT3 := Lib.hid hT3; have HP3 := Lib.hid hP3; have HB3 := Lib.hid ((hT3.block w.heap.size (by have := HS.out; omega) (by have := HLP.out; omega) (fun e => by have := HLV.out _ e.symm; omega)).trans HB.out); clear H3 hP3 hT3))
    | ((with_reducible refine store_new x _ _ _ ?_ ?_ ?_ ?_); (rfl); (rfl); (rfl)))
  obtain ⟨w4, hw4⟩ : ∃ w4, w3.alloc (.cells (na x) 37) = w4 := ⟨_, rfl⟩
  have hx4 : w4.heap[w3.heap.size]? = some (.cells (na x) 37 (0, 0)) := by rw [← hw4]; exact heap_alloc_new _ _
  have hg34 : w3.grownBy w4 none := by rw [← hw4]; exact grown_alloc (grown_refl _ _) _
  rw [hw4] at HH3
  have HX4 := Lib.hid hx4
  have HG34 := Lib.hid hg34
  have hl4 := hld w3.heap.size x w4.drew (range_of hx4)
  have c10 := HH3.out.c10
  have HLW : Hid (w.heap.size < w4.heap.size) := Lib.hid (by have := HT3.out.size; have := hg34.size; have := HS.out; omega)
  rw [hw4, HTT.out]
  clear hx4 hg34 hw4
  go_region_with (go_at_call 35; ((with_reducible refine (HO.out _).mono ?_); rintro e w9 ⟨rfl, hg9⟩; have H9 := HH3.out.grown (grown_trans (grown_drew (grown_refl _ none)) hg9); have d10 := H9.c10; have e10 := H9.frozen 10; have HH9 := Lib.hid H9; have HG9 := Lib.hid (grown_trans (grown_drew (grown_refl _ none)) hg9); clear H9 hg9))
  all_goals
    rw [HWR.out]
    have hgw9 : w3.grownBy w9 none := grown_trans HG34.out HG9.out
    have hz3 := HT3.out.size
    have hs2 := HS.out
    have hlw := HLW.out
    have hlt := HLT.out
    have hxz : (w9.setCell ⟨t, 10, none⟩ (.int .i64 (h + d))).heap[w3.heap.size]? = some (.cells (na x) 37 (0, 0)) := (Below.heap_setCell _ _ _ _ (show _ ≠ t by omega)).trans ((HG9.out.block _ (lt_of HX4.out) (by simp)).trans HX4.out)
    have hbz : (w9.setCell ⟨t, 10, none⟩ (.int .i64 (h + d))).heap[w.heap.size]? = some (.cells (na zn) 37 (0, 0)) := (Below.heap_setCell _ _ _ _ (show _ ≠ t by omega)).trans ((hgw9.block _ (by omega) (by simp)).trans HB3.out)
    have HXZ := Lib.hid hxz
    have HBZ := Lib.hid hbz
    have HNZ := Lib.hid (HH9.out.hops (h + d))
    have HTZ : Hid (NTurn w (w9.setCell ⟨t, 10, none⟩ (.int .i64 (h + d))) t p v v') := Lib.hid (((NTurn.of_grown t p v HG.out).trans (NTurn.of_turn t HT3.out)).trans ((NTurn.of_grown t p v' hgw9).trans (NTurn.hops _ t p v' _)))
    clear hgw9 hz3 hxz hbz
    go_wp2_with (first
      | ((with_reducible refine load_nt x _ w3.heap.size ?_ (range_of HXZ.out) ?_); (rfl))
      | ((with_reducible refine store_any x _ _ _ w.heap.size ?_ ?_ HBZ.out ?_ ?_); (rfl); (rfl); (rfl)))
    have HLP' := HLP.out
    refine ret_nte rfl _ x _ w.heap.size _ _ (by rfl) (by rfl) (range_of (setRow_heap _ _ _ _ _ _ HBZ.out)) ⟨rfl, v', ?_, ?_⟩
    · exact HNZ.out.of_block (setRow_other _ _ _ _ (by omega)) (setRow_other _ _ _ _ (by omega)) (fun g hg => setRow_other _ _ _ _ (fun e => by
        rcases HTZ.out.next with h | h
        · rw [h] at hg; have := HLV.out g hg; omega
        · subst e
          obtain ⟨cur, hcur⟩ := HP3.out.sl.type _ hg
          have := (HT3.out.next)
          rcases this with h5 | h5
          · rw [h5] at hg; have := HLV.out _ hg; omega
          · have := h5 _ hg; omega))
    · have hT := HTZ.out
      exact ⟨hT.os, hT.tape, hT.output, by have := hT.size; simp at this ⊢; omega, fun i hi ht hp hv => (setRow_other _ _ _ _ (by omega)).trans (hT.block i hi ht hp hv), hT.next⟩
set_option maxRecDepth 100000 in
set_option maxHeartbeats 2000000 in
theorem ncopy_any : Calls Tryd.prog 19 #[.pointer (some ⟨t, 0, none⟩)] w fun e w' => ∃ t' p' v', e = .returned (.pointer (some ⟨t', 0, none⟩)) ∧ NetAt w' t' p' c r v' ns h ∧ w.grownBy w' none ∧ w.heap.size ≤ t' ∧ w.heap.size ≤ p' ∧ ∀ k, v'.ownBlock = some k → w.heap.size ≤ k := by
  have HC : Hid (∀ w', w.grownBy w' none → _) := Lib.hid fun w' h' => pcopy_any p v (capOf c r) ns w' (H.grown h').pool (len_64k H.inv)
  have NC : Hid (∀ w', w.grownBy w' none → w'.cell? ⟨t, 0, none⟩ = some (.int .i64 c.co) ∧ w'.cell? ⟨t, 1, none⟩ = some (.int .i64 c.se) ∧ w'.cell? ⟨t, 2, none⟩ = some (.int .i64 c.wa) ∧ w'.cell? ⟨t, 3, none⟩ = some (.int .i64 c.bl) ∧ w'.cell? ⟨t, 4, none⟩ = some (.int .i64 c.lo) ∧ w'.cell? ⟨t, 5, none⟩ = some (.int .i64 c.ba) ∧ w'.cell? ⟨t, 6, none⟩ = some (.int .i64 c.ne) ∧ w'.cell? ⟨t, 7, none⟩ = some (.int .i64 c.tr)) := Lib.hid fun w' h => ⟨(H.grown h).cell 0 _ rfl, (H.grown h).cell 1 _ rfl, (H.grown h).cell 2 _ rfl, (H.grown h).cell 3 _ rfl, (H.grown h).cell 4 _ rfl, (H.grown h).cell 5 _ rfl, (H.grown h).cell 6 _ rfl, (H.grown h).cell 7 _ rfl⟩
  have N8 : Hid (∀ w', w.grownBy w' none → w'.cell? ⟨t, 8, none⟩ = some (.int .i64 (r : Int))) := Lib.hid fun w' h' => (H.grown h').c8
  have N9 : Hid (∀ w', w.grownBy w' none → w'.cell? ⟨t, 9, none⟩ = some (.pointer (some ⟨p, 0, none⟩))) := Lib.hid fun w' h' => (H.grown h').c9
  have N10 : Hid (∀ w', w.grownBy w' none → w'.cell? ⟨t, 10, none⟩ = some (.int .i64 h)) := Lib.hid fun w' h' => (H.grown h').c10
  have HI := Lib.hid H.inv
  clear H
  go_enter Tryd.func19, Tryd.ntmps19
  go_wp2_with fail
  refine wp_region_held_drew (S := fun w' => w.grownBy w' none) (by kernel_rfl) (grown_drew (grown_refl _ _)) (fun hHeld => ?_)
  refine wpAnyH_take (i := 0) (oi := ⟨some 5, Op.move (Operand.tmp 0), _, _, _, _⟩) (v := ?v7) rfl (by kernel_rfl) (by kernel_rfl) (by kernel_rfl) (fun _ _ _ h => h) (Or.inl ⟨by rfl, ?hy7⟩) (by assumption) ?rest7
  case hy7 => ((intro w0 hSw; go_simp); try (with_reducible rfl))
  try simp only [Act.put, List.setIfInBounds_toArray, List.set_cons_zero, List.set_cons_succ]
  refine wpAnyH_take (i := 1) (oi := ⟨some 6, Op.nilCheck (Operand.tmp 5), _, _, _, _⟩) (v := ?v8) rfl (by kernel_rfl) (by kernel_rfl) (by kernel_rfl) (fun _ _ _ h => h) (Or.inl ⟨by rfl, ?hy8⟩) (by assumption) ?rest8
  case hy8 => ((intro w0 hSw; go_simp); try (with_reducible rfl))
  try simp only [Act.put, List.setIfInBounds_toArray, List.set_cons_zero, List.set_cons_succ]
  refine wpAnyH_take (i := 2) (oi := ⟨some 7, Op.fieldAddr 74 (Operand.tmp 6) 0, _, _, _, _⟩) (v := ?v9) rfl (by kernel_rfl) (by kernel_rfl) (by kernel_rfl) (fun _ _ _ h => h) (Or.inl ⟨by rfl, ?hy9⟩) (by assumption) ?rest9
  case hy9 => ((intro w0 hSw; go_simp); try (with_reducible rfl))
  try simp only [Act.put, List.setIfInBounds_toArray, List.set_cons_zero, List.set_cons_succ]
  refine wpAnyH_take (i := 3) (oi := ⟨some 8, Op.load 27 (Operand.tmp 7), _, _, _, _⟩) (v := ?v10) rfl (by kernel_rfl) (by kernel_rfl) (by kernel_rfl) (fun _ _ _ h => h) (Or.inl ⟨by rfl, ?hy10⟩) (by assumption) ?rest10
  case hy10 => ((intro w0 hSw; obtain ⟨d0, d1, d2, d3, d4, d5, d6, d7⟩ := NC.out w0 hSw; go_simp); try (with_reducible rfl))
  try simp only [Act.put, List.setIfInBounds_toArray, List.set_cons_zero, List.set_cons_succ]
  refine wpAnyH_take (i := 4) (oi := ⟨some 9, Op.move (Operand.tmp 0), _, _, _, _⟩) (v := ?v11) rfl (by kernel_rfl) (by kernel_rfl) (by kernel_rfl) (fun _ _ _ h => h) (Or.inl ⟨by rfl, ?hy11⟩) (by assumption) ?rest11
  case hy11 => ((intro w0 hSw; go_simp); try (with_reducible rfl))
  try simp only [Act.put, List.setIfInBounds_toArray, List.set_cons_zero, List.set_cons_succ]
  refine wpAnyH_take (i := 5) (oi := ⟨some 10, Op.nilCheck (Operand.tmp 9), _, _, _, _⟩) (v := ?v12) rfl (by kernel_rfl) (by kernel_rfl) (by kernel_rfl) (fun _ _ _ h => h) (Or.inl ⟨by rfl, ?hy12⟩) (by assumption) ?rest12
  case hy12 => ((intro w0 hSw; go_simp); try (with_reducible rfl))
  try simp only [Act.put, List.setIfInBounds_toArray, List.set_cons_zero, List.set_cons_succ]
  refine wpAnyH_take (i := 6) (oi := ⟨some 11, Op.fieldAddr 74 (Operand.tmp 10) 1, _, _, _, _⟩) (v := ?v13) rfl (by kernel_rfl) (by kernel_rfl) (by kernel_rfl) (fun _ _ _ h => h) (Or.inl ⟨by rfl, ?hy13⟩) (by assumption) ?rest13
  case hy13 => ((intro w0 hSw; go_simp); try (with_reducible rfl))
  try simp only [Act.put, List.setIfInBounds_toArray, List.set_cons_zero, List.set_cons_succ]
  refine wpAnyH_take (i := 7) (oi := ⟨some 12, Op.load 3 (Operand.tmp 11), _, _, _, _⟩) (v := ?v14) rfl (by kernel_rfl) (by kernel_rfl) (by kernel_rfl) (fun _ _ _ h => h) (Or.inl ⟨by rfl, ?hy14⟩) (by assumption) ?rest14
  case hy14 => ((intro w0 hSw; have h1 := N8.out w0 hSw; go_simp); try (with_reducible rfl))
  try simp only [Act.put, List.setIfInBounds_toArray, List.set_cons_zero, List.set_cons_succ]
  refine wpAnyH_take (i := 8) (oi := ⟨some 13, Op.move (Operand.tmp 0), _, _, _, _⟩) (v := ?v15) rfl (by kernel_rfl) (by kernel_rfl) (by kernel_rfl) (fun _ _ _ h => h) (Or.inl ⟨by rfl, ?hy15⟩) (by assumption) ?rest15
  case hy15 => ((intro w0 hSw; go_simp); try (with_reducible rfl))
  try simp only [Act.put, List.setIfInBounds_toArray, List.set_cons_zero, List.set_cons_succ]
  refine wpAnyH_take (i := 9) (oi := ⟨some 14, Op.nilCheck (Operand.tmp 13), _, _, _, _⟩) (v := ?v16) rfl (by kernel_rfl) (by kernel_rfl) (by kernel_rfl) (fun _ _ _ h => h) (Or.inl ⟨by rfl, ?hy16⟩) (by assumption) ?rest16
  case hy16 => ((intro w0 hSw; go_simp); try (with_reducible rfl))
  try simp only [Act.put, List.setIfInBounds_toArray, List.set_cons_zero, List.set_cons_succ]
  refine wpAnyH_take (i := 10) (oi := ⟨some 15, Op.fieldAddr 74 (Operand.tmp 14) 2, _, _, _, _⟩) (v := ?v17) rfl (by kernel_rfl) (by kernel_rfl) (by kernel_rfl) (fun _ _ _ h => h) (Or.inl ⟨by rfl, ?hy17⟩) (by assumption) ?rest17
  case hy17 => ((intro w0 hSw; go_simp); try (with_reducible rfl))
  try simp only [Act.put, List.setIfInBounds_toArray, List.set_cons_zero, List.set_cons_succ]
  refine wpAnyH_take (i := 11) (oi := ⟨some 16, Op.load 70 (Operand.tmp 15), _, _, _, _⟩) (v := ?v18) rfl (by kernel_rfl) (by kernel_rfl) (by kernel_rfl) (fun _ _ _ h => h) (Or.inl ⟨by rfl, ?hy18⟩) (by assumption) ?rest18
  case hy18 => ((intro w0 hSw; have h1 := N9.out w0 hSw; go_simp); try (with_reducible rfl))
  try simp only [Act.put, List.setIfInBounds_toArray, List.set_cons_zero, List.set_cons_succ]
  refine wpAnyH_take (i := 13) (oi := ⟨some 18, Op.move (Operand.tmp 0), _, _, _, _⟩) (v := ?v19) rfl (by kernel_rfl) (by kernel_rfl) (by kernel_rfl) (fun _ _ _ h => h) (Or.inl ⟨by rfl, ?hy19⟩) (by assumption) ?rest19
  case hy19 => ((intro w0 hSw; go_simp); try (with_reducible rfl))
  try simp only [Act.put, List.setIfInBounds_toArray, List.set_cons_zero, List.set_cons_succ]
  refine wpAnyH_take (i := 14) (oi := ⟨some 19, Op.nilCheck (Operand.tmp 18), _, _, _, _⟩) (v := ?v20) rfl (by kernel_rfl) (by kernel_rfl) (by kernel_rfl) (fun _ _ _ h => h) (Or.inl ⟨by rfl, ?hy20⟩) (by assumption) ?rest20
  case hy20 => ((intro w0 hSw; go_simp); try (with_reducible rfl))
  try simp only [Act.put, List.setIfInBounds_toArray, List.set_cons_zero, List.set_cons_succ]
  refine wpAnyH_take (i := 15) (oi := ⟨some 20, Op.fieldAddr 74 (Operand.tmp 19) 3, _, _, _, _⟩) (v := ?v21) rfl (by kernel_rfl) (by kernel_rfl) (by kernel_rfl) (fun _ _ _ h => h) (Or.inl ⟨by rfl, ?hy21⟩) (by assumption) ?rest21
  case hy21 => ((intro w0 hSw; go_simp); try (with_reducible rfl))
  try simp only [Act.put, List.setIfInBounds_toArray, List.set_cons_zero, List.set_cons_succ]
  refine wpAnyH_take (i := 16) (oi := ⟨some 21, Op.load 3 (Operand.tmp 20), _, _, _, _⟩) (v := ?v22) rfl (by kernel_rfl) (by kernel_rfl) (by kernel_rfl) (fun _ _ _ h => h) (Or.inl ⟨by rfl, ?hy22⟩) (by assumption) ?rest22
  case hy22 => ((intro w0 hSw; have h1 := N10.out w0 hSw; go_simp); try (with_reducible rfl))
  try simp only [Act.put, List.setIfInBounds_toArray, List.set_cons_zero, List.set_cons_succ]
  refine wpAnyH_ready (rs := [12]) (by kernel_rfl) (by simp) ?_
  refine AllReadyH.cons (o := ⟨some 17, Op.call { callee := Callee.value (Operand.func 40), args := #[(Operand.tmp 16)], argTypes := #[70] }, _, _, _, _⟩) rfl (fun K hK => ?_) AllReadyH.nil
  go_simp
  (with_reducible refine (HC.out _ hHeld).mono ?_); rintro e w8 ⟨p', v', rfl, hp8, hP8, hg8, hv8⟩; have HP8 := Lib.hid hP8; have HP8b : Hid (w.heap.size ≤ p') := Lib.hid (Nat.le_trans hHeld.size hp8); have HG8 := Lib.hid (grown_trans hHeld hg8); have HV8 : Hid (∀ k, v'.ownBlock = some k → w.heap.size ≤ k) := Lib.hid (fun k hk => Nat.le_trans hHeld.size (hv8 k hk)); clear hP8 hv8
  go_wp2_with fail
  refine hK.out _ _ HG8.out (fun hHeld => ?_)
  clear hK K
  try simp only [Act.put, List.setIfInBounds_toArray, List.set_cons_zero, List.set_cons_succ]
  refine wpAnyH_take (i := 17) (oi := ⟨some 22, Op.build 74 #[(0, (Operand.tmp 8)), (1, (Operand.tmp 12)), (2, (Operand.tmp 17)), (3, (Operand.tmp 21))], _, _, _, _⟩) (v := ?v23) rfl (by kernel_rfl) (by kernel_rfl) (by kernel_rfl) (fun _ _ _ h => h) (Or.inl ⟨by rfl, ?hy23⟩) (by assumption) ?rest23
  case hy23 => ((intro w0 hSw; go_simp); try (with_reducible rfl))
  try simp only [Act.put, List.setIfInBounds_toArray, List.set_cons_zero, List.set_cons_succ]
  refine wpAnyH_ready (rs := [18]) (by kernel_rfl) (by simp) ?_
  refine AllReadyH.cons (o := ⟨some 23, Op.box 74 (Operand.tmp 22), _, _, _, _⟩) rfl (fun K hK => ?_) AllReadyH.nil
  go_simp
  refine hK.out _ _ (grown_alloc HG8.out _) (fun hHeld => ?_)
  clear hK K
  try simp only [Act.put, List.setIfInBounds_toArray, List.set_cons_zero, List.set_cons_succ]
  refine wpAnyH_take (i := 19) (oi := ⟨some 2, Op.assign (Operand.tmp 23), _, _, _, _⟩) (v := ?v24) rfl (by kernel_rfl) (by kernel_rfl) (by kernel_rfl) (fun _ _ _ h => h) (Or.inl ⟨by rfl, ?hy24⟩) (by assumption) ?rest24
  case hy24 => ((intro w0 hSw; go_simp); try (with_reducible rfl))
  try simp only [Act.put, List.setIfInBounds_toArray, List.set_cons_zero, List.set_cons_succ]
  refine wpAnyH_done (by kernel_rfl) ?_ _
  go_wp2_with fail
  go_ret
  have hs8 := HG8.out.size
  refine ⟨w8.heap.size, p', v', rfl, ⟨heap_alloc_new _ _, HP8.out.grown (grown_alloc (grown_refl _ _) _), HI.out⟩, grown_alloc HG8.out _, hs8, HP8b.out, HV8.out⟩
end
end Go.Proofs.YtoemkhmbeiindaaDoor.tt
