/-
  The law BacksPlay returns true: the walk. Condition: the table of bounds lies in its variable as the program's text has it; that the script lies where the argument says.
-/
import Derived.Test.YtoifeinkaaclmaaDoorBkT
namespace Go.Proofs.YtoifeinkaaclmaaDoor.bk
open Go Go.ChangeShapes Go.WideShapes Go.ChangeAt Go.RowKit
open Go.Proofs.YtoifeinkaaclmaaDoor.tt (Cfg Tab CfgAt cfg_at rmay_any hb_bounds data_yes eql29k U zd row tyne add_lit lt_of range_grown grown_setCells grown_setRow grown_new grown_drewN below_of grown_alloc grown_refl grown_trans grown_drew Sl Pool Turn Next flat)
set_option linter.unusedVariables false
set_option linter.unusedSimpArgs false
set_option maxRecDepth 1000000

/-- The row that the law puts. -/
def dz (x : Int) : List Int := [x, x, 0, 0, 0, 0, 0, 0, 0, 0, 0, 0, 0, 0, 0, x]
theorem dz_len (x : Int) : (dz x).length = 16 := rfl
section
variable {w w1 w2 : World} {t p r g N m : Nat} {v v' : Value} {n : Int} {ns ns2 : List Bk}
/-- The document's are left alone by a call on the program's; and the other way about. -/
theorem RAt.turn (A : RAt w1 r g N m ns) (h : Own w w1 t p v n m ns2) (hT : Turn w1 w2 p v v') : RAt w2 r g N m ns := by
  obtain ⟨cur, hc⟩ := A.typ
  exact A.of_block ((h.aside hT A.blk (by decide) (by decide)).trans A.blk.symm) ((h.aside hT hc (by decide) (by decide)).trans hc.symm)
theorem Own.wrote (h : Own w w1 t p v n m ns2) (A : RAt w1 r g N m ns) (hg : w1.grownBy w2 (some g)) (hge : w.heap.size ≤ g) : Own w w2 t p v n m ns2 := by
  obtain ⟨cur, hc⟩ := A.typ
  exact ⟨h.bk.of_block (hg.block t h.bk.lt (fun e => tyne h.bk.blk hc (by decide) (Option.some.inj e))) (hg.block p h.bk.pool.lt (fun e => tyne h.bk.pool.blk hc (by decide) (Option.some.inj e))) (fun k e => hg.block k (h.bk.pool.sl.lt k e) (fun e2 => by
    obtain ⟨cur2, hc2⟩ := h.bk.pool.sl.type k e
    exact tyne hc2 hc (by decide) (Option.some.inj e2))), grown_new h.old hge hg, h.hp, h.hv⟩
end
/-- Both, side by side. -/
structure Both (w w1 : World) (t p : Nat) (v : Value) (r g N m : Nat) (ns : List Bk) : Prop where
  own : Own w w1 t p v (N : Int) m ns
  ref : RAt w1 r g N m ns
  nd : Nd ns
  rg : Rg (N : Int) ns
theorem Both.grown {w w1 w2 : World} {t p : Nat} {v : Value} {r g N m : Nat} {ns : List Bk} (h : Both w w1 t p v r g N m ns) (hg : w1.grownBy w2 none) : Both w w2 t p v r g N m ns := ⟨h.own.grown hg, h.ref.grown hg, h.nd, h.rg⟩
theorem putz {w w1 : World} {t p : Nat} {v : Value} {n : Int} {m : Nat} {ns : List Bk} (h : Own w w1 t p v n m ns) (b x : Int) : Calls Tryd.prog 11 #[.pointer (some ⟨t, 0, none⟩), .int .i64 b, .agg (row (dz x))] w1 fun e w2 => e = .returned (.int .i64 (putE n m ns b)) ∧ ∃ v', Own w w2 t p v' n m (puts n m ns b (dz x) (dz_len x)) ∧ Turn w1 w2 p v v' := own_put h b (dz x) (dz_len x)
set_option maxHeartbeats 1000000 in
theorem play_long (c : Cfg) (ad : Option Addr) (len cap : Nat) (w : World) (hT : Tab w) (h : 300 < len) : Calls Tryd.prog 4 #[.agg c.cells, .slice ad len cap] w fun e w' => e = .returned (.bool true) ∧ w.grownBy w' none := by
  have hd : decide ((300 : Int) < (len : Int)) = true := by simp; omega
  have hg0 : w.grownBy (w.alloc (.cells c.cells 27)) none := grown_alloc (grown_refl _ _) _
  have HW := Lib.hid (works_any _ (hT.grown hg0))
  have HG0 := Lib.hid hg0
  clear hT h hg0
  unfold Cfg.cells at *
  go_enter Tryd.func4, Tryd.ntmps4
  go_wp2_with (go_at_call 10; ((with_reducible refine HW.out.mono ?_); rintro e w3 ⟨rfl, hg3⟩; have HG3 := Lib.hid hg3; clear hg3))
  go_ret
  exact ⟨rfl, grown_trans HG0.out HG3.out⟩
set_option maxHeartbeats 1000000 in
theorem play_no (c : Cfg) (ad : Option Addr) (len cap : Nat) (w : World) (hT : Tab w) (h : len ≤ 300) (hm : ¬ c.may) : Calls Tryd.prog 4 #[.agg c.cells, .slice ad len cap] w fun e w' => e = .returned (.bool true) ∧ w.grownBy w' none := by
  have hd : decide ((300 : Int) < (len : Int)) = false := by simp; omega
  have hg0 : w.grownBy (w.alloc (.cells c.cells 27)) none := grown_alloc (grown_refl _ _) _
  have HN := Lib.hid (new_no c _ (hT.grown hg0) hm)
  have HM : Hid (∀ w', _) := Lib.hid fun w' => rmay_any c w'
  rw [decide_eq_false hm] at HM
  have HW : Hid (∀ w', w.grownBy w' none → _) := Lib.hid (fun w' h => works_any w' (hT.grown h))
  obtain ⟨c0, c1, c2, c3, c4, c5, c6, c7⟩ := cfg_at w c
  have HCA := Lib.hid (cfg_at w c)
  have HG0 := Lib.hid hg0
  clear hT h hm hg0
  unfold Cfg.cells at HN HM HG0 HCA c0 c1 c2 c3 c4 c5 c6 c7 ⊢
  go_enter Tryd.func4, Tryd.ntmps4
  go_wp2_with (first
    | (go_at_call 8; ((with_reducible refine HN.out.mono ?_); rintro e w2 ⟨rfl, hg2⟩; have HG2 := Lib.hid (grown_trans HG0.out hg2); obtain ⟨d0, d1, d2, d3, d4, d5, d6, d7⟩ := HCA.out.grown hg2; clear hg2))
    | (go_at_call 18; ((with_reducible refine (HM.out _).mono ?_); rintro e w4 ⟨rfl, hg4⟩; have HG4 := Lib.hid (grown_trans HG2.out hg4); clear hg4))
    | (go_at_call 10; ((with_reducible refine (HW.out _ HG4.out).mono ?_); rintro e w3 ⟨rfl, hg3⟩; have HG3 := Lib.hid (grown_trans HG4.out hg3); clear hg3)))
  go_ret
  exact ⟨rfl, HG3.out⟩
set_option maxHeartbeats 16000000 in
theorem play_some (c : Cfg) (os : List OpX) (ad : Option Addr) (len cap : Nat) (w : World) (hT : Tab w) (hlen : len = os.length) (hat : OpsAt w ad os) (h : len ≤ 300) (hm : c.may) : Calls Tryd.prog 4 #[.agg c.cells, .slice ad len cap] w fun e w' => e = .returned (.bool true) ∧ w.grownBy w' none := by
  obtain ⟨m, hba, hm1, hm4⟩ := may_ba hm
  obtain ⟨N, hN⟩ : ∃ N : Nat, c.data = (N : Int) := ⟨c.data.toNat, by have := cfg_data hm; omega⟩
  have hN1 : N ≤ 256 := by have := cfg_data hm; omega
  have HNN := Lib.hid hN1
  have hd : decide ((300 : Int) < (len : Int)) = false := by simp; omega
  have hg0 : w.grownBy (w.alloc (.cells c.cells 27)) none := grown_alloc (grown_refl _ _) _
  have HN := Lib.hid (own_new c m _ (hT.grown hg0) hm hba hm1 (by omega))
  rw [hN] at HN
  have HMY : Hid (∀ w', _) := Lib.hid fun w' => rmay_any c w'
  rw [decide_eq_true hm] at HMY
  have HRN : Hid (∀ w', _) := Lib.hid fun w' => rnew_any c N m w' hm hN hN1 hba
  have HW : Hid (∀ w', w.grownBy w' none → _) := Lib.hid (fun w' h => works_any w' (hT.grown h))
  obtain ⟨c0, c1, c2, c3, c4, c5, c6, c7⟩ := cfg_at w c
  have HCA := Lib.hid (cfg_at w c)
  have HM : Hid (c.ba = (m : Int) ∧ 1 ≤ m ∧ m ≤ 4) := Lib.hid ⟨hba, hm1, hm4⟩
  have HG0 := Lib.hid hg0
  have HLEN := Lib.hid hlen
  have H300 := Lib.hid h
  have HAT := Lib.hid (fun w' (h : w.grownBy w' none) => hat.grown h)
  clear hT hm hba hm1 hm4 hg0 hlen hat h hN hN1
  unfold Cfg.cells at HN HMY HRN HG0 HCA c0 c1 c2 c3 c4 c5 c6 c7 ⊢
  obtain ⟨wb, hwb⟩ : ∃ wb, w.alloc (.cells #[.int .i64 c.co, .int .i64 c.se, .int .i64 c.wa, .int .i64 c.bl, .int .i64 c.lo, .int .i64 c.ba, .int .i64 c.ne, .int .i64 c.tr] 27) = wb := ⟨_, rfl⟩
  have HWB := Lib.hid hwb
  rw [hwb] at HCA
  have HAT := Lib.hid fun (w' : World) (h : wb.grownBy w' none) => HAT.out w' (grown_trans HG0.out (by rw [HWB.out]; exact h))
  have HWb := Lib.hid fun (w' : World) (h : wb.grownBy w' none) => HW.out w' (grown_trans HG0.out (by rw [HWB.out]; exact h))
  have HFIN := Lib.hid fun (w' : World) (h : wb.grownBy w' none) => grown_trans HG0.out (by rw [HWB.out]; exact h)
  clear hwb HG0 HW
  go_enter Tryd.func4, Tryd.ntmps4
  go_wp2_with (first
    | (go_at_call 8; ((with_reducible refine HN.out.mono ?_); rintro e w2 ⟨t, p, rfl, ho2⟩; (rw [HWB.out] at ho2); have H2 := Lib.hid ho2; obtain ⟨d0, d1, d2, d3, d4, d5, d6, d7⟩ := HCA.out.grown ho2.old; clear ho2 c0 c1 c2 c3 c4 c5 c6 c7))
    | (go_at_call 18; ((with_reducible refine (HMY.out _).mono ?_); rintro e w4 ⟨rfl, hg4⟩; have H4 := Lib.hid (H2.out.grown hg4); obtain ⟨e0, e1, e2, e3, e4, e5, e6, e7⟩ := HCA.out.grown H4.out.old; clear hg4 d0 d1 d2 d3 d4 d5 d6 d7))
    | (go_at_call 19; ((with_reducible refine (HRN.out _).mono ?_); rintro e w5 ⟨r, g, rfl, hr5, hg5, hr, hg⟩; have H5 : Hid (Both wb w5 t p (.slice none 0 0) r g N m []) := Lib.hid ⟨H4.out.grown hg5, hr5, nd_nil, fun x hx => by cases hx⟩; have HGE : Hid (wb.heap.size ≤ g) := Lib.hid (Nat.le_trans H4.out.old.size hg); clear hr5 hg5 hr hg e0 e1 e2 e3 e4 e5 e6 e7))
    | fail)
  clear HN HMY HRN H2 H4
  go_loopw [46, 5] (fun i tv wr => ∃ (j t p : Nat) (v : Value) (ns : List Bk), j ≤ len ∧ i = .int .i64 (j : Int) ∧ tv = .pointer (some ⟨t, 0, none⟩) ∧ Both wb wr t p v r g N m ns) (fun i _ _ => len - (intOf i).toNat)
  case atStart => exact ⟨0, _, _, _, [], Nat.zero_le _, rfl, rfl, H5.out⟩
  case round =>
    clear H5
    obtain ⟨j, t, p, v, ns, hj, rfl, rfl, ho⟩ := hrel
    have HO := Lib.hid ho
    have hj300 : j ≤ 300 := by have := H300.out; omega
    clear ho
    by_cases hlt : j < len
    · obtain ⟨⟨kd, b, x⟩, hq⟩ : ∃ q, os[j]? = some q := ⟨_, List.getElem?_eq_getElem (by have := HLEN.out; omega)⟩
      obtain ⟨bp, op, rfl, hr0, hr1, hr2⟩ := HAT.out _ HO.out.own.old j _ hq
      clear hq
      dsimp only at hr0 hr1 hr2
      by_cases hk0 : kd = 0
      · subst hk0
        have HX2 : Hid (wr.grownBy ((wr.alloc (.cells #[.int .i64 0, .int .i64 b, .int .u32 x] 44)).alloc (.cells (row (dz x)) 33)) none) := Lib.hid (grown_alloc (grown_alloc (grown_refl _ _) _) _)
        have HO2 := Lib.hid (HO.out.grown HX2.out)
        have HQ2 : Hid (((wr.alloc (.cells #[.int .i64 0, .int .i64 b, .int .u32 x] 44)).alloc (.cells (row (dz x)) 33)).heap[wr.heap.size]? = some (.cells #[.int .i64 0, .int .i64 b, .int .u32 x] 44 (0, 0))) := Lib.hid ((Below.heap_alloc _ _ _ (by simp)).trans (heap_alloc_new _ _))
        have HD2 : Hid (((wr.alloc (.cells #[.int .i64 0, .int .i64 b, .int .u32 x] 44)).alloc (.cells (row (dz x)) 33)).heap[wr.heap.size + 1]? = some (.cells (row (dz x)) 33 (0, 0))) := Lib.hid (by have h := heap_alloc_new (wr.alloc (.cells #[.int .i64 0, .int .i64 b, .int .u32 x] 44)) (.cells (row (dz x)) 33); rwa [World.size_alloc] at h)
        go_wp2_with (first
          | ((with_reducible refine store_rownS (dz x) rfl _ _ rfl _ _ (wr.heap.size + 1) ?_ ?_ ?_ ?_ ?_); (exact (World.size_alloc _ _).symm); (rfl); (rfl); (rfl))
          | fail)
        obtain ⟨X2, hX2⟩ : ∃ W, (wr.alloc (.cells #[.int .i64 0, .int .i64 b, .int .u32 x] 44)).alloc (.cells (row (dz x)) 33) = W := ⟨_, rfl⟩
        rw [hX2] at HX2 HO2 HQ2 HD2 ⊢
        clear hX2
        have c1 : X2.cell? ⟨wr.heap.size, 1, none⟩ = some (.int .i64 b) := (by simp [World.cell?, HQ2.out])
        obtain ⟨ty, sz, HTY, hagg, hsize, hld, hsr, hst⟩ := named29
        have hsr := hsr (dz x) (dz_len x)
        have HLD : Hid (∀ W : World, W.heap[wr.heap.size + 1]? = some (.cells (row (dz x)) 33 (0, 0)) → (loadCellsFrom ⟨wr.heap.size + 1, 0, none⟩ 0 sz #[]).run Tryd.prog W = .ok (row (dz x)) W) := Lib.hid fun W h => hld _ 0 (dz x) (dz_len x) W (range_row h)
        clear hld hst
        rw [HTY.out.1]
        refine wp_region_held_drew (S := fun W => W.cell? ⟨wr.heap.size, 1, none⟩ = some (.int .i64 b) ∧ (loadCellsFrom ⟨wr.heap.size + 1, 0, none⟩ 0 sz #[]).run Tryd.prog W = .ok (row (dz x)) W) (by kernel_rfl) ⟨c1, HLD.out _ HD2.out⟩ (fun hHeld => ?_)
        have HB0 := Lib.hid (HO2.out.grown (grown_drew (grown_refl _ _)))
        have HQ0 : Hid (X2.drew.heap[wr.heap.size]? = _) := Lib.hid HQ2.out
        have HD0 : Hid (X2.drew.heap[wr.heap.size + 1]? = _) := Lib.hid HD2.out
        generalize X2.drew = W0 at hHeld HB0 HQ0 HD0 ⊢
        refine wpAnyH_take (i := 0) (oi := ⟨some 61, Op.move (Operand.tmp 5), _, _, _, _⟩) (v := ?v1) rfl (by kernel_rfl) (by kernel_rfl) (by kernel_rfl) (fun _ _ _ h => h) (Or.inl ⟨by rfl, ?hy1⟩) (by assumption) ?rest1
        case hy1 => ((intro w0 hSw; obtain ⟨hs1, hs2⟩ := hSw; go_simp); try (with_reducible rfl))
        try simp only [Act.put, List.setIfInBounds_toArray, List.set_cons_zero, List.set_cons_succ]
        refine wpAnyH_take (i := 1) (oi := ⟨some 62, Op.fieldAddr 44 (Operand.tmp 9) 1, _, _, _, _⟩) (v := ?v2) rfl (by kernel_rfl) (by kernel_rfl) (by kernel_rfl) (fun _ _ _ h => h) (Or.inl ⟨by rfl, ?hy2⟩) (by assumption) ?rest2
        case hy2 => ((intro w0 hSw; obtain ⟨hs1, hs2⟩ := hSw; go_simp); try (with_reducible rfl))
        try simp only [Act.put, List.setIfInBounds_toArray, List.set_cons_zero, List.set_cons_succ]
        refine wpAnyH_take (i := 2) (oi := ⟨some 63, Op.load 3 (Operand.tmp 62), _, _, _, _⟩) (v := ?v3) rfl (by kernel_rfl) (by kernel_rfl) (by kernel_rfl) (fun _ _ _ h => h) (Or.inl ⟨by rfl, ?hy3⟩) (by assumption) ?rest3
        case hy3 => ((intro w0 hSw; obtain ⟨hs1, hs2⟩ := hSw; go_simp); try (with_reducible rfl))
        try simp only [Act.put, List.setIfInBounds_toArray, List.set_cons_zero, List.set_cons_succ]
        refine wpAnyH_take (i := 3) (oi := ⟨some 64, Op.load ty (Operand.tmp 10), _, _, _, _⟩) (v := ?v4) rfl (by kernel_rfl) (by kernel_rfl) (by kernel_rfl) (fun _ _ _ h => h) (Or.inl ⟨by rfl, ?hy4⟩) (by assumption) ?rest4
        case hy4 => ((intro w0 hSw; obtain ⟨hs1, hs2⟩ := hSw; go_simp); try (with_reducible rfl))
        try simp only [Act.put, List.setIfInBounds_toArray, List.set_cons_zero, List.set_cons_succ]
        refine wpAnyH_take (i := 5) (oi := ⟨some 66, Op.move (Operand.tmp 7), _, _, _, _⟩) (v := ?v5) rfl (by kernel_rfl) (by kernel_rfl) (by kernel_rfl) (fun _ _ _ h => h) (Or.inl ⟨by rfl, ?hy5⟩) (by assumption) ?rest5
        case hy5 => ((intro w0 hSw; obtain ⟨hs1, hs2⟩ := hSw; go_simp); try (with_reducible rfl))
        try simp only [Act.put, List.setIfInBounds_toArray, List.set_cons_zero, List.set_cons_succ]
        refine wpAnyH_take (i := 6) (oi := ⟨some 67, Op.fieldAddr 44 (Operand.tmp 9) 1, _, _, _, _⟩) (v := ?v6) rfl (by kernel_rfl) (by kernel_rfl) (by kernel_rfl) (fun _ _ _ h => h) (Or.inl ⟨by rfl, ?hy6⟩) (by assumption) ?rest6
        case hy6 => ((intro w0 hSw; obtain ⟨hs1, hs2⟩ := hSw; go_simp); try (with_reducible rfl))
        try simp only [Act.put, List.setIfInBounds_toArray, List.set_cons_zero, List.set_cons_succ]
        refine wpAnyH_take (i := 7) (oi := ⟨some 68, Op.load 3 (Operand.tmp 67), _, _, _, _⟩) (v := ?v7) rfl (by kernel_rfl) (by kernel_rfl) (by kernel_rfl) (fun _ _ _ h => h) (Or.inl ⟨by rfl, ?hy7⟩) (by assumption) ?rest7
        case hy7 => ((intro w0 hSw; obtain ⟨hs1, hs2⟩ := hSw; go_simp); try (with_reducible rfl))
        try simp only [Act.put, List.setIfInBounds_toArray, List.set_cons_zero, List.set_cons_succ]
        refine wpAnyH_take (i := 8) (oi := ⟨some 69, Op.load ty (Operand.tmp 10), _, _, _, _⟩) (v := ?v8) rfl (by kernel_rfl) (by kernel_rfl) (by kernel_rfl) (fun _ _ _ h => h) (Or.inl ⟨by rfl, ?hy8⟩) (by assumption) ?rest8
        case hy8 => ((intro w0 hSw; obtain ⟨hs1, hs2⟩ := hSw; go_simp); try (with_reducible rfl))
        try simp only [Act.put, List.setIfInBounds_toArray, List.set_cons_zero, List.set_cons_succ]
        refine wpAnyH_ready (rs := [4]) (by kernel_rfl) (by simp) ?_
        refine AllReadyH.cons (o := ⟨some 65, Op.call { callee := Callee.value (Operand.func 11), args := #[(Operand.tmp 61), (Operand.tmp 63), (Operand.tmp 64)], argTypes := #[22, 3, 33] }, _, _, _, _⟩) rfl (fun K hK => ?_) AllReadyH.nil
        go_simp
        have HC1 := Lib.hid (putz HB0.out.own b x)
        obtain ⟨E0, hE0⟩ : ∃ E, E = putE (N : Int) m ns b := ⟨_, rfl⟩
        rw [← hE0] at HC1
        have HE0 := Lib.hid hE0
        clear hE0
        (with_reducible refine HC1.out.mono ?_); rintro e w4 ⟨rfl, v4, ho4, ht4⟩
        have HO4 := Lib.hid ho4
        have HR4 := Lib.hid (HB0.out.ref.turn HB0.out.own ht4)
        have HQ4 := Lib.hid (HB0.out.own.aside ht4 HQ0.out (by decide) (by decide))
        have HD4 := Lib.hid (HB0.out.own.aside ht4 HD0.out (by decide) (by decide))
        clear ho4 ht4 HC1
        go_wp2_with fail
        refine hK.out _ _ (⟨by simp [World.cell?, HQ4.out], HLD.out _ HD4.out⟩) (fun hHeld => ?_)
        clear hK K
        try simp only [Act.put, List.setIfInBounds_toArray, List.set_cons_zero, List.set_cons_succ]
        refine wpAnyH_ready (rs := [9]) (by kernel_rfl) (by simp) ?_
        refine AllReadyH.cons (o := ⟨some 70, Op.call { callee := Callee.value (Operand.func 20), args := #[(Operand.tmp 66), (Operand.tmp 68), (Operand.tmp 69)], argTypes := #[41, 3, 33] }, _, _, _, _⟩) rfl (fun K hK => ?_) AllReadyH.nil
        go_simp
        have HC2 := Lib.hid (rput_any HR4.out HNN.out HB0.out.nd HB0.out.rg HB0.out.own.bk.len b (dz x) (dz_len x))
        rw [← HE0.out] at HC2
        (with_reducible refine HC2.out.mono ?_); rintro e w5 ⟨rfl, hr5, hg5⟩
        have HO5 := Lib.hid (HO4.out.wrote HR4.out hg5 HGE.out)
        obtain ⟨cur, hty⟩ := HR4.out.typ
        have HQW := Lib.hid ((hg5.block _ (lt_of HQ4.out) (fun e => tyne HQ4.out hty (by decide) (Option.some.inj e))).trans HQ4.out)
        have HD5 := Lib.hid ((hg5.block _ (lt_of HD4.out) (fun e => tyne HD4.out hty (by decide) (Option.some.inj e))).trans HD4.out)
        have HB5 := Lib.hid (Both.mk HO5.out hr5 (nd_puts _ _ _ _ _ HB0.out.nd) (rg_puts _ _ _ HB0.out.rg))
        clear hr5 hg5 hty HC2
        go_wp2_with fail
        refine hK.out _ _ (⟨by simp [World.cell?, HQW.out], HLD.out _ HD5.out⟩) (fun hHeld => ?_)
        clear hK K
        try simp only [Act.put, List.setIfInBounds_toArray, List.set_cons_zero, List.set_cons_succ]
        refine wpAnyH_take (i := 10) (oi := ⟨some 71, Op.binOp BinOp.eql 23 (Operand.tmp 65) (Operand.tmp 70) _, _, _, _, _⟩) (v := ?v9) rfl (by kernel_rfl) (by kernel_rfl) (by kernel_rfl) (fun _ _ _ h => h) (Or.inl ⟨by rfl, ?hy9⟩) (by assumption) ?rest9
        case hy9 => ((intro w0 hSw; go_simp); try (with_reducible rfl))
        try simp only [Act.put, List.setIfInBounds_toArray, List.set_cons_zero, List.set_cons_succ]
        refine wpAnyH_take (i := 11) (oi := ⟨some 11, Op.assign (Operand.tmp 71), _, _, _, _⟩) (v := ?v10) rfl (by kernel_rfl) (by kernel_rfl) (by kernel_rfl) (fun _ _ _ h => h) (Or.inl ⟨by rfl, ?hy10⟩) (by assumption) ?rest10
        case hy10 => ((intro w0 hSw; go_simp); try (with_reducible rfl))
        try simp only [Act.put, List.setIfInBounds_toArray, List.set_cons_zero, List.set_cons_succ]
        refine wpAnyH_done (by kernel_rfl) ?_ _
        clear hsr hsize hagg HLD
        clear hHeld HO4 HR4 HO5 HB0
        obtain ⟨NS, hNS⟩ : ∃ NS, NS = puts (N : Int) m ns b (dz x) (dz_len x) := ⟨_, rfl⟩
        rw [← hNS] at HB5
        clear hNS
        obtain ⟨D, hD⟩ : ∃ D, D = fd (look NS b) := ⟨_, rfl⟩
        obtain ⟨FL, hFL⟩ : ∃ FL, FL = fl (look NS b) := ⟨_, rfl⟩
        obtain ⟨IS, hIS⟩ : ∃ IS, IS = (look NS b).isSome := ⟨_, rfl⟩
        have HF1 := Lib.hid (own_find HB5.out.own b)
        have HF2 : Hid (∀ (W : World), RAt W r g N m NS → _) := Lib.hid fun W h => rfind_any h HB5.out.rg b
        rw [← hD, ← hFL, ← hIS] at HF1 HF2
        have HDL : Hid (D.length = 16) := Lib.hid (by rw [hD]; exact fd_len _)
        have hq := eqD D HDL.out
        have hb1 := eqB FL
        have hb2 := eqB IS
        have q1 : w5.cell? ⟨wr.heap.size, 1, none⟩ = some (.int .i64 b) := (by simp [World.cell?, HQW.out])
        clear hD hFL hIS
        go_wp2_with (first
          | (go_at_call 13; ((with_reducible refine HF1.out.mono ?_); rintro e w8 ⟨rfl, v8, ho8, ht8⟩; have B8 := Lib.hid (Both.grown (w2 := w8.alloc (.cells (row D) 33)) ⟨ho8, HB5.out.ref.turn HB5.out.own ht8, HB5.out.nd, HB5.out.rg⟩ (grown_alloc (grown_refl _ _) _)); have HD8 : Hid ((w8.alloc (.cells (row D) 33)).heap[w8.heap.size]? = some (.cells (row D) 33 (0, 0))) := Lib.hid (heap_alloc_new _ _); have hq8 := HB5.out.own.aside ht8 HQW.out (by decide) (by decide); have HQ8 := Lib.hid ((Below.heap_alloc w8 (.cells (row D) 33) _ (lt_of hq8)).trans hq8); have q8 : (w8.alloc (.cells (row D) 33)).cell? ⟨wr.heap.size, 1, none⟩ = some (.int .i64 b) := (by simp [World.cell?, HQ8.out]); clear ho8 ht8 hq8 q1))
          | ((with_reducible refine store_rown D HDL.out _ _ rfl _ _ ?_ ?_ ?_ ?_); (rfl); (rfl); (rfl))
          | (go_at_call 23; ((with_reducible refine (HF2.out _ B8.out.ref).mono ?_); rintro e w9 ⟨rfl, hg9⟩; have B9 := Lib.hid (B8.out.grown (w2 := w9.alloc (.cells (row D) 33)) (grown_alloc hg9 _)); have HD9 := Lib.hid ((Below.heap_alloc w9 (.cells (row D) 33) _ (lt_of ((hg9.block _ (lt_of HD8.out) (by simp)).trans HD8.out))).trans ((hg9.block _ (lt_of HD8.out) (by simp)).trans HD8.out)); have HE9 : Hid ((w9.alloc (.cells (row D) 33)).heap[w9.heap.size]? = some (.cells (row D) 33 (0, 0))) := Lib.hid (heap_alloc_new _ _); clear hg9 q8))
          | fail)
        obtain ⟨wz, hwz⟩ : ∃ W, w9.alloc (.cells (row D) 33) = W := ⟨_, rfl⟩
        rw [hwz] at B9 HD9 HE9 ⊢
        clear hwz HF1 HF2 B8
        obtain ⟨g0, g1, g2, g3, g4, g5, g6, g7⟩ := HCA.out.grown B9.out.own.old
        have hlm := B9.out.own.bk.len
        obtain ⟨L, hL⟩ : ∃ L : Int, L = (NS.length : Int) := ⟨_, rfl⟩
        obtain ⟨r7, hr7⟩ : ∃ q : Int, q = (m : Int) - L := ⟨_, rfl⟩
        have HLE : Hid (∀ k, _) := Lib.hid fun k => len_any _ _ _ _ _ _ _ (B9.out.own.grown (grown_drewN (grown_refl _ none) k)).bk
        have HRE : Hid (∀ k, _) := Lib.hid fun k => room_any _ _ _ _ _ _ _ (B9.out.own.grown (grown_drewN (grown_refl _ none) k)).bk
        have HRL : Hid (∀ k, _) := Lib.hid fun k => rlen_any (B9.out.ref.grown (grown_drewN (grown_refl _ none) k)) HNN.out B9.out.nd B9.out.rg
        rw [← hL] at HLE HRE HRL
        rw [← hr7] at HRE
        have i2 : c.ba - L = r7 := by have := HM.out.1; omega
        have i3 : IntKind.i64.wrap r7 = r7 := by have := HM.out; simp [IntKind.wrap, IntKind.bits, IntKind.signed]; omega
        have i4 : (L != L) = false := by simp
        have i5 : (r7 != r7) = false := by simp
        obtain ⟨tq, sq, HTQ, haq, hzq, hlq, hsq, htq⟩ := named29
        have hsq := hsq D HDL.out
        have l1 : ∀ k, (loadCellsFrom ⟨w8.heap.size, 0, none⟩ 0 sq #[]).run Tryd.prog (wz.drewN k) = .ok (row D) (wz.drewN k) := fun k => hlq _ 0 D HDL.out _ (range_grown (range_row HD9.out) (grown_drewN (grown_refl _ none) k) (by simp))
        have l2 : ∀ k, (loadCellsFrom ⟨w9.heap.size, 0, none⟩ 0 sq #[]).run Tryd.prog (wz.drewN k) = .ok (row D) (wz.drewN k) := fun k => hlq _ 0 D HDL.out _ (range_grown (range_row HE9.out) (grown_drewN (grown_refl _ none) k) (by simp))
        clear hL hr7 hlm hlq htq
        rw [HTQ.out.1]
        go_quiet (first
          | (go_at_call 16; exact Calls.quiet_of_same ((HLE.out _).mono fun _ _ he => ⟨he.1, he.2.symm⟩))
          | (go_at_call 24; exact Calls.quiet_of_same ((HRL.out _).mono fun _ _ he => ⟨he.1, he.2.symm⟩))
          | (go_at_call 15; exact Calls.quiet_of (HRE.out _)))
        clear i2 i3 i4 i5 l1 l2
        go_wp2_with fail
        go_roundw
        case rel => exact ⟨j + 1, _, _, _, NS, by omega, by go_num, rfl, B9.out.grown (grown_drewN (grown_refl _ _) _)⟩
        case measure => simp [intOf]; omega
      · by_cases hk2 : kd = 2
        · subst hk2
          clear hk0
          have HX2 : Hid (wr.grownBy ((wr.alloc (.cells #[.int .i64 2, .int .i64 b, .int .u32 x] 44)).alloc (.cells (row (dz x)) 33)) none) := Lib.hid (grown_alloc (grown_alloc (grown_refl _ _) _) _)
          have HO2 := Lib.hid (HO.out.grown HX2.out)
          have HQ2 : Hid (((wr.alloc (.cells #[.int .i64 2, .int .i64 b, .int .u32 x] 44)).alloc (.cells (row (dz x)) 33)).heap[wr.heap.size]? = some (.cells #[.int .i64 2, .int .i64 b, .int .u32 x] 44 (0, 0))) := Lib.hid ((Below.heap_alloc _ _ _ (by simp)).trans (heap_alloc_new _ _))
          have HD2 : Hid (((wr.alloc (.cells #[.int .i64 2, .int .i64 b, .int .u32 x] 44)).alloc (.cells (row (dz x)) 33)).heap[wr.heap.size + 1]? = some (.cells (row (dz x)) 33 (0, 0))) := Lib.hid (by have h := heap_alloc_new (wr.alloc (.cells #[.int .i64 2, .int .i64 b, .int .u32 x] 44)) (.cells (row (dz x)) 33); rwa [World.size_alloc] at h)
          go_wp2_with (first
            | ((with_reducible refine store_rownS (dz x) rfl _ _ rfl _ _ (wr.heap.size + 1) ?_ ?_ ?_ ?_ ?_); (exact (World.size_alloc _ _).symm); (rfl); (rfl); (rfl))
            | fail)
          obtain ⟨X2, hX2⟩ : ∃ W, (wr.alloc (.cells #[.int .i64 2, .int .i64 b, .int .u32 x] 44)).alloc (.cells (row (dz x)) 33) = W := ⟨_, rfl⟩
          rw [hX2] at HX2 HO2 HQ2 HD2 ⊢
          clear hX2
          have c1 : X2.cell? ⟨wr.heap.size, 1, none⟩ = some (.int .i64 b) := (by simp [World.cell?, HQ2.out])
          refine wp_region_held_drew (S := fun W => W.cell? ⟨wr.heap.size, 1, none⟩ = some (.int .i64 b)) (by kernel_rfl) c1 (fun hHeld => ?_)
          have HB0 := Lib.hid (HO2.out.grown (grown_drew (grown_refl _ _)))
          have HQ0 : Hid (X2.drew.heap[wr.heap.size]? = _) := Lib.hid HQ2.out
          have HD0 : Hid (X2.drew.heap[wr.heap.size + 1]? = _) := Lib.hid HD2.out
          generalize X2.drew = W0 at hHeld HB0 HQ0 HD0 ⊢
          refine wpAnyH_take (i := 0) (oi := ⟨some 74, Op.move (Operand.tmp 5), _, _, _, _⟩) (v := ?v11) rfl (by kernel_rfl) (by kernel_rfl) (by kernel_rfl) (fun _ _ _ h => h) (Or.inl ⟨by rfl, ?hy11⟩) (by assumption) ?rest11
          case hy11 => ((intro w0 hSw; have hs1 := hSw; go_simp); try (with_reducible rfl))
          try simp only [Act.put, List.setIfInBounds_toArray, List.set_cons_zero, List.set_cons_succ]
          refine wpAnyH_take (i := 1) (oi := ⟨some 75, Op.fieldAddr 44 (Operand.tmp 9) 1, _, _, _, _⟩) (v := ?v12) rfl (by kernel_rfl) (by kernel_rfl) (by kernel_rfl) (fun _ _ _ h => h) (Or.inl ⟨by rfl, ?hy12⟩) (by assumption) ?rest12
          case hy12 => ((intro w0 hSw; have hs1 := hSw; go_simp); try (with_reducible rfl))
          try simp only [Act.put, List.setIfInBounds_toArray, List.set_cons_zero, List.set_cons_succ]
          refine wpAnyH_take (i := 2) (oi := ⟨some 76, Op.load 3 (Operand.tmp 75), _, _, _, _⟩) (v := ?v13) rfl (by kernel_rfl) (by kernel_rfl) (by kernel_rfl) (fun _ _ _ h => h) (Or.inl ⟨by rfl, ?hy13⟩) (by assumption) ?rest13
          case hy13 => ((intro w0 hSw; have hs1 := hSw; go_simp); try (with_reducible rfl))
          try simp only [Act.put, List.setIfInBounds_toArray, List.set_cons_zero, List.set_cons_succ]
          refine wpAnyH_take (i := 4) (oi := ⟨some 78, Op.move (Operand.tmp 7), _, _, _, _⟩) (v := ?v14) rfl (by kernel_rfl) (by kernel_rfl) (by kernel_rfl) (fun _ _ _ h => h) (Or.inl ⟨by rfl, ?hy14⟩) (by assumption) ?rest14
          case hy14 => ((intro w0 hSw; have hs1 := hSw; go_simp); try (with_reducible rfl))
          try simp only [Act.put, List.setIfInBounds_toArray, List.set_cons_zero, List.set_cons_succ]
          refine wpAnyH_take (i := 5) (oi := ⟨some 79, Op.fieldAddr 44 (Operand.tmp 9) 1, _, _, _, _⟩) (v := ?v15) rfl (by kernel_rfl) (by kernel_rfl) (by kernel_rfl) (fun _ _ _ h => h) (Or.inl ⟨by rfl, ?hy15⟩) (by assumption) ?rest15
          case hy15 => ((intro w0 hSw; have hs1 := hSw; go_simp); try (with_reducible rfl))
          try simp only [Act.put, List.setIfInBounds_toArray, List.set_cons_zero, List.set_cons_succ]
          refine wpAnyH_take (i := 6) (oi := ⟨some 80, Op.load 3 (Operand.tmp 79), _, _, _, _⟩) (v := ?v16) rfl (by kernel_rfl) (by kernel_rfl) (by kernel_rfl) (fun _ _ _ h => h) (Or.inl ⟨by rfl, ?hy16⟩) (by assumption) ?rest16
          case hy16 => ((intro w0 hSw; have hs1 := hSw; go_simp); try (with_reducible rfl))
          try simp only [Act.put, List.setIfInBounds_toArray, List.set_cons_zero, List.set_cons_succ]
          refine wpAnyH_ready (rs := [3]) (by kernel_rfl) (by simp) ?_
          refine AllReadyH.cons (o := ⟨some 77, Op.call { callee := Callee.value (Operand.func 12), args := #[(Operand.tmp 74), (Operand.tmp 76)], argTypes := #[22, 3] }, _, _, _, _⟩) rfl (fun K hK => ?_) AllReadyH.nil
          go_simp
          have HC1 := Lib.hid (own_kill HB0.out.own b)
          obtain ⟨E0, hE0⟩ : ∃ E, E = fl (look ns b) := ⟨_, rfl⟩
          rw [← hE0] at HC1
          have HE0 := Lib.hid hE0
          clear hE0
          (with_reducible refine HC1.out.mono ?_); rintro e w4 ⟨rfl, v4, ho4, ht4⟩
          have HO4 := Lib.hid ho4
          have HR4 := Lib.hid (HB0.out.ref.turn HB0.out.own ht4)
          have HQ4 := Lib.hid (HB0.out.own.aside ht4 HQ0.out (by decide) (by decide))
          have HD4 := Lib.hid (HB0.out.own.aside ht4 HD0.out (by decide) (by decide))
          clear ho4 ht4 HC1
          go_wp2_with fail
          refine hK.out _ _ (by simp [World.cell?, HQ4.out]) (fun hHeld => ?_)
          clear hK K
          try simp only [Act.put, List.setIfInBounds_toArray, List.set_cons_zero, List.set_cons_succ]
          refine wpAnyH_ready (rs := [7]) (by kernel_rfl) (by simp) ?_
          refine AllReadyH.cons (o := ⟨some 81, Op.call { callee := Callee.value (Operand.func 21), args := #[(Operand.tmp 78), (Operand.tmp 80)], argTypes := #[41, 3] }, _, _, _, _⟩) rfl (fun K hK => ?_) AllReadyH.nil
          go_simp
          have HC2 := Lib.hid (rkill_any HR4.out HB0.out.nd HB0.out.rg b)
          rw [← HE0.out] at HC2
          (with_reducible refine HC2.out.mono ?_); rintro e w5 ⟨rfl, hr5, hg5⟩
          have HO5 := Lib.hid (HO4.out.wrote HR4.out hg5 HGE.out)
          obtain ⟨cur, hty⟩ := HR4.out.typ
          have HQW := Lib.hid ((hg5.block _ (lt_of HQ4.out) (fun e => tyne HQ4.out hty (by decide) (Option.some.inj e))).trans HQ4.out)
          have HD5 := Lib.hid ((hg5.block _ (lt_of HD4.out) (fun e => tyne HD4.out hty (by decide) (Option.some.inj e))).trans HD4.out)
          have HB5 := Lib.hid (Both.mk HO5.out hr5 (nd_kills _ HB0.out.nd) (rg_kills _ HB0.out.rg))
          clear hr5 hg5 hty HC2
          go_wp2_with fail
          refine hK.out _ _ (by simp [World.cell?, HQW.out]) (fun hHeld => ?_)
          clear hK K
          try simp only [Act.put, List.setIfInBounds_toArray, List.set_cons_zero, List.set_cons_succ]
          refine wpAnyH_take (i := 8) (oi := ⟨some 82, Op.binOp BinOp.eql 4 (Operand.tmp 77) (Operand.tmp 81) _, _, _, _, _⟩) (v := ?v17) rfl (by kernel_rfl) (by kernel_rfl) (by kernel_rfl) (fun _ _ _ h => h) (Or.inl ⟨by rfl, ?hy17⟩) (by assumption) ?rest17
          case hy17 => ((intro w0 hSw; go_simp); try (with_reducible rfl))
          try simp only [Act.put, List.setIfInBounds_toArray, List.set_cons_zero, List.set_cons_succ]
          refine wpAnyH_take (i := 9) (oi := ⟨some 11, Op.assign (Operand.tmp 82), _, _, _, _⟩) (v := ?v18) rfl (by kernel_rfl) (by kernel_rfl) (by kernel_rfl) (fun _ _ _ h => h) (Or.inl ⟨by rfl, ?hy18⟩) (by assumption) ?rest18
          case hy18 => ((intro w0 hSw; go_simp); try (with_reducible rfl))
          try simp only [Act.put, List.setIfInBounds_toArray, List.set_cons_zero, List.set_cons_succ]
          refine wpAnyH_done (by kernel_rfl) ?_ _
          clear hHeld HO4 HR4 HO5 HB0
          obtain ⟨NS, hNS⟩ : ∃ NS, NS = kills ns b := ⟨_, rfl⟩
          rw [← hNS] at HB5
          clear hNS
          obtain ⟨D, hD⟩ : ∃ D, D = fd (look NS b) := ⟨_, rfl⟩
          obtain ⟨FL, hFL⟩ : ∃ FL, FL = fl (look NS b) := ⟨_, rfl⟩
          obtain ⟨IS, hIS⟩ : ∃ IS, IS = (look NS b).isSome := ⟨_, rfl⟩
          have HF1 := Lib.hid (own_find HB5.out.own b)
          have HF2 : Hid (∀ (W : World), RAt W r g N m NS → _) := Lib.hid fun W h => rfind_any h HB5.out.rg b
          rw [← hD, ← hFL, ← hIS] at HF1 HF2
          have HDL : Hid (D.length = 16) := Lib.hid (by rw [hD]; exact fd_len _)
          have hq := eqD D HDL.out
          have hb1 := eqB FL
          have hb2 := eqB IS
          have q1 : w5.cell? ⟨wr.heap.size, 1, none⟩ = some (.int .i64 b) := (by simp [World.cell?, HQW.out])
          clear hD hFL hIS
          go_wp2_with (first
            | (go_at_call 13; ((with_reducible refine HF1.out.mono ?_); rintro e w8 ⟨rfl, v8, ho8, ht8⟩; have B8 := Lib.hid (Both.grown (w2 := w8.alloc (.cells (row D) 33)) ⟨ho8, HB5.out.ref.turn HB5.out.own ht8, HB5.out.nd, HB5.out.rg⟩ (grown_alloc (grown_refl _ _) _)); have HD8 : Hid ((w8.alloc (.cells (row D) 33)).heap[w8.heap.size]? = some (.cells (row D) 33 (0, 0))) := Lib.hid (heap_alloc_new _ _); have hq8 := HB5.out.own.aside ht8 HQW.out (by decide) (by decide); have HQ8 := Lib.hid ((Below.heap_alloc w8 (.cells (row D) 33) _ (lt_of hq8)).trans hq8); have q8 : (w8.alloc (.cells (row D) 33)).cell? ⟨wr.heap.size, 1, none⟩ = some (.int .i64 b) := (by simp [World.cell?, HQ8.out]); clear ho8 ht8 hq8 q1))
            | ((with_reducible refine store_rown D HDL.out _ _ rfl _ _ ?_ ?_ ?_ ?_); (rfl); (rfl); (rfl))
            | (go_at_call 23; ((with_reducible refine (HF2.out _ B8.out.ref).mono ?_); rintro e w9 ⟨rfl, hg9⟩; have B9 := Lib.hid (B8.out.grown (w2 := w9.alloc (.cells (row D) 33)) (grown_alloc hg9 _)); have HD9 := Lib.hid ((Below.heap_alloc w9 (.cells (row D) 33) _ (lt_of ((hg9.block _ (lt_of HD8.out) (by simp)).trans HD8.out))).trans ((hg9.block _ (lt_of HD8.out) (by simp)).trans HD8.out)); have HE9 : Hid ((w9.alloc (.cells (row D) 33)).heap[w9.heap.size]? = some (.cells (row D) 33 (0, 0))) := Lib.hid (heap_alloc_new _ _); clear hg9 q8))
            | fail)
          obtain ⟨wz, hwz⟩ : ∃ W, w9.alloc (.cells (row D) 33) = W := ⟨_, rfl⟩
          rw [hwz] at B9 HD9 HE9 ⊢
          clear hwz HF1 HF2 B8
          obtain ⟨g0, g1, g2, g3, g4, g5, g6, g7⟩ := HCA.out.grown B9.out.own.old
          have hlm := B9.out.own.bk.len
          obtain ⟨L, hL⟩ : ∃ L : Int, L = (NS.length : Int) := ⟨_, rfl⟩
          obtain ⟨r7, hr7⟩ : ∃ q : Int, q = (m : Int) - L := ⟨_, rfl⟩
          have HLE : Hid (∀ k, _) := Lib.hid fun k => len_any _ _ _ _ _ _ _ (B9.out.own.grown (grown_drewN (grown_refl _ none) k)).bk
          have HRE : Hid (∀ k, _) := Lib.hid fun k => room_any _ _ _ _ _ _ _ (B9.out.own.grown (grown_drewN (grown_refl _ none) k)).bk
          have HRL : Hid (∀ k, _) := Lib.hid fun k => rlen_any (B9.out.ref.grown (grown_drewN (grown_refl _ none) k)) HNN.out B9.out.nd B9.out.rg
          rw [← hL] at HLE HRE HRL
          rw [← hr7] at HRE
          have i2 : c.ba - L = r7 := by have := HM.out.1; omega
          have i3 : IntKind.i64.wrap r7 = r7 := by have := HM.out; simp [IntKind.wrap, IntKind.bits, IntKind.signed]; omega
          have i4 : (L != L) = false := by simp
          have i5 : (r7 != r7) = false := by simp
          obtain ⟨tq, sq, HTQ, haq, hzq, hlq, hsq, htq⟩ := named29
          have hsq := hsq D HDL.out
          have l1 : ∀ k, (loadCellsFrom ⟨w8.heap.size, 0, none⟩ 0 sq #[]).run Tryd.prog (wz.drewN k) = .ok (row D) (wz.drewN k) := fun k => hlq _ 0 D HDL.out _ (range_grown (range_row HD9.out) (grown_drewN (grown_refl _ none) k) (by simp))
          have l2 : ∀ k, (loadCellsFrom ⟨w9.heap.size, 0, none⟩ 0 sq #[]).run Tryd.prog (wz.drewN k) = .ok (row D) (wz.drewN k) := fun k => hlq _ 0 D HDL.out _ (range_grown (range_row HE9.out) (grown_drewN (grown_refl _ none) k) (by simp))
          clear hL hr7 hlm hlq htq
          rw [HTQ.out.1]
          go_quiet (first
            | (go_at_call 16; exact Calls.quiet_of_same ((HLE.out _).mono fun _ _ he => ⟨he.1, he.2.symm⟩))
            | (go_at_call 24; exact Calls.quiet_of_same ((HRL.out _).mono fun _ _ he => ⟨he.1, he.2.symm⟩))
            | (go_at_call 15; exact Calls.quiet_of (HRE.out _)))
          clear i2 i3 i4 i5 l1 l2
          go_wp2_with fail
          go_roundw
          case rel => exact ⟨j + 1, _, _, _, NS, by omega, by go_num, rfl, B9.out.grown (grown_drewN (grown_refl _ _) _)⟩
          case measure => simp [intOf]; omega
        · by_cases hk3 : kd = 3
          · subst hk3
            clear hk0 hk2
            have HX2 : Hid (wr.grownBy ((wr.alloc (.cells #[.int .i64 3, .int .i64 b, .int .u32 x] 44)).alloc (.cells (row (dz x)) 33)) none) := Lib.hid (grown_alloc (grown_alloc (grown_refl _ _) _) _)
            have HO2 := Lib.hid (HO.out.grown HX2.out)
            have HQ2 : Hid (((wr.alloc (.cells #[.int .i64 3, .int .i64 b, .int .u32 x] 44)).alloc (.cells (row (dz x)) 33)).heap[wr.heap.size]? = some (.cells #[.int .i64 3, .int .i64 b, .int .u32 x] 44 (0, 0))) := Lib.hid ((Below.heap_alloc _ _ _ (by simp)).trans (heap_alloc_new _ _))
            have HD2 : Hid (((wr.alloc (.cells #[.int .i64 3, .int .i64 b, .int .u32 x] 44)).alloc (.cells (row (dz x)) 33)).heap[wr.heap.size + 1]? = some (.cells (row (dz x)) 33 (0, 0))) := Lib.hid (by have h := heap_alloc_new (wr.alloc (.cells #[.int .i64 3, .int .i64 b, .int .u32 x] 44)) (.cells (row (dz x)) 33); rwa [World.size_alloc] at h)
            go_wp2_with (first
              | ((with_reducible refine store_rownS (dz x) rfl _ _ rfl _ _ (wr.heap.size + 1) ?_ ?_ ?_ ?_ ?_); (exact (World.size_alloc _ _).symm); (rfl); (rfl); (rfl))
              | fail)
            obtain ⟨X2, hX2⟩ : ∃ W, (wr.alloc (.cells #[.int .i64 3, .int .i64 b, .int .u32 x] 44)).alloc (.cells (row (dz x)) 33) = W := ⟨_, rfl⟩
            rw [hX2] at HX2 HO2 HQ2 HD2 ⊢
            clear hX2
            have c1 : X2.cell? ⟨wr.heap.size, 1, none⟩ = some (.int .i64 b) := (by simp [World.cell?, HQ2.out])
            refine wp_region_held_drew (S := fun W => W.cell? ⟨wr.heap.size, 1, none⟩ = some (.int .i64 b)) (by kernel_rfl) c1 (fun hHeld => ?_)
            have HB0 := Lib.hid (HO2.out.grown (grown_drew (grown_refl _ _)))
            have HQ0 : Hid (X2.drew.heap[wr.heap.size]? = _) := Lib.hid HQ2.out
            have HD0 : Hid (X2.drew.heap[wr.heap.size + 1]? = _) := Lib.hid HD2.out
            generalize X2.drew = W0 at hHeld HB0 HQ0 HD0 ⊢
            refine wpAnyH_take (i := 0) (oi := ⟨some 85, Op.move (Operand.tmp 5), _, _, _, _⟩) (v := ?v19) rfl (by kernel_rfl) (by kernel_rfl) (by kernel_rfl) (fun _ _ _ h => h) (Or.inl ⟨by rfl, ?hy19⟩) (by assumption) ?rest19
            case hy19 => ((intro w0 hSw; have hs1 := hSw; go_simp); try (with_reducible rfl))
            try simp only [Act.put, List.setIfInBounds_toArray, List.set_cons_zero, List.set_cons_succ]
            refine wpAnyH_take (i := 1) (oi := ⟨some 86, Op.fieldAddr 44 (Operand.tmp 9) 1, _, _, _, _⟩) (v := ?v20) rfl (by kernel_rfl) (by kernel_rfl) (by kernel_rfl) (fun _ _ _ h => h) (Or.inl ⟨by rfl, ?hy20⟩) (by assumption) ?rest20
            case hy20 => ((intro w0 hSw; have hs1 := hSw; go_simp); try (with_reducible rfl))
            try simp only [Act.put, List.setIfInBounds_toArray, List.set_cons_zero, List.set_cons_succ]
            refine wpAnyH_take (i := 2) (oi := ⟨some 87, Op.load 3 (Operand.tmp 86), _, _, _, _⟩) (v := ?v21) rfl (by kernel_rfl) (by kernel_rfl) (by kernel_rfl) (fun _ _ _ h => h) (Or.inl ⟨by rfl, ?hy21⟩) (by assumption) ?rest21
            case hy21 => ((intro w0 hSw; have hs1 := hSw; go_simp); try (with_reducible rfl))
            try simp only [Act.put, List.setIfInBounds_toArray, List.set_cons_zero, List.set_cons_succ]
            refine wpAnyH_take (i := 4) (oi := ⟨some 89, Op.move (Operand.tmp 7), _, _, _, _⟩) (v := ?v22) rfl (by kernel_rfl) (by kernel_rfl) (by kernel_rfl) (fun _ _ _ h => h) (Or.inl ⟨by rfl, ?hy22⟩) (by assumption) ?rest22
            case hy22 => ((intro w0 hSw; have hs1 := hSw; go_simp); try (with_reducible rfl))
            try simp only [Act.put, List.setIfInBounds_toArray, List.set_cons_zero, List.set_cons_succ]
            refine wpAnyH_take (i := 5) (oi := ⟨some 90, Op.fieldAddr 44 (Operand.tmp 9) 1, _, _, _, _⟩) (v := ?v23) rfl (by kernel_rfl) (by kernel_rfl) (by kernel_rfl) (fun _ _ _ h => h) (Or.inl ⟨by rfl, ?hy23⟩) (by assumption) ?rest23
            case hy23 => ((intro w0 hSw; have hs1 := hSw; go_simp); try (with_reducible rfl))
            try simp only [Act.put, List.setIfInBounds_toArray, List.set_cons_zero, List.set_cons_succ]
            refine wpAnyH_take (i := 6) (oi := ⟨some 91, Op.load 3 (Operand.tmp 90), _, _, _, _⟩) (v := ?v24) rfl (by kernel_rfl) (by kernel_rfl) (by kernel_rfl) (fun _ _ _ h => h) (Or.inl ⟨by rfl, ?hy24⟩) (by assumption) ?rest24
            case hy24 => ((intro w0 hSw; have hs1 := hSw; go_simp); try (with_reducible rfl))
            try simp only [Act.put, List.setIfInBounds_toArray, List.set_cons_zero, List.set_cons_succ]
            refine wpAnyH_ready (rs := [3]) (by kernel_rfl) (by simp) ?_
            refine AllReadyH.cons (o := ⟨some 88, Op.call { callee := Callee.value (Operand.func 14), args := #[(Operand.tmp 85), (Operand.tmp 87)], argTypes := #[22, 3] }, _, _, _, _⟩) rfl (fun K hK => ?_) AllReadyH.nil
            go_simp
            have HC1 := Lib.hid (own_drop HB0.out.own b)
            obtain ⟨E0, hE0⟩ : ∃ E, E = (look ns b).isSome := ⟨_, rfl⟩
            rw [← hE0] at HC1
            have HE0 := Lib.hid hE0
            clear hE0
            (with_reducible refine HC1.out.mono ?_); rintro e w4 ⟨rfl, v4, ho4, ht4⟩
            have HO4 := Lib.hid ho4
            have HR4 := Lib.hid (HB0.out.ref.turn HB0.out.own ht4)
            have HQ4 := Lib.hid (HB0.out.own.aside ht4 HQ0.out (by decide) (by decide))
            have HD4 := Lib.hid (HB0.out.own.aside ht4 HD0.out (by decide) (by decide))
            clear ho4 ht4 HC1
            go_wp2_with fail
            refine hK.out _ _ (by simp [World.cell?, HQ4.out]) (fun hHeld => ?_)
            clear hK K
            try simp only [Act.put, List.setIfInBounds_toArray, List.set_cons_zero, List.set_cons_succ]
            refine wpAnyH_ready (rs := [7]) (by kernel_rfl) (by simp) ?_
            refine AllReadyH.cons (o := ⟨some 92, Op.call { callee := Callee.value (Operand.func 22), args := #[(Operand.tmp 89), (Operand.tmp 91)], argTypes := #[41, 3] }, _, _, _, _⟩) rfl (fun K hK => ?_) AllReadyH.nil
            go_simp
            have HC2 := Lib.hid (rdrop_any HR4.out HB0.out.nd HB0.out.rg b)
            rw [← HE0.out] at HC2
            (with_reducible refine HC2.out.mono ?_); rintro e w5 ⟨rfl, hr5, hg5⟩
            have HO5 := Lib.hid (HO4.out.wrote HR4.out hg5 HGE.out)
            obtain ⟨cur, hty⟩ := HR4.out.typ
            have HQW := Lib.hid ((hg5.block _ (lt_of HQ4.out) (fun e => tyne HQ4.out hty (by decide) (Option.some.inj e))).trans HQ4.out)
            have HD5 := Lib.hid ((hg5.block _ (lt_of HD4.out) (fun e => tyne HD4.out hty (by decide) (Option.some.inj e))).trans HD4.out)
            have HB5 := Lib.hid (Both.mk HO5.out hr5 (nd_rem _ HB0.out.nd) (rg_rem _ HB0.out.rg))
            clear hr5 hg5 hty HC2
            go_wp2_with fail
            refine hK.out _ _ (by simp [World.cell?, HQW.out]) (fun hHeld => ?_)
            clear hK K
            try simp only [Act.put, List.setIfInBounds_toArray, List.set_cons_zero, List.set_cons_succ]
            refine wpAnyH_take (i := 8) (oi := ⟨some 93, Op.binOp BinOp.eql 4 (Operand.tmp 88) (Operand.tmp 92) _, _, _, _, _⟩) (v := ?v25) rfl (by kernel_rfl) (by kernel_rfl) (by kernel_rfl) (fun _ _ _ h => h) (Or.inl ⟨by rfl, ?hy25⟩) (by assumption) ?rest25
            case hy25 => ((intro w0 hSw; go_simp); try (with_reducible rfl))
            try simp only [Act.put, List.setIfInBounds_toArray, List.set_cons_zero, List.set_cons_succ]
            refine wpAnyH_take (i := 9) (oi := ⟨some 11, Op.assign (Operand.tmp 93), _, _, _, _⟩) (v := ?v26) rfl (by kernel_rfl) (by kernel_rfl) (by kernel_rfl) (fun _ _ _ h => h) (Or.inl ⟨by rfl, ?hy26⟩) (by assumption) ?rest26
            case hy26 => ((intro w0 hSw; go_simp); try (with_reducible rfl))
            try simp only [Act.put, List.setIfInBounds_toArray, List.set_cons_zero, List.set_cons_succ]
            refine wpAnyH_done (by kernel_rfl) ?_ _
            clear hHeld HO4 HR4 HO5 HB0
            obtain ⟨NS, hNS⟩ : ∃ NS, NS = rem ns b := ⟨_, rfl⟩
            rw [← hNS] at HB5
            clear hNS
            obtain ⟨D, hD⟩ : ∃ D, D = fd (look NS b) := ⟨_, rfl⟩
            obtain ⟨FL, hFL⟩ : ∃ FL, FL = fl (look NS b) := ⟨_, rfl⟩
            obtain ⟨IS, hIS⟩ : ∃ IS, IS = (look NS b).isSome := ⟨_, rfl⟩
            have HF1 := Lib.hid (own_find HB5.out.own b)
            have HF2 : Hid (∀ (W : World), RAt W r g N m NS → _) := Lib.hid fun W h => rfind_any h HB5.out.rg b
            rw [← hD, ← hFL, ← hIS] at HF1 HF2
            have HDL : Hid (D.length = 16) := Lib.hid (by rw [hD]; exact fd_len _)
            have hq := eqD D HDL.out
            have hb1 := eqB FL
            have hb2 := eqB IS
            have q1 : w5.cell? ⟨wr.heap.size, 1, none⟩ = some (.int .i64 b) := (by simp [World.cell?, HQW.out])
            clear hD hFL hIS
            go_wp2_with (first
              | (go_at_call 13; ((with_reducible refine HF1.out.mono ?_); rintro e w8 ⟨rfl, v8, ho8, ht8⟩; have B8 := Lib.hid (Both.grown (w2 := w8.alloc (.cells (row D) 33)) ⟨ho8, HB5.out.ref.turn HB5.out.own ht8, HB5.out.nd, HB5.out.rg⟩ (grown_alloc (grown_refl _ _) _)); have HD8 : Hid ((w8.alloc (.cells (row D) 33)).heap[w8.heap.size]? = some (.cells (row D) 33 (0, 0))) := Lib.hid (heap_alloc_new _ _); have hq8 := HB5.out.own.aside ht8 HQW.out (by decide) (by decide); have HQ8 := Lib.hid ((Below.heap_alloc w8 (.cells (row D) 33) _ (lt_of hq8)).trans hq8); have q8 : (w8.alloc (.cells (row D) 33)).cell? ⟨wr.heap.size, 1, none⟩ = some (.int .i64 b) := (by simp [World.cell?, HQ8.out]); clear ho8 ht8 hq8 q1))
              | ((with_reducible refine store_rown D HDL.out _ _ rfl _ _ ?_ ?_ ?_ ?_); (rfl); (rfl); (rfl))
              | (go_at_call 23; ((with_reducible refine (HF2.out _ B8.out.ref).mono ?_); rintro e w9 ⟨rfl, hg9⟩; have B9 := Lib.hid (B8.out.grown (w2 := w9.alloc (.cells (row D) 33)) (grown_alloc hg9 _)); have HD9 := Lib.hid ((Below.heap_alloc w9 (.cells (row D) 33) _ (lt_of ((hg9.block _ (lt_of HD8.out) (by simp)).trans HD8.out))).trans ((hg9.block _ (lt_of HD8.out) (by simp)).trans HD8.out)); have HE9 : Hid ((w9.alloc (.cells (row D) 33)).heap[w9.heap.size]? = some (.cells (row D) 33 (0, 0))) := Lib.hid (heap_alloc_new _ _); clear hg9 q8))
              | fail)
            obtain ⟨wz, hwz⟩ : ∃ W, w9.alloc (.cells (row D) 33) = W := ⟨_, rfl⟩
            rw [hwz] at B9 HD9 HE9 ⊢
            clear hwz HF1 HF2 B8
            obtain ⟨g0, g1, g2, g3, g4, g5, g6, g7⟩ := HCA.out.grown B9.out.own.old
            have hlm := B9.out.own.bk.len
            obtain ⟨L, hL⟩ : ∃ L : Int, L = (NS.length : Int) := ⟨_, rfl⟩
            obtain ⟨r7, hr7⟩ : ∃ q : Int, q = (m : Int) - L := ⟨_, rfl⟩
            have HLE : Hid (∀ k, _) := Lib.hid fun k => len_any _ _ _ _ _ _ _ (B9.out.own.grown (grown_drewN (grown_refl _ none) k)).bk
            have HRE : Hid (∀ k, _) := Lib.hid fun k => room_any _ _ _ _ _ _ _ (B9.out.own.grown (grown_drewN (grown_refl _ none) k)).bk
            have HRL : Hid (∀ k, _) := Lib.hid fun k => rlen_any (B9.out.ref.grown (grown_drewN (grown_refl _ none) k)) HNN.out B9.out.nd B9.out.rg
            rw [← hL] at HLE HRE HRL
            rw [← hr7] at HRE
            have i2 : c.ba - L = r7 := by have := HM.out.1; omega
            have i3 : IntKind.i64.wrap r7 = r7 := by have := HM.out; simp [IntKind.wrap, IntKind.bits, IntKind.signed]; omega
            have i4 : (L != L) = false := by simp
            have i5 : (r7 != r7) = false := by simp
            obtain ⟨tq, sq, HTQ, haq, hzq, hlq, hsq, htq⟩ := named29
            have hsq := hsq D HDL.out
            have l1 : ∀ k, (loadCellsFrom ⟨w8.heap.size, 0, none⟩ 0 sq #[]).run Tryd.prog (wz.drewN k) = .ok (row D) (wz.drewN k) := fun k => hlq _ 0 D HDL.out _ (range_grown (range_row HD9.out) (grown_drewN (grown_refl _ none) k) (by simp))
            have l2 : ∀ k, (loadCellsFrom ⟨w9.heap.size, 0, none⟩ 0 sq #[]).run Tryd.prog (wz.drewN k) = .ok (row D) (wz.drewN k) := fun k => hlq _ 0 D HDL.out _ (range_grown (range_row HE9.out) (grown_drewN (grown_refl _ none) k) (by simp))
            clear hL hr7 hlm hlq htq
            rw [HTQ.out.1]
            go_quiet (first
              | (go_at_call 16; exact Calls.quiet_of_same ((HLE.out _).mono fun _ _ he => ⟨he.1, he.2.symm⟩))
              | (go_at_call 24; exact Calls.quiet_of_same ((HRL.out _).mono fun _ _ he => ⟨he.1, he.2.symm⟩))
              | (go_at_call 15; exact Calls.quiet_of (HRE.out _)))
            clear i2 i3 i4 i5 l1 l2
            go_wp2_with fail
            go_roundw
            case rel => exact ⟨j + 1, _, _, _, NS, by omega, by go_num, rfl, B9.out.grown (grown_drewN (grown_refl _ _) _)⟩
            case measure => simp [intOf]; omega
          · by_cases hk4 : kd = 4
            · subst hk4
              clear hk0 hk2 hk3
              have HX2 : Hid (wr.grownBy ((wr.alloc (.cells #[.int .i64 4, .int .i64 b, .int .u32 x] 44)).alloc (.cells (row (dz x)) 33)) none) := Lib.hid (grown_alloc (grown_alloc (grown_refl _ _) _) _)
              have HO2 := Lib.hid (HO.out.grown HX2.out)
              have HQ2 : Hid (((wr.alloc (.cells #[.int .i64 4, .int .i64 b, .int .u32 x] 44)).alloc (.cells (row (dz x)) 33)).heap[wr.heap.size]? = some (.cells #[.int .i64 4, .int .i64 b, .int .u32 x] 44 (0, 0))) := Lib.hid ((Below.heap_alloc _ _ _ (by simp)).trans (heap_alloc_new _ _))
              have HD2 : Hid (((wr.alloc (.cells #[.int .i64 4, .int .i64 b, .int .u32 x] 44)).alloc (.cells (row (dz x)) 33)).heap[wr.heap.size + 1]? = some (.cells (row (dz x)) 33 (0, 0))) := Lib.hid (by have h := heap_alloc_new (wr.alloc (.cells #[.int .i64 4, .int .i64 b, .int .u32 x] 44)) (.cells (row (dz x)) 33); rwa [World.size_alloc] at h)
              have HCP := Lib.hid (copy_any t p v (N : Int) m ns _ HO2.out.own.bk)
              obtain ⟨NS, hNS⟩ : ∃ NS, NS = ns := ⟨_, rfl⟩
              obtain ⟨D, hD⟩ : ∃ D, D = fd (look NS b) := ⟨_, rfl⟩
              obtain ⟨FL, hFL⟩ : ∃ FL, FL = fl (look NS b) := ⟨_, rfl⟩
              obtain ⟨IS, hIS⟩ : ∃ IS, IS = (look NS b).isSome := ⟨_, rfl⟩
              have HF1 : Hid (∀ (t7 p7 : Nat) (v7 : Value) (W : World), Own wb W t7 p7 v7 (N : Int) m NS → _) := Lib.hid fun t7 p7 v7 W h => own_find h b
              have HF2 : Hid (∀ (W : World), RAt W r g N m NS → _) := Lib.hid fun W h => rfind_any h (by rw [hNS]; exact HO.out.rg) b
              rw [← hD, ← hFL, ← hIS] at HF1 HF2
              have HDL : Hid (D.length = 16) := Lib.hid (by rw [hD]; exact fd_len _)
              have hq := eqD D HDL.out
              have hb1 := eqB FL
              have hb2 := eqB IS
              clear hD hFL hIS
              rw [← hNS] at HCP
              have HNS := Lib.hid hNS
              clear hNS
              go_wp2_with (first
                | ((with_reducible refine store_rownS (dz x) rfl _ _ rfl _ _ (wr.heap.size + 1) ?_ ?_ ?_ ?_ ?_); (exact (World.size_alloc _ _).symm); (rfl); (rfl); (rfl))
                | (go_at_call 17; ((with_reducible refine HCP.out.mono ?_); rintro e w6 ⟨t6, p6, v6, rfl, hb6, ht6, hp6, hv6, hg6⟩; have O6 := Lib.hid (HO2.out.own.grown hg6); have C6 := Lib.hid (Own.mk (w := wb) hb6 (grown_trans HO2.out.own.old hg6) (Nat.le_trans HO2.out.own.old.size hp6) (fun k e => Nat.le_trans HO2.out.own.old.size (hv6 k e))); have R6 := Lib.hid (HO2.out.ref.grown hg6); have A6 : Hid (Ap v v6) := Lib.hid (fun q h1 h2 => by have := HO2.out.own.bk.pool.sl.lt q h1; have := hv6 q h2; omega); have P6 : Hid (p6 ≠ p) := Lib.hid (by have := HO2.out.own.bk.pool.lt; omega); have hq6 := (hg6.block _ (lt_of HQ2.out) (by simp)).trans HQ2.out; have HQ6 := Lib.hid hq6; have s1 : w6.cell? ⟨wr.heap.size, 1, none⟩ = some (.int .i64 b) := (by simp [World.cell?, hq6]); clear hb6 ht6 hp6 hv6 hg6 hq6))
                | (go_at_call 14; ((with_reducible refine (own_drop O6.out b).mono ?_); rintro e w7 ⟨rfl, v7, ho7, ht7⟩; have hk7 := C6.out.keep O6.out ht7 P6.out A6.out; have HB7 : Hid (Both wb w7 t6 p6 v6 r g N m NS) := Lib.hid ⟨hk7.1, by rw [HNS.out]; exact R6.out.turn O6.out ht7, by rw [HNS.out]; exact HO.out.nd, by rw [HNS.out]; exact HO.out.rg⟩; have HQW := Lib.hid (O6.out.aside ht7 HQ6.out (by decide) (by decide)); have q1 : w7.cell? ⟨wr.heap.size, 1, none⟩ = some (.int .i64 b) := (by simp [World.cell?, HQW.out]); clear ho7 ht7 hk7 s1))
                | (go_at_call 13; ((with_reducible refine (HF1.out _ _ _ _ HB7.out.own).mono ?_); rintro e w8 ⟨rfl, v8, ho8, ht8⟩; have B8 := Lib.hid (Both.grown (w2 := w8.alloc (.cells (row D) 33)) ⟨ho8, HB7.out.ref.turn HB7.out.own ht8, HB7.out.nd, HB7.out.rg⟩ (grown_alloc (grown_refl _ _) _)); have HD8 : Hid ((w8.alloc (.cells (row D) 33)).heap[w8.heap.size]? = some (.cells (row D) 33 (0, 0))) := Lib.hid (heap_alloc_new _ _); have hq8 := HB7.out.own.aside ht8 HQW.out (by decide) (by decide); have HQ8 := Lib.hid ((Below.heap_alloc w8 (.cells (row D) 33) _ (lt_of hq8)).trans hq8); have q8 : (w8.alloc (.cells (row D) 33)).cell? ⟨wr.heap.size, 1, none⟩ = some (.int .i64 b) := (by simp [World.cell?, HQ8.out]); clear ho8 ht8 hq8 q1))
                | ((with_reducible refine store_rown D HDL.out _ _ rfl _ _ ?_ ?_ ?_ ?_); (rfl); (rfl); (rfl))
                | (go_at_call 23; ((with_reducible refine (HF2.out _ B8.out.ref).mono ?_); rintro e w9 ⟨rfl, hg9⟩; have B9 := Lib.hid (B8.out.grown (w2 := w9.alloc (.cells (row D) 33)) (grown_alloc hg9 _)); have HD9 := Lib.hid ((Below.heap_alloc w9 (.cells (row D) 33) _ (lt_of ((hg9.block _ (lt_of HD8.out) (by simp)).trans HD8.out))).trans ((hg9.block _ (lt_of HD8.out) (by simp)).trans HD8.out)); have HE9 : Hid ((w9.alloc (.cells (row D) 33)).heap[w9.heap.size]? = some (.cells (row D) 33 (0, 0))) := Lib.hid (heap_alloc_new _ _); clear hg9 q8))
                | fail)
              obtain ⟨wz, hwz⟩ : ∃ W, w9.alloc (.cells (row D) 33) = W := ⟨_, rfl⟩
              rw [hwz] at B9 HD9 HE9 ⊢
              clear hwz HF1 HF2 B8
              obtain ⟨g0, g1, g2, g3, g4, g5, g6, g7⟩ := HCA.out.grown B9.out.own.old
              have hlm := B9.out.own.bk.len
              obtain ⟨L, hL⟩ : ∃ L : Int, L = (NS.length : Int) := ⟨_, rfl⟩
              obtain ⟨r7, hr7⟩ : ∃ q : Int, q = (m : Int) - L := ⟨_, rfl⟩
              have HLE : Hid (∀ k, _) := Lib.hid fun k => len_any _ _ _ _ _ _ _ (B9.out.own.grown (grown_drewN (grown_refl _ none) k)).bk
              have HRE : Hid (∀ k, _) := Lib.hid fun k => room_any _ _ _ _ _ _ _ (B9.out.own.grown (grown_drewN (grown_refl _ none) k)).bk
              have HRL : Hid (∀ k, _) := Lib.hid fun k => rlen_any (B9.out.ref.grown (grown_drewN (grown_refl _ none) k)) HNN.out B9.out.nd B9.out.rg
              rw [← hL] at HLE HRE HRL
              rw [← hr7] at HRE
              have i2 : c.ba - L = r7 := by have := HM.out.1; omega
              have i3 : IntKind.i64.wrap r7 = r7 := by have := HM.out; simp [IntKind.wrap, IntKind.bits, IntKind.signed]; omega
              have i4 : (L != L) = false := by simp
              have i5 : (r7 != r7) = false := by simp
              obtain ⟨tq, sq, HTQ, haq, hzq, hlq, hsq, htq⟩ := named29
              have hsq := hsq D HDL.out
              have l1 : ∀ k, (loadCellsFrom ⟨w8.heap.size, 0, none⟩ 0 sq #[]).run Tryd.prog (wz.drewN k) = .ok (row D) (wz.drewN k) := fun k => hlq _ 0 D HDL.out _ (range_grown (range_row HD9.out) (grown_drewN (grown_refl _ none) k) (by simp))
              have l2 : ∀ k, (loadCellsFrom ⟨w9.heap.size, 0, none⟩ 0 sq #[]).run Tryd.prog (wz.drewN k) = .ok (row D) (wz.drewN k) := fun k => hlq _ 0 D HDL.out _ (range_grown (range_row HE9.out) (grown_drewN (grown_refl _ none) k) (by simp))
              clear hL hr7 hlm hlq htq
              rw [HTQ.out.1]
              go_quiet (first
                | (go_at_call 16; exact Calls.quiet_of_same ((HLE.out _).mono fun _ _ he => ⟨he.1, he.2.symm⟩))
                | (go_at_call 24; exact Calls.quiet_of_same ((HRL.out _).mono fun _ _ he => ⟨he.1, he.2.symm⟩))
                | (go_at_call 15; exact Calls.quiet_of (HRE.out _)))
              clear i2 i3 i4 i5 l1 l2
              go_wp2_with fail
              go_roundw
              case rel => exact ⟨j + 1, _, _, _, NS, by omega, by go_num, rfl, B9.out.grown (grown_drewN (grown_refl _ _) _)⟩
              case measure => simp [intOf]; omega
            · have k0 : (kd == 0) = false := by simpa using hk0
              have k2 : (kd == 2) = false := by simpa using hk2
              have k3 : (kd == 3) = false := by simpa using hk3
              have k4 : (kd == 4) = false := by simpa using hk4
              clear hk0 hk2 hk3 hk4
              have HX2 : Hid (wr.grownBy ((wr.alloc (.cells #[.int .i64 kd, .int .i64 b, .int .u32 x] 44)).alloc (.cells (row (dz x)) 33)) none) := Lib.hid (grown_alloc (grown_alloc (grown_refl _ _) _) _)
              have HO2 := Lib.hid (HO.out.grown HX2.out)
              have HQ2 : Hid (((wr.alloc (.cells #[.int .i64 kd, .int .i64 b, .int .u32 x] 44)).alloc (.cells (row (dz x)) 33)).heap[wr.heap.size]? = some (.cells #[.int .i64 kd, .int .i64 b, .int .u32 x] 44 (0, 0))) := Lib.hid ((Below.heap_alloc _ _ _ (by simp)).trans (heap_alloc_new _ _))
              have HD2 : Hid (((wr.alloc (.cells #[.int .i64 kd, .int .i64 b, .int .u32 x] 44)).alloc (.cells (row (dz x)) 33)).heap[wr.heap.size + 1]? = some (.cells (row (dz x)) 33 (0, 0))) := Lib.hid (by have h := heap_alloc_new (wr.alloc (.cells #[.int .i64 kd, .int .i64 b, .int .u32 x] 44)) (.cells (row (dz x)) 33); rwa [World.size_alloc] at h)
              obtain ⟨NS, hNS⟩ : ∃ NS, NS = ns := ⟨_, rfl⟩
              rw [← hNS] at HO2
              clear hNS
              obtain ⟨D, hD⟩ : ∃ D, D = fd (look NS b) := ⟨_, rfl⟩
              obtain ⟨FL, hFL⟩ : ∃ FL, FL = fl (look NS b) := ⟨_, rfl⟩
              obtain ⟨IS, hIS⟩ : ∃ IS, IS = (look NS b).isSome := ⟨_, rfl⟩
              have HF1 := Lib.hid (own_find HO2.out.own b)
              have HF2 : Hid (∀ (W : World), RAt W r g N m NS → _) := Lib.hid fun W h => rfind_any h HO2.out.rg b
              rw [← hD, ← hFL, ← hIS] at HF1 HF2
              have HDL : Hid (D.length = 16) := Lib.hid (by rw [hD]; exact fd_len _)
              have hq := eqD D HDL.out
              have hb1 := eqB FL
              have hb2 := eqB IS
              clear hD hFL hIS
              go_wp2_with (first
                | ((with_reducible refine store_rownS (dz x) rfl _ _ rfl _ _ (wr.heap.size + 1) ?_ ?_ ?_ ?_ ?_); (exact (World.size_alloc _ _).symm); (rfl); (rfl); (rfl))
                | (go_at_call 13; ((with_reducible refine HF1.out.mono ?_); rintro e w8 ⟨rfl, v8, ho8, ht8⟩; have B8 := Lib.hid (Both.grown (w2 := w8.alloc (.cells (row D) 33)) ⟨ho8, HO2.out.ref.turn HO2.out.own ht8, HO2.out.nd, HO2.out.rg⟩ (grown_alloc (grown_refl _ _) _)); have HD8 : Hid ((w8.alloc (.cells (row D) 33)).heap[w8.heap.size]? = some (.cells (row D) 33 (0, 0))) := Lib.hid (heap_alloc_new _ _); have hq8 := HO2.out.own.aside ht8 HQ2.out (by decide) (by decide); have HQ8 := Lib.hid ((Below.heap_alloc w8 (.cells (row D) 33) _ (lt_of hq8)).trans hq8); have q8 : (w8.alloc (.cells (row D) 33)).cell? ⟨wr.heap.size, 1, none⟩ = some (.int .i64 b) := (by simp [World.cell?, HQ8.out]); clear ho8 ht8 hq8))
                | ((with_reducible refine store_rown D HDL.out _ _ rfl _ _ ?_ ?_ ?_ ?_); (rfl); (rfl); (rfl))
                | (go_at_call 23; ((with_reducible refine (HF2.out _ B8.out.ref).mono ?_); rintro e w9 ⟨rfl, hg9⟩; have B9 := Lib.hid (B8.out.grown (w2 := w9.alloc (.cells (row D) 33)) (grown_alloc hg9 _)); have HD9 := Lib.hid ((Below.heap_alloc w9 (.cells (row D) 33) _ (lt_of ((hg9.block _ (lt_of HD8.out) (by simp)).trans HD8.out))).trans ((hg9.block _ (lt_of HD8.out) (by simp)).trans HD8.out)); have HE9 : Hid ((w9.alloc (.cells (row D) 33)).heap[w9.heap.size]? = some (.cells (row D) 33 (0, 0))) := Lib.hid (heap_alloc_new _ _); clear hg9 q8))
                | fail)
              obtain ⟨wz, hwz⟩ : ∃ W, w9.alloc (.cells (row D) 33) = W := ⟨_, rfl⟩
              rw [hwz] at B9 HD9 HE9 ⊢
              clear hwz HF1 HF2 B8
              obtain ⟨g0, g1, g2, g3, g4, g5, g6, g7⟩ := HCA.out.grown B9.out.own.old
              have hlm := B9.out.own.bk.len
              obtain ⟨L, hL⟩ : ∃ L : Int, L = (NS.length : Int) := ⟨_, rfl⟩
              obtain ⟨r7, hr7⟩ : ∃ q : Int, q = (m : Int) - L := ⟨_, rfl⟩
              have HLE : Hid (∀ k, _) := Lib.hid fun k => len_any _ _ _ _ _ _ _ (B9.out.own.grown (grown_drewN (grown_refl _ none) k)).bk
              have HRE : Hid (∀ k, _) := Lib.hid fun k => room_any _ _ _ _ _ _ _ (B9.out.own.grown (grown_drewN (grown_refl _ none) k)).bk
              have HRL : Hid (∀ k, _) := Lib.hid fun k => rlen_any (B9.out.ref.grown (grown_drewN (grown_refl _ none) k)) HNN.out B9.out.nd B9.out.rg
              rw [← hL] at HLE HRE HRL
              rw [← hr7] at HRE
              have i2 : c.ba - L = r7 := by have := HM.out.1; omega
              have i3 : IntKind.i64.wrap r7 = r7 := by have := HM.out; simp [IntKind.wrap, IntKind.bits, IntKind.signed]; omega
              have i4 : (L != L) = false := by simp
              have i5 : (r7 != r7) = false := by simp
              obtain ⟨tq, sq, HTQ, haq, hzq, hlq, hsq, htq⟩ := named29
              have hsq := hsq D HDL.out
              have l1 : ∀ k, (loadCellsFrom ⟨w8.heap.size, 0, none⟩ 0 sq #[]).run Tryd.prog (wz.drewN k) = .ok (row D) (wz.drewN k) := fun k => hlq _ 0 D HDL.out _ (range_grown (range_row HD9.out) (grown_drewN (grown_refl _ none) k) (by simp))
              have l2 : ∀ k, (loadCellsFrom ⟨w9.heap.size, 0, none⟩ 0 sq #[]).run Tryd.prog (wz.drewN k) = .ok (row D) (wz.drewN k) := fun k => hlq _ 0 D HDL.out _ (range_grown (range_row HE9.out) (grown_drewN (grown_refl _ none) k) (by simp))
              clear hL hr7 hlm hlq htq
              rw [HTQ.out.1]
              go_quiet (first
                | (go_at_call 16; exact Calls.quiet_of_same ((HLE.out _).mono fun _ _ he => ⟨he.1, he.2.symm⟩))
                | (go_at_call 24; exact Calls.quiet_of_same ((HRL.out _).mono fun _ _ he => ⟨he.1, he.2.symm⟩))
                | (go_at_call 15; exact Calls.quiet_of (HRE.out _)))
              clear i2 i3 i4 i5 l1 l2
              go_wp2_with fail
              go_roundw
              case rel => exact ⟨j + 1, _, _, _, NS, by omega, by go_num, rfl, B9.out.grown (grown_drewN (grown_refl _ _) _)⟩
              case measure => simp [intOf]; omega
    · go_wp2_with (go_at_call 10; ((with_reducible refine (HWb.out _ HO.out.own.old).mono ?_); rintro e w3 ⟨rfl, hg3⟩; have HG3 := Lib.hid (grown_trans HO.out.own.old hg3); clear hg3))
      go_ret
      exact ⟨rfl, HFIN.out _ HG3.out⟩
theorem play_true (c : Cfg) (os : List OpX) (ad : Option Addr) (len cap : Nat) (w : World) (hT : Tab w) (hlen : len = os.length) (hat : OpsAt w ad os) : Calls Tryd.prog 4 #[.agg c.cells, .slice ad len cap] w fun e w' => e = .returned (.bool true) ∧ w.grownBy w' none := by
  by_cases h : 300 < len
  · exact play_long c ad len cap w hT h
  · by_cases hm : c.may
    · exact play_some c os ad len cap w hT hlen hat (by omega) hm
    · exact play_no c ad len cap w hT (by omega) hm
end Go.Proofs.YtoifeinkaaclmaaDoor.bk
