/-
  The law MarksPlay returns true: the walk. Condition: the table of bounds lies in its variable as the program's text has it; that the script lies where the argument says.
-/
import Derived.Test.YtegaalhbebibgaaDoorMkP
import Derived.Test.YtegaalhbebibgaaDoorMkN
namespace Go.Proofs.YtegaalhbebibgaaDoor.mrk
open Go Go.ChangeShapes Go.WideShapes Go.ChangeAt Go.RowKit Go.Maps Go.Sort
open Go.Proofs.YtegaalhbebibgaaDoor.tt (Cfg Tab CfgAt cfg_at grown_refl grown_alloc grown_trans grown_drew grown_drewN lt_of tyne)
set_option linter.unusedVariables false
set_option linter.unusedSimpArgs false
set_option maxRecDepth 1000000

set_option maxHeartbeats 1000000 in
theorem play_no (c : Cfg) (ad : Option Addr) (len cap : Nat) (w : World) (hT : Tab w) (h : len ≤ 300) (hm : ¬ c.may) : Calls Tryd.prog 4 #[.agg c.cells, .slice ad len cap] w fun e w' => e = .returned (.bool true) ∧ w.grownBy w' none := by
  have hd : decide ((300 : Int) < (len : Int)) = false := by simp; omega
  have hg0 : w.grownBy (w.alloc (.cells c.cells 27)) none := grown_alloc (grown_refl _ _) _
  have HN := Lib.hid (new_no c _ (hT.grown hg0) hm)
  have HM : Hid (∀ w', _) := Lib.hid fun w' => tt.rmay_any c w'
  rw [decide_eq_false hm] at HM
  have HW : Hid (∀ w', w.grownBy w' none → _) := Lib.hid (fun w' h => works_any w' (hT.grown h))
  obtain ⟨c0, c1, c2, c3, c4, c5, c6, c7⟩ := cfg_at w c
  have HCA := Lib.hid (cfg_at w c)
  have HG0 := Lib.hid hg0
  clear hT h hm hg0
  unfold Cfg.cells at HN HM HG0 HCA c0 c1 c2 c3 c4 c5 c6 c7 ⊢
  go_enter Tryd.func4, Tryd.ntmps4
  go_wp2_with (first
    | (go_at_call 8; ((with_reducible refine HN.out.mono ?_); rintro e w2 ⟨rfl, hg2⟩; have HG2 := Lib.hid (grown_trans HG0.out hg2); obtain ⟨d0, d1, d2, d3, d4, d5, d6, d7⟩ := HCA.out.grown hg2; clear hg2))
    | (go_at_call 18; ((with_reducible refine (HM.out _).mono ?_); rintro e w4 ⟨rfl, hg4⟩; have HG4 := Lib.hid (grown_trans HG2.out hg4); clear hg4))
    | (go_at_call 10; ((with_reducible refine (HW.out _ HG4.out).mono ?_); rintro e w3 ⟨rfl, hg3⟩; have HG3 := Lib.hid (grown_trans HG4.out hg3); clear hg3)))
  go_ret
  exact ⟨rfl, HG3.out⟩
theorem own_meets {w w1 : World} {t b N : Nat} {s : Ms} (h : Own w w1 t b N s) (kd k : Int) (X : Bool) (hX : meets s kd k = X) : Calls Tryd.prog 13 #[.pointer (some ⟨t, 0, none⟩), .int .u8 kd, .int .i64 k] w1 fun e w' => e = .returned (.bool X) ∧ w1 = w' := by
  subst hX; exact meets_any h.mq kd k
theorem own_has {w w1 : World} {t b N : Nat} {s : Ms} (h : Own w w1 t b N s) (k : Int) (X Y : Bool) (hX : s.r k = X) (hY : s.w k = Y) : Calls Tryd.prog 15 #[.pointer (some ⟨t, 0, none⟩), .int .i64 k] w1 fun e w' => e = .returned (.tuple #[.bool X, .bool Y]) ∧ w1 = w' := by
  subst hX hY; exact has_any h.mq k
theorem ref_has {w : World} {r g1 g2 N : Nat} {s : Ms} (h : RAt w r g1 g2 N s) (k : Int) (X Y : Bool) (hX : s.r k = X) (hY : s.w k = Y) : Calls Tryd.prog 23 #[.pointer (some ⟨r, 0, none⟩), .int .i64 k] w fun e w' => e = .returned (.tuple #[.bool X, .bool Y]) ∧ w.grownBy w' none := by
  subst hX hY; exact (rhas_any h k).mono fun e w' ⟨he, n, hw⟩ => ⟨he, by rw [hw]; exact grown_drewN (grown_refl _ _) n⟩
theorem ref_meets {w : World} {r g1 g2 N : Nat} {s : Ms} (h : RAt w r g1 g2 N s) (kd k : Int) (X : Bool) (hX : meets s kd k = X) : Calls Tryd.prog 24 #[.pointer (some ⟨r, 0, none⟩), .int .u8 kd, .int .i64 k] w fun e w' => e = .returned (.bool X) ∧ w.grownBy w' none := by
  subst hX; exact rmeets_any h kd k
theorem own_allk {w w1 : World} {t b N : Nat} {s : Ms} (h : Own w w1 t b N s) (L : Nat) (xs : List Int) (hx : keys N s = xs) (hL : xs.length = L) : Calls Tryd.prog 16 #[.pointer (some ⟨t, 0, none⟩)] w1 fun e w2 => ∃ ad cap, e = .returned (.slice ad L cap) ∧ IntsAt w2 ad xs ∧ w1.grownBy w2 none := by
  subst hL hx
  exact (all_any h.mq).mono fun e w2 ⟨v, he, hrow, hg⟩ => by
    obtain ⟨ad, cap, rfl, hat, _⟩ := own_ints hrow
    exact ⟨ad, cap, he, hat, hg⟩
theorem ref_allk {w : World} {r g1 g2 N : Nat} {s : Ms} (h : RAt w r g1 g2 N s) (L : Nat) (xs : List Int) (hx : keys N s = xs) (hL : xs.length = L) : Calls Tryd.prog 26 #[.pointer (some ⟨r, 0, none⟩)] w fun e w2 => ∃ ad cap, e = .returned (.slice ad L cap) ∧ IntsAt w2 ad xs ∧ w.grownBy w2 none := by
  subst hL hx
  exact (rall_any h).mono fun e w2 ⟨v, he, hrow, hg⟩ => by
    obtain ⟨ad, cap, rfl, hat, _⟩ := own_ints hrow
    exact ⟨ad, cap, he, hat, hg⟩

set_option maxHeartbeats 1000000 in
theorem play_long (c : Cfg) (ad : Option Addr) (len cap : Nat) (w : World) (hT : Tab w) (h : 300 < len) : Calls Tryd.prog 4 #[.agg c.cells, .slice ad len cap] w fun e w' => e = .returned (.bool true) ∧ w.grownBy w' none := by
  have hd : decide ((300 : Int) < (len : Int)) = true := by simp; omega
  have hg0 : w.grownBy (w.alloc (.cells c.cells 27)) none := grown_alloc (grown_refl _ _) _
  have HW := Lib.hid (works_any _ (hT.grown hg0))
  have HG0 := Lib.hid hg0
  clear hT h hg0
  unfold Cfg.cells at *
  go_enter Tryd.func4, Tryd.ntmps4
  go_wp2_with (go_at_call 10; ((with_reducible refine HW.out.mono ?_); rintro e w3 ⟨rfl, hg3⟩; have HG3 := Lib.hid hg3; clear hg3))
  go_ret
  exact ⟨rfl, grown_trans HG0.out HG3.out⟩
set_option maxHeartbeats 16000000 in
theorem play_some (c : Cfg) (os : List OpX) (ad : Option Addr) (len cap : Nat) (w : World) (hT : Tab w) (hlen : len = os.length) (hat : OpsAt w ad os) (h : len ≤ 300) (hm : c.may) : Calls Tryd.prog 4 #[.agg c.cells, .slice ad len cap] w fun e w' => e = .returned (.bool true) ∧ w.grownBy w' none := by
  obtain ⟨N, hN, hN0, hN1⟩ := cfg_nat hm
  have hd : decide ((300 : Int) < (len : Int)) = false := by simp; omega
  have hg0 : w.grownBy (w.alloc (.cells c.cells 27)) none := grown_alloc (grown_refl _ _) _
  have HN := Lib.hid (own_new c N _ (hT.grown hg0) hm hN hN1)
  have HMY : Hid (∀ w', _) := Lib.hid fun w' => tt.rmay_any c w'
  rw [decide_eq_true hm] at HMY
  have HRN : Hid (∀ w', _) := Lib.hid fun w' => rnew_any c N w' hm hN hN1
  have HW : Hid (∀ w', w.grownBy w' none → _) := Lib.hid (fun w' h => works_any w' (hT.grown h))
  obtain ⟨c0, c1, c2, c3, c4, c5, c6, c7⟩ := cfg_at w c
  have HCA := Lib.hid (cfg_at w c)
  have HG0 := Lib.hid hg0
  have HLEN := Lib.hid hlen
  have H300 := Lib.hid h
  have HAT := Lib.hid (fun w' (h : w.grownBy w' none) => hat.grown h)
  clear hT hm hg0 hlen hat h hN hN0 hN1
  unfold Cfg.cells at HN HMY HRN HG0 HCA c0 c1 c2 c3 c4 c5 c6 c7 ⊢
  obtain ⟨wb, hwb⟩ : ∃ wb, w.alloc (.cells #[.int .i64 c.co, .int .i64 c.se, .int .i64 c.wa, .int .i64 c.bl, .int .i64 c.lo, .int .i64 c.ba, .int .i64 c.ne, .int .i64 c.tr] 27) = wb := ⟨_, rfl⟩
  have HWB := Lib.hid hwb
  rw [hwb] at HCA
  have HAT := Lib.hid fun (w' : World) (h : wb.grownBy w' none) => HAT.out w' (grown_trans HG0.out (by rw [HWB.out]; exact h))
  have HWb := Lib.hid fun (w' : World) (h : wb.grownBy w' none) => HW.out w' (grown_trans HG0.out (by rw [HWB.out]; exact h))
  have HFIN := Lib.hid fun (w' : World) (h : wb.grownBy w' none) => grown_trans HG0.out (by rw [HWB.out]; exact h)
  clear hwb HG0 HW
  go_enter Tryd.func4, Tryd.ntmps4
  go_wp2_with (first
    | (go_at_call 8; ((with_reducible refine HN.out.mono ?_); rintro e w2 ⟨t, b, rfl, ho2⟩; (rw [HWB.out] at ho2); have H2 := Lib.hid ho2; obtain ⟨d0, d1, d2, d3, d4, d5, d6, d7⟩ := HCA.out.grown ho2.old; clear ho2 c0 c1 c2 c3 c4 c5 c6 c7))
    | (go_at_call 18; ((with_reducible refine (HMY.out _).mono ?_); rintro e w4 ⟨rfl, hg4⟩; have H4 := Lib.hid (H2.out.grown hg4); obtain ⟨e0, e1, e2, e3, e4, e5, e6, e7⟩ := HCA.out.grown H4.out.old; clear hg4 d0 d1 d2 d3 d4 d5 d6 d7))
    | (go_at_call 19; ((with_reducible refine (HRN.out _).mono ?_); rintro e w5 ⟨r, g1, g2, rfl, hr5, hg5, hr, hg, hh⟩; have H5 : Hid (Both wb w5 t b r g1 g2 N Ms.zero) := Lib.hid ⟨H4.out.grown hg5, hr5, Nat.le_trans H4.out.old.size hr, Nat.le_trans H4.out.old.size hg, Nat.le_trans H4.out.old.size hh⟩; clear hr5 hg5 hr hg hh e0 e1 e2 e3 e4 e5 e6 e7))
    | fail)
  clear HN HMY HRN H2 H4
  go_loopw [43, 5] (fun i tv wr => ∃ (j t b g1 g2 : Nat) (s : Ms), j ≤ len ∧ i = .int .i64 (j : Int) ∧ tv = .pointer (some ⟨t, 0, none⟩) ∧ Both wb wr t b r g1 g2 N s) (fun i _ _ => len - (intOf i).toNat)
  case atStart => exact ⟨0, _, _, _, _, Ms.zero, Nat.zero_le _, rfl, rfl, H5.out⟩
  case round =>
    clear H5
    obtain ⟨j, t, b, g1, g2, s, hj, rfl, rfl, ho⟩ := hrel
    have HO := Lib.hid ho
    have hj300 : j ≤ 300 := by have := H300.out; omega
    clear ho
    by_cases hlt : j < len
    · obtain ⟨⟨kd, b2, x⟩, hx⟩ : ∃ y, os[j]? = some y := ⟨_, List.getElem?_eq_getElem (by have := HLEN.out; omega)⟩
      obtain ⟨bp, op, rfl, hr0, hr1, hr2⟩ := HAT.out _ HO.out.own.old j _ hx
      clear hx
      dsimp only at hr0 hr1 hr2
      by_cases hk0 : kd = 0
      · subst hk0
        have HSM : Hid (N ≤ 256) := Lib.hid HO.out.ref.small
        have HO2 := Lib.hid (HO.out.grown (w2 := wr.alloc (.cells #[.int .i64 0, .int .i64 b2, .int .u8 x] 42)) (grown_alloc (grown_refl _ _) _))
        have HQ2 : Hid ((wr.alloc (.cells #[.int .i64 0, .int .i64 b2, .int .u8 x] 42)).heap[wr.heap.size]? = some (.cells #[.int .i64 0, .int .i64 b2, .int .u8 x] 42 (0, 0))) := Lib.hid (heap_alloc_new _ _)
        go_wp2_with fail
        obtain ⟨X2, hX2⟩ : ∃ W, wr.alloc (.cells #[.int .i64 0, .int .i64 b2, .int .u8 x] 42) = W := ⟨_, rfl⟩
        rw [hX2] at HO2 HQ2 ⊢
        clear hX2
        have c1 : X2.cell? ⟨wr.heap.size, 1, none⟩ = some (.int .i64 b2) := (by simp [World.cell?, HQ2.out])
        refine wp_region_held_drew (S := fun W => W.cell? ⟨wr.heap.size, 1, none⟩ = some (.int .i64 b2)) (by kernel_rfl) c1 (fun hHeld => ?_)
        have HB0 := Lib.hid (HO2.out.grown (grown_drew (grown_refl _ _)))
        have HQ0 : Hid (X2.drew.heap[wr.heap.size]? = _) := Lib.hid HQ2.out
        generalize X2.drew = W0 at hHeld HB0 HQ0 ⊢
        clear c1
        refine wpAnyH_take (i := 0) (oi := ⟨some 51, Op.move (Operand.tmp 5), _, _, _, _⟩) (v := ?v1) rfl (by kernel_rfl) (by kernel_rfl) (by kernel_rfl) (fun _ _ _ h => h) (Or.inl ⟨by rfl, ?hy1⟩) (by assumption) ?rest1
        case hy1 => ((intro w0 hSw; have hs1 := hSw; go_simp); try (with_reducible rfl))
        try simp only [Act.put, List.setIfInBounds_toArray, List.set_cons_zero, List.set_cons_succ]
        refine wpAnyH_take (i := 1) (oi := ⟨some 52, Op.fieldAddr 42 (Operand.tmp 9) 1, _, _, _, _⟩) (v := ?v2) rfl (by kernel_rfl) (by kernel_rfl) (by kernel_rfl) (fun _ _ _ h => h) (Or.inl ⟨by rfl, ?hy2⟩) (by assumption) ?rest2
        case hy2 => ((intro w0 hSw; have hs1 := hSw; go_simp); try (with_reducible rfl))
        try simp only [Act.put, List.setIfInBounds_toArray, List.set_cons_zero, List.set_cons_succ]
        refine wpAnyH_take (i := 2) (oi := ⟨some 53, Op.load 3 (Operand.tmp 52), _, _, _, _⟩) (v := ?v3) rfl (by kernel_rfl) (by kernel_rfl) (by kernel_rfl) (fun _ _ _ h => h) (Or.inl ⟨by rfl, ?hy3⟩) (by assumption) ?rest3
        case hy3 => ((intro w0 hSw; have hs1 := hSw; go_simp); try (with_reducible rfl))
        try simp only [Act.put, List.setIfInBounds_toArray, List.set_cons_zero, List.set_cons_succ]
        refine wpAnyH_take (i := 4) (oi := ⟨some 55, Op.move (Operand.tmp 7), _, _, _, _⟩) (v := ?v4) rfl (by kernel_rfl) (by kernel_rfl) (by kernel_rfl) (fun _ _ _ h => h) (Or.inl ⟨by rfl, ?hy4⟩) (by assumption) ?rest4
        case hy4 => ((intro w0 hSw; have hs1 := hSw; go_simp); try (with_reducible rfl))
        try simp only [Act.put, List.setIfInBounds_toArray, List.set_cons_zero, List.set_cons_succ]
        refine wpAnyH_take (i := 5) (oi := ⟨some 56, Op.fieldAddr 42 (Operand.tmp 9) 1, _, _, _, _⟩) (v := ?v5) rfl (by kernel_rfl) (by kernel_rfl) (by kernel_rfl) (fun _ _ _ h => h) (Or.inl ⟨by rfl, ?hy5⟩) (by assumption) ?rest5
        case hy5 => ((intro w0 hSw; have hs1 := hSw; go_simp); try (with_reducible rfl))
        try simp only [Act.put, List.setIfInBounds_toArray, List.set_cons_zero, List.set_cons_succ]
        refine wpAnyH_take (i := 6) (oi := ⟨some 57, Op.load 3 (Operand.tmp 56), _, _, _, _⟩) (v := ?v6) rfl (by kernel_rfl) (by kernel_rfl) (by kernel_rfl) (fun _ _ _ h => h) (Or.inl ⟨by rfl, ?hy6⟩) (by assumption) ?rest6
        case hy6 => ((intro w0 hSw; have hs1 := hSw; go_simp); try (with_reducible rfl))
        try simp only [Act.put, List.setIfInBounds_toArray, List.set_cons_zero, List.set_cons_succ]
        refine wpAnyH_ready (rs := [3]) (by kernel_rfl) (by simp) ?_
        refine AllReadyH.cons (o := ⟨some 54, Op.call { callee := Callee.value (Operand.func 11), args := #[(Operand.tmp 51), (Operand.tmp 53)], argTypes := #[22, 3] }, _, _, _, _⟩) rfl (fun K hK => ?_) AllReadyH.nil
        go_simp
        have HC1 := Lib.hid (own_read HB0.out.own b2)
        obtain ⟨E0, hE0⟩ : ∃ E, E = addE N b2 := ⟨_, rfl⟩
        rw [← hE0] at HC1
        have HE0 := Lib.hid hE0
        clear hE0
        (with_reducible refine HC1.out.mono ?_); rintro e w4 ⟨rfl, ho4, hg4⟩
        have HO4 := Lib.hid ho4
        have HR4 := Lib.hid (HB0.out.ref.keep HB0.out.own hg4)
        have HQ4 := Lib.hid (HB0.out.own.cells hg4 HQ0.out)
        clear ho4 hg4 HC1
        go_wp2_with fail
        refine hK.out _ _ (by simp [World.cell?, HQ4.out]) (fun hHeld => ?_)
        clear hK K
        try simp only [Act.put, List.setIfInBounds_toArray, List.set_cons_zero, List.set_cons_succ]
        refine wpAnyH_ready (rs := [7]) (by kernel_rfl) (by simp) ?_
        refine AllReadyH.cons (o := ⟨some 58, Op.call { callee := Callee.value (Operand.func 20), args := #[(Operand.tmp 55), (Operand.tmp 57)], argTypes := #[39, 3] }, _, _, _, _⟩) rfl (fun K hK => ?_) AllReadyH.nil
        go_simp
        have HC2 := Lib.hid (rread_any HR4.out b2)
        rw [← HE0.out] at HC2
        (with_reducible refine HC2.out.mono ?_); rintro e w5 ⟨rfl, hr5, hg5⟩
        obtain ⟨cs, hcs, hcs2⟩ := HR4.out.rd
        have HB5 := Lib.hid (Both.mk (HO4.out.aside hcs (by decide) hg5 HB0.out.h1) hr5 HB0.out.hr HB0.out.h1 HB0.out.h2)
        have HQW := Lib.hid ((hg5.block _ (lt_of HQ4.out) (fun e => tyne HQ4.out hcs (by decide) (Option.some.inj e))).trans HQ4.out)
        clear hr5 hg5 hcs hcs2 cs HC2
        go_wp2_with fail
        refine hK.out _ _ (by simp [World.cell?, HQW.out]) (fun hHeld => ?_)
        clear hK K
        try simp only [Act.put, List.setIfInBounds_toArray, List.set_cons_zero, List.set_cons_succ]
        have e0 : (E0 == E0) = true := by simp
        refine wpAnyH_take (i := 8) (oi := ⟨some 59, Op.binOp BinOp.eql 23 (Operand.tmp 54) (Operand.tmp 58) _, _, _, _, _⟩) (v := ?v7) rfl (by kernel_rfl) (by kernel_rfl) (by kernel_rfl) (fun _ _ _ h => h) (Or.inl ⟨by rfl, ?hy7⟩) (by assumption) ?rest7
        case hy7 => ((intro w0 hSw; go_simp); try (with_reducible rfl))
        try simp only [Act.put, List.setIfInBounds_toArray, List.set_cons_zero, List.set_cons_succ]
        refine wpAnyH_take (i := 9) (oi := ⟨some 10, Op.assign (Operand.tmp 59), _, _, _, _⟩) (v := ?v8) rfl (by kernel_rfl) (by kernel_rfl) (by kernel_rfl) (fun _ _ _ h => h) (Or.inl ⟨by rfl, ?hy8⟩) (by assumption) ?rest8
        case hy8 => ((intro w0 hSw; go_simp); try (with_reducible rfl))
        try simp only [Act.put, List.setIfInBounds_toArray, List.set_cons_zero, List.set_cons_succ]
        refine wpAnyH_done (by kernel_rfl) ?_ _
        clear hHeld HO4 HR4 HB0 e0
        obtain ⟨NS, hNS⟩ : ∃ NS, NS = rdS N s b2 := ⟨_, rfl⟩
        rw [← hNS] at HB5
        clear hNS
        obtain ⟨X, hX⟩ : ∃ X, NS.r b2 = X := ⟨_, rfl⟩
        obtain ⟨Y, hY⟩ : ∃ Y, NS.w b2 = Y := ⟨_, rfl⟩
        obtain ⟨Z, hZ⟩ : ∃ Z, meets NS x b2 = Z := ⟨_, rfl⟩
        obtain ⟨xs, hxs⟩ : ∃ xs, keys N NS = xs := ⟨_, rfl⟩
        obtain ⟨L, hL⟩ : ∃ L, xs.length = L := ⟨_, rfl⟩
        have HL256 : Hid (L ≤ 256) := Lib.hid (by rw [← hL, ← hxs]; exact Nat.le_trans (keys_len N NS) HSM.out)
        have HLX := Lib.hid hL
        have HF1 : Hid (∀ (W : World) (t b : Nat), Own wb W t b N NS → _) := Lib.hid fun W t b h => own_has (t := t) (b := b) h b2 X Y hX hY
        have HF2 : Hid (∀ (W : World) (g1 g2 : Nat), RAt W r g1 g2 N NS → _) := Lib.hid fun W g1 g2 h => ref_has (g1 := g1) (g2 := g2) h b2 X Y hX hY
        have HM1 : Hid (∀ (W : World) (t b : Nat), Own wb W t b N NS → _) := Lib.hid fun W t b h => own_meets (t := t) (b := b) h x b2 Z hZ
        have HM2 : Hid (∀ (W : World) (g1 g2 : Nat), RAt W r g1 g2 N NS → _) := Lib.hid fun W g1 g2 h => ref_meets (g1 := g1) (g2 := g2) h x b2 Z hZ
        have HA1 : Hid (∀ (W : World) (t b : Nat), Own wb W t b N NS → _) := Lib.hid fun W t b h => own_allk (t := t) (b := b) h L xs hxs hL
        have HA2 : Hid (∀ (W : World) (g1 g2 : Nat), RAt W r g1 g2 N NS → _) := Lib.hid fun W g1 g2 h => ref_allk (g1 := g1) (g2 := g2) h L xs hxs hL
        have e1 : (X != X) = false := by simp
        have e2 : (Y != Y) = false := by simp
        clear hX hY hZ hxs hL HSM
        have q1 : w5.cell? ⟨wr.heap.size, 1, none⟩ = some (.int .i64 b2) := (by simp [World.cell?, HQW.out])
        go_wp2_with (first
          | (go_at_call 15; ((with_reducible refine (HF1.out _ _ _ HB5.out.own).mono ?_); rintro e w7 ⟨rfl, rfl⟩))
          | (go_at_call 23; ((with_reducible refine (HF2.out _ _ _ HB5.out.ref).mono ?_); rintro e w8 ⟨rfl, hg8⟩; have HB8 := Lib.hid (HB5.out.grown hg8); have hq8 := (hg8.block _ (lt_of HQW.out) (by simp)).trans HQW.out; have HQ8 := Lib.hid hq8; have c1 : w8.cell? ⟨wr.heap.size, 1, none⟩ = some (.int .i64 b2) := (by simp [World.cell?, hq8]); have c2 : w8.cell? ⟨wr.heap.size, 2, none⟩ = some (.int .u8 x) := (by simp [World.cell?, hq8]); clear hg8 hq8))
          | fail)
        clear HF1 HF2 e1 e2
        refine wp_region_held_drew (S := fun W => W.cell? ⟨wr.heap.size, 1, none⟩ = some (.int .i64 b2) ∧ W.cell? ⟨wr.heap.size, 2, none⟩ = some (.int .u8 x)) (by kernel_rfl) ⟨c1, c2⟩ (fun hHeld => ?_)
        have HB0 := Lib.hid (HB8.out.grown (grown_drew (grown_refl _ _)))
        have HQ0 : Hid (w8.drew.heap[wr.heap.size]? = _) := Lib.hid HQ8.out
        generalize w8.drew = W0 at hHeld HB0 HQ0 ⊢
        clear c1 c2 HB8 HQ8
        have e1 : (X != X) = false := by simp
        have e2 : (Y != Y) = false := by simp
        have e3 : (Z != Z) = false := by simp
        refine wpAnyH_take (i := 0) (oi := ⟨some 98, Op.move (Operand.tmp 10), _, _, _, _⟩) (v := ?v9) rfl (by kernel_rfl) (by kernel_rfl) (by kernel_rfl) (fun _ _ _ h => h) (Or.inl ⟨by rfl, ?hy9⟩) (by assumption) ?rest9
        case hy9 => ((intro w0 hSw; obtain ⟨hs1, hs2⟩ := hSw; go_simp); try (with_reducible rfl))
        try simp only [Act.put, List.setIfInBounds_toArray, List.set_cons_zero, List.set_cons_succ]
        refine wpAnyH_take (i := 1) (oi := ⟨some 99, Op.unOp UnOp.not 4 (Operand.tmp 98), _, _, _, _⟩) (v := ?v10) rfl (by kernel_rfl) (by kernel_rfl) (by kernel_rfl) (fun _ _ _ h => h) (Or.inl ⟨by rfl, ?hy10⟩) (by assumption) ?rest10
        case hy10 => ((intro w0 hSw; obtain ⟨hs1, hs2⟩ := hSw; go_simp); try (with_reducible rfl))
        try simp only [Act.put, List.setIfInBounds_toArray, List.set_cons_zero, List.set_cons_succ]
        refine wpAnyH_take (i := 2) (oi := ⟨some 100, Op.move (Operand.tmp 99), _, _, _, _⟩) (v := ?v11) rfl (by kernel_rfl) (by kernel_rfl) (by kernel_rfl) (fun _ _ _ h => h) (Or.inl ⟨by rfl, ?hy11⟩) (by assumption) ?rest11
        case hy11 => ((intro w0 hSw; obtain ⟨hs1, hs2⟩ := hSw; go_simp); try (with_reducible rfl))
        try simp only [Act.put, List.setIfInBounds_toArray, List.set_cons_zero, List.set_cons_succ]
        refine wpAnyH_take (i := 3) (oi := ⟨some 101, Op.move (Operand.tmp 12), _, _, _, _⟩) (v := ?v12) rfl (by kernel_rfl) (by kernel_rfl) (by kernel_rfl) (fun _ _ _ h => h) (Or.inl ⟨by rfl, ?hy12⟩) (by assumption) ?rest12
        case hy12 => ((intro w0 hSw; obtain ⟨hs1, hs2⟩ := hSw; go_simp); try (with_reducible rfl))
        try simp only [Act.put, List.setIfInBounds_toArray, List.set_cons_zero, List.set_cons_succ]
        refine wpAnyH_take (i := 4) (oi := ⟨some 102, Op.move (Operand.tmp 14), _, _, _, _⟩) (v := ?v13) rfl (by kernel_rfl) (by kernel_rfl) (by kernel_rfl) (fun _ _ _ h => h) (Or.inl ⟨by rfl, ?hy13⟩) (by assumption) ?rest13
        case hy13 => ((intro w0 hSw; obtain ⟨hs1, hs2⟩ := hSw; go_simp); try (with_reducible rfl))
        try simp only [Act.put, List.setIfInBounds_toArray, List.set_cons_zero, List.set_cons_succ]
        refine wpAnyH_take (i := 5) (oi := ⟨some 103, Op.binOp BinOp.neq 4 (Operand.tmp 101) (Operand.tmp 102) _, _, _, _, _⟩) (v := ?v14) rfl (by kernel_rfl) (by kernel_rfl) (by kernel_rfl) (fun _ _ _ h => h) (Or.inl ⟨by rfl, ?hy14⟩) (by assumption) ?rest14
        case hy14 => ((intro w0 hSw; obtain ⟨hs1, hs2⟩ := hSw; go_simp); try (with_reducible rfl))
        try simp only [Act.put, List.setIfInBounds_toArray, List.set_cons_zero, List.set_cons_succ]
        refine wpAnyH_take (i := 6) (oi := ⟨some 104, Op.pick (Operand.tmp 100) (Operand.const (Value.bool true)) (Operand.tmp 103), _, _, _, _⟩) (v := ?v15) rfl (by kernel_rfl) (by kernel_rfl) (by kernel_rfl) (fun _ _ _ h => h) (Or.inl ⟨by rfl, ?hy15⟩) (by assumption) ?rest15
        case hy15 => ((intro w0 hSw; obtain ⟨hs1, hs2⟩ := hSw; go_simp); try (with_reducible rfl))
        try simp only [Act.put, List.setIfInBounds_toArray, List.set_cons_zero, List.set_cons_succ]
        refine wpAnyH_take (i := 7) (oi := ⟨some 105, Op.move (Operand.tmp 104), _, _, _, _⟩) (v := ?v16) rfl (by kernel_rfl) (by kernel_rfl) (by kernel_rfl) (fun _ _ _ h => h) (Or.inl ⟨by rfl, ?hy16⟩) (by assumption) ?rest16
        case hy16 => ((intro w0 hSw; obtain ⟨hs1, hs2⟩ := hSw; go_simp); try (with_reducible rfl))
        try simp only [Act.put, List.setIfInBounds_toArray, List.set_cons_zero, List.set_cons_succ]
        refine wpAnyH_take (i := 8) (oi := ⟨some 106, Op.move (Operand.tmp 13), _, _, _, _⟩) (v := ?v17) rfl (by kernel_rfl) (by kernel_rfl) (by kernel_rfl) (fun _ _ _ h => h) (Or.inl ⟨by rfl, ?hy17⟩) (by assumption) ?rest17
        case hy17 => ((intro w0 hSw; obtain ⟨hs1, hs2⟩ := hSw; go_simp); try (with_reducible rfl))
        try simp only [Act.put, List.setIfInBounds_toArray, List.set_cons_zero, List.set_cons_succ]
        refine wpAnyH_take (i := 9) (oi := ⟨some 107, Op.move (Operand.tmp 15), _, _, _, _⟩) (v := ?v18) rfl (by kernel_rfl) (by kernel_rfl) (by kernel_rfl) (fun _ _ _ h => h) (Or.inl ⟨by rfl, ?hy18⟩) (by assumption) ?rest18
        case hy18 => ((intro w0 hSw; obtain ⟨hs1, hs2⟩ := hSw; go_simp); try (with_reducible rfl))
        try simp only [Act.put, List.setIfInBounds_toArray, List.set_cons_zero, List.set_cons_succ]
        refine wpAnyH_take (i := 10) (oi := ⟨some 108, Op.binOp BinOp.neq 4 (Operand.tmp 106) (Operand.tmp 107) _, _, _, _, _⟩) (v := ?v19) rfl (by kernel_rfl) (by kernel_rfl) (by kernel_rfl) (fun _ _ _ h => h) (Or.inl ⟨by rfl, ?hy19⟩) (by assumption) ?rest19
        case hy19 => ((intro w0 hSw; obtain ⟨hs1, hs2⟩ := hSw; go_simp); try (with_reducible rfl))
        try simp only [Act.put, List.setIfInBounds_toArray, List.set_cons_zero, List.set_cons_succ]
        refine wpAnyH_take (i := 11) (oi := ⟨some 109, Op.pick (Operand.tmp 105) (Operand.const (Value.bool true)) (Operand.tmp 108), _, _, _, _⟩) (v := ?v20) rfl (by kernel_rfl) (by kernel_rfl) (by kernel_rfl) (fun _ _ _ h => h) (Or.inl ⟨by rfl, ?hy20⟩) (by assumption) ?rest20
        case hy20 => ((intro w0 hSw; obtain ⟨hs1, hs2⟩ := hSw; go_simp); try (with_reducible rfl))
        try simp only [Act.put, List.setIfInBounds_toArray, List.set_cons_zero, List.set_cons_succ]
        refine wpAnyH_take (i := 12) (oi := ⟨some 110, Op.move (Operand.tmp 109), _, _, _, _⟩) (v := ?v21) rfl (by kernel_rfl) (by kernel_rfl) (by kernel_rfl) (fun _ _ _ h => h) (Or.inl ⟨by rfl, ?hy21⟩) (by assumption) ?rest21
        case hy21 => ((intro w0 hSw; obtain ⟨hs1, hs2⟩ := hSw; go_simp); try (with_reducible rfl))
        try simp only [Act.put, List.setIfInBounds_toArray, List.set_cons_zero, List.set_cons_succ]
        refine wpAnyH_take (i := 13) (oi := ⟨some 111, Op.move (Operand.tmp 5), _, _, _, _⟩) (v := ?v22) rfl (by kernel_rfl) (by kernel_rfl) (by kernel_rfl) (fun _ _ _ h => h) (Or.inl ⟨by rfl, ?hy22⟩) (by assumption) ?rest22
        case hy22 => ((intro w0 hSw; obtain ⟨hs1, hs2⟩ := hSw; go_simp); try (with_reducible rfl))
        try simp only [Act.put, List.setIfInBounds_toArray, List.set_cons_zero, List.set_cons_succ]
        refine wpAnyH_take (i := 14) (oi := ⟨some 112, Op.fieldAddr 42 (Operand.tmp 9) 2, _, _, _, _⟩) (v := ?v23) rfl (by kernel_rfl) (by kernel_rfl) (by kernel_rfl) (fun _ _ _ h => h) (Or.inl ⟨by rfl, ?hy23⟩) (by assumption) ?rest23
        case hy23 => ((intro w0 hSw; obtain ⟨hs1, hs2⟩ := hSw; go_simp); try (with_reducible rfl))
        try simp only [Act.put, List.setIfInBounds_toArray, List.set_cons_zero, List.set_cons_succ]
        refine wpAnyH_take (i := 15) (oi := ⟨some 113, Op.load 5 (Operand.tmp 112), _, _, _, _⟩) (v := ?v24) rfl (by kernel_rfl) (by kernel_rfl) (by kernel_rfl) (fun _ _ _ h => h) (Or.inl ⟨by rfl, ?hy24⟩) (by assumption) ?rest24
        case hy24 => ((intro w0 hSw; obtain ⟨hs1, hs2⟩ := hSw; go_simp); try (with_reducible rfl))
        try simp only [Act.put, List.setIfInBounds_toArray, List.set_cons_zero, List.set_cons_succ]
        refine wpAnyH_take (i := 16) (oi := ⟨some 114, Op.fieldAddr 42 (Operand.tmp 9) 1, _, _, _, _⟩) (v := ?v25) rfl (by kernel_rfl) (by kernel_rfl) (by kernel_rfl) (fun _ _ _ h => h) (Or.inl ⟨by rfl, ?hy25⟩) (by assumption) ?rest25
        case hy25 => ((intro w0 hSw; obtain ⟨hs1, hs2⟩ := hSw; go_simp); try (with_reducible rfl))
        try simp only [Act.put, List.setIfInBounds_toArray, List.set_cons_zero, List.set_cons_succ]
        refine wpAnyH_take (i := 17) (oi := ⟨some 115, Op.load 3 (Operand.tmp 114), _, _, _, _⟩) (v := ?v26) rfl (by kernel_rfl) (by kernel_rfl) (by kernel_rfl) (fun _ _ _ h => h) (Or.inl ⟨by rfl, ?hy26⟩) (by assumption) ?rest26
        case hy26 => ((intro w0 hSw; obtain ⟨hs1, hs2⟩ := hSw; go_simp); try (with_reducible rfl))
        try simp only [Act.put, List.setIfInBounds_toArray, List.set_cons_zero, List.set_cons_succ]
        refine wpAnyH_take (i := 19) (oi := ⟨some 117, Op.move (Operand.tmp 7), _, _, _, _⟩) (v := ?v27) rfl (by kernel_rfl) (by kernel_rfl) (by kernel_rfl) (fun _ _ _ h => h) (Or.inl ⟨by rfl, ?hy27⟩) (by assumption) ?rest27
        case hy27 => ((intro w0 hSw; obtain ⟨hs1, hs2⟩ := hSw; go_simp); try (with_reducible rfl))
        try simp only [Act.put, List.setIfInBounds_toArray, List.set_cons_zero, List.set_cons_succ]
        refine wpAnyH_take (i := 20) (oi := ⟨some 118, Op.fieldAddr 42 (Operand.tmp 9) 2, _, _, _, _⟩) (v := ?v28) rfl (by kernel_rfl) (by kernel_rfl) (by kernel_rfl) (fun _ _ _ h => h) (Or.inl ⟨by rfl, ?hy28⟩) (by assumption) ?rest28
        case hy28 => ((intro w0 hSw; obtain ⟨hs1, hs2⟩ := hSw; go_simp); try (with_reducible rfl))
        try simp only [Act.put, List.setIfInBounds_toArray, List.set_cons_zero, List.set_cons_succ]
        refine wpAnyH_take (i := 21) (oi := ⟨some 119, Op.load 5 (Operand.tmp 118), _, _, _, _⟩) (v := ?v29) rfl (by kernel_rfl) (by kernel_rfl) (by kernel_rfl) (fun _ _ _ h => h) (Or.inl ⟨by rfl, ?hy29⟩) (by assumption) ?rest29
        case hy29 => ((intro w0 hSw; obtain ⟨hs1, hs2⟩ := hSw; go_simp); try (with_reducible rfl))
        try simp only [Act.put, List.setIfInBounds_toArray, List.set_cons_zero, List.set_cons_succ]
        refine wpAnyH_take (i := 22) (oi := ⟨some 120, Op.fieldAddr 42 (Operand.tmp 9) 1, _, _, _, _⟩) (v := ?v30) rfl (by kernel_rfl) (by kernel_rfl) (by kernel_rfl) (fun _ _ _ h => h) (Or.inl ⟨by rfl, ?hy30⟩) (by assumption) ?rest30
        case hy30 => ((intro w0 hSw; obtain ⟨hs1, hs2⟩ := hSw; go_simp); try (with_reducible rfl))
        try simp only [Act.put, List.setIfInBounds_toArray, List.set_cons_zero, List.set_cons_succ]
        refine wpAnyH_take (i := 23) (oi := ⟨some 121, Op.load 3 (Operand.tmp 120), _, _, _, _⟩) (v := ?v31) rfl (by kernel_rfl) (by kernel_rfl) (by kernel_rfl) (fun _ _ _ h => h) (Or.inl ⟨by rfl, ?hy31⟩) (by assumption) ?rest31
        case hy31 => ((intro w0 hSw; obtain ⟨hs1, hs2⟩ := hSw; go_simp); try (with_reducible rfl))
        try simp only [Act.put, List.setIfInBounds_toArray, List.set_cons_zero, List.set_cons_succ]
        refine wpAnyH_ready (rs := [18]) (by kernel_rfl) (by simp) ?_
        refine AllReadyH.cons (o := ⟨some 116, Op.call { callee := Callee.value (Operand.func 13), args := #[(Operand.tmp 111), (Operand.tmp 113), (Operand.tmp 115)], argTypes := #[22, 5, 3] }, _, _, _, _⟩) rfl (fun K hK => ?_) AllReadyH.nil
        go_simp
        (with_reducible refine (HM1.out _ _ _ HB0.out.own).mono ?_); rintro e w9 ⟨rfl, rfl⟩
        go_wp2_with fail
        refine hK.out _ _ (by constructor <;> simp [World.cell?, HQ0.out]) (fun hHeld => ?_)
        clear hK K
        try simp only [Act.put, List.setIfInBounds_toArray, List.set_cons_zero, List.set_cons_succ]
        refine wpAnyH_ready (rs := [24]) (by kernel_rfl) (by simp) ?_
        refine AllReadyH.cons (o := ⟨some 122, Op.call { callee := Callee.value (Operand.func 24), args := #[(Operand.tmp 117), (Operand.tmp 119), (Operand.tmp 121)], argTypes := #[39, 5, 3] }, _, _, _, _⟩) rfl (fun K hK => ?_) AllReadyH.nil
        go_simp
        (with_reducible refine (HM2.out _ _ _ HB0.out.ref).mono ?_); rintro e w10 ⟨rfl, hg10⟩
        have HB10 := Lib.hid (HB0.out.grown hg10)
        have HQ10 := Lib.hid ((hg10.block _ (lt_of HQ0.out) (by simp)).trans HQ0.out)
        clear hg10 HB0 HQ0 HM1 HM2
        go_wp2_with fail
        refine hK.out _ _ (by constructor <;> simp [World.cell?, HQ10.out]) (fun hHeld => ?_)
        clear hK K
        try simp only [Act.put, List.setIfInBounds_toArray, List.set_cons_zero, List.set_cons_succ]
        refine wpAnyH_take (i := 25) (oi := ⟨some 123, Op.binOp BinOp.neq 4 (Operand.tmp 116) (Operand.tmp 122) _, _, _, _, _⟩) (v := ?v32) rfl (by kernel_rfl) (by kernel_rfl) (by kernel_rfl) (fun _ _ _ h => h) (Or.inl ⟨by rfl, ?hy32⟩) (by assumption) ?rest32
        case hy32 => ((intro w0 hSw; go_simp); try (with_reducible rfl))
        try simp only [Act.put, List.setIfInBounds_toArray, List.set_cons_zero, List.set_cons_succ]
        refine wpAnyH_take (i := 26) (oi := ⟨some 124, Op.pick (Operand.tmp 110) (Operand.const (Value.bool true)) (Operand.tmp 123), _, _, _, _⟩) (v := ?v33) rfl (by kernel_rfl) (by kernel_rfl) (by kernel_rfl) (fun _ _ _ h => h) (Or.inl ⟨by rfl, ?hy33⟩) (by assumption) ?rest33
        case hy33 => ((intro w0 hSw; go_simp); try (with_reducible rfl))
        try simp only [Act.put, List.setIfInBounds_toArray, List.set_cons_zero, List.set_cons_succ]
        refine wpAnyH_take (i := 27) (oi := ⟨some 125, Op.move (Operand.tmp 124), _, _, _, _⟩) (v := ?v34) rfl (by kernel_rfl) (by kernel_rfl) (by kernel_rfl) (fun _ _ _ h => h) (Or.inl ⟨by rfl, ?hy34⟩) (by assumption) ?rest34
        case hy34 => ((intro w0 hSw; go_simp); try (with_reducible rfl))
        try simp only [Act.put, List.setIfInBounds_toArray, List.set_cons_zero, List.set_cons_succ]
        refine wpAnyH_take (i := 28) (oi := ⟨some 126, Op.move (Operand.tmp 5), _, _, _, _⟩) (v := ?v35) rfl (by kernel_rfl) (by kernel_rfl) (by kernel_rfl) (fun _ _ _ h => h) (Or.inl ⟨by rfl, ?hy35⟩) (by assumption) ?rest35
        case hy35 => ((intro w0 hSw; go_simp); try (with_reducible rfl))
        try simp only [Act.put, List.setIfInBounds_toArray, List.set_cons_zero, List.set_cons_succ]
        refine wpAnyH_take (i := 30) (oi := ⟨some 128, Op.move (Operand.tmp 7), _, _, _, _⟩) (v := ?v36) rfl (by kernel_rfl) (by kernel_rfl) (by kernel_rfl) (fun _ _ _ h => h) (Or.inl ⟨by rfl, ?hy36⟩) (by assumption) ?rest36
        case hy36 => ((intro w0 hSw; go_simp); try (with_reducible rfl))
        try simp only [Act.put, List.setIfInBounds_toArray, List.set_cons_zero, List.set_cons_succ]
        refine wpAnyH_ready (rs := [29]) (by kernel_rfl) (by simp) ?_
        refine AllReadyH.cons (o := ⟨some 127, Op.call { callee := Callee.value (Operand.func 16), args := #[(Operand.tmp 126)], argTypes := #[22] }, _, _, _, _⟩) rfl (fun K hK => ?_) AllReadyH.nil
        go_simp
        (with_reducible refine (HA1.out _ _ _ HB10.out.own).mono ?_); rintro e w11 ⟨ad1, cap1, rfl, ha1, hg11⟩
        have HB11 := Lib.hid (HB10.out.grown hg11)
        have HQ11 := Lib.hid ((hg11.block _ (lt_of HQ10.out) (by simp)).trans HQ10.out)
        have HI1 := Lib.hid ha1
        clear ha1 hg11 HB10 HQ10
        go_wp2_with fail
        refine hK.out _ _ (by constructor <;> simp [World.cell?, HQ11.out]) (fun hHeld => ?_)
        clear hK K
        try simp only [Act.put, List.setIfInBounds_toArray, List.set_cons_zero, List.set_cons_succ]
        refine wpAnyH_ready (rs := [31]) (by kernel_rfl) (by simp) ?_
        refine AllReadyH.cons (o := ⟨some 129, Op.call { callee := Callee.value (Operand.func 26), args := #[(Operand.tmp 128)], argTypes := #[39] }, _, _, _, _⟩) rfl (fun K hK => ?_) AllReadyH.nil
        go_simp
        (with_reducible refine (HA2.out _ _ _ HB11.out.ref).mono ?_); rintro e w12 ⟨ad2, cap2, rfl, ha2, hg12⟩
        have HB12 := Lib.hid (HB11.out.grown hg12)
        have HQ12 := Lib.hid ((hg12.block _ (lt_of HQ11.out) (by simp)).trans HQ11.out)
        have HI2 := Lib.hid ha2
        have HI3 := Lib.hid (HI1.out.grown hg12)
        clear ha2 hg12 HB11 HQ11 HI1 HA1 HA2
        go_wp2_with fail
        refine hK.out _ _ (by constructor <;> simp [World.cell?, HQ12.out]) (fun hHeld => ?_)
        clear hK K
        try simp only [Act.put, List.setIfInBounds_toArray, List.set_cons_zero, List.set_cons_succ]
        refine wpAnyH_ready (rs := [32]) (by kernel_rfl) (by simp) ?_
        refine AllReadyH.cons (o := ⟨some 130, Op.call { callee := Callee.value (Operand.func 25), args := #[(Operand.tmp 127), (Operand.tmp 129)], argTypes := #[34, 34] }, _, _, _, _⟩) rfl (fun K hK => ?_) AllReadyH.nil
        go_simp
        (with_reducible refine (equal_same xs ad1 ad2 L cap1 cap2 w12 HLX.out.symm (by have := HL256.out; omega) HI3.out HI2.out).mono ?_); rintro e w13 ⟨rfl, hg13⟩
        have HB13 := Lib.hid (HB12.out.grown hg13)
        have HQ13 := Lib.hid ((hg13.block _ (lt_of HQ12.out) (by simp)).trans HQ12.out)
        clear hg13 HB12 HQ12 HI2 HI3
        go_wp2_with fail
        refine hK.out _ _ (by constructor <;> simp [World.cell?, HQ13.out]) (fun hHeld => ?_)
        clear hK K
        try simp only [Act.put, List.setIfInBounds_toArray, List.set_cons_zero, List.set_cons_succ]
        refine wpAnyH_take (i := 33) (oi := ⟨some 131, Op.unOp UnOp.not 4 (Operand.tmp 130), _, _, _, _⟩) (v := ?v37) rfl (by kernel_rfl) (by kernel_rfl) (by kernel_rfl) (fun _ _ _ h => h) (Or.inl ⟨by rfl, ?hy37⟩) (by assumption) ?rest37
        case hy37 => ((intro w0 hSw; go_simp); try (with_reducible rfl))
        try simp only [Act.put, List.setIfInBounds_toArray, List.set_cons_zero, List.set_cons_succ]
        refine wpAnyH_take (i := 34) (oi := ⟨some 132, Op.pick (Operand.tmp 125) (Operand.const (Value.bool true)) (Operand.tmp 131), _, _, _, _⟩) (v := ?v38) rfl (by kernel_rfl) (by kernel_rfl) (by kernel_rfl) (fun _ _ _ h => h) (Or.inl ⟨by rfl, ?hy38⟩) (by assumption) ?rest38
        case hy38 => ((intro w0 hSw; go_simp); try (with_reducible rfl))
        try simp only [Act.put, List.setIfInBounds_toArray, List.set_cons_zero, List.set_cons_succ]
        refine wpAnyH_done (by kernel_rfl) ?_ _
        clear hHeld e1 e2 e3
        go_wp2_with fail
        go_roundw
        case rel => exact ⟨j + 1, _, _, _, _, NS, by omega, by go_num, rfl, HB13.out⟩
        case measure => simp [intOf]; omega
      · by_cases hk1 : kd = 1
        · subst hk1
          clear hk0
          have HSM : Hid (N ≤ 256) := Lib.hid HO.out.ref.small
          have HO2 := Lib.hid (HO.out.grown (w2 := wr.alloc (.cells #[.int .i64 1, .int .i64 b2, .int .u8 x] 42)) (grown_alloc (grown_refl _ _) _))
          have HQ2 : Hid ((wr.alloc (.cells #[.int .i64 1, .int .i64 b2, .int .u8 x] 42)).heap[wr.heap.size]? = some (.cells #[.int .i64 1, .int .i64 b2, .int .u8 x] 42 (0, 0))) := Lib.hid (heap_alloc_new _ _)
          go_wp2_with fail
          obtain ⟨X2, hX2⟩ : ∃ W, wr.alloc (.cells #[.int .i64 1, .int .i64 b2, .int .u8 x] 42) = W := ⟨_, rfl⟩
          rw [hX2] at HO2 HQ2 ⊢
          clear hX2
          have c1 : X2.cell? ⟨wr.heap.size, 1, none⟩ = some (.int .i64 b2) := (by simp [World.cell?, HQ2.out])
          refine wp_region_held_drew (S := fun W => W.cell? ⟨wr.heap.size, 1, none⟩ = some (.int .i64 b2)) (by kernel_rfl) c1 (fun hHeld => ?_)
          have HB0 := Lib.hid (HO2.out.grown (grown_drew (grown_refl _ _)))
          have HQ0 : Hid (X2.drew.heap[wr.heap.size]? = _) := Lib.hid HQ2.out
          generalize X2.drew = W0 at hHeld HB0 HQ0 ⊢
          clear c1
          refine wpAnyH_take (i := 0) (oi := ⟨some 62, Op.move (Operand.tmp 5), _, _, _, _⟩) (v := ?v39) rfl (by kernel_rfl) (by kernel_rfl) (by kernel_rfl) (fun _ _ _ h => h) (Or.inl ⟨by rfl, ?hy39⟩) (by assumption) ?rest39
          case hy39 => ((intro w0 hSw; have hs1 := hSw; go_simp); try (with_reducible rfl))
          try simp only [Act.put, List.setIfInBounds_toArray, List.set_cons_zero, List.set_cons_succ]
          refine wpAnyH_take (i := 1) (oi := ⟨some 63, Op.fieldAddr 42 (Operand.tmp 9) 1, _, _, _, _⟩) (v := ?v40) rfl (by kernel_rfl) (by kernel_rfl) (by kernel_rfl) (fun _ _ _ h => h) (Or.inl ⟨by rfl, ?hy40⟩) (by assumption) ?rest40
          case hy40 => ((intro w0 hSw; have hs1 := hSw; go_simp); try (with_reducible rfl))
          try simp only [Act.put, List.setIfInBounds_toArray, List.set_cons_zero, List.set_cons_succ]
          refine wpAnyH_take (i := 2) (oi := ⟨some 64, Op.load 3 (Operand.tmp 63), _, _, _, _⟩) (v := ?v41) rfl (by kernel_rfl) (by kernel_rfl) (by kernel_rfl) (fun _ _ _ h => h) (Or.inl ⟨by rfl, ?hy41⟩) (by assumption) ?rest41
          case hy41 => ((intro w0 hSw; have hs1 := hSw; go_simp); try (with_reducible rfl))
          try simp only [Act.put, List.setIfInBounds_toArray, List.set_cons_zero, List.set_cons_succ]
          refine wpAnyH_take (i := 4) (oi := ⟨some 66, Op.move (Operand.tmp 7), _, _, _, _⟩) (v := ?v42) rfl (by kernel_rfl) (by kernel_rfl) (by kernel_rfl) (fun _ _ _ h => h) (Or.inl ⟨by rfl, ?hy42⟩) (by assumption) ?rest42
          case hy42 => ((intro w0 hSw; have hs1 := hSw; go_simp); try (with_reducible rfl))
          try simp only [Act.put, List.setIfInBounds_toArray, List.set_cons_zero, List.set_cons_succ]
          refine wpAnyH_take (i := 5) (oi := ⟨some 67, Op.fieldAddr 42 (Operand.tmp 9) 1, _, _, _, _⟩) (v := ?v43) rfl (by kernel_rfl) (by kernel_rfl) (by kernel_rfl) (fun _ _ _ h => h) (Or.inl ⟨by rfl, ?hy43⟩) (by assumption) ?rest43
          case hy43 => ((intro w0 hSw; have hs1 := hSw; go_simp); try (with_reducible rfl))
          try simp only [Act.put, List.setIfInBounds_toArray, List.set_cons_zero, List.set_cons_succ]
          refine wpAnyH_take (i := 6) (oi := ⟨some 68, Op.load 3 (Operand.tmp 67), _, _, _, _⟩) (v := ?v44) rfl (by kernel_rfl) (by kernel_rfl) (by kernel_rfl) (fun _ _ _ h => h) (Or.inl ⟨by rfl, ?hy44⟩) (by assumption) ?rest44
          case hy44 => ((intro w0 hSw; have hs1 := hSw; go_simp); try (with_reducible rfl))
          try simp only [Act.put, List.setIfInBounds_toArray, List.set_cons_zero, List.set_cons_succ]
          refine wpAnyH_ready (rs := [3]) (by kernel_rfl) (by simp) ?_
          refine AllReadyH.cons (o := ⟨some 65, Op.call { callee := Callee.value (Operand.func 12), args := #[(Operand.tmp 62), (Operand.tmp 64)], argTypes := #[22, 3] }, _, _, _, _⟩) rfl (fun K hK => ?_) AllReadyH.nil
          go_simp
          have HC1 := Lib.hid (own_write HB0.out.own b2)
          obtain ⟨E0, hE0⟩ : ∃ E, E = addE N b2 := ⟨_, rfl⟩
          rw [← hE0] at HC1
          have HE0 := Lib.hid hE0
          clear hE0
          (with_reducible refine HC1.out.mono ?_); rintro e w4 ⟨rfl, ho4, hg4⟩
          have HO4 := Lib.hid ho4
          have HR4 := Lib.hid (HB0.out.ref.keep HB0.out.own hg4)
          have HQ4 := Lib.hid (HB0.out.own.cells hg4 HQ0.out)
          clear ho4 hg4 HC1
          go_wp2_with fail
          refine hK.out _ _ (by simp [World.cell?, HQ4.out]) (fun hHeld => ?_)
          clear hK K
          try simp only [Act.put, List.setIfInBounds_toArray, List.set_cons_zero, List.set_cons_succ]
          refine wpAnyH_ready (rs := [7]) (by kernel_rfl) (by simp) ?_
          refine AllReadyH.cons (o := ⟨some 69, Op.call { callee := Callee.value (Operand.func 21), args := #[(Operand.tmp 66), (Operand.tmp 68)], argTypes := #[39, 3] }, _, _, _, _⟩) rfl (fun K hK => ?_) AllReadyH.nil
          go_simp
          have HC2 := Lib.hid (rwrite_any HR4.out b2)
          rw [← HE0.out] at HC2
          (with_reducible refine HC2.out.mono ?_); rintro e w5 ⟨rfl, hr5, hg5⟩
          obtain ⟨cs, hcs, hcs2⟩ := HR4.out.wt
          have HB5 := Lib.hid (Both.mk (HO4.out.aside hcs (by decide) hg5 HB0.out.h2) hr5 HB0.out.hr HB0.out.h1 HB0.out.h2)
          have HQW := Lib.hid ((hg5.block _ (lt_of HQ4.out) (fun e => tyne HQ4.out hcs (by decide) (Option.some.inj e))).trans HQ4.out)
          clear hr5 hg5 hcs hcs2 cs HC2
          go_wp2_with fail
          refine hK.out _ _ (by simp [World.cell?, HQW.out]) (fun hHeld => ?_)
          clear hK K
          try simp only [Act.put, List.setIfInBounds_toArray, List.set_cons_zero, List.set_cons_succ]
          have e0 : (E0 == E0) = true := by simp
          refine wpAnyH_take (i := 8) (oi := ⟨some 70, Op.binOp BinOp.eql 23 (Operand.tmp 65) (Operand.tmp 69) _, _, _, _, _⟩) (v := ?v45) rfl (by kernel_rfl) (by kernel_rfl) (by kernel_rfl) (fun _ _ _ h => h) (Or.inl ⟨by rfl, ?hy45⟩) (by assumption) ?rest45
          case hy45 => ((intro w0 hSw; go_simp); try (with_reducible rfl))
          try simp only [Act.put, List.setIfInBounds_toArray, List.set_cons_zero, List.set_cons_succ]
          refine wpAnyH_take (i := 9) (oi := ⟨some 10, Op.assign (Operand.tmp 70), _, _, _, _⟩) (v := ?v46) rfl (by kernel_rfl) (by kernel_rfl) (by kernel_rfl) (fun _ _ _ h => h) (Or.inl ⟨by rfl, ?hy46⟩) (by assumption) ?rest46
          case hy46 => ((intro w0 hSw; go_simp); try (with_reducible rfl))
          try simp only [Act.put, List.setIfInBounds_toArray, List.set_cons_zero, List.set_cons_succ]
          refine wpAnyH_done (by kernel_rfl) ?_ _
          clear hHeld HO4 HR4 HB0 e0
          obtain ⟨NS, hNS⟩ : ∃ NS, NS = wrS N s b2 := ⟨_, rfl⟩
          rw [← hNS] at HB5
          clear hNS
          obtain ⟨X, hX⟩ : ∃ X, NS.r b2 = X := ⟨_, rfl⟩
          obtain ⟨Y, hY⟩ : ∃ Y, NS.w b2 = Y := ⟨_, rfl⟩
          obtain ⟨Z, hZ⟩ : ∃ Z, meets NS x b2 = Z := ⟨_, rfl⟩
          obtain ⟨xs, hxs⟩ : ∃ xs, keys N NS = xs := ⟨_, rfl⟩
          obtain ⟨L, hL⟩ : ∃ L, xs.length = L := ⟨_, rfl⟩
          have HL256 : Hid (L ≤ 256) := Lib.hid (by rw [← hL, ← hxs]; exact Nat.le_trans (keys_len N NS) HSM.out)
          have HLX := Lib.hid hL
          have HF1 : Hid (∀ (W : World) (t b : Nat), Own wb W t b N NS → _) := Lib.hid fun W t b h => own_has (t := t) (b := b) h b2 X Y hX hY
          have HF2 : Hid (∀ (W : World) (g1 g2 : Nat), RAt W r g1 g2 N NS → _) := Lib.hid fun W g1 g2 h => ref_has (g1 := g1) (g2 := g2) h b2 X Y hX hY
          have HM1 : Hid (∀ (W : World) (t b : Nat), Own wb W t b N NS → _) := Lib.hid fun W t b h => own_meets (t := t) (b := b) h x b2 Z hZ
          have HM2 : Hid (∀ (W : World) (g1 g2 : Nat), RAt W r g1 g2 N NS → _) := Lib.hid fun W g1 g2 h => ref_meets (g1 := g1) (g2 := g2) h x b2 Z hZ
          have HA1 : Hid (∀ (W : World) (t b : Nat), Own wb W t b N NS → _) := Lib.hid fun W t b h => own_allk (t := t) (b := b) h L xs hxs hL
          have HA2 : Hid (∀ (W : World) (g1 g2 : Nat), RAt W r g1 g2 N NS → _) := Lib.hid fun W g1 g2 h => ref_allk (g1 := g1) (g2 := g2) h L xs hxs hL
          have e1 : (X != X) = false := by simp
          have e2 : (Y != Y) = false := by simp
          clear hX hY hZ hxs hL HSM
          have q1 : w5.cell? ⟨wr.heap.size, 1, none⟩ = some (.int .i64 b2) := (by simp [World.cell?, HQW.out])
          go_wp2_with (first
            | (go_at_call 15; ((with_reducible refine (HF1.out _ _ _ HB5.out.own).mono ?_); rintro e w7 ⟨rfl, rfl⟩))
            | (go_at_call 23; ((with_reducible refine (HF2.out _ _ _ HB5.out.ref).mono ?_); rintro e w8 ⟨rfl, hg8⟩; have HB8 := Lib.hid (HB5.out.grown hg8); have hq8 := (hg8.block _ (lt_of HQW.out) (by simp)).trans HQW.out; have HQ8 := Lib.hid hq8; have c1 : w8.cell? ⟨wr.heap.size, 1, none⟩ = some (.int .i64 b2) := (by simp [World.cell?, hq8]); have c2 : w8.cell? ⟨wr.heap.size, 2, none⟩ = some (.int .u8 x) := (by simp [World.cell?, hq8]); clear hg8 hq8))
            | fail)
          clear HF1 HF2 e1 e2
          refine wp_region_held_drew (S := fun W => W.cell? ⟨wr.heap.size, 1, none⟩ = some (.int .i64 b2) ∧ W.cell? ⟨wr.heap.size, 2, none⟩ = some (.int .u8 x)) (by kernel_rfl) ⟨c1, c2⟩ (fun hHeld => ?_)
          have HB0 := Lib.hid (HB8.out.grown (grown_drew (grown_refl _ _)))
          have HQ0 : Hid (w8.drew.heap[wr.heap.size]? = _) := Lib.hid HQ8.out
          generalize w8.drew = W0 at hHeld HB0 HQ0 ⊢
          clear c1 c2 HB8 HQ8
          have e1 : (X != X) = false := by simp
          have e2 : (Y != Y) = false := by simp
          have e3 : (Z != Z) = false := by simp
          refine wpAnyH_take (i := 0) (oi := ⟨some 98, Op.move (Operand.tmp 10), _, _, _, _⟩) (v := ?v47) rfl (by kernel_rfl) (by kernel_rfl) (by kernel_rfl) (fun _ _ _ h => h) (Or.inl ⟨by rfl, ?hy47⟩) (by assumption) ?rest47
          case hy47 => ((intro w0 hSw; obtain ⟨hs1, hs2⟩ := hSw; go_simp); try (with_reducible rfl))
          try simp only [Act.put, List.setIfInBounds_toArray, List.set_cons_zero, List.set_cons_succ]
          refine wpAnyH_take (i := 1) (oi := ⟨some 99, Op.unOp UnOp.not 4 (Operand.tmp 98), _, _, _, _⟩) (v := ?v48) rfl (by kernel_rfl) (by kernel_rfl) (by kernel_rfl) (fun _ _ _ h => h) (Or.inl ⟨by rfl, ?hy48⟩) (by assumption) ?rest48
          case hy48 => ((intro w0 hSw; obtain ⟨hs1, hs2⟩ := hSw; go_simp); try (with_reducible rfl))
          try simp only [Act.put, List.setIfInBounds_toArray, List.set_cons_zero, List.set_cons_succ]
          refine wpAnyH_take (i := 2) (oi := ⟨some 100, Op.move (Operand.tmp 99), _, _, _, _⟩) (v := ?v49) rfl (by kernel_rfl) (by kernel_rfl) (by kernel_rfl) (fun _ _ _ h => h) (Or.inl ⟨by rfl, ?hy49⟩) (by assumption) ?rest49
          case hy49 => ((intro w0 hSw; obtain ⟨hs1, hs2⟩ := hSw; go_simp); try (with_reducible rfl))
          try simp only [Act.put, List.setIfInBounds_toArray, List.set_cons_zero, List.set_cons_succ]
          refine wpAnyH_take (i := 3) (oi := ⟨some 101, Op.move (Operand.tmp 12), _, _, _, _⟩) (v := ?v50) rfl (by kernel_rfl) (by kernel_rfl) (by kernel_rfl) (fun _ _ _ h => h) (Or.inl ⟨by rfl, ?hy50⟩) (by assumption) ?rest50
          case hy50 => ((intro w0 hSw; obtain ⟨hs1, hs2⟩ := hSw; go_simp); try (with_reducible rfl))
          try simp only [Act.put, List.setIfInBounds_toArray, List.set_cons_zero, List.set_cons_succ]
          refine wpAnyH_take (i := 4) (oi := ⟨some 102, Op.move (Operand.tmp 14), _, _, _, _⟩) (v := ?v51) rfl (by kernel_rfl) (by kernel_rfl) (by kernel_rfl) (fun _ _ _ h => h) (Or.inl ⟨by rfl, ?hy51⟩) (by assumption) ?rest51
          case hy51 => ((intro w0 hSw; obtain ⟨hs1, hs2⟩ := hSw; go_simp); try (with_reducible rfl))
          try simp only [Act.put, List.setIfInBounds_toArray, List.set_cons_zero, List.set_cons_succ]
          refine wpAnyH_take (i := 5) (oi := ⟨some 103, Op.binOp BinOp.neq 4 (Operand.tmp 101) (Operand.tmp 102) _, _, _, _, _⟩) (v := ?v52) rfl (by kernel_rfl) (by kernel_rfl) (by kernel_rfl) (fun _ _ _ h => h) (Or.inl ⟨by rfl, ?hy52⟩) (by assumption) ?rest52
          case hy52 => ((intro w0 hSw; obtain ⟨hs1, hs2⟩ := hSw; go_simp); try (with_reducible rfl))
          try simp only [Act.put, List.setIfInBounds_toArray, List.set_cons_zero, List.set_cons_succ]
          refine wpAnyH_take (i := 6) (oi := ⟨some 104, Op.pick (Operand.tmp 100) (Operand.const (Value.bool true)) (Operand.tmp 103), _, _, _, _⟩) (v := ?v53) rfl (by kernel_rfl) (by kernel_rfl) (by kernel_rfl) (fun _ _ _ h => h) (Or.inl ⟨by rfl, ?hy53⟩) (by assumption) ?rest53
          case hy53 => ((intro w0 hSw; obtain ⟨hs1, hs2⟩ := hSw; go_simp); try (with_reducible rfl))
          try simp only [Act.put, List.setIfInBounds_toArray, List.set_cons_zero, List.set_cons_succ]
          refine wpAnyH_take (i := 7) (oi := ⟨some 105, Op.move (Operand.tmp 104), _, _, _, _⟩) (v := ?v54) rfl (by kernel_rfl) (by kernel_rfl) (by kernel_rfl) (fun _ _ _ h => h) (Or.inl ⟨by rfl, ?hy54⟩) (by assumption) ?rest54
          case hy54 => ((intro w0 hSw; obtain ⟨hs1, hs2⟩ := hSw; go_simp); try (with_reducible rfl))
          try simp only [Act.put, List.setIfInBounds_toArray, List.set_cons_zero, List.set_cons_succ]
          refine wpAnyH_take (i := 8) (oi := ⟨some 106, Op.move (Operand.tmp 13), _, _, _, _⟩) (v := ?v55) rfl (by kernel_rfl) (by kernel_rfl) (by kernel_rfl) (fun _ _ _ h => h) (Or.inl ⟨by rfl, ?hy55⟩) (by assumption) ?rest55
          case hy55 => ((intro w0 hSw; obtain ⟨hs1, hs2⟩ := hSw; go_simp); try (with_reducible rfl))
          try simp only [Act.put, List.setIfInBounds_toArray, List.set_cons_zero, List.set_cons_succ]
          refine wpAnyH_take (i := 9) (oi := ⟨some 107, Op.move (Operand.tmp 15), _, _, _, _⟩) (v := ?v56) rfl (by kernel_rfl) (by kernel_rfl) (by kernel_rfl) (fun _ _ _ h => h) (Or.inl ⟨by rfl, ?hy56⟩) (by assumption) ?rest56
          case hy56 => ((intro w0 hSw; obtain ⟨hs1, hs2⟩ := hSw; go_simp); try (with_reducible rfl))
          try simp only [Act.put, List.setIfInBounds_toArray, List.set_cons_zero, List.set_cons_succ]
          refine wpAnyH_take (i := 10) (oi := ⟨some 108, Op.binOp BinOp.neq 4 (Operand.tmp 106) (Operand.tmp 107) _, _, _, _, _⟩) (v := ?v57) rfl (by kernel_rfl) (by kernel_rfl) (by kernel_rfl) (fun _ _ _ h => h) (Or.inl ⟨by rfl, ?hy57⟩) (by assumption) ?rest57
          case hy57 => ((intro w0 hSw; obtain ⟨hs1, hs2⟩ := hSw; go_simp); try (with_reducible rfl))
          try simp only [Act.put, List.setIfInBounds_toArray, List.set_cons_zero, List.set_cons_succ]
          refine wpAnyH_take (i := 11) (oi := ⟨some 109, Op.pick (Operand.tmp 105) (Operand.const (Value.bool true)) (Operand.tmp 108), _, _, _, _⟩) (v := ?v58) rfl (by kernel_rfl) (by kernel_rfl) (by kernel_rfl) (fun _ _ _ h => h) (Or.inl ⟨by rfl, ?hy58⟩) (by assumption) ?rest58
          case hy58 => ((intro w0 hSw; obtain ⟨hs1, hs2⟩ := hSw; go_simp); try (with_reducible rfl))
          try simp only [Act.put, List.setIfInBounds_toArray, List.set_cons_zero, List.set_cons_succ]
          refine wpAnyH_take (i := 12) (oi := ⟨some 110, Op.move (Operand.tmp 109), _, _, _, _⟩) (v := ?v59) rfl (by kernel_rfl) (by kernel_rfl) (by kernel_rfl) (fun _ _ _ h => h) (Or.inl ⟨by rfl, ?hy59⟩) (by assumption) ?rest59
          case hy59 => ((intro w0 hSw; obtain ⟨hs1, hs2⟩ := hSw; go_simp); try (with_reducible rfl))
          try simp only [Act.put, List.setIfInBounds_toArray, List.set_cons_zero, List.set_cons_succ]
          refine wpAnyH_take (i := 13) (oi := ⟨some 111, Op.move (Operand.tmp 5), _, _, _, _⟩) (v := ?v60) rfl (by kernel_rfl) (by kernel_rfl) (by kernel_rfl) (fun _ _ _ h => h) (Or.inl ⟨by rfl, ?hy60⟩) (by assumption) ?rest60
          case hy60 => ((intro w0 hSw; obtain ⟨hs1, hs2⟩ := hSw; go_simp); try (with_reducible rfl))
          try simp only [Act.put, List.setIfInBounds_toArray, List.set_cons_zero, List.set_cons_succ]
          refine wpAnyH_take (i := 14) (oi := ⟨some 112, Op.fieldAddr 42 (Operand.tmp 9) 2, _, _, _, _⟩) (v := ?v61) rfl (by kernel_rfl) (by kernel_rfl) (by kernel_rfl) (fun _ _ _ h => h) (Or.inl ⟨by rfl, ?hy61⟩) (by assumption) ?rest61
          case hy61 => ((intro w0 hSw; obtain ⟨hs1, hs2⟩ := hSw; go_simp); try (with_reducible rfl))
          try simp only [Act.put, List.setIfInBounds_toArray, List.set_cons_zero, List.set_cons_succ]
          refine wpAnyH_take (i := 15) (oi := ⟨some 113, Op.load 5 (Operand.tmp 112), _, _, _, _⟩) (v := ?v62) rfl (by kernel_rfl) (by kernel_rfl) (by kernel_rfl) (fun _ _ _ h => h) (Or.inl ⟨by rfl, ?hy62⟩) (by assumption) ?rest62
          case hy62 => ((intro w0 hSw; obtain ⟨hs1, hs2⟩ := hSw; go_simp); try (with_reducible rfl))
          try simp only [Act.put, List.setIfInBounds_toArray, List.set_cons_zero, List.set_cons_succ]
          refine wpAnyH_take (i := 16) (oi := ⟨some 114, Op.fieldAddr 42 (Operand.tmp 9) 1, _, _, _, _⟩) (v := ?v63) rfl (by kernel_rfl) (by kernel_rfl) (by kernel_rfl) (fun _ _ _ h => h) (Or.inl ⟨by rfl, ?hy63⟩) (by assumption) ?rest63
          case hy63 => ((intro w0 hSw; obtain ⟨hs1, hs2⟩ := hSw; go_simp); try (with_reducible rfl))
          try simp only [Act.put, List.setIfInBounds_toArray, List.set_cons_zero, List.set_cons_succ]
          refine wpAnyH_take (i := 17) (oi := ⟨some 115, Op.load 3 (Operand.tmp 114), _, _, _, _⟩) (v := ?v64) rfl (by kernel_rfl) (by kernel_rfl) (by kernel_rfl) (fun _ _ _ h => h) (Or.inl ⟨by rfl, ?hy64⟩) (by assumption) ?rest64
          case hy64 => ((intro w0 hSw; obtain ⟨hs1, hs2⟩ := hSw; go_simp); try (with_reducible rfl))
          try simp only [Act.put, List.setIfInBounds_toArray, List.set_cons_zero, List.set_cons_succ]
          refine wpAnyH_take (i := 19) (oi := ⟨some 117, Op.move (Operand.tmp 7), _, _, _, _⟩) (v := ?v65) rfl (by kernel_rfl) (by kernel_rfl) (by kernel_rfl) (fun _ _ _ h => h) (Or.inl ⟨by rfl, ?hy65⟩) (by assumption) ?rest65
          case hy65 => ((intro w0 hSw; obtain ⟨hs1, hs2⟩ := hSw; go_simp); try (with_reducible rfl))
          try simp only [Act.put, List.setIfInBounds_toArray, List.set_cons_zero, List.set_cons_succ]
          refine wpAnyH_take (i := 20) (oi := ⟨some 118, Op.fieldAddr 42 (Operand.tmp 9) 2, _, _, _, _⟩) (v := ?v66) rfl (by kernel_rfl) (by kernel_rfl) (by kernel_rfl) (fun _ _ _ h => h) (Or.inl ⟨by rfl, ?hy66⟩) (by assumption) ?rest66
          case hy66 => ((intro w0 hSw; obtain ⟨hs1, hs2⟩ := hSw; go_simp); try (with_reducible rfl))
          try simp only [Act.put, List.setIfInBounds_toArray, List.set_cons_zero, List.set_cons_succ]
          refine wpAnyH_take (i := 21) (oi := ⟨some 119, Op.load 5 (Operand.tmp 118), _, _, _, _⟩) (v := ?v67) rfl (by kernel_rfl) (by kernel_rfl) (by kernel_rfl) (fun _ _ _ h => h) (Or.inl ⟨by rfl, ?hy67⟩) (by assumption) ?rest67
          case hy67 => ((intro w0 hSw; obtain ⟨hs1, hs2⟩ := hSw; go_simp); try (with_reducible rfl))
          try simp only [Act.put, List.setIfInBounds_toArray, List.set_cons_zero, List.set_cons_succ]
          refine wpAnyH_take (i := 22) (oi := ⟨some 120, Op.fieldAddr 42 (Operand.tmp 9) 1, _, _, _, _⟩) (v := ?v68) rfl (by kernel_rfl) (by kernel_rfl) (by kernel_rfl) (fun _ _ _ h => h) (Or.inl ⟨by rfl, ?hy68⟩) (by assumption) ?rest68
          case hy68 => ((intro w0 hSw; obtain ⟨hs1, hs2⟩ := hSw; go_simp); try (with_reducible rfl))
          try simp only [Act.put, List.setIfInBounds_toArray, List.set_cons_zero, List.set_cons_succ]
          refine wpAnyH_take (i := 23) (oi := ⟨some 121, Op.load 3 (Operand.tmp 120), _, _, _, _⟩) (v := ?v69) rfl (by kernel_rfl) (by kernel_rfl) (by kernel_rfl) (fun _ _ _ h => h) (Or.inl ⟨by rfl, ?hy69⟩) (by assumption) ?rest69
          case hy69 => ((intro w0 hSw; obtain ⟨hs1, hs2⟩ := hSw; go_simp); try (with_reducible rfl))
          try simp only [Act.put, List.setIfInBounds_toArray, List.set_cons_zero, List.set_cons_succ]
          refine wpAnyH_ready (rs := [18]) (by kernel_rfl) (by simp) ?_
          refine AllReadyH.cons (o := ⟨some 116, Op.call { callee := Callee.value (Operand.func 13), args := #[(Operand.tmp 111), (Operand.tmp 113), (Operand.tmp 115)], argTypes := #[22, 5, 3] }, _, _, _, _⟩) rfl (fun K hK => ?_) AllReadyH.nil
          go_simp
          (with_reducible refine (HM1.out _ _ _ HB0.out.own).mono ?_); rintro e w9 ⟨rfl, rfl⟩
          go_wp2_with fail
          refine hK.out _ _ (by constructor <;> simp [World.cell?, HQ0.out]) (fun hHeld => ?_)
          clear hK K
          try simp only [Act.put, List.setIfInBounds_toArray, List.set_cons_zero, List.set_cons_succ]
          refine wpAnyH_ready (rs := [24]) (by kernel_rfl) (by simp) ?_
          refine AllReadyH.cons (o := ⟨some 122, Op.call { callee := Callee.value (Operand.func 24), args := #[(Operand.tmp 117), (Operand.tmp 119), (Operand.tmp 121)], argTypes := #[39, 5, 3] }, _, _, _, _⟩) rfl (fun K hK => ?_) AllReadyH.nil
          go_simp
          (with_reducible refine (HM2.out _ _ _ HB0.out.ref).mono ?_); rintro e w10 ⟨rfl, hg10⟩
          have HB10 := Lib.hid (HB0.out.grown hg10)
          have HQ10 := Lib.hid ((hg10.block _ (lt_of HQ0.out) (by simp)).trans HQ0.out)
          clear hg10 HB0 HQ0 HM1 HM2
          go_wp2_with fail
          refine hK.out _ _ (by constructor <;> simp [World.cell?, HQ10.out]) (fun hHeld => ?_)
          clear hK K
          try simp only [Act.put, List.setIfInBounds_toArray, List.set_cons_zero, List.set_cons_succ]
          refine wpAnyH_take (i := 25) (oi := ⟨some 123, Op.binOp BinOp.neq 4 (Operand.tmp 116) (Operand.tmp 122) _, _, _, _, _⟩) (v := ?v70) rfl (by kernel_rfl) (by kernel_rfl) (by kernel_rfl) (fun _ _ _ h => h) (Or.inl ⟨by rfl, ?hy70⟩) (by assumption) ?rest70
          case hy70 => ((intro w0 hSw; go_simp); try (with_reducible rfl))
          try simp only [Act.put, List.setIfInBounds_toArray, List.set_cons_zero, List.set_cons_succ]
          refine wpAnyH_take (i := 26) (oi := ⟨some 124, Op.pick (Operand.tmp 110) (Operand.const (Value.bool true)) (Operand.tmp 123), _, _, _, _⟩) (v := ?v71) rfl (by kernel_rfl) (by kernel_rfl) (by kernel_rfl) (fun _ _ _ h => h) (Or.inl ⟨by rfl, ?hy71⟩) (by assumption) ?rest71
          case hy71 => ((intro w0 hSw; go_simp); try (with_reducible rfl))
          try simp only [Act.put, List.setIfInBounds_toArray, List.set_cons_zero, List.set_cons_succ]
          refine wpAnyH_take (i := 27) (oi := ⟨some 125, Op.move (Operand.tmp 124), _, _, _, _⟩) (v := ?v72) rfl (by kernel_rfl) (by kernel_rfl) (by kernel_rfl) (fun _ _ _ h => h) (Or.inl ⟨by rfl, ?hy72⟩) (by assumption) ?rest72
          case hy72 => ((intro w0 hSw; go_simp); try (with_reducible rfl))
          try simp only [Act.put, List.setIfInBounds_toArray, List.set_cons_zero, List.set_cons_succ]
          refine wpAnyH_take (i := 28) (oi := ⟨some 126, Op.move (Operand.tmp 5), _, _, _, _⟩) (v := ?v73) rfl (by kernel_rfl) (by kernel_rfl) (by kernel_rfl) (fun _ _ _ h => h) (Or.inl ⟨by rfl, ?hy73⟩) (by assumption) ?rest73
          case hy73 => ((intro w0 hSw; go_simp); try (with_reducible rfl))
          try simp only [Act.put, List.setIfInBounds_toArray, List.set_cons_zero, List.set_cons_succ]
          refine wpAnyH_take (i := 30) (oi := ⟨some 128, Op.move (Operand.tmp 7), _, _, _, _⟩) (v := ?v74) rfl (by kernel_rfl) (by kernel_rfl) (by kernel_rfl) (fun _ _ _ h => h) (Or.inl ⟨by rfl, ?hy74⟩) (by assumption) ?rest74
          case hy74 => ((intro w0 hSw; go_simp); try (with_reducible rfl))
          try simp only [Act.put, List.setIfInBounds_toArray, List.set_cons_zero, List.set_cons_succ]
          refine wpAnyH_ready (rs := [29]) (by kernel_rfl) (by simp) ?_
          refine AllReadyH.cons (o := ⟨some 127, Op.call { callee := Callee.value (Operand.func 16), args := #[(Operand.tmp 126)], argTypes := #[22] }, _, _, _, _⟩) rfl (fun K hK => ?_) AllReadyH.nil
          go_simp
          (with_reducible refine (HA1.out _ _ _ HB10.out.own).mono ?_); rintro e w11 ⟨ad1, cap1, rfl, ha1, hg11⟩
          have HB11 := Lib.hid (HB10.out.grown hg11)
          have HQ11 := Lib.hid ((hg11.block _ (lt_of HQ10.out) (by simp)).trans HQ10.out)
          have HI1 := Lib.hid ha1
          clear ha1 hg11 HB10 HQ10
          go_wp2_with fail
          refine hK.out _ _ (by constructor <;> simp [World.cell?, HQ11.out]) (fun hHeld => ?_)
          clear hK K
          try simp only [Act.put, List.setIfInBounds_toArray, List.set_cons_zero, List.set_cons_succ]
          refine wpAnyH_ready (rs := [31]) (by kernel_rfl) (by simp) ?_
          refine AllReadyH.cons (o := ⟨some 129, Op.call { callee := Callee.value (Operand.func 26), args := #[(Operand.tmp 128)], argTypes := #[39] }, _, _, _, _⟩) rfl (fun K hK => ?_) AllReadyH.nil
          go_simp
          (with_reducible refine (HA2.out _ _ _ HB11.out.ref).mono ?_); rintro e w12 ⟨ad2, cap2, rfl, ha2, hg12⟩
          have HB12 := Lib.hid (HB11.out.grown hg12)
          have HQ12 := Lib.hid ((hg12.block _ (lt_of HQ11.out) (by simp)).trans HQ11.out)
          have HI2 := Lib.hid ha2
          have HI3 := Lib.hid (HI1.out.grown hg12)
          clear ha2 hg12 HB11 HQ11 HI1 HA1 HA2
          go_wp2_with fail
          refine hK.out _ _ (by constructor <;> simp [World.cell?, HQ12.out]) (fun hHeld => ?_)
          clear hK K
          try simp only [Act.put, List.setIfInBounds_toArray, List.set_cons_zero, List.set_cons_succ]
          refine wpAnyH_ready (rs := [32]) (by kernel_rfl) (by simp) ?_
          refine AllReadyH.cons (o := ⟨some 130, Op.call { callee := Callee.value (Operand.func 25), args := #[(Operand.tmp 127), (Operand.tmp 129)], argTypes := #[34, 34] }, _, _, _, _⟩) rfl (fun K hK => ?_) AllReadyH.nil
          go_simp
          (with_reducible refine (equal_same xs ad1 ad2 L cap1 cap2 w12 HLX.out.symm (by have := HL256.out; omega) HI3.out HI2.out).mono ?_); rintro e w13 ⟨rfl, hg13⟩
          have HB13 := Lib.hid (HB12.out.grown hg13)
          have HQ13 := Lib.hid ((hg13.block _ (lt_of HQ12.out) (by simp)).trans HQ12.out)
          clear hg13 HB12 HQ12 HI2 HI3
          go_wp2_with fail
          refine hK.out _ _ (by constructor <;> simp [World.cell?, HQ13.out]) (fun hHeld => ?_)
          clear hK K
          try simp only [Act.put, List.setIfInBounds_toArray, List.set_cons_zero, List.set_cons_succ]
          refine wpAnyH_take (i := 33) (oi := ⟨some 131, Op.unOp UnOp.not 4 (Operand.tmp 130), _, _, _, _⟩) (v := ?v75) rfl (by kernel_rfl) (by kernel_rfl) (by kernel_rfl) (fun _ _ _ h => h) (Or.inl ⟨by rfl, ?hy75⟩) (by assumption) ?rest75
          case hy75 => ((intro w0 hSw; go_simp); try (with_reducible rfl))
          try simp only [Act.put, List.setIfInBounds_toArray, List.set_cons_zero, List.set_cons_succ]
          refine wpAnyH_take (i := 34) (oi := ⟨some 132, Op.pick (Operand.tmp 125) (Operand.const (Value.bool true)) (Operand.tmp 131), _, _, _, _⟩) (v := ?v76) rfl (by kernel_rfl) (by kernel_rfl) (by kernel_rfl) (fun _ _ _ h => h) (Or.inl ⟨by rfl, ?hy76⟩) (by assumption) ?rest76
          case hy76 => ((intro w0 hSw; go_simp); try (with_reducible rfl))
          try simp only [Act.put, List.setIfInBounds_toArray, List.set_cons_zero, List.set_cons_succ]
          refine wpAnyH_done (by kernel_rfl) ?_ _
          clear hHeld e1 e2 e3
          go_wp2_with fail
          go_roundw
          case rel => exact ⟨j + 1, _, _, _, _, NS, by omega, by go_num, rfl, HB13.out⟩
          case measure => simp [intOf]; omega
        · by_cases hk2 : kd = 2
          · subst hk2
            clear hk0 hk1
            have HSM : Hid (N ≤ 256) := Lib.hid HO.out.ref.small
            have HO2 := Lib.hid (HO.out.grown (w2 := wr.alloc (.cells #[.int .i64 2, .int .i64 b2, .int .u8 x] 42)) (grown_alloc (grown_refl _ _) _))
            have HQ2 : Hid ((wr.alloc (.cells #[.int .i64 2, .int .i64 b2, .int .u8 x] 42)).heap[wr.heap.size]? = some (.cells #[.int .i64 2, .int .i64 b2, .int .u8 x] 42 (0, 0))) := Lib.hid (heap_alloc_new _ _)
            obtain ⟨NS, hNS⟩ : ∃ NS, NS = Ms.zero := ⟨_, rfl⟩
            have HC1 := Lib.hid (own_clear HO2.out.own)
            have HC2 : Hid (∀ (W : World), RAt W r g1 g2 N s → _) := Lib.hid fun W h => rclear_any h
            rw [← hNS] at HC1 HC2
            clear hNS
            obtain ⟨X, hX⟩ : ∃ X, NS.r b2 = X := ⟨_, rfl⟩
            obtain ⟨Y, hY⟩ : ∃ Y, NS.w b2 = Y := ⟨_, rfl⟩
            obtain ⟨Z, hZ⟩ : ∃ Z, meets NS x b2 = Z := ⟨_, rfl⟩
            obtain ⟨xs, hxs⟩ : ∃ xs, keys N NS = xs := ⟨_, rfl⟩
            obtain ⟨L, hL⟩ : ∃ L, xs.length = L := ⟨_, rfl⟩
            have HL256 : Hid (L ≤ 256) := Lib.hid (by rw [← hL, ← hxs]; exact Nat.le_trans (keys_len N NS) HSM.out)
            have HLX := Lib.hid hL
            have HF1 : Hid (∀ (W : World) (t b : Nat), Own wb W t b N NS → _) := Lib.hid fun W t b h => own_has (t := t) (b := b) h b2 X Y hX hY
            have HF2 : Hid (∀ (W : World) (g1 g2 : Nat), RAt W r g1 g2 N NS → _) := Lib.hid fun W g1 g2 h => ref_has (g1 := g1) (g2 := g2) h b2 X Y hX hY
            have HM1 : Hid (∀ (W : World) (t b : Nat), Own wb W t b N NS → _) := Lib.hid fun W t b h => own_meets (t := t) (b := b) h x b2 Z hZ
            have HM2 : Hid (∀ (W : World) (g1 g2 : Nat), RAt W r g1 g2 N NS → _) := Lib.hid fun W g1 g2 h => ref_meets (g1 := g1) (g2 := g2) h x b2 Z hZ
            have HA1 : Hid (∀ (W : World) (t b : Nat), Own wb W t b N NS → _) := Lib.hid fun W t b h => own_allk (t := t) (b := b) h L xs hxs hL
            have HA2 : Hid (∀ (W : World) (g1 g2 : Nat), RAt W r g1 g2 N NS → _) := Lib.hid fun W g1 g2 h => ref_allk (g1 := g1) (g2 := g2) h L xs hxs hL
            have e1 : (X != X) = false := by simp
            have e2 : (Y != Y) = false := by simp
            clear hX hY hZ hxs hL HSM
            go_wp2_with (first
              | (go_at_call 14; ((with_reducible refine HC1.out.mono ?_); rintro e w4 ⟨rfl, ho4, hg4⟩; have HO4 := Lib.hid ho4; have HR4 := Lib.hid (HO2.out.ref.keep HO2.out.own hg4); have HQ4 := Lib.hid (HO2.out.own.cells hg4 HQ2.out); clear ho4 hg4))
              | (go_at_call 22; ((with_reducible refine (HC2.out _ HR4.out).mono ?_); rintro e w5 ⟨rfl, k1, k2, hr5, hg5, hk1, hk2⟩; have HB5 := Lib.hid (Both.mk (HO4.out.aside HR4.out.blk (by decide) hg5 HO.out.hr) hr5 HO.out.hr (Nat.le_trans HO4.out.old.size hk1) (Nat.le_trans HO4.out.old.size hk2)); have HQW := Lib.hid ((hg5.block _ (lt_of HQ4.out) (fun e => tyne HQ4.out HR4.out.blk (by decide) (Option.some.inj e))).trans HQ4.out); have q1 : w5.cell? ⟨wr.heap.size, 1, none⟩ = some (.int .i64 b2) := (by simp [World.cell?, HQW.out]); clear hr5 hg5 hk1 hk2 HC1 HC2))
              | (go_at_call 15; ((with_reducible refine (HF1.out _ _ _ HB5.out.own).mono ?_); rintro e w7 ⟨rfl, rfl⟩))
              | (go_at_call 23; ((with_reducible refine (HF2.out _ _ _ HB5.out.ref).mono ?_); rintro e w8 ⟨rfl, hg8⟩; have HB8 := Lib.hid (HB5.out.grown hg8); have hq8 := (hg8.block _ (lt_of HQW.out) (by simp)).trans HQW.out; have HQ8 := Lib.hid hq8; have c1 : w8.cell? ⟨wr.heap.size, 1, none⟩ = some (.int .i64 b2) := (by simp [World.cell?, hq8]); have c2 : w8.cell? ⟨wr.heap.size, 2, none⟩ = some (.int .u8 x) := (by simp [World.cell?, hq8]); clear hg8 hq8))
              | fail)
            clear HF1 HF2 e1 e2
            refine wp_region_held_drew (S := fun W => W.cell? ⟨wr.heap.size, 1, none⟩ = some (.int .i64 b2) ∧ W.cell? ⟨wr.heap.size, 2, none⟩ = some (.int .u8 x)) (by kernel_rfl) ⟨c1, c2⟩ (fun hHeld => ?_)
            have HB0 := Lib.hid (HB8.out.grown (grown_drew (grown_refl _ _)))
            have HQ0 : Hid (w8.drew.heap[wr.heap.size]? = _) := Lib.hid HQ8.out
            generalize w8.drew = W0 at hHeld HB0 HQ0 ⊢
            clear c1 c2 HB8 HQ8
            have e1 : (X != X) = false := by simp
            have e2 : (Y != Y) = false := by simp
            have e3 : (Z != Z) = false := by simp
            refine wpAnyH_take (i := 0) (oi := ⟨some 98, Op.move (Operand.tmp 10), _, _, _, _⟩) (v := ?v77) rfl (by kernel_rfl) (by kernel_rfl) (by kernel_rfl) (fun _ _ _ h => h) (Or.inl ⟨by rfl, ?hy77⟩) (by assumption) ?rest77
            case hy77 => ((intro w0 hSw; obtain ⟨hs1, hs2⟩ := hSw; go_simp); try (with_reducible rfl))
            try simp only [Act.put, List.setIfInBounds_toArray, List.set_cons_zero, List.set_cons_succ]
            refine wpAnyH_take (i := 1) (oi := ⟨some 99, Op.unOp UnOp.not 4 (Operand.tmp 98), _, _, _, _⟩) (v := ?v78) rfl (by kernel_rfl) (by kernel_rfl) (by kernel_rfl) (fun _ _ _ h => h) (Or.inl ⟨by rfl, ?hy78⟩) (by assumption) ?rest78
            case hy78 => ((intro w0 hSw; obtain ⟨hs1, hs2⟩ := hSw; go_simp); try (with_reducible rfl))
            try simp only [Act.put, List.setIfInBounds_toArray, List.set_cons_zero, List.set_cons_succ]
            refine wpAnyH_take (i := 2) (oi := ⟨some 100, Op.move (Operand.tmp 99), _, _, _, _⟩) (v := ?v79) rfl (by kernel_rfl) (by kernel_rfl) (by kernel_rfl) (fun _ _ _ h => h) (Or.inl ⟨by rfl, ?hy79⟩) (by assumption) ?rest79
            case hy79 => ((intro w0 hSw; obtain ⟨hs1, hs2⟩ := hSw; go_simp); try (with_reducible rfl))
            try simp only [Act.put, List.setIfInBounds_toArray, List.set_cons_zero, List.set_cons_succ]
            refine wpAnyH_take (i := 3) (oi := ⟨some 101, Op.move (Operand.tmp 12), _, _, _, _⟩) (v := ?v80) rfl (by kernel_rfl) (by kernel_rfl) (by kernel_rfl) (fun _ _ _ h => h) (Or.inl ⟨by rfl, ?hy80⟩) (by assumption) ?rest80
            case hy80 => ((intro w0 hSw; obtain ⟨hs1, hs2⟩ := hSw; go_simp); try (with_reducible rfl))
            try simp only [Act.put, List.setIfInBounds_toArray, List.set_cons_zero, List.set_cons_succ]
            refine wpAnyH_take (i := 4) (oi := ⟨some 102, Op.move (Operand.tmp 14), _, _, _, _⟩) (v := ?v81) rfl (by kernel_rfl) (by kernel_rfl) (by kernel_rfl) (fun _ _ _ h => h) (Or.inl ⟨by rfl, ?hy81⟩) (by assumption) ?rest81
            case hy81 => ((intro w0 hSw; obtain ⟨hs1, hs2⟩ := hSw; go_simp); try (with_reducible rfl))
            try simp only [Act.put, List.setIfInBounds_toArray, List.set_cons_zero, List.set_cons_succ]
            refine wpAnyH_take (i := 5) (oi := ⟨some 103, Op.binOp BinOp.neq 4 (Operand.tmp 101) (Operand.tmp 102) _, _, _, _, _⟩) (v := ?v82) rfl (by kernel_rfl) (by kernel_rfl) (by kernel_rfl) (fun _ _ _ h => h) (Or.inl ⟨by rfl, ?hy82⟩) (by assumption) ?rest82
            case hy82 => ((intro w0 hSw; obtain ⟨hs1, hs2⟩ := hSw; go_simp); try (with_reducible rfl))
            try simp only [Act.put, List.setIfInBounds_toArray, List.set_cons_zero, List.set_cons_succ]
            refine wpAnyH_take (i := 6) (oi := ⟨some 104, Op.pick (Operand.tmp 100) (Operand.const (Value.bool true)) (Operand.tmp 103), _, _, _, _⟩) (v := ?v83) rfl (by kernel_rfl) (by kernel_rfl) (by kernel_rfl) (fun _ _ _ h => h) (Or.inl ⟨by rfl, ?hy83⟩) (by assumption) ?rest83
            case hy83 => ((intro w0 hSw; obtain ⟨hs1, hs2⟩ := hSw; go_simp); try (with_reducible rfl))
            try simp only [Act.put, List.setIfInBounds_toArray, List.set_cons_zero, List.set_cons_succ]
            refine wpAnyH_take (i := 7) (oi := ⟨some 105, Op.move (Operand.tmp 104), _, _, _, _⟩) (v := ?v84) rfl (by kernel_rfl) (by kernel_rfl) (by kernel_rfl) (fun _ _ _ h => h) (Or.inl ⟨by rfl, ?hy84⟩) (by assumption) ?rest84
            case hy84 => ((intro w0 hSw; obtain ⟨hs1, hs2⟩ := hSw; go_simp); try (with_reducible rfl))
            try simp only [Act.put, List.setIfInBounds_toArray, List.set_cons_zero, List.set_cons_succ]
            refine wpAnyH_take (i := 8) (oi := ⟨some 106, Op.move (Operand.tmp 13), _, _, _, _⟩) (v := ?v85) rfl (by kernel_rfl) (by kernel_rfl) (by kernel_rfl) (fun _ _ _ h => h) (Or.inl ⟨by rfl, ?hy85⟩) (by assumption) ?rest85
            case hy85 => ((intro w0 hSw; obtain ⟨hs1, hs2⟩ := hSw; go_simp); try (with_reducible rfl))
            try simp only [Act.put, List.setIfInBounds_toArray, List.set_cons_zero, List.set_cons_succ]
            refine wpAnyH_take (i := 9) (oi := ⟨some 107, Op.move (Operand.tmp 15), _, _, _, _⟩) (v := ?v86) rfl (by kernel_rfl) (by kernel_rfl) (by kernel_rfl) (fun _ _ _ h => h) (Or.inl ⟨by rfl, ?hy86⟩) (by assumption) ?rest86
            case hy86 => ((intro w0 hSw; obtain ⟨hs1, hs2⟩ := hSw; go_simp); try (with_reducible rfl))
            try simp only [Act.put, List.setIfInBounds_toArray, List.set_cons_zero, List.set_cons_succ]
            refine wpAnyH_take (i := 10) (oi := ⟨some 108, Op.binOp BinOp.neq 4 (Operand.tmp 106) (Operand.tmp 107) _, _, _, _, _⟩) (v := ?v87) rfl (by kernel_rfl) (by kernel_rfl) (by kernel_rfl) (fun _ _ _ h => h) (Or.inl ⟨by rfl, ?hy87⟩) (by assumption) ?rest87
            case hy87 => ((intro w0 hSw; obtain ⟨hs1, hs2⟩ := hSw; go_simp); try (with_reducible rfl))
            try simp only [Act.put, List.setIfInBounds_toArray, List.set_cons_zero, List.set_cons_succ]
            refine wpAnyH_take (i := 11) (oi := ⟨some 109, Op.pick (Operand.tmp 105) (Operand.const (Value.bool true)) (Operand.tmp 108), _, _, _, _⟩) (v := ?v88) rfl (by kernel_rfl) (by kernel_rfl) (by kernel_rfl) (fun _ _ _ h => h) (Or.inl ⟨by rfl, ?hy88⟩) (by assumption) ?rest88
            case hy88 => ((intro w0 hSw; obtain ⟨hs1, hs2⟩ := hSw; go_simp); try (with_reducible rfl))
            try simp only [Act.put, List.setIfInBounds_toArray, List.set_cons_zero, List.set_cons_succ]
            refine wpAnyH_take (i := 12) (oi := ⟨some 110, Op.move (Operand.tmp 109), _, _, _, _⟩) (v := ?v89) rfl (by kernel_rfl) (by kernel_rfl) (by kernel_rfl) (fun _ _ _ h => h) (Or.inl ⟨by rfl, ?hy89⟩) (by assumption) ?rest89
            case hy89 => ((intro w0 hSw; obtain ⟨hs1, hs2⟩ := hSw; go_simp); try (with_reducible rfl))
            try simp only [Act.put, List.setIfInBounds_toArray, List.set_cons_zero, List.set_cons_succ]
            refine wpAnyH_take (i := 13) (oi := ⟨some 111, Op.move (Operand.tmp 5), _, _, _, _⟩) (v := ?v90) rfl (by kernel_rfl) (by kernel_rfl) (by kernel_rfl) (fun _ _ _ h => h) (Or.inl ⟨by rfl, ?hy90⟩) (by assumption) ?rest90
            case hy90 => ((intro w0 hSw; obtain ⟨hs1, hs2⟩ := hSw; go_simp); try (with_reducible rfl))
            try simp only [Act.put, List.setIfInBounds_toArray, List.set_cons_zero, List.set_cons_succ]
            refine wpAnyH_take (i := 14) (oi := ⟨some 112, Op.fieldAddr 42 (Operand.tmp 9) 2, _, _, _, _⟩) (v := ?v91) rfl (by kernel_rfl) (by kernel_rfl) (by kernel_rfl) (fun _ _ _ h => h) (Or.inl ⟨by rfl, ?hy91⟩) (by assumption) ?rest91
            case hy91 => ((intro w0 hSw; obtain ⟨hs1, hs2⟩ := hSw; go_simp); try (with_reducible rfl))
            try simp only [Act.put, List.setIfInBounds_toArray, List.set_cons_zero, List.set_cons_succ]
            refine wpAnyH_take (i := 15) (oi := ⟨some 113, Op.load 5 (Operand.tmp 112), _, _, _, _⟩) (v := ?v92) rfl (by kernel_rfl) (by kernel_rfl) (by kernel_rfl) (fun _ _ _ h => h) (Or.inl ⟨by rfl, ?hy92⟩) (by assumption) ?rest92
            case hy92 => ((intro w0 hSw; obtain ⟨hs1, hs2⟩ := hSw; go_simp); try (with_reducible rfl))
            try simp only [Act.put, List.setIfInBounds_toArray, List.set_cons_zero, List.set_cons_succ]
            refine wpAnyH_take (i := 16) (oi := ⟨some 114, Op.fieldAddr 42 (Operand.tmp 9) 1, _, _, _, _⟩) (v := ?v93) rfl (by kernel_rfl) (by kernel_rfl) (by kernel_rfl) (fun _ _ _ h => h) (Or.inl ⟨by rfl, ?hy93⟩) (by assumption) ?rest93
            case hy93 => ((intro w0 hSw; obtain ⟨hs1, hs2⟩ := hSw; go_simp); try (with_reducible rfl))
            try simp only [Act.put, List.setIfInBounds_toArray, List.set_cons_zero, List.set_cons_succ]
            refine wpAnyH_take (i := 17) (oi := ⟨some 115, Op.load 3 (Operand.tmp 114), _, _, _, _⟩) (v := ?v94) rfl (by kernel_rfl) (by kernel_rfl) (by kernel_rfl) (fun _ _ _ h => h) (Or.inl ⟨by rfl, ?hy94⟩) (by assumption) ?rest94
            case hy94 => ((intro w0 hSw; obtain ⟨hs1, hs2⟩ := hSw; go_simp); try (with_reducible rfl))
            try simp only [Act.put, List.setIfInBounds_toArray, List.set_cons_zero, List.set_cons_succ]
            refine wpAnyH_take (i := 19) (oi := ⟨some 117, Op.move (Operand.tmp 7), _, _, _, _⟩) (v := ?v95) rfl (by kernel_rfl) (by kernel_rfl) (by kernel_rfl) (fun _ _ _ h => h) (Or.inl ⟨by rfl, ?hy95⟩) (by assumption) ?rest95
            case hy95 => ((intro w0 hSw; obtain ⟨hs1, hs2⟩ := hSw; go_simp); try (with_reducible rfl))
            try simp only [Act.put, List.setIfInBounds_toArray, List.set_cons_zero, List.set_cons_succ]
            refine wpAnyH_take (i := 20) (oi := ⟨some 118, Op.fieldAddr 42 (Operand.tmp 9) 2, _, _, _, _⟩) (v := ?v96) rfl (by kernel_rfl) (by kernel_rfl) (by kernel_rfl) (fun _ _ _ h => h) (Or.inl ⟨by rfl, ?hy96⟩) (by assumption) ?rest96
            case hy96 => ((intro w0 hSw; obtain ⟨hs1, hs2⟩ := hSw; go_simp); try (with_reducible rfl))
            try simp only [Act.put, List.setIfInBounds_toArray, List.set_cons_zero, List.set_cons_succ]
            refine wpAnyH_take (i := 21) (oi := ⟨some 119, Op.load 5 (Operand.tmp 118), _, _, _, _⟩) (v := ?v97) rfl (by kernel_rfl) (by kernel_rfl) (by kernel_rfl) (fun _ _ _ h => h) (Or.inl ⟨by rfl, ?hy97⟩) (by assumption) ?rest97
            case hy97 => ((intro w0 hSw; obtain ⟨hs1, hs2⟩ := hSw; go_simp); try (with_reducible rfl))
            try simp only [Act.put, List.setIfInBounds_toArray, List.set_cons_zero, List.set_cons_succ]
            refine wpAnyH_take (i := 22) (oi := ⟨some 120, Op.fieldAddr 42 (Operand.tmp 9) 1, _, _, _, _⟩) (v := ?v98) rfl (by kernel_rfl) (by kernel_rfl) (by kernel_rfl) (fun _ _ _ h => h) (Or.inl ⟨by rfl, ?hy98⟩) (by assumption) ?rest98
            case hy98 => ((intro w0 hSw; obtain ⟨hs1, hs2⟩ := hSw; go_simp); try (with_reducible rfl))
            try simp only [Act.put, List.setIfInBounds_toArray, List.set_cons_zero, List.set_cons_succ]
            refine wpAnyH_take (i := 23) (oi := ⟨some 121, Op.load 3 (Operand.tmp 120), _, _, _, _⟩) (v := ?v99) rfl (by kernel_rfl) (by kernel_rfl) (by kernel_rfl) (fun _ _ _ h => h) (Or.inl ⟨by rfl, ?hy99⟩) (by assumption) ?rest99
            case hy99 => ((intro w0 hSw; obtain ⟨hs1, hs2⟩ := hSw; go_simp); try (with_reducible rfl))
            try simp only [Act.put, List.setIfInBounds_toArray, List.set_cons_zero, List.set_cons_succ]
            refine wpAnyH_ready (rs := [18]) (by kernel_rfl) (by simp) ?_
            refine AllReadyH.cons (o := ⟨some 116, Op.call { callee := Callee.value (Operand.func 13), args := #[(Operand.tmp 111), (Operand.tmp 113), (Operand.tmp 115)], argTypes := #[22, 5, 3] }, _, _, _, _⟩) rfl (fun K hK => ?_) AllReadyH.nil
            go_simp
            (with_reducible refine (HM1.out _ _ _ HB0.out.own).mono ?_); rintro e w9 ⟨rfl, rfl⟩
            go_wp2_with fail
            refine hK.out _ _ (by constructor <;> simp [World.cell?, HQ0.out]) (fun hHeld => ?_)
            clear hK K
            try simp only [Act.put, List.setIfInBounds_toArray, List.set_cons_zero, List.set_cons_succ]
            refine wpAnyH_ready (rs := [24]) (by kernel_rfl) (by simp) ?_
            refine AllReadyH.cons (o := ⟨some 122, Op.call { callee := Callee.value (Operand.func 24), args := #[(Operand.tmp 117), (Operand.tmp 119), (Operand.tmp 121)], argTypes := #[39, 5, 3] }, _, _, _, _⟩) rfl (fun K hK => ?_) AllReadyH.nil
            go_simp
            (with_reducible refine (HM2.out _ _ _ HB0.out.ref).mono ?_); rintro e w10 ⟨rfl, hg10⟩
            have HB10 := Lib.hid (HB0.out.grown hg10)
            have HQ10 := Lib.hid ((hg10.block _ (lt_of HQ0.out) (by simp)).trans HQ0.out)
            clear hg10 HB0 HQ0 HM1 HM2
            go_wp2_with fail
            refine hK.out _ _ (by constructor <;> simp [World.cell?, HQ10.out]) (fun hHeld => ?_)
            clear hK K
            try simp only [Act.put, List.setIfInBounds_toArray, List.set_cons_zero, List.set_cons_succ]
            refine wpAnyH_take (i := 25) (oi := ⟨some 123, Op.binOp BinOp.neq 4 (Operand.tmp 116) (Operand.tmp 122) _, _, _, _, _⟩) (v := ?v100) rfl (by kernel_rfl) (by kernel_rfl) (by kernel_rfl) (fun _ _ _ h => h) (Or.inl ⟨by rfl, ?hy100⟩) (by assumption) ?rest100
            case hy100 => ((intro w0 hSw; go_simp); try (with_reducible rfl))
            try simp only [Act.put, List.setIfInBounds_toArray, List.set_cons_zero, List.set_cons_succ]
            refine wpAnyH_take (i := 26) (oi := ⟨some 124, Op.pick (Operand.tmp 110) (Operand.const (Value.bool true)) (Operand.tmp 123), _, _, _, _⟩) (v := ?v101) rfl (by kernel_rfl) (by kernel_rfl) (by kernel_rfl) (fun _ _ _ h => h) (Or.inl ⟨by rfl, ?hy101⟩) (by assumption) ?rest101
            case hy101 => ((intro w0 hSw; go_simp); try (with_reducible rfl))
            try simp only [Act.put, List.setIfInBounds_toArray, List.set_cons_zero, List.set_cons_succ]
            refine wpAnyH_take (i := 27) (oi := ⟨some 125, Op.move (Operand.tmp 124), _, _, _, _⟩) (v := ?v102) rfl (by kernel_rfl) (by kernel_rfl) (by kernel_rfl) (fun _ _ _ h => h) (Or.inl ⟨by rfl, ?hy102⟩) (by assumption) ?rest102
            case hy102 => ((intro w0 hSw; go_simp); try (with_reducible rfl))
            try simp only [Act.put, List.setIfInBounds_toArray, List.set_cons_zero, List.set_cons_succ]
            refine wpAnyH_take (i := 28) (oi := ⟨some 126, Op.move (Operand.tmp 5), _, _, _, _⟩) (v := ?v103) rfl (by kernel_rfl) (by kernel_rfl) (by kernel_rfl) (fun _ _ _ h => h) (Or.inl ⟨by rfl, ?hy103⟩) (by assumption) ?rest103
            case hy103 => ((intro w0 hSw; go_simp); try (with_reducible rfl))
            try simp only [Act.put, List.setIfInBounds_toArray, List.set_cons_zero, List.set_cons_succ]
            refine wpAnyH_take (i := 30) (oi := ⟨some 128, Op.move (Operand.tmp 7), _, _, _, _⟩) (v := ?v104) rfl (by kernel_rfl) (by kernel_rfl) (by kernel_rfl) (fun _ _ _ h => h) (Or.inl ⟨by rfl, ?hy104⟩) (by assumption) ?rest104
            case hy104 => ((intro w0 hSw; go_simp); try (with_reducible rfl))
            try simp only [Act.put, List.setIfInBounds_toArray, List.set_cons_zero, List.set_cons_succ]
            refine wpAnyH_ready (rs := [29]) (by kernel_rfl) (by simp) ?_
            refine AllReadyH.cons (o := ⟨some 127, Op.call { callee := Callee.value (Operand.func 16), args := #[(Operand.tmp 126)], argTypes := #[22] }, _, _, _, _⟩) rfl (fun K hK => ?_) AllReadyH.nil
            go_simp
            (with_reducible refine (HA1.out _ _ _ HB10.out.own).mono ?_); rintro e w11 ⟨ad1, cap1, rfl, ha1, hg11⟩
            have HB11 := Lib.hid (HB10.out.grown hg11)
            have HQ11 := Lib.hid ((hg11.block _ (lt_of HQ10.out) (by simp)).trans HQ10.out)
            have HI1 := Lib.hid ha1
            clear ha1 hg11 HB10 HQ10
            go_wp2_with fail
            refine hK.out _ _ (by constructor <;> simp [World.cell?, HQ11.out]) (fun hHeld => ?_)
            clear hK K
            try simp only [Act.put, List.setIfInBounds_toArray, List.set_cons_zero, List.set_cons_succ]
            refine wpAnyH_ready (rs := [31]) (by kernel_rfl) (by simp) ?_
            refine AllReadyH.cons (o := ⟨some 129, Op.call { callee := Callee.value (Operand.func 26), args := #[(Operand.tmp 128)], argTypes := #[39] }, _, _, _, _⟩) rfl (fun K hK => ?_) AllReadyH.nil
            go_simp
            (with_reducible refine (HA2.out _ _ _ HB11.out.ref).mono ?_); rintro e w12 ⟨ad2, cap2, rfl, ha2, hg12⟩
            have HB12 := Lib.hid (HB11.out.grown hg12)
            have HQ12 := Lib.hid ((hg12.block _ (lt_of HQ11.out) (by simp)).trans HQ11.out)
            have HI2 := Lib.hid ha2
            have HI3 := Lib.hid (HI1.out.grown hg12)
            clear ha2 hg12 HB11 HQ11 HI1 HA1 HA2
            go_wp2_with fail
            refine hK.out _ _ (by constructor <;> simp [World.cell?, HQ12.out]) (fun hHeld => ?_)
            clear hK K
            try simp only [Act.put, List.setIfInBounds_toArray, List.set_cons_zero, List.set_cons_succ]
            refine wpAnyH_ready (rs := [32]) (by kernel_rfl) (by simp) ?_
            refine AllReadyH.cons (o := ⟨some 130, Op.call { callee := Callee.value (Operand.func 25), args := #[(Operand.tmp 127), (Operand.tmp 129)], argTypes := #[34, 34] }, _, _, _, _⟩) rfl (fun K hK => ?_) AllReadyH.nil
            go_simp
            (with_reducible refine (equal_same xs ad1 ad2 L cap1 cap2 w12 HLX.out.symm (by have := HL256.out; omega) HI3.out HI2.out).mono ?_); rintro e w13 ⟨rfl, hg13⟩
            have HB13 := Lib.hid (HB12.out.grown hg13)
            have HQ13 := Lib.hid ((hg13.block _ (lt_of HQ12.out) (by simp)).trans HQ12.out)
            clear hg13 HB12 HQ12 HI2 HI3
            go_wp2_with fail
            refine hK.out _ _ (by constructor <;> simp [World.cell?, HQ13.out]) (fun hHeld => ?_)
            clear hK K
            try simp only [Act.put, List.setIfInBounds_toArray, List.set_cons_zero, List.set_cons_succ]
            refine wpAnyH_take (i := 33) (oi := ⟨some 131, Op.unOp UnOp.not 4 (Operand.tmp 130), _, _, _, _⟩) (v := ?v105) rfl (by kernel_rfl) (by kernel_rfl) (by kernel_rfl) (fun _ _ _ h => h) (Or.inl ⟨by rfl, ?hy105⟩) (by assumption) ?rest105
            case hy105 => ((intro w0 hSw; go_simp); try (with_reducible rfl))
            try simp only [Act.put, List.setIfInBounds_toArray, List.set_cons_zero, List.set_cons_succ]
            refine wpAnyH_take (i := 34) (oi := ⟨some 132, Op.pick (Operand.tmp 125) (Operand.const (Value.bool true)) (Operand.tmp 131), _, _, _, _⟩) (v := ?v106) rfl (by kernel_rfl) (by kernel_rfl) (by kernel_rfl) (fun _ _ _ h => h) (Or.inl ⟨by rfl, ?hy106⟩) (by assumption) ?rest106
            case hy106 => ((intro w0 hSw; go_simp); try (with_reducible rfl))
            try simp only [Act.put, List.setIfInBounds_toArray, List.set_cons_zero, List.set_cons_succ]
            refine wpAnyH_done (by kernel_rfl) ?_ _
            clear hHeld e1 e2 e3
            go_wp2_with fail
            go_roundw
            case rel => exact ⟨j + 1, _, _, _, _, NS, by omega, by go_num, rfl, HB13.out⟩
            case measure => simp [intOf]; omega
          · by_cases hk3 : kd = 3
            · subst hk3
              clear hk0 hk1 hk2
              have HSM : Hid (N ≤ 256) := Lib.hid HO.out.ref.small
              have HO2 := Lib.hid (HO.out.grown (w2 := wr.alloc (.cells #[.int .i64 3, .int .i64 b2, .int .u8 x] 42)) (grown_alloc (grown_refl _ _) _))
              have HQ2 : Hid ((wr.alloc (.cells #[.int .i64 3, .int .i64 b2, .int .u8 x] 42)).heap[wr.heap.size]? = some (.cells #[.int .i64 3, .int .i64 b2, .int .u8 x] 42 (0, 0))) := Lib.hid (heap_alloc_new _ _)
              obtain ⟨NS, hNS⟩ : ∃ NS, NS = s := ⟨_, rfl⟩
              rw [← hNS] at HO2
              clear hNS
              have HC1 := Lib.hid (own_copy HO2.out.own)
              obtain ⟨X, hX⟩ : ∃ X, NS.r b2 = X := ⟨_, rfl⟩
              obtain ⟨Y, hY⟩ : ∃ Y, NS.w b2 = Y := ⟨_, rfl⟩
              obtain ⟨Z, hZ⟩ : ∃ Z, meets NS x b2 = Z := ⟨_, rfl⟩
              obtain ⟨xs, hxs⟩ : ∃ xs, keys N NS = xs := ⟨_, rfl⟩
              obtain ⟨L, hL⟩ : ∃ L, xs.length = L := ⟨_, rfl⟩
              have HL256 : Hid (L ≤ 256) := Lib.hid (by rw [← hL, ← hxs]; exact Nat.le_trans (keys_len N NS) HSM.out)
              have HLX := Lib.hid hL
              have HF1 : Hid (∀ (W : World) (t b : Nat), Own wb W t b N NS → _) := Lib.hid fun W t b h => own_has (t := t) (b := b) h b2 X Y hX hY
              have HF2 : Hid (∀ (W : World) (g1 g2 : Nat), RAt W r g1 g2 N NS → _) := Lib.hid fun W g1 g2 h => ref_has (g1 := g1) (g2 := g2) h b2 X Y hX hY
              have HM1 : Hid (∀ (W : World) (t b : Nat), Own wb W t b N NS → _) := Lib.hid fun W t b h => own_meets (t := t) (b := b) h x b2 Z hZ
              have HM2 : Hid (∀ (W : World) (g1 g2 : Nat), RAt W r g1 g2 N NS → _) := Lib.hid fun W g1 g2 h => ref_meets (g1 := g1) (g2 := g2) h x b2 Z hZ
              have HA1 : Hid (∀ (W : World) (t b : Nat), Own wb W t b N NS → _) := Lib.hid fun W t b h => own_allk (t := t) (b := b) h L xs hxs hL
              have HA2 : Hid (∀ (W : World) (g1 g2 : Nat), RAt W r g1 g2 N NS → _) := Lib.hid fun W g1 g2 h => ref_allk (g1 := g1) (g2 := g2) h L xs hxs hL
              have e1 : (X != X) = false := by simp
              have e2 : (Y != Y) = false := by simp
              clear hX hY hZ hxs hL HSM
              go_wp2_with (first
                | (go_at_call 17; ((with_reducible refine HC1.out.mono ?_); rintro e w4 ⟨t4, b4, rfl, ho4, ht4, hb4, hg4⟩; have HO4 := Lib.hid ho4; have HP4 := Lib.hid (HO2.out.grown hg4); have HQ4 := Lib.hid ((hg4.block _ (lt_of HQ2.out) (by simp)).trans HQ2.out); have HNB : Hid (b4 ≠ b ∧ t4 ≠ b) := Lib.hid (by have := HO2.out.own.mq.map.lt; omega); clear ho4 hg4 ht4 hb4 HC1))
                | (go_at_call 14; ((with_reducible refine (own_clear HP4.out.own).mono ?_); rintro e w5 ⟨rfl, ho5, hg5⟩; have HB5 : Hid (Both wb w5 t4 b4 r g1 g2 N NS) := Lib.hid ⟨⟨HO4.out.mq.other HNB.out.1 HNB.out.2 hg5, ho5.old, HO4.out.hb⟩, HP4.out.ref.keep HP4.out.own hg5, HP4.out.hr, HP4.out.h1, HP4.out.h2⟩; have HQW := Lib.hid (HP4.out.own.cells hg5 HQ4.out); have q1 : w5.cell? ⟨wr.heap.size, 1, none⟩ = some (.int .i64 b2) := (by simp [World.cell?, HQW.out]); clear ho5 hg5))
                | (go_at_call 15; ((with_reducible refine (HF1.out _ _ _ HB5.out.own).mono ?_); rintro e w7 ⟨rfl, rfl⟩))
                | (go_at_call 23; ((with_reducible refine (HF2.out _ _ _ HB5.out.ref).mono ?_); rintro e w8 ⟨rfl, hg8⟩; have HB8 := Lib.hid (HB5.out.grown hg8); have hq8 := (hg8.block _ (lt_of HQW.out) (by simp)).trans HQW.out; have HQ8 := Lib.hid hq8; have c1 : w8.cell? ⟨wr.heap.size, 1, none⟩ = some (.int .i64 b2) := (by simp [World.cell?, hq8]); have c2 : w8.cell? ⟨wr.heap.size, 2, none⟩ = some (.int .u8 x) := (by simp [World.cell?, hq8]); clear hg8 hq8))
                | fail)
              clear HF1 HF2 e1 e2
              refine wp_region_held_drew (S := fun W => W.cell? ⟨wr.heap.size, 1, none⟩ = some (.int .i64 b2) ∧ W.cell? ⟨wr.heap.size, 2, none⟩ = some (.int .u8 x)) (by kernel_rfl) ⟨c1, c2⟩ (fun hHeld => ?_)
              have HB0 := Lib.hid (HB8.out.grown (grown_drew (grown_refl _ _)))
              have HQ0 : Hid (w8.drew.heap[wr.heap.size]? = _) := Lib.hid HQ8.out
              generalize w8.drew = W0 at hHeld HB0 HQ0 ⊢
              clear c1 c2 HB8 HQ8
              have e1 : (X != X) = false := by simp
              have e2 : (Y != Y) = false := by simp
              have e3 : (Z != Z) = false := by simp
              refine wpAnyH_take (i := 0) (oi := ⟨some 98, Op.move (Operand.tmp 10), _, _, _, _⟩) (v := ?v107) rfl (by kernel_rfl) (by kernel_rfl) (by kernel_rfl) (fun _ _ _ h => h) (Or.inl ⟨by rfl, ?hy107⟩) (by assumption) ?rest107
              case hy107 => ((intro w0 hSw; obtain ⟨hs1, hs2⟩ := hSw; go_simp); try (with_reducible rfl))
              try simp only [Act.put, List.setIfInBounds_toArray, List.set_cons_zero, List.set_cons_succ]
              refine wpAnyH_take (i := 1) (oi := ⟨some 99, Op.unOp UnOp.not 4 (Operand.tmp 98), _, _, _, _⟩) (v := ?v108) rfl (by kernel_rfl) (by kernel_rfl) (by kernel_rfl) (fun _ _ _ h => h) (Or.inl ⟨by rfl, ?hy108⟩) (by assumption) ?rest108
              case hy108 => ((intro w0 hSw; obtain ⟨hs1, hs2⟩ := hSw; go_simp); try (with_reducible rfl))
              try simp only [Act.put, List.setIfInBounds_toArray, List.set_cons_zero, List.set_cons_succ]
              refine wpAnyH_take (i := 2) (oi := ⟨some 100, Op.move (Operand.tmp 99), _, _, _, _⟩) (v := ?v109) rfl (by kernel_rfl) (by kernel_rfl) (by kernel_rfl) (fun _ _ _ h => h) (Or.inl ⟨by rfl, ?hy109⟩) (by assumption) ?rest109
              case hy109 => ((intro w0 hSw; obtain ⟨hs1, hs2⟩ := hSw; go_simp); try (with_reducible rfl))
              try simp only [Act.put, List.setIfInBounds_toArray, List.set_cons_zero, List.set_cons_succ]
              refine wpAnyH_take (i := 3) (oi := ⟨some 101, Op.move (Operand.tmp 12), _, _, _, _⟩) (v := ?v110) rfl (by kernel_rfl) (by kernel_rfl) (by kernel_rfl) (fun _ _ _ h => h) (Or.inl ⟨by rfl, ?hy110⟩) (by assumption) ?rest110
              case hy110 => ((intro w0 hSw; obtain ⟨hs1, hs2⟩ := hSw; go_simp); try (with_reducible rfl))
              try simp only [Act.put, List.setIfInBounds_toArray, List.set_cons_zero, List.set_cons_succ]
              refine wpAnyH_take (i := 4) (oi := ⟨some 102, Op.move (Operand.tmp 14), _, _, _, _⟩) (v := ?v111) rfl (by kernel_rfl) (by kernel_rfl) (by kernel_rfl) (fun _ _ _ h => h) (Or.inl ⟨by rfl, ?hy111⟩) (by assumption) ?rest111
              case hy111 => ((intro w0 hSw; obtain ⟨hs1, hs2⟩ := hSw; go_simp); try (with_reducible rfl))
              try simp only [Act.put, List.setIfInBounds_toArray, List.set_cons_zero, List.set_cons_succ]
              refine wpAnyH_take (i := 5) (oi := ⟨some 103, Op.binOp BinOp.neq 4 (Operand.tmp 101) (Operand.tmp 102) _, _, _, _, _⟩) (v := ?v112) rfl (by kernel_rfl) (by kernel_rfl) (by kernel_rfl) (fun _ _ _ h => h) (Or.inl ⟨by rfl, ?hy112⟩) (by assumption) ?rest112
              case hy112 => ((intro w0 hSw; obtain ⟨hs1, hs2⟩ := hSw; go_simp); try (with_reducible rfl))
              try simp only [Act.put, List.setIfInBounds_toArray, List.set_cons_zero, List.set_cons_succ]
              refine wpAnyH_take (i := 6) (oi := ⟨some 104, Op.pick (Operand.tmp 100) (Operand.const (Value.bool true)) (Operand.tmp 103), _, _, _, _⟩) (v := ?v113) rfl (by kernel_rfl) (by kernel_rfl) (by kernel_rfl) (fun _ _ _ h => h) (Or.inl ⟨by rfl, ?hy113⟩) (by assumption) ?rest113
              case hy113 => ((intro w0 hSw; obtain ⟨hs1, hs2⟩ := hSw; go_simp); try (with_reducible rfl))
              try simp only [Act.put, List.setIfInBounds_toArray, List.set_cons_zero, List.set_cons_succ]
              refine wpAnyH_take (i := 7) (oi := ⟨some 105, Op.move (Operand.tmp 104), _, _, _, _⟩) (v := ?v114) rfl (by kernel_rfl) (by kernel_rfl) (by kernel_rfl) (fun _ _ _ h => h) (Or.inl ⟨by rfl, ?hy114⟩) (by assumption) ?rest114
              case hy114 => ((intro w0 hSw; obtain ⟨hs1, hs2⟩ := hSw; go_simp); try (with_reducible rfl))
              try simp only [Act.put, List.setIfInBounds_toArray, List.set_cons_zero, List.set_cons_succ]
              refine wpAnyH_take (i := 8) (oi := ⟨some 106, Op.move (Operand.tmp 13), _, _, _, _⟩) (v := ?v115) rfl (by kernel_rfl) (by kernel_rfl) (by kernel_rfl) (fun _ _ _ h => h) (Or.inl ⟨by rfl, ?hy115⟩) (by assumption) ?rest115
              case hy115 => ((intro w0 hSw; obtain ⟨hs1, hs2⟩ := hSw; go_simp); try (with_reducible rfl))
              try simp only [Act.put, List.setIfInBounds_toArray, List.set_cons_zero, List.set_cons_succ]
              refine wpAnyH_take (i := 9) (oi := ⟨some 107, Op.move (Operand.tmp 15), _, _, _, _⟩) (v := ?v116) rfl (by kernel_rfl) (by kernel_rfl) (by kernel_rfl) (fun _ _ _ h => h) (Or.inl ⟨by rfl, ?hy116⟩) (by assumption) ?rest116
              case hy116 => ((intro w0 hSw; obtain ⟨hs1, hs2⟩ := hSw; go_simp); try (with_reducible rfl))
              try simp only [Act.put, List.setIfInBounds_toArray, List.set_cons_zero, List.set_cons_succ]
              refine wpAnyH_take (i := 10) (oi := ⟨some 108, Op.binOp BinOp.neq 4 (Operand.tmp 106) (Operand.tmp 107) _, _, _, _, _⟩) (v := ?v117) rfl (by kernel_rfl) (by kernel_rfl) (by kernel_rfl) (fun _ _ _ h => h) (Or.inl ⟨by rfl, ?hy117⟩) (by assumption) ?rest117
              case hy117 => ((intro w0 hSw; obtain ⟨hs1, hs2⟩ := hSw; go_simp); try (with_reducible rfl))
              try simp only [Act.put, List.setIfInBounds_toArray, List.set_cons_zero, List.set_cons_succ]
              refine wpAnyH_take (i := 11) (oi := ⟨some 109, Op.pick (Operand.tmp 105) (Operand.const (Value.bool true)) (Operand.tmp 108), _, _, _, _⟩) (v := ?v118) rfl (by kernel_rfl) (by kernel_rfl) (by kernel_rfl) (fun _ _ _ h => h) (Or.inl ⟨by rfl, ?hy118⟩) (by assumption) ?rest118
              case hy118 => ((intro w0 hSw; obtain ⟨hs1, hs2⟩ := hSw; go_simp); try (with_reducible rfl))
              try simp only [Act.put, List.setIfInBounds_toArray, List.set_cons_zero, List.set_cons_succ]
              refine wpAnyH_take (i := 12) (oi := ⟨some 110, Op.move (Operand.tmp 109), _, _, _, _⟩) (v := ?v119) rfl (by kernel_rfl) (by kernel_rfl) (by kernel_rfl) (fun _ _ _ h => h) (Or.inl ⟨by rfl, ?hy119⟩) (by assumption) ?rest119
              case hy119 => ((intro w0 hSw; obtain ⟨hs1, hs2⟩ := hSw; go_simp); try (with_reducible rfl))
              try simp only [Act.put, List.setIfInBounds_toArray, List.set_cons_zero, List.set_cons_succ]
              refine wpAnyH_take (i := 13) (oi := ⟨some 111, Op.move (Operand.tmp 5), _, _, _, _⟩) (v := ?v120) rfl (by kernel_rfl) (by kernel_rfl) (by kernel_rfl) (fun _ _ _ h => h) (Or.inl ⟨by rfl, ?hy120⟩) (by assumption) ?rest120
              case hy120 => ((intro w0 hSw; obtain ⟨hs1, hs2⟩ := hSw; go_simp); try (with_reducible rfl))
              try simp only [Act.put, List.setIfInBounds_toArray, List.set_cons_zero, List.set_cons_succ]
              refine wpAnyH_take (i := 14) (oi := ⟨some 112, Op.fieldAddr 42 (Operand.tmp 9) 2, _, _, _, _⟩) (v := ?v121) rfl (by kernel_rfl) (by kernel_rfl) (by kernel_rfl) (fun _ _ _ h => h) (Or.inl ⟨by rfl, ?hy121⟩) (by assumption) ?rest121
              case hy121 => ((intro w0 hSw; obtain ⟨hs1, hs2⟩ := hSw; go_simp); try (with_reducible rfl))
              try simp only [Act.put, List.setIfInBounds_toArray, List.set_cons_zero, List.set_cons_succ]
              refine wpAnyH_take (i := 15) (oi := ⟨some 113, Op.load 5 (Operand.tmp 112), _, _, _, _⟩) (v := ?v122) rfl (by kernel_rfl) (by kernel_rfl) (by kernel_rfl) (fun _ _ _ h => h) (Or.inl ⟨by rfl, ?hy122⟩) (by assumption) ?rest122
              case hy122 => ((intro w0 hSw; obtain ⟨hs1, hs2⟩ := hSw; go_simp); try (with_reducible rfl))
              try simp only [Act.put, List.setIfInBounds_toArray, List.set_cons_zero, List.set_cons_succ]
              refine wpAnyH_take (i := 16) (oi := ⟨some 114, Op.fieldAddr 42 (Operand.tmp 9) 1, _, _, _, _⟩) (v := ?v123) rfl (by kernel_rfl) (by kernel_rfl) (by kernel_rfl) (fun _ _ _ h => h) (Or.inl ⟨by rfl, ?hy123⟩) (by assumption) ?rest123
              case hy123 => ((intro w0 hSw; obtain ⟨hs1, hs2⟩ := hSw; go_simp); try (with_reducible rfl))
              try simp only [Act.put, List.setIfInBounds_toArray, List.set_cons_zero, List.set_cons_succ]
              refine wpAnyH_take (i := 17) (oi := ⟨some 115, Op.load 3 (Operand.tmp 114), _, _, _, _⟩) (v := ?v124) rfl (by kernel_rfl) (by kernel_rfl) (by kernel_rfl) (fun _ _ _ h => h) (Or.inl ⟨by rfl, ?hy124⟩) (by assumption) ?rest124
              case hy124 => ((intro w0 hSw; obtain ⟨hs1, hs2⟩ := hSw; go_simp); try (with_reducible rfl))
              try simp only [Act.put, List.setIfInBounds_toArray, List.set_cons_zero, List.set_cons_succ]
              refine wpAnyH_take (i := 19) (oi := ⟨some 117, Op.move (Operand.tmp 7), _, _, _, _⟩) (v := ?v125) rfl (by kernel_rfl) (by kernel_rfl) (by kernel_rfl) (fun _ _ _ h => h) (Or.inl ⟨by rfl, ?hy125⟩) (by assumption) ?rest125
              case hy125 => ((intro w0 hSw; obtain ⟨hs1, hs2⟩ := hSw; go_simp); try (with_reducible rfl))
              try simp only [Act.put, List.setIfInBounds_toArray, List.set_cons_zero, List.set_cons_succ]
              refine wpAnyH_take (i := 20) (oi := ⟨some 118, Op.fieldAddr 42 (Operand.tmp 9) 2, _, _, _, _⟩) (v := ?v126) rfl (by kernel_rfl) (by kernel_rfl) (by kernel_rfl) (fun _ _ _ h => h) (Or.inl ⟨by rfl, ?hy126⟩) (by assumption) ?rest126
              case hy126 => ((intro w0 hSw; obtain ⟨hs1, hs2⟩ := hSw; go_simp); try (with_reducible rfl))
              try simp only [Act.put, List.setIfInBounds_toArray, List.set_cons_zero, List.set_cons_succ]
              refine wpAnyH_take (i := 21) (oi := ⟨some 119, Op.load 5 (Operand.tmp 118), _, _, _, _⟩) (v := ?v127) rfl (by kernel_rfl) (by kernel_rfl) (by kernel_rfl) (fun _ _ _ h => h) (Or.inl ⟨by rfl, ?hy127⟩) (by assumption) ?rest127
              case hy127 => ((intro w0 hSw; obtain ⟨hs1, hs2⟩ := hSw; go_simp); try (with_reducible rfl))
              try simp only [Act.put, List.setIfInBounds_toArray, List.set_cons_zero, List.set_cons_succ]
              refine wpAnyH_take (i := 22) (oi := ⟨some 120, Op.fieldAddr 42 (Operand.tmp 9) 1, _, _, _, _⟩) (v := ?v128) rfl (by kernel_rfl) (by kernel_rfl) (by kernel_rfl) (fun _ _ _ h => h) (Or.inl ⟨by rfl, ?hy128⟩) (by assumption) ?rest128
              case hy128 => ((intro w0 hSw; obtain ⟨hs1, hs2⟩ := hSw; go_simp); try (with_reducible rfl))
              try simp only [Act.put, List.setIfInBounds_toArray, List.set_cons_zero, List.set_cons_succ]
              refine wpAnyH_take (i := 23) (oi := ⟨some 121, Op.load 3 (Operand.tmp 120), _, _, _, _⟩) (v := ?v129) rfl (by kernel_rfl) (by kernel_rfl) (by kernel_rfl) (fun _ _ _ h => h) (Or.inl ⟨by rfl, ?hy129⟩) (by assumption) ?rest129
              case hy129 => ((intro w0 hSw; obtain ⟨hs1, hs2⟩ := hSw; go_simp); try (with_reducible rfl))
              try simp only [Act.put, List.setIfInBounds_toArray, List.set_cons_zero, List.set_cons_succ]
              refine wpAnyH_ready (rs := [18]) (by kernel_rfl) (by simp) ?_
              refine AllReadyH.cons (o := ⟨some 116, Op.call { callee := Callee.value (Operand.func 13), args := #[(Operand.tmp 111), (Operand.tmp 113), (Operand.tmp 115)], argTypes := #[22, 5, 3] }, _, _, _, _⟩) rfl (fun K hK => ?_) AllReadyH.nil
              go_simp
              (with_reducible refine (HM1.out _ _ _ HB0.out.own).mono ?_); rintro e w9 ⟨rfl, rfl⟩
              go_wp2_with fail
              refine hK.out _ _ (by constructor <;> simp [World.cell?, HQ0.out]) (fun hHeld => ?_)
              clear hK K
              try simp only [Act.put, List.setIfInBounds_toArray, List.set_cons_zero, List.set_cons_succ]
              refine wpAnyH_ready (rs := [24]) (by kernel_rfl) (by simp) ?_
              refine AllReadyH.cons (o := ⟨some 122, Op.call { callee := Callee.value (Operand.func 24), args := #[(Operand.tmp 117), (Operand.tmp 119), (Operand.tmp 121)], argTypes := #[39, 5, 3] }, _, _, _, _⟩) rfl (fun K hK => ?_) AllReadyH.nil
              go_simp
              (with_reducible refine (HM2.out _ _ _ HB0.out.ref).mono ?_); rintro e w10 ⟨rfl, hg10⟩
              have HB10 := Lib.hid (HB0.out.grown hg10)
              have HQ10 := Lib.hid ((hg10.block _ (lt_of HQ0.out) (by simp)).trans HQ0.out)
              clear hg10 HB0 HQ0 HM1 HM2
              go_wp2_with fail
              refine hK.out _ _ (by constructor <;> simp [World.cell?, HQ10.out]) (fun hHeld => ?_)
              clear hK K
              try simp only [Act.put, List.setIfInBounds_toArray, List.set_cons_zero, List.set_cons_succ]
              refine wpAnyH_take (i := 25) (oi := ⟨some 123, Op.binOp BinOp.neq 4 (Operand.tmp 116) (Operand.tmp 122) _, _, _, _, _⟩) (v := ?v130) rfl (by kernel_rfl) (by kernel_rfl) (by kernel_rfl) (fun _ _ _ h => h) (Or.inl ⟨by rfl, ?hy130⟩) (by assumption) ?rest130
              case hy130 => ((intro w0 hSw; go_simp); try (with_reducible rfl))
              try simp only [Act.put, List.setIfInBounds_toArray, List.set_cons_zero, List.set_cons_succ]
              refine wpAnyH_take (i := 26) (oi := ⟨some 124, Op.pick (Operand.tmp 110) (Operand.const (Value.bool true)) (Operand.tmp 123), _, _, _, _⟩) (v := ?v131) rfl (by kernel_rfl) (by kernel_rfl) (by kernel_rfl) (fun _ _ _ h => h) (Or.inl ⟨by rfl, ?hy131⟩) (by assumption) ?rest131
              case hy131 => ((intro w0 hSw; go_simp); try (with_reducible rfl))
              try simp only [Act.put, List.setIfInBounds_toArray, List.set_cons_zero, List.set_cons_succ]
              refine wpAnyH_take (i := 27) (oi := ⟨some 125, Op.move (Operand.tmp 124), _, _, _, _⟩) (v := ?v132) rfl (by kernel_rfl) (by kernel_rfl) (by kernel_rfl) (fun _ _ _ h => h) (Or.inl ⟨by rfl, ?hy132⟩) (by assumption) ?rest132
              case hy132 => ((intro w0 hSw; go_simp); try (with_reducible rfl))
              try simp only [Act.put, List.setIfInBounds_toArray, List.set_cons_zero, List.set_cons_succ]
              refine wpAnyH_take (i := 28) (oi := ⟨some 126, Op.move (Operand.tmp 5), _, _, _, _⟩) (v := ?v133) rfl (by kernel_rfl) (by kernel_rfl) (by kernel_rfl) (fun _ _ _ h => h) (Or.inl ⟨by rfl, ?hy133⟩) (by assumption) ?rest133
              case hy133 => ((intro w0 hSw; go_simp); try (with_reducible rfl))
              try simp only [Act.put, List.setIfInBounds_toArray, List.set_cons_zero, List.set_cons_succ]
              refine wpAnyH_take (i := 30) (oi := ⟨some 128, Op.move (Operand.tmp 7), _, _, _, _⟩) (v := ?v134) rfl (by kernel_rfl) (by kernel_rfl) (by kernel_rfl) (fun _ _ _ h => h) (Or.inl ⟨by rfl, ?hy134⟩) (by assumption) ?rest134
              case hy134 => ((intro w0 hSw; go_simp); try (with_reducible rfl))
              try simp only [Act.put, List.setIfInBounds_toArray, List.set_cons_zero, List.set_cons_succ]
              refine wpAnyH_ready (rs := [29]) (by kernel_rfl) (by simp) ?_
              refine AllReadyH.cons (o := ⟨some 127, Op.call { callee := Callee.value (Operand.func 16), args := #[(Operand.tmp 126)], argTypes := #[22] }, _, _, _, _⟩) rfl (fun K hK => ?_) AllReadyH.nil
              go_simp
              (with_reducible refine (HA1.out _ _ _ HB10.out.own).mono ?_); rintro e w11 ⟨ad1, cap1, rfl, ha1, hg11⟩
              have HB11 := Lib.hid (HB10.out.grown hg11)
              have HQ11 := Lib.hid ((hg11.block _ (lt_of HQ10.out) (by simp)).trans HQ10.out)
              have HI1 := Lib.hid ha1
              clear ha1 hg11 HB10 HQ10
              go_wp2_with fail
              refine hK.out _ _ (by constructor <;> simp [World.cell?, HQ11.out]) (fun hHeld => ?_)
              clear hK K
              try simp only [Act.put, List.setIfInBounds_toArray, List.set_cons_zero, List.set_cons_succ]
              refine wpAnyH_ready (rs := [31]) (by kernel_rfl) (by simp) ?_
              refine AllReadyH.cons (o := ⟨some 129, Op.call { callee := Callee.value (Operand.func 26), args := #[(Operand.tmp 128)], argTypes := #[39] }, _, _, _, _⟩) rfl (fun K hK => ?_) AllReadyH.nil
              go_simp
              (with_reducible refine (HA2.out _ _ _ HB11.out.ref).mono ?_); rintro e w12 ⟨ad2, cap2, rfl, ha2, hg12⟩
              have HB12 := Lib.hid (HB11.out.grown hg12)
              have HQ12 := Lib.hid ((hg12.block _ (lt_of HQ11.out) (by simp)).trans HQ11.out)
              have HI2 := Lib.hid ha2
              have HI3 := Lib.hid (HI1.out.grown hg12)
              clear ha2 hg12 HB11 HQ11 HI1 HA1 HA2
              go_wp2_with fail
              refine hK.out _ _ (by constructor <;> simp [World.cell?, HQ12.out]) (fun hHeld => ?_)
              clear hK K
              try simp only [Act.put, List.setIfInBounds_toArray, List.set_cons_zero, List.set_cons_succ]
              refine wpAnyH_ready (rs := [32]) (by kernel_rfl) (by simp) ?_
              refine AllReadyH.cons (o := ⟨some 130, Op.call { callee := Callee.value (Operand.func 25), args := #[(Operand.tmp 127), (Operand.tmp 129)], argTypes := #[34, 34] }, _, _, _, _⟩) rfl (fun K hK => ?_) AllReadyH.nil
              go_simp
              (with_reducible refine (equal_same xs ad1 ad2 L cap1 cap2 w12 HLX.out.symm (by have := HL256.out; omega) HI3.out HI2.out).mono ?_); rintro e w13 ⟨rfl, hg13⟩
              have HB13 := Lib.hid (HB12.out.grown hg13)
              have HQ13 := Lib.hid ((hg13.block _ (lt_of HQ12.out) (by simp)).trans HQ12.out)
              clear hg13 HB12 HQ12 HI2 HI3
              go_wp2_with fail
              refine hK.out _ _ (by constructor <;> simp [World.cell?, HQ13.out]) (fun hHeld => ?_)
              clear hK K
              try simp only [Act.put, List.setIfInBounds_toArray, List.set_cons_zero, List.set_cons_succ]
              refine wpAnyH_take (i := 33) (oi := ⟨some 131, Op.unOp UnOp.not 4 (Operand.tmp 130), _, _, _, _⟩) (v := ?v135) rfl (by kernel_rfl) (by kernel_rfl) (by kernel_rfl) (fun _ _ _ h => h) (Or.inl ⟨by rfl, ?hy135⟩) (by assumption) ?rest135
              case hy135 => ((intro w0 hSw; go_simp); try (with_reducible rfl))
              try simp only [Act.put, List.setIfInBounds_toArray, List.set_cons_zero, List.set_cons_succ]
              refine wpAnyH_take (i := 34) (oi := ⟨some 132, Op.pick (Operand.tmp 125) (Operand.const (Value.bool true)) (Operand.tmp 131), _, _, _, _⟩) (v := ?v136) rfl (by kernel_rfl) (by kernel_rfl) (by kernel_rfl) (fun _ _ _ h => h) (Or.inl ⟨by rfl, ?hy136⟩) (by assumption) ?rest136
              case hy136 => ((intro w0 hSw; go_simp); try (with_reducible rfl))
              try simp only [Act.put, List.setIfInBounds_toArray, List.set_cons_zero, List.set_cons_succ]
              refine wpAnyH_done (by kernel_rfl) ?_ _
              clear hHeld e1 e2 e3
              go_wp2_with fail
              go_roundw
              case rel => exact ⟨j + 1, _, _, _, _, NS, by omega, by go_num, rfl, HB13.out⟩
              case measure => simp [intOf]; omega
            · have k0 : (kd == 0) = false := by simpa using hk0
              have k1 : (kd == 1) = false := by simpa using hk1
              have k2 : (kd == 2) = false := by simpa using hk2
              have k3 : (kd == 3) = false := by simpa using hk3
              clear hk0 hk1 hk2 hk3
              have HSM : Hid (N ≤ 256) := Lib.hid HO.out.ref.small
              have HO2 := Lib.hid (HO.out.grown (w2 := wr.alloc (.cells #[.int .i64 kd, .int .i64 b2, .int .u8 x] 42)) (grown_alloc (grown_refl _ _) _))
              have HQ2 : Hid ((wr.alloc (.cells #[.int .i64 kd, .int .i64 b2, .int .u8 x] 42)).heap[wr.heap.size]? = some (.cells #[.int .i64 kd, .int .i64 b2, .int .u8 x] 42 (0, 0))) := Lib.hid (heap_alloc_new _ _)
              obtain ⟨NS, hNS⟩ : ∃ NS, NS = s := ⟨_, rfl⟩
              rw [← hNS] at HO2
              clear hNS
              obtain ⟨X, hX⟩ : ∃ X, NS.r b2 = X := ⟨_, rfl⟩
              obtain ⟨Y, hY⟩ : ∃ Y, NS.w b2 = Y := ⟨_, rfl⟩
              obtain ⟨Z, hZ⟩ : ∃ Z, meets NS x b2 = Z := ⟨_, rfl⟩
              obtain ⟨xs, hxs⟩ : ∃ xs, keys N NS = xs := ⟨_, rfl⟩
              obtain ⟨L, hL⟩ : ∃ L, xs.length = L := ⟨_, rfl⟩
              have HL256 : Hid (L ≤ 256) := Lib.hid (by rw [← hL, ← hxs]; exact Nat.le_trans (keys_len N NS) HSM.out)
              have HLX := Lib.hid hL
              have HF1 : Hid (∀ (W : World) (t b : Nat), Own wb W t b N NS → _) := Lib.hid fun W t b h => own_has (t := t) (b := b) h b2 X Y hX hY
              have HF2 : Hid (∀ (W : World) (g1 g2 : Nat), RAt W r g1 g2 N NS → _) := Lib.hid fun W g1 g2 h => ref_has (g1 := g1) (g2 := g2) h b2 X Y hX hY
              have HM1 : Hid (∀ (W : World) (t b : Nat), Own wb W t b N NS → _) := Lib.hid fun W t b h => own_meets (t := t) (b := b) h x b2 Z hZ
              have HM2 : Hid (∀ (W : World) (g1 g2 : Nat), RAt W r g1 g2 N NS → _) := Lib.hid fun W g1 g2 h => ref_meets (g1 := g1) (g2 := g2) h x b2 Z hZ
              have HA1 : Hid (∀ (W : World) (t b : Nat), Own wb W t b N NS → _) := Lib.hid fun W t b h => own_allk (t := t) (b := b) h L xs hxs hL
              have HA2 : Hid (∀ (W : World) (g1 g2 : Nat), RAt W r g1 g2 N NS → _) := Lib.hid fun W g1 g2 h => ref_allk (g1 := g1) (g2 := g2) h L xs hxs hL
              have e1 : (X != X) = false := by simp
              have e2 : (Y != Y) = false := by simp
              clear hX hY hZ hxs hL HSM
              go_wp2_with (first
                | (go_at_call 15; ((with_reducible refine (HF1.out _ _ _ HO2.out.own).mono ?_); rintro e w7 ⟨rfl, rfl⟩))
                | (go_at_call 23; ((with_reducible refine (HF2.out _ _ _ HO2.out.ref).mono ?_); rintro e w8 ⟨rfl, hg8⟩; have HB8 := Lib.hid (HO2.out.grown hg8); have hq8 := (hg8.block _ (lt_of HQ2.out) (by simp)).trans HQ2.out; have HQ8 := Lib.hid hq8; have c1 : w8.cell? ⟨wr.heap.size, 1, none⟩ = some (.int .i64 b2) := (by simp [World.cell?, hq8]); have c2 : w8.cell? ⟨wr.heap.size, 2, none⟩ = some (.int .u8 x) := (by simp [World.cell?, hq8]); clear hg8 hq8))
                | fail)
              clear HF1 HF2 e1 e2
              refine wp_region_held_drew (S := fun W => W.cell? ⟨wr.heap.size, 1, none⟩ = some (.int .i64 b2) ∧ W.cell? ⟨wr.heap.size, 2, none⟩ = some (.int .u8 x)) (by kernel_rfl) ⟨c1, c2⟩ (fun hHeld => ?_)
              have HB0 := Lib.hid (HB8.out.grown (grown_drew (grown_refl _ _)))
              have HQ0 : Hid (w8.drew.heap[wr.heap.size]? = _) := Lib.hid HQ8.out
              generalize w8.drew = W0 at hHeld HB0 HQ0 ⊢
              clear c1 c2 HB8 HQ8
              have e1 : (X != X) = false := by simp
              have e2 : (Y != Y) = false := by simp
              have e3 : (Z != Z) = false := by simp
              refine wpAnyH_take (i := 0) (oi := ⟨some 98, Op.move (Operand.tmp 10), _, _, _, _⟩) (v := ?v137) rfl (by kernel_rfl) (by kernel_rfl) (by kernel_rfl) (fun _ _ _ h => h) (Or.inl ⟨by rfl, ?hy137⟩) (by assumption) ?rest137
              case hy137 => ((intro w0 hSw; obtain ⟨hs1, hs2⟩ := hSw; go_simp); try (with_reducible rfl))
              try simp only [Act.put, List.setIfInBounds_toArray, List.set_cons_zero, List.set_cons_succ]
              refine wpAnyH_take (i := 1) (oi := ⟨some 99, Op.unOp UnOp.not 4 (Operand.tmp 98), _, _, _, _⟩) (v := ?v138) rfl (by kernel_rfl) (by kernel_rfl) (by kernel_rfl) (fun _ _ _ h => h) (Or.inl ⟨by rfl, ?hy138⟩) (by assumption) ?rest138
              case hy138 => ((intro w0 hSw; obtain ⟨hs1, hs2⟩ := hSw; go_simp); try (with_reducible rfl))
              try simp only [Act.put, List.setIfInBounds_toArray, List.set_cons_zero, List.set_cons_succ]
              refine wpAnyH_take (i := 2) (oi := ⟨some 100, Op.move (Operand.tmp 99), _, _, _, _⟩) (v := ?v139) rfl (by kernel_rfl) (by kernel_rfl) (by kernel_rfl) (fun _ _ _ h => h) (Or.inl ⟨by rfl, ?hy139⟩) (by assumption) ?rest139
              case hy139 => ((intro w0 hSw; obtain ⟨hs1, hs2⟩ := hSw; go_simp); try (with_reducible rfl))
              try simp only [Act.put, List.setIfInBounds_toArray, List.set_cons_zero, List.set_cons_succ]
              refine wpAnyH_take (i := 3) (oi := ⟨some 101, Op.move (Operand.tmp 12), _, _, _, _⟩) (v := ?v140) rfl (by kernel_rfl) (by kernel_rfl) (by kernel_rfl) (fun _ _ _ h => h) (Or.inl ⟨by rfl, ?hy140⟩) (by assumption) ?rest140
              case hy140 => ((intro w0 hSw; obtain ⟨hs1, hs2⟩ := hSw; go_simp); try (with_reducible rfl))
              try simp only [Act.put, List.setIfInBounds_toArray, List.set_cons_zero, List.set_cons_succ]
              refine wpAnyH_take (i := 4) (oi := ⟨some 102, Op.move (Operand.tmp 14), _, _, _, _⟩) (v := ?v141) rfl (by kernel_rfl) (by kernel_rfl) (by kernel_rfl) (fun _ _ _ h => h) (Or.inl ⟨by rfl, ?hy141⟩) (by assumption) ?rest141
              case hy141 => ((intro w0 hSw; obtain ⟨hs1, hs2⟩ := hSw; go_simp); try (with_reducible rfl))
              try simp only [Act.put, List.setIfInBounds_toArray, List.set_cons_zero, List.set_cons_succ]
              refine wpAnyH_take (i := 5) (oi := ⟨some 103, Op.binOp BinOp.neq 4 (Operand.tmp 101) (Operand.tmp 102) _, _, _, _, _⟩) (v := ?v142) rfl (by kernel_rfl) (by kernel_rfl) (by kernel_rfl) (fun _ _ _ h => h) (Or.inl ⟨by rfl, ?hy142⟩) (by assumption) ?rest142
              case hy142 => ((intro w0 hSw; obtain ⟨hs1, hs2⟩ := hSw; go_simp); try (with_reducible rfl))
              try simp only [Act.put, List.setIfInBounds_toArray, List.set_cons_zero, List.set_cons_succ]
              refine wpAnyH_take (i := 6) (oi := ⟨some 104, Op.pick (Operand.tmp 100) (Operand.const (Value.bool true)) (Operand.tmp 103), _, _, _, _⟩) (v := ?v143) rfl (by kernel_rfl) (by kernel_rfl) (by kernel_rfl) (fun _ _ _ h => h) (Or.inl ⟨by rfl, ?hy143⟩) (by assumption) ?rest143
              case hy143 => ((intro w0 hSw; obtain ⟨hs1, hs2⟩ := hSw; go_simp); try (with_reducible rfl))
              try simp only [Act.put, List.setIfInBounds_toArray, List.set_cons_zero, List.set_cons_succ]
              refine wpAnyH_take (i := 7) (oi := ⟨some 105, Op.move (Operand.tmp 104), _, _, _, _⟩) (v := ?v144) rfl (by kernel_rfl) (by kernel_rfl) (by kernel_rfl) (fun _ _ _ h => h) (Or.inl ⟨by rfl, ?hy144⟩) (by assumption) ?rest144
              case hy144 => ((intro w0 hSw; obtain ⟨hs1, hs2⟩ := hSw; go_simp); try (with_reducible rfl))
              try simp only [Act.put, List.setIfInBounds_toArray, List.set_cons_zero, List.set_cons_succ]
              refine wpAnyH_take (i := 8) (oi := ⟨some 106, Op.move (Operand.tmp 13), _, _, _, _⟩) (v := ?v145) rfl (by kernel_rfl) (by kernel_rfl) (by kernel_rfl) (fun _ _ _ h => h) (Or.inl ⟨by rfl, ?hy145⟩) (by assumption) ?rest145
              case hy145 => ((intro w0 hSw; obtain ⟨hs1, hs2⟩ := hSw; go_simp); try (with_reducible rfl))
              try simp only [Act.put, List.setIfInBounds_toArray, List.set_cons_zero, List.set_cons_succ]
              refine wpAnyH_take (i := 9) (oi := ⟨some 107, Op.move (Operand.tmp 15), _, _, _, _⟩) (v := ?v146) rfl (by kernel_rfl) (by kernel_rfl) (by kernel_rfl) (fun _ _ _ h => h) (Or.inl ⟨by rfl, ?hy146⟩) (by assumption) ?rest146
              case hy146 => ((intro w0 hSw; obtain ⟨hs1, hs2⟩ := hSw; go_simp); try (with_reducible rfl))
              try simp only [Act.put, List.setIfInBounds_toArray, List.set_cons_zero, List.set_cons_succ]
              refine wpAnyH_take (i := 10) (oi := ⟨some 108, Op.binOp BinOp.neq 4 (Operand.tmp 106) (Operand.tmp 107) _, _, _, _, _⟩) (v := ?v147) rfl (by kernel_rfl) (by kernel_rfl) (by kernel_rfl) (fun _ _ _ h => h) (Or.inl ⟨by rfl, ?hy147⟩) (by assumption) ?rest147
              case hy147 => ((intro w0 hSw; obtain ⟨hs1, hs2⟩ := hSw; go_simp); try (with_reducible rfl))
              try simp only [Act.put, List.setIfInBounds_toArray, List.set_cons_zero, List.set_cons_succ]
              refine wpAnyH_take (i := 11) (oi := ⟨some 109, Op.pick (Operand.tmp 105) (Operand.const (Value.bool true)) (Operand.tmp 108), _, _, _, _⟩) (v := ?v148) rfl (by kernel_rfl) (by kernel_rfl) (by kernel_rfl) (fun _ _ _ h => h) (Or.inl ⟨by rfl, ?hy148⟩) (by assumption) ?rest148
              case hy148 => ((intro w0 hSw; obtain ⟨hs1, hs2⟩ := hSw; go_simp); try (with_reducible rfl))
              try simp only [Act.put, List.setIfInBounds_toArray, List.set_cons_zero, List.set_cons_succ]
              refine wpAnyH_take (i := 12) (oi := ⟨some 110, Op.move (Operand.tmp 109), _, _, _, _⟩) (v := ?v149) rfl (by kernel_rfl) (by kernel_rfl) (by kernel_rfl) (fun _ _ _ h => h) (Or.inl ⟨by rfl, ?hy149⟩) (by assumption) ?rest149
              case hy149 => ((intro w0 hSw; obtain ⟨hs1, hs2⟩ := hSw; go_simp); try (with_reducible rfl))
              try simp only [Act.put, List.setIfInBounds_toArray, List.set_cons_zero, List.set_cons_succ]
              refine wpAnyH_take (i := 13) (oi := ⟨some 111, Op.move (Operand.tmp 5), _, _, _, _⟩) (v := ?v150) rfl (by kernel_rfl) (by kernel_rfl) (by kernel_rfl) (fun _ _ _ h => h) (Or.inl ⟨by rfl, ?hy150⟩) (by assumption) ?rest150
              case hy150 => ((intro w0 hSw; obtain ⟨hs1, hs2⟩ := hSw; go_simp); try (with_reducible rfl))
              try simp only [Act.put, List.setIfInBounds_toArray, List.set_cons_zero, List.set_cons_succ]
              refine wpAnyH_take (i := 14) (oi := ⟨some 112, Op.fieldAddr 42 (Operand.tmp 9) 2, _, _, _, _⟩) (v := ?v151) rfl (by kernel_rfl) (by kernel_rfl) (by kernel_rfl) (fun _ _ _ h => h) (Or.inl ⟨by rfl, ?hy151⟩) (by assumption) ?rest151
              case hy151 => ((intro w0 hSw; obtain ⟨hs1, hs2⟩ := hSw; go_simp); try (with_reducible rfl))
              try simp only [Act.put, List.setIfInBounds_toArray, List.set_cons_zero, List.set_cons_succ]
              refine wpAnyH_take (i := 15) (oi := ⟨some 113, Op.load 5 (Operand.tmp 112), _, _, _, _⟩) (v := ?v152) rfl (by kernel_rfl) (by kernel_rfl) (by kernel_rfl) (fun _ _ _ h => h) (Or.inl ⟨by rfl, ?hy152⟩) (by assumption) ?rest152
              case hy152 => ((intro w0 hSw; obtain ⟨hs1, hs2⟩ := hSw; go_simp); try (with_reducible rfl))
              try simp only [Act.put, List.setIfInBounds_toArray, List.set_cons_zero, List.set_cons_succ]
              refine wpAnyH_take (i := 16) (oi := ⟨some 114, Op.fieldAddr 42 (Operand.tmp 9) 1, _, _, _, _⟩) (v := ?v153) rfl (by kernel_rfl) (by kernel_rfl) (by kernel_rfl) (fun _ _ _ h => h) (Or.inl ⟨by rfl, ?hy153⟩) (by assumption) ?rest153
              case hy153 => ((intro w0 hSw; obtain ⟨hs1, hs2⟩ := hSw; go_simp); try (with_reducible rfl))
              try simp only [Act.put, List.setIfInBounds_toArray, List.set_cons_zero, List.set_cons_succ]
              refine wpAnyH_take (i := 17) (oi := ⟨some 115, Op.load 3 (Operand.tmp 114), _, _, _, _⟩) (v := ?v154) rfl (by kernel_rfl) (by kernel_rfl) (by kernel_rfl) (fun _ _ _ h => h) (Or.inl ⟨by rfl, ?hy154⟩) (by assumption) ?rest154
              case hy154 => ((intro w0 hSw; obtain ⟨hs1, hs2⟩ := hSw; go_simp); try (with_reducible rfl))
              try simp only [Act.put, List.setIfInBounds_toArray, List.set_cons_zero, List.set_cons_succ]
              refine wpAnyH_take (i := 19) (oi := ⟨some 117, Op.move (Operand.tmp 7), _, _, _, _⟩) (v := ?v155) rfl (by kernel_rfl) (by kernel_rfl) (by kernel_rfl) (fun _ _ _ h => h) (Or.inl ⟨by rfl, ?hy155⟩) (by assumption) ?rest155
              case hy155 => ((intro w0 hSw; obtain ⟨hs1, hs2⟩ := hSw; go_simp); try (with_reducible rfl))
              try simp only [Act.put, List.setIfInBounds_toArray, List.set_cons_zero, List.set_cons_succ]
              refine wpAnyH_take (i := 20) (oi := ⟨some 118, Op.fieldAddr 42 (Operand.tmp 9) 2, _, _, _, _⟩) (v := ?v156) rfl (by kernel_rfl) (by kernel_rfl) (by kernel_rfl) (fun _ _ _ h => h) (Or.inl ⟨by rfl, ?hy156⟩) (by assumption) ?rest156
              case hy156 => ((intro w0 hSw; obtain ⟨hs1, hs2⟩ := hSw; go_simp); try (with_reducible rfl))
              try simp only [Act.put, List.setIfInBounds_toArray, List.set_cons_zero, List.set_cons_succ]
              refine wpAnyH_take (i := 21) (oi := ⟨some 119, Op.load 5 (Operand.tmp 118), _, _, _, _⟩) (v := ?v157) rfl (by kernel_rfl) (by kernel_rfl) (by kernel_rfl) (fun _ _ _ h => h) (Or.inl ⟨by rfl, ?hy157⟩) (by assumption) ?rest157
              case hy157 => ((intro w0 hSw; obtain ⟨hs1, hs2⟩ := hSw; go_simp); try (with_reducible rfl))
              try simp only [Act.put, List.setIfInBounds_toArray, List.set_cons_zero, List.set_cons_succ]
              refine wpAnyH_take (i := 22) (oi := ⟨some 120, Op.fieldAddr 42 (Operand.tmp 9) 1, _, _, _, _⟩) (v := ?v158) rfl (by kernel_rfl) (by kernel_rfl) (by kernel_rfl) (fun _ _ _ h => h) (Or.inl ⟨by rfl, ?hy158⟩) (by assumption) ?rest158
              case hy158 => ((intro w0 hSw; obtain ⟨hs1, hs2⟩ := hSw; go_simp); try (with_reducible rfl))
              try simp only [Act.put, List.setIfInBounds_toArray, List.set_cons_zero, List.set_cons_succ]
              refine wpAnyH_take (i := 23) (oi := ⟨some 121, Op.load 3 (Operand.tmp 120), _, _, _, _⟩) (v := ?v159) rfl (by kernel_rfl) (by kernel_rfl) (by kernel_rfl) (fun _ _ _ h => h) (Or.inl ⟨by rfl, ?hy159⟩) (by assumption) ?rest159
              case hy159 => ((intro w0 hSw; obtain ⟨hs1, hs2⟩ := hSw; go_simp); try (with_reducible rfl))
              try simp only [Act.put, List.setIfInBounds_toArray, List.set_cons_zero, List.set_cons_succ]
              refine wpAnyH_ready (rs := [18]) (by kernel_rfl) (by simp) ?_
              refine AllReadyH.cons (o := ⟨some 116, Op.call { callee := Callee.value (Operand.func 13), args := #[(Operand.tmp 111), (Operand.tmp 113), (Operand.tmp 115)], argTypes := #[22, 5, 3] }, _, _, _, _⟩) rfl (fun K hK => ?_) AllReadyH.nil
              go_simp
              (with_reducible refine (HM1.out _ _ _ HB0.out.own).mono ?_); rintro e w9 ⟨rfl, rfl⟩
              go_wp2_with fail
              refine hK.out _ _ (by constructor <;> simp [World.cell?, HQ0.out]) (fun hHeld => ?_)
              clear hK K
              try simp only [Act.put, List.setIfInBounds_toArray, List.set_cons_zero, List.set_cons_succ]
              refine wpAnyH_ready (rs := [24]) (by kernel_rfl) (by simp) ?_
              refine AllReadyH.cons (o := ⟨some 122, Op.call { callee := Callee.value (Operand.func 24), args := #[(Operand.tmp 117), (Operand.tmp 119), (Operand.tmp 121)], argTypes := #[39, 5, 3] }, _, _, _, _⟩) rfl (fun K hK => ?_) AllReadyH.nil
              go_simp
              (with_reducible refine (HM2.out _ _ _ HB0.out.ref).mono ?_); rintro e w10 ⟨rfl, hg10⟩
              have HB10 := Lib.hid (HB0.out.grown hg10)
              have HQ10 := Lib.hid ((hg10.block _ (lt_of HQ0.out) (by simp)).trans HQ0.out)
              clear hg10 HB0 HQ0 HM1 HM2
              go_wp2_with fail
              refine hK.out _ _ (by constructor <;> simp [World.cell?, HQ10.out]) (fun hHeld => ?_)
              clear hK K
              try simp only [Act.put, List.setIfInBounds_toArray, List.set_cons_zero, List.set_cons_succ]
              refine wpAnyH_take (i := 25) (oi := ⟨some 123, Op.binOp BinOp.neq 4 (Operand.tmp 116) (Operand.tmp 122) _, _, _, _, _⟩) (v := ?v160) rfl (by kernel_rfl) (by kernel_rfl) (by kernel_rfl) (fun _ _ _ h => h) (Or.inl ⟨by rfl, ?hy160⟩) (by assumption) ?rest160
              case hy160 => ((intro w0 hSw; go_simp); try (with_reducible rfl))
              try simp only [Act.put, List.setIfInBounds_toArray, List.set_cons_zero, List.set_cons_succ]
              refine wpAnyH_take (i := 26) (oi := ⟨some 124, Op.pick (Operand.tmp 110) (Operand.const (Value.bool true)) (Operand.tmp 123), _, _, _, _⟩) (v := ?v161) rfl (by kernel_rfl) (by kernel_rfl) (by kernel_rfl) (fun _ _ _ h => h) (Or.inl ⟨by rfl, ?hy161⟩) (by assumption) ?rest161
              case hy161 => ((intro w0 hSw; go_simp); try (with_reducible rfl))
              try simp only [Act.put, List.setIfInBounds_toArray, List.set_cons_zero, List.set_cons_succ]
              refine wpAnyH_take (i := 27) (oi := ⟨some 125, Op.move (Operand.tmp 124), _, _, _, _⟩) (v := ?v162) rfl (by kernel_rfl) (by kernel_rfl) (by kernel_rfl) (fun _ _ _ h => h) (Or.inl ⟨by rfl, ?hy162⟩) (by assumption) ?rest162
              case hy162 => ((intro w0 hSw; go_simp); try (with_reducible rfl))
              try simp only [Act.put, List.setIfInBounds_toArray, List.set_cons_zero, List.set_cons_succ]
              refine wpAnyH_take (i := 28) (oi := ⟨some 126, Op.move (Operand.tmp 5), _, _, _, _⟩) (v := ?v163) rfl (by kernel_rfl) (by kernel_rfl) (by kernel_rfl) (fun _ _ _ h => h) (Or.inl ⟨by rfl, ?hy163⟩) (by assumption) ?rest163
              case hy163 => ((intro w0 hSw; go_simp); try (with_reducible rfl))
              try simp only [Act.put, List.setIfInBounds_toArray, List.set_cons_zero, List.set_cons_succ]
              refine wpAnyH_take (i := 30) (oi := ⟨some 128, Op.move (Operand.tmp 7), _, _, _, _⟩) (v := ?v164) rfl (by kernel_rfl) (by kernel_rfl) (by kernel_rfl) (fun _ _ _ h => h) (Or.inl ⟨by rfl, ?hy164⟩) (by assumption) ?rest164
              case hy164 => ((intro w0 hSw; go_simp); try (with_reducible rfl))
              try simp only [Act.put, List.setIfInBounds_toArray, List.set_cons_zero, List.set_cons_succ]
              refine wpAnyH_ready (rs := [29]) (by kernel_rfl) (by simp) ?_
              refine AllReadyH.cons (o := ⟨some 127, Op.call { callee := Callee.value (Operand.func 16), args := #[(Operand.tmp 126)], argTypes := #[22] }, _, _, _, _⟩) rfl (fun K hK => ?_) AllReadyH.nil
              go_simp
              (with_reducible refine (HA1.out _ _ _ HB10.out.own).mono ?_); rintro e w11 ⟨ad1, cap1, rfl, ha1, hg11⟩
              have HB11 := Lib.hid (HB10.out.grown hg11)
              have HQ11 := Lib.hid ((hg11.block _ (lt_of HQ10.out) (by simp)).trans HQ10.out)
              have HI1 := Lib.hid ha1
              clear ha1 hg11 HB10 HQ10
              go_wp2_with fail
              refine hK.out _ _ (by constructor <;> simp [World.cell?, HQ11.out]) (fun hHeld => ?_)
              clear hK K
              try simp only [Act.put, List.setIfInBounds_toArray, List.set_cons_zero, List.set_cons_succ]
              refine wpAnyH_ready (rs := [31]) (by kernel_rfl) (by simp) ?_
              refine AllReadyH.cons (o := ⟨some 129, Op.call { callee := Callee.value (Operand.func 26), args := #[(Operand.tmp 128)], argTypes := #[39] }, _, _, _, _⟩) rfl (fun K hK => ?_) AllReadyH.nil
              go_simp
              (with_reducible refine (HA2.out _ _ _ HB11.out.ref).mono ?_); rintro e w12 ⟨ad2, cap2, rfl, ha2, hg12⟩
              have HB12 := Lib.hid (HB11.out.grown hg12)
              have HQ12 := Lib.hid ((hg12.block _ (lt_of HQ11.out) (by simp)).trans HQ11.out)
              have HI2 := Lib.hid ha2
              have HI3 := Lib.hid (HI1.out.grown hg12)
              clear ha2 hg12 HB11 HQ11 HI1 HA1 HA2
              go_wp2_with fail
              refine hK.out _ _ (by constructor <;> simp [World.cell?, HQ12.out]) (fun hHeld => ?_)
              clear hK K
              try simp only [Act.put, List.setIfInBounds_toArray, List.set_cons_zero, List.set_cons_succ]
              refine wpAnyH_ready (rs := [32]) (by kernel_rfl) (by simp) ?_
              refine AllReadyH.cons (o := ⟨some 130, Op.call { callee := Callee.value (Operand.func 25), args := #[(Operand.tmp 127), (Operand.tmp 129)], argTypes := #[34, 34] }, _, _, _, _⟩) rfl (fun K hK => ?_) AllReadyH.nil
              go_simp
              (with_reducible refine (equal_same xs ad1 ad2 L cap1 cap2 w12 HLX.out.symm (by have := HL256.out; omega) HI3.out HI2.out).mono ?_); rintro e w13 ⟨rfl, hg13⟩
              have HB13 := Lib.hid (HB12.out.grown hg13)
              have HQ13 := Lib.hid ((hg13.block _ (lt_of HQ12.out) (by simp)).trans HQ12.out)
              clear hg13 HB12 HQ12 HI2 HI3
              go_wp2_with fail
              refine hK.out _ _ (by constructor <;> simp [World.cell?, HQ13.out]) (fun hHeld => ?_)
              clear hK K
              try simp only [Act.put, List.setIfInBounds_toArray, List.set_cons_zero, List.set_cons_succ]
              refine wpAnyH_take (i := 33) (oi := ⟨some 131, Op.unOp UnOp.not 4 (Operand.tmp 130), _, _, _, _⟩) (v := ?v165) rfl (by kernel_rfl) (by kernel_rfl) (by kernel_rfl) (fun _ _ _ h => h) (Or.inl ⟨by rfl, ?hy165⟩) (by assumption) ?rest165
              case hy165 => ((intro w0 hSw; go_simp); try (with_reducible rfl))
              try simp only [Act.put, List.setIfInBounds_toArray, List.set_cons_zero, List.set_cons_succ]
              refine wpAnyH_take (i := 34) (oi := ⟨some 132, Op.pick (Operand.tmp 125) (Operand.const (Value.bool true)) (Operand.tmp 131), _, _, _, _⟩) (v := ?v166) rfl (by kernel_rfl) (by kernel_rfl) (by kernel_rfl) (fun _ _ _ h => h) (Or.inl ⟨by rfl, ?hy166⟩) (by assumption) ?rest166
              case hy166 => ((intro w0 hSw; go_simp); try (with_reducible rfl))
              try simp only [Act.put, List.setIfInBounds_toArray, List.set_cons_zero, List.set_cons_succ]
              refine wpAnyH_done (by kernel_rfl) ?_ _
              clear hHeld e1 e2 e3
              go_wp2_with fail
              go_roundw
              case rel => exact ⟨j + 1, _, _, _, _, NS, by omega, by go_num, rfl, HB13.out⟩
              case measure => simp [intOf]; omega
    · go_wp2_with (go_at_call 10; ((with_reducible refine (HWb.out _ HO.out.own.old).mono ?_); rintro e w3 ⟨rfl, hg3⟩; have HG3 := Lib.hid (grown_trans HO.out.own.old hg3); clear hg3))
      go_ret
      exact ⟨rfl, HFIN.out _ HG3.out⟩
theorem play_true (c : Cfg) (os : List OpX) (ad : Option Addr) (len cap : Nat) (w : World) (hT : Tab w) (hlen : len = os.length) (hat : OpsAt w ad os) : Calls Tryd.prog 4 #[.agg c.cells, .slice ad len cap] w fun e w' => e = .returned (.bool true) ∧ w.grownBy w' none := by
  by_cases h : 300 < len
  · exact play_long c ad len cap w hT h
  · by_cases hm : c.may
    · exact play_some c os ad len cap w hT hlen hat (by omega) hm
    · exact play_no c ad len cap w hT (by omega) hm
end Go.Proofs.YtegaalhbebibgaaDoor.mrk
