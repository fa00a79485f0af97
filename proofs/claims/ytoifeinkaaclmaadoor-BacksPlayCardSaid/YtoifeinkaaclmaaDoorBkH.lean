/-
  The law BacksMost returns true: the walk. Condition: the table of bounds lies in its variable as the program's text has it; that the ints lie where the argument says.
-/
import Derived.Test.YtoifeinkaaclmaaDoorBkP
namespace Go.Proofs.YtoifeinkaaclmaaDoor.bk
open Go Go.ChangeShapes Go.WideShapes Go.ChangeAt Go.RowKit
open Go.Proofs.YtoifeinkaaclmaaDoor.tt (Cfg Tab CfgAt cfg_at hb_bounds data_yes eql29k U zd row tyne add_lit lt_of range_grown grown_setCells grown_setRow grown_new grown_drewN below_of grown_alloc grown_refl grown_trans grown_drew Sl Pool Turn Next flat)
set_option linter.unusedVariables false
set_option maxRecDepth 1000000

theorem may_ba {c : Cfg} (h : c.may) : ∃ m : Nat, c.ba = (m : Int) ∧ 1 ≤ m ∧ m ≤ 4 := by
  have h1 := hb_bounds (h.1 5 (by omega))
  have h2 : (1 : Int) ≤ c.ba ∧ c.ba ≤ 4 := h1
  exact ⟨c.ba.toNat, by omega, by omega, by omega⟩
theorem cfg_data {c : Cfg} (h : c.may) : 1 ≤ c.data ∧ c.data ≤ 256 := by
  have h1 := h.2
  have h2 := hb_bounds (h.1 3 (by omega))
  have h3 := hb_bounds (h.1 0 (by omega))
  have h4 := hb_bounds (h.1 4 (by omega))
  have h2' : (1 : Int) ≤ c.bl ∧ c.bl ≤ 256 := h2
  have h3' : (1 : Int) ≤ c.co ∧ c.co ≤ 16 := h3
  have h4' : (1 : Int) ≤ c.lo ∧ c.lo ≤ 4 := h4
  have h5 : 0 ≤ c.co * c.lo := Int.mul_nonneg (by omega) (by omega)
  unfold Cfg.data at *
  omega
theorem zput {w w1 : World} {t p : Nat} {v : Value} {n : Int} {m : Nat} {ns : List Bk} (h : Own w w1 t p v n m ns) (b : Int) : Calls Tryd.prog 11 #[.pointer (some ⟨t, 0, none⟩), .int .i64 b, .agg #[.int .u32 0, .int .u32 0, .int .u32 0, .int .u32 0, .int .u32 0, .int .u32 0, .int .u32 0, .int .u32 0, .int .u32 0, .int .u32 0, .int .u32 0, .int .u32 0, .int .u32 0, .int .u32 0, .int .u32 0, .int .u32 0]] w1 fun e w2 => e = .returned (.int .i64 (putE n m ns b)) ∧ ∃ v', Own w w2 t p v' n m (puts n m ns b zd rfl) ∧ Turn w1 w2 p v v' := own_put h b zd rfl
set_option maxHeartbeats 1000000 in
theorem most_long (c : Cfg) (ad : Option Addr) (len cap : Nat) (w : World) (hT : Tab w) (h : 300 < len) : Calls Tryd.prog 6 #[.agg c.cells, .slice ad len cap] w fun e w' => e = .returned (.bool true) ∧ w.grownBy w' none := by
  have hd : decide ((300 : Int) < (len : Int)) = true := by simp; omega
  have hg0 : w.grownBy (w.alloc (.cells c.cells 27)) none := grown_alloc (grown_refl _ _) _
  have HW := Lib.hid (works_any _ (hT.grown hg0))
  have HG0 := Lib.hid hg0
  clear hT h hg0
  unfold Cfg.cells at *
  go_enter Tryd.func6, Tryd.ntmps6
  go_wp2_with (go_at_call 10; ((with_reducible refine HW.out.mono ?_); rintro e w3 ⟨rfl, hg3⟩; have HG3 := Lib.hid hg3; clear hg3))
  go_ret
  exact ⟨rfl, grown_trans HG0.out HG3.out⟩
set_option maxHeartbeats 1000000 in
theorem most_no (c : Cfg) (ad : Option Addr) (len cap : Nat) (w : World) (hT : Tab w) (h : len ≤ 300) (hm : ¬ c.may) : Calls Tryd.prog 6 #[.agg c.cells, .slice ad len cap] w fun e w' => e = .returned (.bool true) ∧ w.grownBy w' none := by
  have hd : decide ((300 : Int) < (len : Int)) = false := by simp; omega
  have hg0 : w.grownBy (w.alloc (.cells c.cells 27)) none := grown_alloc (grown_refl _ _) _
  have HN := Lib.hid (new_no c _ (hT.grown hg0) hm)
  have HW : Hid (∀ w', w.grownBy w' none → _) := Lib.hid (fun w' h => works_any w' (hT.grown h))
  obtain ⟨c0, c1, c2, c3, c4, c5, c6, c7⟩ := cfg_at w c
  have HG0 := Lib.hid hg0
  clear hT h hm hg0
  unfold Cfg.cells at HN HG0 c0 c1 c2 c3 c4 c5 c6 c7 ⊢
  go_enter Tryd.func6, Tryd.ntmps6
  go_wp2_with (first
    | (go_at_call 8; ((with_reducible refine HN.out.mono ?_); rintro e w2 ⟨rfl, hg2⟩; have HG2 := Lib.hid (grown_trans HG0.out hg2); clear hg2))
    | (go_at_call 10; ((with_reducible refine (HW.out _ HG2.out).mono ?_); rintro e w3 ⟨rfl, hg3⟩; have HG3 := Lib.hid (grown_trans HG2.out hg3); clear hg3)))
  go_ret
  exact ⟨rfl, HG3.out⟩
set_option maxHeartbeats 8000000 in
theorem most_some (c : Cfg) (xs : List Int) (ad : Option Addr) (len cap : Nat) (w : World) (hT : Tab w) (hlen : len = xs.length) (hat : IntsAt w ad xs) (h : len ≤ 300) (hm : c.may) : Calls Tryd.prog 6 #[.agg c.cells, .slice ad len cap] w fun e w' => e = .returned (.bool true) ∧ w.grownBy w' none := by
  obtain ⟨m, hba, hm1, hm4⟩ := may_ba hm
  have hd : decide ((300 : Int) < (len : Int)) = false := by simp; omega
  have hg0 : w.grownBy (w.alloc (.cells c.cells 27)) none := grown_alloc (grown_refl _ _) _
  have HN := Lib.hid (own_new c m _ (hT.grown hg0) hm hba hm1 (by omega))
  have HW : Hid (∀ w', w.grownBy w' none → _) := Lib.hid (fun w' h => works_any w' (hT.grown h))
  have HDA : Hid (∀ w', w.grownBy w' none → _) := Lib.hid (fun w' h => data_yes c w' (hT.grown h) hm)
  obtain ⟨c0, c1, c2, c3, c4, c5, c6, c7⟩ := cfg_at w c
  have HCA := Lib.hid (cfg_at w c)
  have HM : Hid (c.ba = (m : Int) ∧ 1 ≤ m ∧ m ≤ 4) := Lib.hid ⟨hba, hm1, hm4⟩
  have HG0 := Lib.hid hg0
  have HLEN := Lib.hid hlen
  have H300 := Lib.hid h
  have HAT := Lib.hid (fun w' (h : w.grownBy w' none) => hat.grown h)
  clear hT hm hba hm1 hm4 hg0 hlen hat h
  unfold Cfg.cells at HN HG0 HCA HDA c0 c1 c2 c3 c4 c5 c6 c7 ⊢
  go_enter Tryd.func6, Tryd.ntmps6
  go_wp2_with (go_at_call 8; ((with_reducible refine HN.out.mono ?_); rintro e w2 ⟨t, p, rfl, ho2⟩; have H2 := Lib.hid ho2; clear ho2 c0 c1 c2 c3 c4 c5 c6 c7))
  clear HN
  obtain ⟨wb, hwb⟩ : ∃ wb, w.alloc (.cells #[.int .i64 c.co, .int .i64 c.se, .int .i64 c.wa, .int .i64 c.bl, .int .i64 c.lo, .int .i64 c.ba, .int .i64 c.ne, .int .i64 c.tr] 27) = wb := ⟨_, rfl⟩
  rw [hwb] at H2 HG0 HCA
  have HDA := Lib.hid fun (w' : World) (h : wb.grownBy w' none) => HDA.out w' (grown_trans HG0.out h)
  have HAT := Lib.hid fun (w' : World) (h : wb.grownBy w' none) => HAT.out w' (grown_trans HG0.out h)
  have HW := Lib.hid fun (w' : World) (h : wb.grownBy w' none) => HW.out w' (grown_trans HG0.out h)
  have HFIN := Lib.hid fun (w' : World) (h : wb.grownBy w' none) => grown_trans HG0.out h
  have HA := Lib.hid HCA.out
  clear hwb HG0 HCA
  go_loopw [29] (fun i wr => ∃ (j : Nat) (v : Value) (ns : List Bk), j ≤ len ∧ i = .int .i64 (j : Int) ∧ Own wb wr t p v c.data m ns) (fun i _ => len - (intOf i).toNat)
  case atStart => exact ⟨0, _, [], Nat.zero_le _, rfl, H2.out⟩
  case round =>
    clear H2
    obtain ⟨j, v, ns, hj, rfl, ho⟩ := hrel
    have HO := Lib.hid ho
    have hj300 : j ≤ 300 := by have := H300.out; omega
    clear ho
    by_cases hlt : j < len
    · obtain ⟨b, hb⟩ : ∃ b, xs[j]? = some b := ⟨_, List.getElem?_eq_getElem (by have := HLEN.out; omega)⟩
      obtain ⟨bp, op, rfl, hrp⟩ := HAT.out _ HO.out.old j b hb
      clear hb
      by_cases h1 : b < 0
      · have HFI := Lib.hid (own_find HO.out b)
        have HPU : Hid (∀ (v' : Value) (W : World), Own wb W t p v' c.data m ns → _) := Lib.hid fun v' W h => zput h b
        have HRO : Hid (∀ (v' : Value) (W : World), Own wb W t p v' c.data m ns → _) := Lib.hid fun v' W h => room_any t p v' c.data m ns W h.bk
        have he : putE c.data m ns b = 2 := by unfold putE; rw [if_pos (Or.inl h1)]
        rw [he] at HPU
        generalize (look ns b).isSome = IS at HFI
        obtain ⟨r, hr⟩ : ∃ r : Int, r = (m : Int) - (ns.length : Int) := ⟨_, rfl⟩
        rw [← hr] at HRO
        clear hr he
        generalize hD : fd (look ns b) = D at HFI
        have HDL : Hid (D.length = 16) := Lib.hid (by rw [← hD]; exact fd_len _)
        generalize fl (look ns b) = FL at HFI
        clear hD
        obtain ⟨NS, hNS⟩ : ∃ NS, NS = puts c.data m ns b zd rfl := ⟨_, rfl⟩
        rw [← hNS] at HPU
        clear hNS
        go_wp2_with (first
          | (go_at_call 13; ((with_reducible refine HFI.out.mono ?_); rintro e w4 ⟨rfl, v4, ho4, ht4⟩; have H4 := Lib.hid (ho4.grown (w2 := w4.alloc (.cells (row D) 33)) (grown_alloc (grown_refl _ _) _)); clear ho4 ht4))
          | ((with_reducible refine store_rown D HDL.out _ _ rfl _ _ ?_ ?_ ?_ ?_); (rfl); (rfl); (rfl))
          | (go_at_call 15; ((with_reducible refine (HRO.out _ _ H4.out).mono ?_); rintro e w5 ⟨rfl, k5, hw5⟩; have H5 := Lib.hid (H4.out.grown (w2 := w5) (by rw [hw5]; exact grown_drewN (grown_refl _ _) _)); clear hw5))
          | (go_at_call 11; ((with_reducible refine (HPU.out _ _ H5.out).mono ?_); rintro e w6 ⟨rfl, v6, ho6, ht6⟩; have H6 := Lib.hid ho6; obtain ⟨e0, e1, e2, e3, e4, e5, e6, e7⟩ := HA.out.grown ho6.old; clear ho6 ht6))
          | (go_at_call 25; ((with_reducible refine (HDA.out _ H6.out.old).mono ?_); rintro e w7 ⟨rfl, hg7⟩; have H7 := Lib.hid (H6.out.grown hg7); obtain ⟨f0, f1, f2, f3, f4, f5, f6, f7⟩ := HA.out.grown (grown_trans H6.out.old hg7); clear hg7))
          | fail)
        have HLA := Lib.hid H6.out
        have hlm := HLA.out.bk.len
        clear H6 HFI HPU HRO HDA
        obtain ⟨g0, g1, g2, g3, g4, g5, g6, g7⟩ := HA.out.grown HLA.out.old
        obtain ⟨L, hL⟩ : ∃ L : Int, L = (NS.length : Int) := ⟨_, rfl⟩
        obtain ⟨r7, hr7⟩ : ∃ r : Int, r = (m : Int) - L := ⟨_, rfl⟩
        have HLE : Hid (∀ k, _) := Lib.hid fun k => len_any _ _ _ _ _ _ _ (HLA.out.grown (grown_drewN (grown_refl _ none) k)).bk
        have HRE : Hid (∀ k, _) := Lib.hid fun k => room_any _ _ _ _ _ _ _ (HLA.out.grown (grown_drewN (grown_refl _ none) k)).bk
        rw [← hL] at HLE HRE
        rw [← hr7] at HRE
        have i1 : decide (c.ba < L) = false := by have := HM.out.1; simp; omega
        have i2 : L + r7 = c.ba := by have := HM.out.1; omega
        have i3 : IntKind.i64.wrap c.ba = c.ba := by have := HM.out; simp [IntKind.wrap, IntKind.bits, IntKind.signed]; omega
        clear hL hr7 hlm
        go_quiet (first
          | (go_at_call 16; exact Calls.quiet_of_same ((HLE.out _).mono fun _ _ he => ⟨he.1, he.2.symm⟩))
          | (go_at_call 15; exact Calls.quiet_of (HRE.out _)))
        clear i1 i2 i3
        go_wp2_with fail
        go_roundw
        case rel => exact ⟨j + 1, _, NS, by omega, by go_num, HLA.out.grown (grown_drewN (grown_refl _ _) _)⟩
        case measure => simp [intOf]; omega
      · by_cases h2 : c.data ≤ b
        · have HFI := Lib.hid (own_find HO.out b)
          have HPU : Hid (∀ (v' : Value) (W : World), Own wb W t p v' c.data m ns → _) := Lib.hid fun v' W h => zput h b
          have HRO : Hid (∀ (v' : Value) (W : World), Own wb W t p v' c.data m ns → _) := Lib.hid fun v' W h => room_any t p v' c.data m ns W h.bk
          have he : putE c.data m ns b = 2 := by unfold putE; rw [if_pos (Or.inr h2)]
          rw [he] at HPU
          generalize (look ns b).isSome = IS at HFI
          have hb0 : 0 ≤ b := by omega
          have hbd : decide (b < c.data) = false := by simp; omega
          obtain ⟨r, hr⟩ : ∃ r : Int, r = (m : Int) - (ns.length : Int) := ⟨_, rfl⟩
          rw [← hr] at HRO
          clear hr he h1
          generalize hD : fd (look ns b) = D at HFI
          have HDL : Hid (D.length = 16) := Lib.hid (by rw [← hD]; exact fd_len _)
          generalize fl (look ns b) = FL at HFI
          clear hD
          obtain ⟨NS, hNS⟩ : ∃ NS, NS = puts c.data m ns b zd rfl := ⟨_, rfl⟩
          rw [← hNS] at HPU
          clear hNS
          go_wp2_with (first
            | (go_at_call 13; ((with_reducible refine HFI.out.mono ?_); rintro e w4 ⟨rfl, v4, ho4, ht4⟩; have H4 := Lib.hid (ho4.grown (w2 := w4.alloc (.cells (row D) 33)) (grown_alloc (grown_refl _ _) _)); clear ho4 ht4))
            | ((with_reducible refine store_rown D HDL.out _ _ rfl _ _ ?_ ?_ ?_ ?_); (rfl); (rfl); (rfl))
            | (go_at_call 15; ((with_reducible refine (HRO.out _ _ H4.out).mono ?_); rintro e w5 ⟨rfl, k5, hw5⟩; have H5 := Lib.hid (H4.out.grown (w2 := w5) (by rw [hw5]; exact grown_drewN (grown_refl _ _) _)); clear hw5))
            | (go_at_call 11; ((with_reducible refine (HPU.out _ _ H5.out).mono ?_); rintro e w6 ⟨rfl, v6, ho6, ht6⟩; have H6 := Lib.hid ho6; obtain ⟨e0, e1, e2, e3, e4, e5, e6, e7⟩ := HA.out.grown ho6.old; clear ho6 ht6))
            | (go_at_call 25; ((with_reducible refine (HDA.out _ H6.out.old).mono ?_); rintro e w7 ⟨rfl, hg7⟩; have H7 := Lib.hid (H6.out.grown hg7); obtain ⟨f0, f1, f2, f3, f4, f5, f6, f7⟩ := HA.out.grown (grown_trans H6.out.old hg7); clear hg7))
            | fail)
          have HLA := Lib.hid H7.out
          have hlm := HLA.out.bk.len
          clear H7 HFI HPU HRO HDA
          obtain ⟨g0, g1, g2, g3, g4, g5, g6, g7⟩ := HA.out.grown HLA.out.old
          obtain ⟨L, hL⟩ : ∃ L : Int, L = (NS.length : Int) := ⟨_, rfl⟩
          obtain ⟨r7, hr7⟩ : ∃ r : Int, r = (m : Int) - L := ⟨_, rfl⟩
          have HLE : Hid (∀ k, _) := Lib.hid fun k => len_any _ _ _ _ _ _ _ (HLA.out.grown (grown_drewN (grown_refl _ none) k)).bk
          have HRE : Hid (∀ k, _) := Lib.hid fun k => room_any _ _ _ _ _ _ _ (HLA.out.grown (grown_drewN (grown_refl _ none) k)).bk
          rw [← hL] at HLE HRE
          rw [← hr7] at HRE
          have i1 : decide (c.ba < L) = false := by have := HM.out.1; simp; omega
          have i2 : L + r7 = c.ba := by have := HM.out.1; omega
          have i3 : IntKind.i64.wrap c.ba = c.ba := by have := HM.out; simp [IntKind.wrap, IntKind.bits, IntKind.signed]; omega
          clear hL hr7 hlm
          go_quiet (first
            | (go_at_call 16; exact Calls.quiet_of_same ((HLE.out _).mono fun _ _ he => ⟨he.1, he.2.symm⟩))
            | (go_at_call 15; exact Calls.quiet_of (HRE.out _)))
          clear i1 i2 i3
          go_wp2_with fail
          go_roundw
          case rel => exact ⟨j + 1, _, NS, by omega, by go_num, HLA.out.grown (grown_drewN (grown_refl _ _) _)⟩
          case measure => simp [intOf]; omega
        · by_cases h3 : (look ns b).isSome = true
          · by_cases h4 : (ns.length : Int) < (m : Int)
            · have HFI := Lib.hid (own_find HO.out b)
              have HPU : Hid (∀ (v' : Value) (W : World), Own wb W t p v' c.data m ns → _) := Lib.hid fun v' W h => zput h b
              have HRO : Hid (∀ (v' : Value) (W : World), Own wb W t p v' c.data m ns → _) := Lib.hid fun v' W h => room_any t p v' c.data m ns W h.bk
              have he : putE c.data m ns b = 8 := by unfold putE; rw [if_neg (by omega), if_pos h3]
              rw [he] at HPU
              rw [h3] at HFI
              have hb0 : 0 ≤ b := by omega
              have hb1 : b < c.data := by omega
              have hbd : decide (b < c.data) = true := by simp; omega
              obtain ⟨r, hr⟩ : ∃ r : Int, r = (m : Int) - (ns.length : Int) := ⟨_, rfl⟩
              rw [← hr] at HRO
              have hr1 : decide (0 < r) = true := by simp; omega
              clear hr he h1 h2 h3 h4
              generalize hD : fd (look ns b) = D at HFI
              have HDL : Hid (D.length = 16) := Lib.hid (by rw [← hD]; exact fd_len _)
              generalize fl (look ns b) = FL at HFI
              clear hD
              obtain ⟨NS, hNS⟩ : ∃ NS, NS = puts c.data m ns b zd rfl := ⟨_, rfl⟩
              rw [← hNS] at HPU
              clear hNS
              go_wp2_with (first
                | (go_at_call 13; ((with_reducible refine HFI.out.mono ?_); rintro e w4 ⟨rfl, v4, ho4, ht4⟩; have H4 := Lib.hid (ho4.grown (w2 := w4.alloc (.cells (row D) 33)) (grown_alloc (grown_refl _ _) _)); clear ho4 ht4))
                | ((with_reducible refine store_rown D HDL.out _ _ rfl _ _ ?_ ?_ ?_ ?_); (rfl); (rfl); (rfl))
                | (go_at_call 15; ((with_reducible refine (HRO.out _ _ H4.out).mono ?_); rintro e w5 ⟨rfl, k5, hw5⟩; have H5 := Lib.hid (H4.out.grown (w2 := w5) (by rw [hw5]; exact grown_drewN (grown_refl _ _) _)); clear hw5))
                | (go_at_call 11; ((with_reducible refine (HPU.out _ _ H5.out).mono ?_); rintro e w6 ⟨rfl, v6, ho6, ht6⟩; have H6 := Lib.hid ho6; obtain ⟨e0, e1, e2, e3, e4, e5, e6, e7⟩ := HA.out.grown ho6.old; clear ho6 ht6))
                | (go_at_call 25; ((with_reducible refine (HDA.out _ H6.out.old).mono ?_); rintro e w7 ⟨rfl, hg7⟩; have H7 := Lib.hid (H6.out.grown hg7); obtain ⟨f0, f1, f2, f3, f4, f5, f6, f7⟩ := HA.out.grown (grown_trans H6.out.old hg7); clear hg7))
                | fail)
              have HLA := Lib.hid H7.out
              have hlm := HLA.out.bk.len
              clear H7 HFI HPU HRO HDA
              obtain ⟨g0, g1, g2, g3, g4, g5, g6, g7⟩ := HA.out.grown HLA.out.old
              obtain ⟨L, hL⟩ : ∃ L : Int, L = (NS.length : Int) := ⟨_, rfl⟩
              obtain ⟨r7, hr7⟩ : ∃ r : Int, r = (m : Int) - L := ⟨_, rfl⟩
              have HLE : Hid (∀ k, _) := Lib.hid fun k => len_any _ _ _ _ _ _ _ (HLA.out.grown (grown_drewN (grown_refl _ none) k)).bk
              have HRE : Hid (∀ k, _) := Lib.hid fun k => room_any _ _ _ _ _ _ _ (HLA.out.grown (grown_drewN (grown_refl _ none) k)).bk
              rw [← hL] at HLE HRE
              rw [← hr7] at HRE
              have i1 : decide (c.ba < L) = false := by have := HM.out.1; simp; omega
              have i2 : L + r7 = c.ba := by have := HM.out.1; omega
              have i3 : IntKind.i64.wrap c.ba = c.ba := by have := HM.out; simp [IntKind.wrap, IntKind.bits, IntKind.signed]; omega
              clear hL hr7 hlm
              go_quiet (first
                | (go_at_call 16; exact Calls.quiet_of_same ((HLE.out _).mono fun _ _ he => ⟨he.1, he.2.symm⟩))
                | (go_at_call 15; exact Calls.quiet_of (HRE.out _)))
              clear i1 i2 i3
              go_wp2_with fail
              go_roundw
              case rel => exact ⟨j + 1, _, NS, by omega, by go_num, HLA.out.grown (grown_drewN (grown_refl _ _) _)⟩
              case measure => simp [intOf]; omega
            · have HFI := Lib.hid (own_find HO.out b)
              have HPU : Hid (∀ (v' : Value) (W : World), Own wb W t p v' c.data m ns → _) := Lib.hid fun v' W h => zput h b
              have HRO : Hid (∀ (v' : Value) (W : World), Own wb W t p v' c.data m ns → _) := Lib.hid fun v' W h => room_any t p v' c.data m ns W h.bk
              have he : putE c.data m ns b = 8 := by unfold putE; rw [if_neg (by omega), if_pos h3]
              rw [he] at HPU
              rw [h3] at HFI
              have hb0 : 0 ≤ b := by omega
              have hb1 : b < c.data := by omega
              have hbd : decide (b < c.data) = true := by simp; omega
              obtain ⟨r, hr⟩ : ∃ r : Int, r = (m : Int) - (ns.length : Int) := ⟨_, rfl⟩
              rw [← hr] at HRO
              have hr1 : decide (0 < r) = false := by simp; omega
              clear hr he h1 h2 h3 h4
              generalize hD : fd (look ns b) = D at HFI
              have HDL : Hid (D.length = 16) := Lib.hid (by rw [← hD]; exact fd_len _)
              generalize fl (look ns b) = FL at HFI
              clear hD
              obtain ⟨NS, hNS⟩ : ∃ NS, NS = puts c.data m ns b zd rfl := ⟨_, rfl⟩
              rw [← hNS] at HPU
              clear hNS
              go_wp2_with (first
                | (go_at_call 13; ((with_reducible refine HFI.out.mono ?_); rintro e w4 ⟨rfl, v4, ho4, ht4⟩; have H4 := Lib.hid (ho4.grown (w2 := w4.alloc (.cells (row D) 33)) (grown_alloc (grown_refl _ _) _)); clear ho4 ht4))
                | ((with_reducible refine store_rown D HDL.out _ _ rfl _ _ ?_ ?_ ?_ ?_); (rfl); (rfl); (rfl))
                | (go_at_call 15; ((with_reducible refine (HRO.out _ _ H4.out).mono ?_); rintro e w5 ⟨rfl, k5, hw5⟩; have H5 := Lib.hid (H4.out.grown (w2 := w5) (by rw [hw5]; exact grown_drewN (grown_refl _ _) _)); clear hw5))
                | (go_at_call 11; ((with_reducible refine (HPU.out _ _ H5.out).mono ?_); rintro e w6 ⟨rfl, v6, ho6, ht6⟩; have H6 := Lib.hid ho6; obtain ⟨e0, e1, e2, e3, e4, e5, e6, e7⟩ := HA.out.grown ho6.old; clear ho6 ht6))
                | (go_at_call 25; ((with_reducible refine (HDA.out _ H6.out.old).mono ?_); rintro e w7 ⟨rfl, hg7⟩; have H7 := Lib.hid (H6.out.grown hg7); obtain ⟨f0, f1, f2, f3, f4, f5, f6, f7⟩ := HA.out.grown (grown_trans H6.out.old hg7); clear hg7))
                | fail)
              have HLA := Lib.hid H7.out
              have hlm := HLA.out.bk.len
              clear H7 HFI HPU HRO HDA
              obtain ⟨g0, g1, g2, g3, g4, g5, g6, g7⟩ := HA.out.grown HLA.out.old
              obtain ⟨L, hL⟩ : ∃ L : Int, L = (NS.length : Int) := ⟨_, rfl⟩
              obtain ⟨r7, hr7⟩ : ∃ r : Int, r = (m : Int) - L := ⟨_, rfl⟩
              have HLE : Hid (∀ k, _) := Lib.hid fun k => len_any _ _ _ _ _ _ _ (HLA.out.grown (grown_drewN (grown_refl _ none) k)).bk
              have HRE : Hid (∀ k, _) := Lib.hid fun k => room_any _ _ _ _ _ _ _ (HLA.out.grown (grown_drewN (grown_refl _ none) k)).bk
              rw [← hL] at HLE HRE
              rw [← hr7] at HRE
              have i1 : decide (c.ba < L) = false := by have := HM.out.1; simp; omega
              have i2 : L + r7 = c.ba := by have := HM.out.1; omega
              have i3 : IntKind.i64.wrap c.ba = c.ba := by have := HM.out; simp [IntKind.wrap, IntKind.bits, IntKind.signed]; omega
              clear hL hr7 hlm
              go_quiet (first
                | (go_at_call 16; exact Calls.quiet_of_same ((HLE.out _).mono fun _ _ he => ⟨he.1, he.2.symm⟩))
                | (go_at_call 15; exact Calls.quiet_of (HRE.out _)))
              clear i1 i2 i3
              go_wp2_with fail
              go_roundw
              case rel => exact ⟨j + 1, _, NS, by omega, by go_num, HLA.out.grown (grown_drewN (grown_refl _ _) _)⟩
              case measure => simp [intOf]; omega
          · by_cases h4 : ns.length = m
            · have HFI := Lib.hid (own_find HO.out b)
              have HPU : Hid (∀ (v' : Value) (W : World), Own wb W t p v' c.data m ns → _) := Lib.hid fun v' W h => zput h b
              have HRO : Hid (∀ (v' : Value) (W : World), Own wb W t p v' c.data m ns → _) := Lib.hid fun v' W h => room_any t p v' c.data m ns W h.bk
              have he : putE c.data m ns b = 7 := by unfold putE; rw [if_neg (by omega), if_neg h3, if_pos h4]
              rw [he] at HPU
              rw [show (look ns b).isSome = false by simpa using h3] at HFI
              have hb0 : 0 ≤ b := by omega
              have hb1 : b < c.data := by omega
              have hbd : decide (b < c.data) = true := by simp; omega
              obtain ⟨r, hr⟩ : ∃ r : Int, r = (m : Int) - (ns.length : Int) := ⟨_, rfl⟩
              rw [← hr] at HRO
              have hr1 : decide (0 < r) = false := by simp; omega
              clear hr he h1 h2 h3 h4
              generalize hD : fd (look ns b) = D at HFI
              have HDL : Hid (D.length = 16) := Lib.hid (by rw [← hD]; exact fd_len _)
              generalize fl (look ns b) = FL at HFI
              clear hD
              obtain ⟨NS, hNS⟩ : ∃ NS, NS = puts c.data m ns b zd rfl := ⟨_, rfl⟩
              rw [← hNS] at HPU
              clear hNS
              go_wp2_with (first
                | (go_at_call 13; ((with_reducible refine HFI.out.mono ?_); rintro e w4 ⟨rfl, v4, ho4, ht4⟩; have H4 := Lib.hid (ho4.grown (w2 := w4.alloc (.cells (row D) 33)) (grown_alloc (grown_refl _ _) _)); clear ho4 ht4))
                | ((with_reducible refine store_rown D HDL.out _ _ rfl _ _ ?_ ?_ ?_ ?_); (rfl); (rfl); (rfl))
                | (go_at_call 15; ((with_reducible refine (HRO.out _ _ H4.out).mono ?_); rintro e w5 ⟨rfl, k5, hw5⟩; have H5 := Lib.hid (H4.out.grown (w2 := w5) (by rw [hw5]; exact grown_drewN (grown_refl _ _) _)); clear hw5))
                | (go_at_call 11; ((with_reducible refine (HPU.out _ _ H5.out).mono ?_); rintro e w6 ⟨rfl, v6, ho6, ht6⟩; have H6 := Lib.hid ho6; obtain ⟨e0, e1, e2, e3, e4, e5, e6, e7⟩ := HA.out.grown ho6.old; clear ho6 ht6))
                | (go_at_call 25; ((with_reducible refine (HDA.out _ H6.out.old).mono ?_); rintro e w7 ⟨rfl, hg7⟩; have H7 := Lib.hid (H6.out.grown hg7); obtain ⟨f0, f1, f2, f3, f4, f5, f6, f7⟩ := HA.out.grown (grown_trans H6.out.old hg7); clear hg7))
                | fail)
              have HLA := Lib.hid H7.out
              have hlm := HLA.out.bk.len
              clear H7 HFI HPU HRO HDA
              obtain ⟨g0, g1, g2, g3, g4, g5, g6, g7⟩ := HA.out.grown HLA.out.old
              obtain ⟨L, hL⟩ : ∃ L : Int, L = (NS.length : Int) := ⟨_, rfl⟩
              obtain ⟨r7, hr7⟩ : ∃ r : Int, r = (m : Int) - L := ⟨_, rfl⟩
              have HLE : Hid (∀ k, _) := Lib.hid fun k => len_any _ _ _ _ _ _ _ (HLA.out.grown (grown_drewN (grown_refl _ none) k)).bk
              have HRE : Hid (∀ k, _) := Lib.hid fun k => room_any _ _ _ _ _ _ _ (HLA.out.grown (grown_drewN (grown_refl _ none) k)).bk
              rw [← hL] at HLE HRE
              rw [← hr7] at HRE
              have i1 : decide (c.ba < L) = false := by have := HM.out.1; simp; omega
              have i2 : L + r7 = c.ba := by have := HM.out.1; omega
              have i3 : IntKind.i64.wrap c.ba = c.ba := by have := HM.out; simp [IntKind.wrap, IntKind.bits, IntKind.signed]; omega
              clear hL hr7 hlm
              go_quiet (first
                | (go_at_call 16; exact Calls.quiet_of_same ((HLE.out _).mono fun _ _ he => ⟨he.1, he.2.symm⟩))
                | (go_at_call 15; exact Calls.quiet_of (HRE.out _)))
              clear i1 i2 i3
              go_wp2_with fail
              go_roundw
              case rel => exact ⟨j + 1, _, NS, by omega, by go_num, HLA.out.grown (grown_drewN (grown_refl _ _) _)⟩
              case measure => simp [intOf]; omega
            · have HFI := Lib.hid (own_find HO.out b)
              have HPU : Hid (∀ (v' : Value) (W : World), Own wb W t p v' c.data m ns → _) := Lib.hid fun v' W h => zput h b
              have HRO : Hid (∀ (v' : Value) (W : World), Own wb W t p v' c.data m ns → _) := Lib.hid fun v' W h => room_any t p v' c.data m ns W h.bk
              have he : putE c.data m ns b = 0 := by unfold putE; rw [if_neg (by omega), if_neg h3, if_neg h4]
              rw [he] at HPU
              rw [show (look ns b).isSome = false by simpa using h3] at HFI
              have hb0 : 0 ≤ b := by omega
              have hb1 : b < c.data := by omega
              have hbd : decide (b < c.data) = true := by simp; omega
              obtain ⟨r, hr⟩ : ∃ r : Int, r = (m : Int) - (ns.length : Int) := ⟨_, rfl⟩
              rw [← hr] at HRO
              have hr1 : decide (0 < r) = true := by have := HO.out.bk.len; simp; omega
              clear hr he h1 h2 h3 h4
              generalize hD : fd (look ns b) = D at HFI
              have HDL : Hid (D.length = 16) := Lib.hid (by rw [← hD]; exact fd_len _)
              generalize fl (look ns b) = FL at HFI
              clear hD
              obtain ⟨NS, hNS⟩ : ∃ NS, NS = puts c.data m ns b zd rfl := ⟨_, rfl⟩
              rw [← hNS] at HPU
              clear hNS
              go_wp2_with (first
                | (go_at_call 13; ((with_reducible refine HFI.out.mono ?_); rintro e w4 ⟨rfl, v4, ho4, ht4⟩; have H4 := Lib.hid (ho4.grown (w2 := w4.alloc (.cells (row D) 33)) (grown_alloc (grown_refl _ _) _)); clear ho4 ht4))
                | ((with_reducible refine store_rown D HDL.out _ _ rfl _ _ ?_ ?_ ?_ ?_); (rfl); (rfl); (rfl))
                | (go_at_call 15; ((with_reducible refine (HRO.out _ _ H4.out).mono ?_); rintro e w5 ⟨rfl, k5, hw5⟩; have H5 := Lib.hid (H4.out.grown (w2 := w5) (by rw [hw5]; exact grown_drewN (grown_refl _ _) _)); clear hw5))
                | (go_at_call 11; ((with_reducible refine (HPU.out _ _ H5.out).mono ?_); rintro e w6 ⟨rfl, v6, ho6, ht6⟩; have H6 := Lib.hid ho6; obtain ⟨e0, e1, e2, e3, e4, e5, e6, e7⟩ := HA.out.grown ho6.old; clear ho6 ht6))
                | (go_at_call 25; ((with_reducible refine (HDA.out _ H6.out.old).mono ?_); rintro e w7 ⟨rfl, hg7⟩; have H7 := Lib.hid (H6.out.grown hg7); obtain ⟨f0, f1, f2, f3, f4, f5, f6, f7⟩ := HA.out.grown (grown_trans H6.out.old hg7); clear hg7))
                | fail)
              have HLA := Lib.hid H7.out
              have hlm := HLA.out.bk.len
              clear H7 HFI HPU HRO HDA
              obtain ⟨g0, g1, g2, g3, g4, g5, g6, g7⟩ := HA.out.grown HLA.out.old
              obtain ⟨L, hL⟩ : ∃ L : Int, L = (NS.length : Int) := ⟨_, rfl⟩
              obtain ⟨r7, hr7⟩ : ∃ r : Int, r = (m : Int) - L := ⟨_, rfl⟩
              have HLE : Hid (∀ k, _) := Lib.hid fun k => len_any _ _ _ _ _ _ _ (HLA.out.grown (grown_drewN (grown_refl _ none) k)).bk
              have HRE : Hid (∀ k, _) := Lib.hid fun k => room_any _ _ _ _ _ _ _ (HLA.out.grown (grown_drewN (grown_refl _ none) k)).bk
              rw [← hL] at HLE HRE
              rw [← hr7] at HRE
              have i1 : decide (c.ba < L) = false := by have := HM.out.1; simp; omega
              have i2 : L + r7 = c.ba := by have := HM.out.1; omega
              have i3 : IntKind.i64.wrap c.ba = c.ba := by have := HM.out; simp [IntKind.wrap, IntKind.bits, IntKind.signed]; omega
              clear hL hr7 hlm
              go_quiet (first
                | (go_at_call 16; exact Calls.quiet_of_same ((HLE.out _).mono fun _ _ he => ⟨he.1, he.2.symm⟩))
                | (go_at_call 15; exact Calls.quiet_of (HRE.out _)))
              clear i1 i2 i3
              go_wp2_with fail
              go_roundw
              case rel => exact ⟨j + 1, _, NS, by omega, by go_num, HLA.out.grown (grown_drewN (grown_refl _ _) _)⟩
              case measure => simp [intOf]; omega
    · go_wp2_with (go_at_call 10; ((with_reducible refine (HW.out _ HO.out.old).mono ?_); rintro e w3 ⟨rfl, hg3⟩; have HG3 := Lib.hid (grown_trans HO.out.old hg3); clear hg3))
      go_ret
      exact ⟨rfl, HFIN.out _ HG3.out⟩
theorem most_true (c : Cfg) (xs : List Int) (ad : Option Addr) (len cap : Nat) (w : World) (hT : Tab w) (hlen : len = xs.length) (hat : IntsAt w ad xs) : Calls Tryd.prog 6 #[.agg c.cells, .slice ad len cap] w fun e w' => e = .returned (.bool true) ∧ w.grownBy w' none := by
  by_cases h : 300 < len
  · exact most_long c ad len cap w hT h
  · by_cases hm : c.may
    · exact most_some c xs ad len cap w hT hlen hat (by omega) hm
    · exact most_no c ad len cap w hT (by omega) hm
end Go.Proofs.YtoifeinkaaclmaaDoor.bk
