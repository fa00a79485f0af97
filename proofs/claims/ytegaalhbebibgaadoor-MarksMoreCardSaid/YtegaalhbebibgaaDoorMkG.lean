/-
  The law MarksMore returns true: the walk. Condition: the table of bounds lies in its variable as the program's text has it; that the script lies where the argument says.
-/
import Derived.Test.YtegaalhbebibgaaDoorMkF
namespace Go.Proofs.YtegaalhbebibgaaDoor.mrk
open Go Go.ChangeShapes Go.WideShapes Go.ChangeAt Go.RowKit Go.Maps Go.Sort
open Go.Proofs.YtegaalhbebibgaaDoor.tt (Cfg Tab CfgAt cfg_at grown_refl grown_alloc grown_trans grown_drew grown_drewN lt_of)
set_option linter.unusedVariables false
set_option linter.unusedSimpArgs false
set_option maxRecDepth 1000000

theorem meets_of_any {s : Ms} {kd k : Int} (h : meets s kd k = true) : s.any k = true := by
  unfold meets at h
  unfold Ms.any at *
  cases hr : s.r k <;> cases hw : s.w k <;> simp_all
theorem meets_rd {N : Nat} {s : Ms} {kd k p : Int} (h : meets s kd k = true) : meets (rdS N s p) kd k = true := by
  unfold meets Ms.any at *
  rw [rdS_r, rdS_w]
  by_cases e : addE N p = 0 ∧ k = p
  · rw [if_pos e]; revert h; generalize s.r k = r; generalize s.w k = x; cases r <;> cases x <;> (simp; try (intro h; omega))
  · rw [if_neg e]; exact h
theorem meets_wr {N : Nat} {s : Ms} {kd k p : Int} (h : meets s kd k = true) : meets (wrS N s p) kd k = true := by
  unfold meets Ms.any at *
  rw [wrS_r, wrS_w]
  by_cases e : addE N p = 0 ∧ k = p
  · rw [if_pos e]; revert h; generalize s.r k = r; generalize s.w k = x; cases r <;> cases x <;> (simp; try (intro h; omega))
  · rw [if_neg e]; exact h
theorem meets_four (s : Ms) (k : Int) : meets s 4 k = s.w k := by simp [meets]
theorem meets_five (s : Ms) (k : Int) : meets s 5 k = (s.r k || s.w k) := by simp [meets, Ms.any]
theorem meets_zero (kd k : Int) : meets Ms.zero kd k = false := by simp [meets, Ms.any, Ms.zero]
theorem own_meets {w w1 : World} {t b N : Nat} {s : Ms} (h : Own w w1 t b N s) (kd k : Int) (X : Bool) (hX : meets s kd k = X) : Calls Tryd.prog 13 #[.pointer (some ⟨t, 0, none⟩), .int .u8 kd, .int .i64 k] w1 fun e w' => e = .returned (.bool X) ∧ w1 = w' := by
  subst hX; exact meets_any h.mq kd k
theorem own_all0 {w w1 : World} {t b N : Nat} (h : Own w w1 t b N Ms.zero) : Calls Tryd.prog 16 #[.pointer (some ⟨t, 0, none⟩)] w1 fun e w2 => ∃ ad cap, e = .returned (.slice ad 0 cap) ∧ w1.grownBy w2 none :=
  (all_any h.mq).mono fun e w2 ⟨v, he, hrow, hg⟩ => by
    rw [keys_zero] at hrow
    obtain ⟨ad, cap, rfl, _⟩ := own_ints (xs := []) hrow
    exact ⟨ad, cap, he, hg⟩

set_option maxHeartbeats 1000000 in
theorem more_long (c : Cfg) (ad : Option Addr) (len cap : Nat) (kn q : Int) (w : World) (hT : Tab w) (h : 300 < len) : Calls Tryd.prog 5 #[.agg c.cells, .slice ad len cap, .int .u8 kn, .int .i64 q] w fun e w' => e = .returned (.bool true) ∧ w.grownBy w' none := by
  have hd : decide ((300 : Int) < (len : Int)) = true := by simp; omega
  have hg0 : w.grownBy (w.alloc (.cells c.cells 27)) none := grown_alloc (grown_refl _ _) _
  have HW := Lib.hid (works_any _ (hT.grown hg0))
  have HG0 := Lib.hid hg0
  clear hT h hg0
  unfold Cfg.cells at *
  go_enter Tryd.func5, Tryd.ntmps5
  go_wp2_with (go_at_call 10; ((with_reducible refine HW.out.mono ?_); rintro e w3 ⟨rfl, hg3⟩; have HG3 := Lib.hid hg3; clear hg3))
  go_ret
  exact ⟨rfl, grown_trans HG0.out HG3.out⟩
set_option maxHeartbeats 1000000 in
theorem more_no (c : Cfg) (ad : Option Addr) (len cap : Nat) (kn q : Int) (w : World) (hT : Tab w) (h : len ≤ 300) (hm : ¬ c.may) : Calls Tryd.prog 5 #[.agg c.cells, .slice ad len cap, .int .u8 kn, .int .i64 q] w fun e w' => e = .returned (.bool true) ∧ w.grownBy w' none := by
  have hd : decide ((300 : Int) < (len : Int)) = false := by simp; omega
  have hg0 : w.grownBy (w.alloc (.cells c.cells 27)) none := grown_alloc (grown_refl _ _) _
  have HN := Lib.hid (new_no c _ (hT.grown hg0) hm)
  have HW : Hid (∀ w', w.grownBy w' none → _) := Lib.hid (fun w' h => works_any w' (hT.grown h))
  obtain ⟨c0, c1, c2, c3, c4, c5, c6, c7⟩ := cfg_at w c
  have HG0 := Lib.hid hg0
  clear hT h hm hg0
  unfold Cfg.cells at HN HG0 c0 c1 c2 c3 c4 c5 c6 c7 ⊢
  go_enter Tryd.func5, Tryd.ntmps5
  go_wp2_with (first
    | (go_at_call 8; ((with_reducible refine HN.out.mono ?_); rintro e w2 ⟨rfl, hg2⟩; have HG2 := Lib.hid (grown_trans HG0.out hg2); clear hg2))
    | (go_at_call 10; ((with_reducible refine (HW.out _ HG2.out).mono ?_); rintro e w3 ⟨rfl, hg3⟩; have HG3 := Lib.hid (grown_trans HG2.out hg3); clear hg3)))
  go_ret
  exact ⟨rfl, HG3.out⟩
set_option maxHeartbeats 8000000 in
theorem more_some (c : Cfg) (os : List OpX) (ad : Option Addr) (len cap : Nat) (kn q : Int) (w : World) (hT : Tab w) (hlen : len = os.length) (hat : OpsAt w ad os) (h : len ≤ 300) (hm : c.may) : Calls Tryd.prog 5 #[.agg c.cells, .slice ad len cap, .int .u8 kn, .int .i64 q] w fun e w' => e = .returned (.bool true) ∧ w.grownBy w' none := by
  obtain ⟨N, hN, hN1, hN2⟩ := cfg_nat hm
  have hd : decide ((300 : Int) < (len : Int)) = false := by simp; omega
  have hg0 : w.grownBy (w.alloc (.cells c.cells 27)) none := grown_alloc (grown_refl _ _) _
  have HN := Lib.hid (own_new c N _ (hT.grown hg0) hm hN hN2)
  have HW : Hid (∀ w', w.grownBy w' none → _) := Lib.hid (fun w' h => works_any w' (hT.grown h))
  obtain ⟨c0, c1, c2, c3, c4, c5, c6, c7⟩ := cfg_at w c
  have HG0 := Lib.hid hg0
  have HLEN := Lib.hid hlen
  have H300 := Lib.hid h
  have HAT := Lib.hid (fun w' (h : w.grownBy w' none) => hat.grown h)
  clear hT hm hN hN1 hN2 hg0 hlen hat h
  unfold Cfg.cells at HN HG0 c0 c1 c2 c3 c4 c5 c6 c7 ⊢
  go_enter Tryd.func5, Tryd.ntmps5
  go_wp2_with (go_at_call 8; ((with_reducible refine HN.out.mono ?_); rintro e w2 ⟨t, b, rfl, ho2⟩; have H2 := Lib.hid ho2; clear ho2 c0 c1 c2 c3 c4 c5 c6 c7))
  clear HN
  obtain ⟨wb, hwb⟩ : ∃ wb, w.alloc (.cells #[.int .i64 c.co, .int .i64 c.se, .int .i64 c.wa, .int .i64 c.bl, .int .i64 c.lo, .int .i64 c.ba, .int .i64 c.ne, .int .i64 c.tr] 27) = wb := ⟨_, rfl⟩
  rw [hwb] at H2 HG0
  have HAT := Lib.hid fun (w' : World) (h : wb.grownBy w' none) => HAT.out w' (grown_trans HG0.out h)
  have HW := Lib.hid fun (w' : World) (h : wb.grownBy w' none) => HW.out w' (grown_trans HG0.out h)
  have HFIN := Lib.hid fun (w' : World) (h : wb.grownBy w' none) => grown_trans HG0.out h
  clear hwb HG0

  go_loopw [31, 11] (fun i m wr => ∃ (j : Nat) (s : Ms), j ≤ len ∧ i = .int .i64 (j : Int) ∧ m = .bool (meets s kn q) ∧ Own wb wr t b N s) (fun i _ _ => len - (intOf i).toNat)
  case atStart => exact ⟨0, Ms.zero, Nat.zero_le _, rfl, by rw [meets_zero], H2.out⟩
  case round =>
    clear H2
    obtain ⟨j, s, hj, rfl, rfl, ho⟩ := hrel
    have HO := Lib.hid ho
    have hj300 : j ≤ 300 := by have := H300.out; omega
    clear ho
    by_cases hlt : j < len
    · obtain ⟨⟨kd, b2, x⟩, hx⟩ : ∃ y, os[j]? = some y := ⟨_, List.getElem?_eq_getElem (by have := HLEN.out; omega)⟩
      obtain ⟨bp, op, rfl, hr0, hr1, hr2⟩ := HAT.out _ HO.out.old j _ hx
      clear hx
      dsimp only at hr0 hr1 hr2
      by_cases hk0 : kd = 0
      · subst hk0
        have HO2 := Lib.hid (HO.out.grown (w2 := wr.alloc (.cells #[.int .i64 0, .int .i64 b2, .int .u8 x] 42)) (grown_alloc (grown_refl _ _) _))
        have HQ2 : Hid ((wr.alloc (.cells #[.int .i64 0, .int .i64 b2, .int .u8 x] 42)).heap[wr.heap.size]? = some (.cells #[.int .i64 0, .int .i64 b2, .int .u8 x] 42 (0, 0))) := Lib.hid (heap_alloc_new _ _)
        obtain ⟨NS, hNS⟩ : ∃ NS, NS = rdS N s b2 := ⟨_, rfl⟩
        have HRD := Lib.hid (own_read HO2.out b2)
        rw [← hNS] at HRD
        have f1 : meets s kn q = true → meets NS kn q = true := fun h => by rw [hNS]; exact meets_rd h
        have f2 : meets NS kn q = true → (NS.r q || NS.w q) = true := fun h => meets_of_any h
        generalize meets s kn q = M at f1 ⊢
        generalize hM2 : meets NS kn q = M2 at f1 f2
        generalize hR : NS.r q = R at f2
        generalize hW' : NS.w q = W' at f2
        generalize addE N b2 = E at HRD
        clear hNS
        go_wp2_with (go_at_call 11; ((with_reducible refine HRD.out.mono ?_); rintro e w3 ⟨rfl, ho3, hg3⟩; have H3 := Lib.hid ho3; clear ho3 hg3))
        have HM1 : Hid (∀ (W : World), Own wb W t b N NS → _) := Lib.hid fun W h => own_meets h kn q M2 hM2
        have HH : Hid (∀ (W : World), Own wb W t b N NS → _) := Lib.hid fun W h => own_has h q R W' hR hW'
        have HM4 : Hid (∀ (W : World), Own wb W t b N NS → _) := Lib.hid fun W h => own_meets h 4 q W' ((meets_four _ _).trans hW')
        have HM5 : Hid (∀ (W : World), Own wb W t b N NS → _) := Lib.hid fun W h => own_meets h 5 q (R || W') ((meets_five _ _).trans (by rw [hR, hW']))
        have HM2 := Lib.hid hM2
        clear hM2 hR hW'
        cases M <;> cases M2 <;> cases R <;> cases W' <;> (first | (exact absurd (f1 rfl) (by decide)) | (exact absurd (f2 rfl) (by decide)) | skip)
        all_goals
          clear f1 f2
          simp only [Bool.or_true, Bool.or_false, Bool.true_or, Bool.false_or] at HM5
          go_wp2_with (first
            | (go_at_call 13; ((with_reducible refine (HM1.out _ H3.out).mono ?_); rintro e w4 ⟨rfl, rfl⟩; clear HM1))
            | (go_at_call 15; ((with_reducible refine (HH.out _ H3.out).mono ?_); rintro e w4 ⟨rfl, rfl⟩))
            | (go_at_call 13; ((with_reducible refine (HM4.out _ H3.out).mono ?_); rintro e w4 ⟨rfl, rfl⟩))
            | (go_at_call 13; ((with_reducible refine (HM5.out _ H3.out).mono ?_); rintro e w4 ⟨rfl, rfl⟩))
            | fail)
          go_roundw
          case rel => exact ⟨j + 1, NS, by omega, by go_num, by rw [HM2.out], H3.out⟩
          case measure => simp [intOf]; omega
      · by_cases hk1 : kd = 1
        · subst hk1
          clear hk0
          have HO2 := Lib.hid (HO.out.grown (w2 := wr.alloc (.cells #[.int .i64 1, .int .i64 b2, .int .u8 x] 42)) (grown_alloc (grown_refl _ _) _))
          have HQ2 : Hid ((wr.alloc (.cells #[.int .i64 1, .int .i64 b2, .int .u8 x] 42)).heap[wr.heap.size]? = some (.cells #[.int .i64 1, .int .i64 b2, .int .u8 x] 42 (0, 0))) := Lib.hid (heap_alloc_new _ _)
          obtain ⟨NS, hNS⟩ : ∃ NS, NS = wrS N s b2 := ⟨_, rfl⟩
          have HRD := Lib.hid (own_write HO2.out b2)
          rw [← hNS] at HRD
          have f1 : meets s kn q = true → meets NS kn q = true := fun h => by rw [hNS]; exact meets_wr h
          have f2 : meets NS kn q = true → (NS.r q || NS.w q) = true := fun h => meets_of_any h
          generalize meets s kn q = M at f1 ⊢
          generalize hM2 : meets NS kn q = M2 at f1 f2
          generalize hR : NS.r q = R at f2
          generalize hW' : NS.w q = W' at f2
          generalize addE N b2 = E at HRD
          clear hNS
          go_wp2_with (go_at_call 12; ((with_reducible refine HRD.out.mono ?_); rintro e w3 ⟨rfl, ho3, hg3⟩; have H3 := Lib.hid ho3; clear ho3 hg3))
          have HM1 : Hid (∀ (W : World), Own wb W t b N NS → _) := Lib.hid fun W h => own_meets h kn q M2 hM2
          have HH : Hid (∀ (W : World), Own wb W t b N NS → _) := Lib.hid fun W h => own_has h q R W' hR hW'
          have HM4 : Hid (∀ (W : World), Own wb W t b N NS → _) := Lib.hid fun W h => own_meets h 4 q W' ((meets_four _ _).trans hW')
          have HM5 : Hid (∀ (W : World), Own wb W t b N NS → _) := Lib.hid fun W h => own_meets h 5 q (R || W') ((meets_five _ _).trans (by rw [hR, hW']))
          have HM2 := Lib.hid hM2
          clear hM2 hR hW'
          cases M <;> cases M2 <;> cases R <;> cases W' <;> (first | (exact absurd (f1 rfl) (by decide)) | (exact absurd (f2 rfl) (by decide)) | skip)
          all_goals
            clear f1 f2
            simp only [Bool.or_true, Bool.or_false, Bool.true_or, Bool.false_or] at HM5
            go_wp2_with (first
              | (go_at_call 13; ((with_reducible refine (HM1.out _ H3.out).mono ?_); rintro e w4 ⟨rfl, rfl⟩; clear HM1))
              | (go_at_call 15; ((with_reducible refine (HH.out _ H3.out).mono ?_); rintro e w4 ⟨rfl, rfl⟩))
              | (go_at_call 13; ((with_reducible refine (HM4.out _ H3.out).mono ?_); rintro e w4 ⟨rfl, rfl⟩))
              | (go_at_call 13; ((with_reducible refine (HM5.out _ H3.out).mono ?_); rintro e w4 ⟨rfl, rfl⟩))
              | fail)
            go_roundw
            case rel => exact ⟨j + 1, NS, by omega, by go_num, by rw [HM2.out], H3.out⟩
            case measure => simp [intOf]; omega
        · have k0 : (kd == 0) = false := by simpa using hk0
          have k1 : (kd == 1) = false := by simpa using hk1
          clear hk0 hk1
          have HO2 := Lib.hid (HO.out.grown (w2 := wr.alloc (.cells #[.int .i64 kd, .int .i64 b2, .int .u8 x] 42)) (grown_alloc (grown_refl _ _) _))
          have HQ2 : Hid ((wr.alloc (.cells #[.int .i64 kd, .int .i64 b2, .int .u8 x] 42)).heap[wr.heap.size]? = some (.cells #[.int .i64 kd, .int .i64 b2, .int .u8 x] 42 (0, 0))) := Lib.hid (heap_alloc_new _ _)
          have f1 : meets s kn q = true → meets s kn q = true := fun h => h
          have f2 : meets s kn q = true → (s.r q || s.w q) = true := fun h => meets_of_any h
          generalize hM2 : meets s kn q = M2 at f1 f2 ⊢
          generalize hR : s.r q = R at f2
          generalize hW' : s.w q = W' at f2
          obtain ⟨M, hMM⟩ : ∃ M, M = M2 := ⟨_, rfl⟩
          rw [← hMM] at f1 ⊢
          replace f1 : M = true → M2 = true := fun h => by rw [← hMM]; exact h
          clear hMM
          have HM1 : Hid (∀ (W : World), Own wb W t b N s → _) := Lib.hid fun W h => own_meets h kn q M2 hM2
          have HH : Hid (∀ (W : World), Own wb W t b N s → _) := Lib.hid fun W h => own_has h q R W' hR hW'
          have HM4 : Hid (∀ (W : World), Own wb W t b N s → _) := Lib.hid fun W h => own_meets h 4 q W' ((meets_four _ _).trans hW')
          have HM5 : Hid (∀ (W : World), Own wb W t b N s → _) := Lib.hid fun W h => own_meets h 5 q (R || W') ((meets_five _ _).trans (by rw [hR, hW']))
          have HM2 := Lib.hid hM2
          clear hM2 hR hW'
          cases M <;> cases M2 <;> cases R <;> cases W' <;> (first | (exact absurd (f1 rfl) (by decide)) | (exact absurd (f2 rfl) (by decide)) | skip)
          all_goals
            clear f1 f2
            simp only [Bool.or_true, Bool.or_false, Bool.true_or, Bool.false_or] at HM5
            go_wp2_with (first
              | (go_at_call 13; ((with_reducible refine (HM1.out _ HO2.out).mono ?_); rintro e w4 ⟨rfl, rfl⟩; clear HM1))
              | (go_at_call 15; ((with_reducible refine (HH.out _ HO2.out).mono ?_); rintro e w4 ⟨rfl, rfl⟩))
              | (go_at_call 13; ((with_reducible refine (HM4.out _ HO2.out).mono ?_); rintro e w4 ⟨rfl, rfl⟩))
              | (go_at_call 13; ((with_reducible refine (HM5.out _ HO2.out).mono ?_); rintro e w4 ⟨rfl, rfl⟩))
              | fail)
            go_roundw
            case rel => exact ⟨j + 1, s, by omega, by go_num, by rw [HM2.out], HO2.out⟩
            case measure => simp [intOf]; omega
    · have HC := Lib.hid (own_clear HO.out)
      generalize meets s kn q = M
      go_wp2_with (first
        | (go_at_call 14; ((with_reducible refine HC.out.mono ?_); rintro e w3 ⟨rfl, ho3, hg3⟩; have H3 := Lib.hid ho3; clear ho3 hg3))
        | (go_at_call 13; ((with_reducible refine (own_meets H3.out kn q false (meets_zero _ _)).mono ?_); rintro e w4 ⟨rfl, rfl⟩))
        | (go_at_call 16; ((with_reducible refine (own_all0 H3.out).mono ?_); rintro e w5 ⟨ad5, cap5, rfl, hg5⟩; have H5 := Lib.hid (grown_trans H3.out.old hg5); clear hg5))
        | (go_at_call 10; ((with_reducible refine (HW.out _ H5.out).mono ?_); rintro e w6 ⟨rfl, hg6⟩; have HG6 := Lib.hid (grown_trans H5.out hg6); clear hg6)))
      go_ret
      exact ⟨rfl, HFIN.out _ HG6.out⟩
theorem more_true (c : Cfg) (os : List OpX) (ad : Option Addr) (len cap : Nat) (kn q : Int) (w : World) (hT : Tab w) (hlen : len = os.length) (hat : OpsAt w ad os) : Calls Tryd.prog 5 #[.agg c.cells, .slice ad len cap, .int .u8 kn, .int .i64 q] w fun e w' => e = .returned (.bool true) ∧ w.grownBy w' none := by
  by_cases h : 300 < len
  · exact more_long c ad len cap kn q w hT h
  · by_cases hm : c.may
    · exact more_some c os ad len cap kn q w hT hlen hat (by omega) hm
    · exact more_no c ad len cap kn q w hT (by omega) hm
end Go.Proofs.YtegaalhbebibgaaDoor.mrk
