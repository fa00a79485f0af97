/-
  The law MarksAll returns true: the walk. Condition: the table of bounds lies in its variable as the program's text has it; that the script lies where the argument says.
-/
import Derived.Test.YtegaalhbebibgaaDoorMkG
namespace Go.Proofs.YtegaalhbebibgaaDoor.mrk
open Go Go.ChangeShapes Go.WideShapes Go.ChangeAt Go.RowKit Go.Maps Go.Sort
open Go.Proofs.YtegaalhbebibgaaDoor.tt (Cfg Tab CfgAt cfg_at grown_refl grown_alloc grown_trans grown_drew grown_drewN lt_of)
set_option linter.unusedVariables false
set_option linter.unusedSimpArgs false
set_option maxRecDepth 1000000

set_option maxHeartbeats 1000000 in
theorem index_any (xs : List Int) (ad : Option Addr) (len cap : Nat) (x : Int) (w : World) (hlen : len = xs.length) (hmax : len ≤ 65536) (hat : IntsAt w ad xs) :
    Calls Tryd.prog 37 #[.slice ad len cap, .int .i64 x] w fun e w' => ∃ r : Int, e = .returned (.int .i64 r) ∧ (decide (0 ≤ r) = decide (x ∈ xs)) ∧ w = w' := by
  have HAT := Lib.hid hat
  have HL := Lib.hid hlen
  clear hat hlen
  go_enter Tryd.func37, Tryd.ntmps37
  go_wp2_with fail
  go_loopw [8] (fun i wr => ∃ k : Nat, k ≤ len ∧ i = .int .i64 (k : Int) ∧ (∀ j, j < k → xs[j]? ≠ some x) ∧ wr = w) (fun i _ => len - (intOf i).toNat)
  case atStart => exact ⟨0, Nat.zero_le _, rfl, fun j h => absurd h (Nat.not_lt_zero _), rfl⟩
  case round =>
    obtain ⟨k, hk, rfl, hno, rfl⟩ := hrel
    have HNO := Lib.hid hno
    clear hno
    by_cases hlt : k < len
    · obtain ⟨y, hy, _⟩ := drop_get xs k (by have := HL.out; omega)
      obtain ⟨b1, off1, rfl, hc1⟩ := HAT.out k y hy
      by_cases hxy : x = y
      · have HM : Hid (x ∈ xs) := Lib.hid (by rw [hxy]; exact List.mem_of_getElem? hy)
        have he : (x == y) = true := by simpa using hxy
        clear hxy hy
        go_wp2_with fail
        go_ret
        exact ⟨_, rfl, by rw [decide_eq_true HM.out]; simp, rfl⟩
      · have HY := Lib.hid hy
        have HXY := Lib.hid hxy
        have he : (x == y) = false := by simpa using hxy
        clear hxy hy
        go_wp2_with fail
        go_roundw
        case rel => exact ⟨k + 1, by omega, by go_num, fun j hj => by
          rcases Nat.lt_or_eq_of_le (Nat.le_of_lt_succ hj) with h | rfl
          · exact HNO.out j h
          · rw [HY.out]; exact fun e => HXY.out (Option.some.inj e).symm, by simp⟩
        case measure => simp [intOf]; omega
    · have HN : Hid (x ∉ xs) := Lib.hid (fun h => by
        obtain ⟨j, hj⟩ := List.getElem?_of_mem h
        have hjl := (List.getElem?_eq_some_iff.1 hj).1
        exact HNO.out j (by have := HL.out; omega) hj)
      go_wp2_with fail
      go_ret
      exact ⟨_, rfl, by rw [decide_eq_false HN.out]; rfl, rfl⟩
set_option maxHeartbeats 1000000 in
theorem contains_any (xs : List Int) (ad : Option Addr) (len cap : Nat) (x : Int) (w : World) (hlen : len = xs.length) (hmax : len ≤ 65536) (hat : IntsAt w ad xs) :
    Calls Tryd.prog 27 #[.slice ad len cap, .int .i64 x] w fun e w' => e = .returned (.bool (decide (x ∈ xs))) ∧ w = w' := by
  have HI := Lib.hid (index_any xs ad len cap x w hlen hmax hat)
  clear hlen hat
  generalize decide (x ∈ xs) = D at HI ⊢
  go_enter Tryd.func27, Tryd.ntmps27
  go_wp2_with (go_at_call 37; ((with_reducible refine HI.out.mono ?_); rintro e w1 ⟨r, rfl, hr, rfl⟩; have HR := Lib.hid hr; clear hr))
  go_ret
  exact ⟨by rw [← HR.out]; rfl, rfl⟩
theorem own_allk {w w1 : World} {t b N : Nat} {s : Ms} (h : Own w w1 t b N s) : Calls Tryd.prog 16 #[.pointer (some ⟨t, 0, none⟩)] w1 fun e w2 => ∃ ad cap, e = .returned (.slice ad (keys N s).length cap) ∧ IntsAt w2 ad (keys N s) ∧ w1.grownBy w2 none :=
  (all_any h.mq).mono fun e w2 ⟨v, he, hrow, hg⟩ => by
    obtain ⟨ad, cap, rfl, hat, _⟩ := own_ints hrow
    exact ⟨ad, cap, he, hat, hg⟩
theorem rising_next {xs : List Int} (h : xs.Pairwise (· < ·)) {k : Nat} {x y : Int} (hx : xs[k]? = some x) (hy : xs[k + 1]? = some y) : x < y := by
  obtain ⟨h1, rfl⟩ := List.getElem?_eq_some_iff.1 hx
  obtain ⟨h2, rfl⟩ := List.getElem?_eq_some_iff.1 hy
  exact List.pairwise_iff_getElem.1 h _ _ h1 h2 (by omega)

set_option maxHeartbeats 1000000 in
theorem all_long (c : Cfg) (ad : Option Addr) (len cap : Nat) (w : World) (hT : Tab w) (h : 300 < len) : Calls Tryd.prog 7 #[.agg c.cells, .slice ad len cap] w fun e w' => e = .returned (.bool true) ∧ w.grownBy w' none := by
  have hd : decide ((300 : Int) < (len : Int)) = true := by simp; omega
  have hg0 : w.grownBy (w.alloc (.cells c.cells 27)) none := grown_alloc (grown_refl _ _) _
  have HW := Lib.hid (works_any _ (hT.grown hg0))
  have HG0 := Lib.hid hg0
  clear hT h hg0
  unfold Cfg.cells at *
  go_enter Tryd.func7, Tryd.ntmps7
  go_wp2_with (go_at_call 10; ((with_reducible refine HW.out.mono ?_); rintro e w3 ⟨rfl, hg3⟩; have HG3 := Lib.hid hg3; clear hg3))
  go_ret
  exact ⟨rfl, grown_trans HG0.out HG3.out⟩
set_option maxHeartbeats 1000000 in
theorem all_no (c : Cfg) (ad : Option Addr) (len cap : Nat) (w : World) (hT : Tab w) (h : len ≤ 300) (hm : ¬ c.may) : Calls Tryd.prog 7 #[.agg c.cells, .slice ad len cap] w fun e w' => e = .returned (.bool true) ∧ w.grownBy w' none := by
  have hd : decide ((300 : Int) < (len : Int)) = false := by simp; omega
  have hg0 : w.grownBy (w.alloc (.cells c.cells 27)) none := grown_alloc (grown_refl _ _) _
  have HN := Lib.hid (new_no c _ (hT.grown hg0) hm)
  have HW : Hid (∀ w', w.grownBy w' none → _) := Lib.hid (fun w' h => works_any w' (hT.grown h))
  obtain ⟨c0, c1, c2, c3, c4, c5, c6, c7⟩ := cfg_at w c
  have HG0 := Lib.hid hg0
  clear hT h hm hg0
  unfold Cfg.cells at HN HG0 c0 c1 c2 c3 c4 c5 c6 c7 ⊢
  go_enter Tryd.func7, Tryd.ntmps7
  go_wp2_with (first
    | (go_at_call 8; ((with_reducible refine HN.out.mono ?_); rintro e w2 ⟨rfl, hg2⟩; have HG2 := Lib.hid (grown_trans HG0.out hg2); clear hg2))
    | (go_at_call 10; ((with_reducible refine (HW.out _ HG2.out).mono ?_); rintro e w3 ⟨rfl, hg3⟩; have HG3 := Lib.hid (grown_trans HG2.out hg3); clear hg3)))
  go_ret
  exact ⟨rfl, HG3.out⟩
set_option maxHeartbeats 8000000 in
theorem all_some (c : Cfg) (os : List OpX) (ad : Option Addr) (len cap : Nat) (w : World) (hT : Tab w) (hlen : len = os.length) (hat : OpsAt w ad os) (h : len ≤ 300) (hm : c.may) : Calls Tryd.prog 7 #[.agg c.cells, .slice ad len cap] w fun e w' => e = .returned (.bool true) ∧ w.grownBy w' none := by
  obtain ⟨N, hN, hN1, hN2⟩ := cfg_nat hm
  have hd : decide ((300 : Int) < (len : Int)) = false := by simp; omega
  have hg0 : w.grownBy (w.alloc (.cells c.cells 27)) none := grown_alloc (grown_refl _ _) _
  have HN := Lib.hid (own_new c N _ (hT.grown hg0) hm hN hN2)
  have HW : Hid (∀ w', w.grownBy w' none → _) := Lib.hid (fun w' h => works_any w' (hT.grown h))
  obtain ⟨c0, c1, c2, c3, c4, c5, c6, c7⟩ := cfg_at w c
  have HG0 := Lib.hid hg0
  have HLEN := Lib.hid hlen
  have H300 := Lib.hid h
  have HAT := Lib.hid (fun w' (h : w.grownBy w' none) => hat.grown h)
  clear hT hm hN hN1 hN2 hg0 hlen hat h
  unfold Cfg.cells at HN HG0 c0 c1 c2 c3 c4 c5 c6 c7 ⊢
  go_enter Tryd.func7, Tryd.ntmps7
  go_wp2_with (go_at_call 8; ((with_reducible refine HN.out.mono ?_); rintro e w2 ⟨t, b, rfl, ho2⟩; have H2 := Lib.hid ho2; clear ho2 c0 c1 c2 c3 c4 c5 c6 c7))
  clear HN
  obtain ⟨wb, hwb⟩ : ∃ wb, w.alloc (.cells #[.int .i64 c.co, .int .i64 c.se, .int .i64 c.wa, .int .i64 c.bl, .int .i64 c.lo, .int .i64 c.ba, .int .i64 c.ne, .int .i64 c.tr] 27) = wb := ⟨_, rfl⟩
  rw [hwb] at H2 HG0
  have HAT := Lib.hid fun (w' : World) (h : wb.grownBy w' none) => HAT.out w' (grown_trans HG0.out h)
  have HW := Lib.hid fun (w' : World) (h : wb.grownBy w' none) => HW.out w' (grown_trans HG0.out h)
  have HFIN := Lib.hid fun (w' : World) (h : wb.grownBy w' none) => grown_trans HG0.out h
  clear hwb HG0

  go_loopw [31] (fun i wr => ∃ (j : Nat) (s : Ms), j ≤ len ∧ i = .int .i64 (j : Int) ∧ Own wb wr t b N s) (fun i _ => len - (intOf i).toNat)
  case atStart => exact ⟨0, Ms.zero, Nat.zero_le _, rfl, H2.out⟩
  case round =>
    clear H2
    obtain ⟨j, s, hj, rfl, ho⟩ := hrel
    have HO := Lib.hid ho
    have hj300 : j ≤ 300 := by have := H300.out; omega
    clear ho
    obtain ⟨wo, hwo⟩ : ∃ wo, wo = wr := ⟨_, rfl⟩
    subst hwo
    by_cases hlt : j < len
    · obtain ⟨⟨kd, b2, x⟩, hx⟩ : ∃ y, os[j]? = some y := ⟨_, List.getElem?_eq_getElem (by have := HLEN.out; omega)⟩
      obtain ⟨bp, op, rfl, hr0, hr1, hr2⟩ := HAT.out _ HO.out.old j _ hx
      clear hx
      dsimp only at hr0 hr1 hr2
      by_cases hk0 : kd = 0
      · subst hk0
        have HO2 := Lib.hid (HO.out.grown (w2 := wo.alloc (.cells #[.int .i64 0, .int .i64 b2, .int .u8 x] 42)) (grown_alloc (grown_refl _ _) _))
        have HQ2 : Hid ((wo.alloc (.cells #[.int .i64 0, .int .i64 b2, .int .u8 x] 42)).heap[wo.heap.size]? = some (.cells #[.int .i64 0, .int .i64 b2, .int .u8 x] 42 (0, 0))) := Lib.hid (heap_alloc_new _ _)
        obtain ⟨NS, hNS⟩ : ∃ NS, NS = rdS N s b2 := ⟨_, rfl⟩
        have HRD := Lib.hid (own_read HO2.out b2)
        rw [← hNS] at HRD
        generalize addE N b2 = E at HRD
        clear hNS
        go_wp2_with (go_at_call 11; ((with_reducible refine HRD.out.mono ?_); rintro e w3 ⟨rfl, ho3, hg3⟩; have H3 := Lib.hid ho3; have HQ := Lib.hid (HO2.out.cells hg3 HQ2.out); clear ho3 hg3))
        clear HRD HQ2 HO2 HO
        have HAL := Lib.hid (own_allk H3.out)
        have HXL : Hid ((keys N NS).length ≤ 256) := Lib.hid (Nat.le_trans (keys_len N NS) H3.out.mq.small)
        have HXR := Lib.hid (keys_rising N NS)
        have HXM : Hid (∀ x, x ∈ keys N NS ↔ NS.any x = true) := Lib.hid (fun x => keys_mem H3.out.mq.dom x)
        have HXD := Lib.hid H3.out.mq.dom
        generalize hxs : keys N NS = xs at HAL HXL HXR HXM
        obtain ⟨L, hL⟩ : ∃ L, L = xs.length := ⟨_, rfl⟩
        rw [← hL] at HAL HXL
        have HL := Lib.hid hL
        have hL256 := HXL.out
        clear hxs hL HXL
        go_wp2_with (first
          | (go_at_call 16; ((with_reducible refine HAL.out.mono ?_); rintro e w4 ⟨ad4, cap4, rfl, ha4, hg4⟩; have H4 := Lib.hid (H3.out.grown hg4); have HA4 := Lib.hid ha4; have hq4 := (hg4.block _ (lt_of HQ.out) (by simp)).trans HQ.out; have HQ4 := Lib.hid hq4; clear ha4 hg4 hq4))
          | fail)
        clear HAL
        go_loopw [57, 10] (fun i l wr => ∃ (k : Nat) (last : Int), k ≤ L ∧ i = .int .i64 (k : Int) ∧ l = .int .i64 last ∧ (∀ y, xs[k]? = some y → last < y) ∧ wr = w4) (fun i _ _ => L - (intOf i).toNat)
        case atStart => exact ⟨0, -1, Nat.zero_le _, rfl, rfl, fun y hy => by have := HXD.out y ((HXM.out y).1 (List.mem_of_getElem? hy)); omega, rfl⟩
        case round =>
          obtain ⟨k, last, hkL, rfl, rfl, hla, rfl⟩ := hrel
          have HLA := Lib.hid hla
          clear hla
          by_cases hlt2 : k < L
          · obtain ⟨y, hy⟩ : ∃ y, xs[k]? = some y := ⟨_, List.getElem?_eq_getElem (by have := HL.out; omega)⟩
            obtain ⟨g4, o4, rfl, hc4⟩ := HA4.out k y hy
            have hle : decide (y ≤ last) = false := by have := HLA.out y hy; simp; omega
            have hany : NS.any y = true := (HXM.out y).1 (List.mem_of_getElem? hy)
            unfold Ms.any at hany
            have HHS : Hid (∀ (W : World), Own wb W t b N NS → _) := Lib.hid fun W h => own_has h y _ _ rfl rfl
            generalize NS.r y = R at hany HHS
            generalize NS.w y = W' at hany HHS
            have HY := Lib.hid hy
            clear hy
            cases R <;> cases W' <;> (first | (exact absurd hany (by decide)) | skip)
            all_goals
              clear hany
              go_wp2_with (first | (go_at_call 15; ((with_reducible refine (HHS.out _ H4.out).mono ?_); rintro e w5 ⟨rfl, rfl⟩)) | fail)
              go_roundw
              case rel => exact ⟨k + 1, y, by omega, by go_num, rfl, fun z hz => rising_next HXR.out HY.out hz, by simp⟩
              case measure => simp [intOf]; omega
          · have q1 : wr.cell? ⟨wo.heap.size, 1, none⟩ = some (.int .i64 b2) := by simp [World.cell?, HQ4.out]
            have HHS : Hid (∀ (W : World), Own wb W t b N NS → _) := Lib.hid fun W h => own_has h b2 _ _ rfl rfl
            have HCO := Lib.hid (contains_any xs ad4 L cap4 b2 _ HL.out (by omega) HA4.out)
            have hcm : decide (b2 ∈ xs) = (NS.r b2 || NS.w b2) := by rw [Bool.eq_iff_iff]; simp only [decide_eq_true_eq]; exact HXM.out b2
            rw [hcm] at HCO
            clear hcm
            generalize NS.r b2 = R at HHS HCO
            generalize NS.w b2 = W' at HHS HCO
            cases R <;> cases W'
            all_goals
              simp only [Bool.or_true, Bool.or_false, Bool.true_or, Bool.false_or] at HCO
              go_wp2_with (first
                | (go_at_call 15; ((with_reducible refine (HHS.out _ H4.out).mono ?_); rintro e w5 ⟨rfl, rfl⟩))
                | (go_at_call 27; ((with_reducible refine HCO.out.mono ?_); rintro e w6 ⟨rfl, rfl⟩))
                | fail)
              go_roundw
              case rel => exact ⟨j + 1, NS, by omega, by go_num, H4.out⟩
              case measure => simp [intOf]; omega
      · by_cases hk1 : kd = 1
        · subst hk1
          clear hk0
          have HO2 := Lib.hid (HO.out.grown (w2 := wo.alloc (.cells #[.int .i64 1, .int .i64 b2, .int .u8 x] 42)) (grown_alloc (grown_refl _ _) _))
          have HQ2 : Hid ((wo.alloc (.cells #[.int .i64 1, .int .i64 b2, .int .u8 x] 42)).heap[wo.heap.size]? = some (.cells #[.int .i64 1, .int .i64 b2, .int .u8 x] 42 (0, 0))) := Lib.hid (heap_alloc_new _ _)
          obtain ⟨NS, hNS⟩ : ∃ NS, NS = wrS N s b2 := ⟨_, rfl⟩
          have HRD := Lib.hid (own_write HO2.out b2)
          rw [← hNS] at HRD
          generalize addE N b2 = E at HRD
          clear hNS
          go_wp2_with (go_at_call 12; ((with_reducible refine HRD.out.mono ?_); rintro e w3 ⟨rfl, ho3, hg3⟩; have H3 := Lib.hid ho3; have HQ := Lib.hid (HO2.out.cells hg3 HQ2.out); clear ho3 hg3))
          clear HRD HQ2 HO2 HO
          have HAL := Lib.hid (own_allk H3.out)
          have HXL : Hid ((keys N NS).length ≤ 256) := Lib.hid (Nat.le_trans (keys_len N NS) H3.out.mq.small)
          have HXR := Lib.hid (keys_rising N NS)
          have HXM : Hid (∀ x, x ∈ keys N NS ↔ NS.any x = true) := Lib.hid (fun x => keys_mem H3.out.mq.dom x)
          have HXD := Lib.hid H3.out.mq.dom
          generalize hxs : keys N NS = xs at HAL HXL HXR HXM
          obtain ⟨L, hL⟩ : ∃ L, L = xs.length := ⟨_, rfl⟩
          rw [← hL] at HAL HXL
          have HL := Lib.hid hL
          have hL256 := HXL.out
          clear hxs hL HXL
          go_wp2_with (first
            | (go_at_call 16; ((with_reducible refine HAL.out.mono ?_); rintro e w4 ⟨ad4, cap4, rfl, ha4, hg4⟩; have H4 := Lib.hid (H3.out.grown hg4); have HA4 := Lib.hid ha4; have hq4 := (hg4.block _ (lt_of HQ.out) (by simp)).trans HQ.out; have HQ4 := Lib.hid hq4; clear ha4 hg4 hq4))
            | fail)
          clear HAL
          go_loopw [57, 10] (fun i l wr => ∃ (k : Nat) (last : Int), k ≤ L ∧ i = .int .i64 (k : Int) ∧ l = .int .i64 last ∧ (∀ y, xs[k]? = some y → last < y) ∧ wr = w4) (fun i _ _ => L - (intOf i).toNat)
          case atStart => exact ⟨0, -1, Nat.zero_le _, rfl, rfl, fun y hy => by have := HXD.out y ((HXM.out y).1 (List.mem_of_getElem? hy)); omega, rfl⟩
          case round =>
            obtain ⟨k, last, hkL, rfl, rfl, hla, rfl⟩ := hrel
            have HLA := Lib.hid hla
            clear hla
            by_cases hlt2 : k < L
            · obtain ⟨y, hy⟩ : ∃ y, xs[k]? = some y := ⟨_, List.getElem?_eq_getElem (by have := HL.out; omega)⟩
              obtain ⟨g4, o4, rfl, hc4⟩ := HA4.out k y hy
              have hle : decide (y ≤ last) = false := by have := HLA.out y hy; simp; omega
              have hany : NS.any y = true := (HXM.out y).1 (List.mem_of_getElem? hy)
              unfold Ms.any at hany
              have HHS : Hid (∀ (W : World), Own wb W t b N NS → _) := Lib.hid fun W h => own_has h y _ _ rfl rfl
              generalize NS.r y = R at hany HHS
              generalize NS.w y = W' at hany HHS
              have HY := Lib.hid hy
              clear hy
              cases R <;> cases W' <;> (first | (exact absurd hany (by decide)) | skip)
              all_goals
                clear hany
                go_wp2_with (first | (go_at_call 15; ((with_reducible refine (HHS.out _ H4.out).mono ?_); rintro e w5 ⟨rfl, rfl⟩)) | fail)
                go_roundw
                case rel => exact ⟨k + 1, y, by omega, by go_num, rfl, fun z hz => rising_next HXR.out HY.out hz, by simp⟩
                case measure => simp [intOf]; omega
            · have q1 : wr.cell? ⟨wo.heap.size, 1, none⟩ = some (.int .i64 b2) := by simp [World.cell?, HQ4.out]
              have HHS : Hid (∀ (W : World), Own wb W t b N NS → _) := Lib.hid fun W h => own_has h b2 _ _ rfl rfl
              have HCO := Lib.hid (contains_any xs ad4 L cap4 b2 _ HL.out (by omega) HA4.out)
              have hcm : decide (b2 ∈ xs) = (NS.r b2 || NS.w b2) := by rw [Bool.eq_iff_iff]; simp only [decide_eq_true_eq]; exact HXM.out b2
              rw [hcm] at HCO
              clear hcm
              generalize NS.r b2 = R at HHS HCO
              generalize NS.w b2 = W' at HHS HCO
              cases R <;> cases W'
              all_goals
                simp only [Bool.or_true, Bool.or_false, Bool.true_or, Bool.false_or] at HCO
                go_wp2_with (first
                  | (go_at_call 15; ((with_reducible refine (HHS.out _ H4.out).mono ?_); rintro e w5 ⟨rfl, rfl⟩))
                  | (go_at_call 27; ((with_reducible refine HCO.out.mono ?_); rintro e w6 ⟨rfl, rfl⟩))
                  | fail)
                go_roundw
                case rel => exact ⟨j + 1, NS, by omega, by go_num, H4.out⟩
                case measure => simp [intOf]; omega
        · by_cases hk2 : kd = 2
          · subst hk2
            clear hk0 hk1
            have HO2 := Lib.hid (HO.out.grown (w2 := wo.alloc (.cells #[.int .i64 2, .int .i64 b2, .int .u8 x] 42)) (grown_alloc (grown_refl _ _) _))
            have HQ2 : Hid ((wo.alloc (.cells #[.int .i64 2, .int .i64 b2, .int .u8 x] 42)).heap[wo.heap.size]? = some (.cells #[.int .i64 2, .int .i64 b2, .int .u8 x] 42 (0, 0))) := Lib.hid (heap_alloc_new _ _)
            have HRD := Lib.hid (own_clear HO2.out)
            obtain ⟨NS, hNS⟩ : ∃ NS, NS = Ms.zero := ⟨_, rfl⟩
            rw [← hNS] at HRD
            clear hNS
            go_wp2_with (go_at_call 14; ((with_reducible refine HRD.out.mono ?_); rintro e w3 ⟨rfl, ho3, hg3⟩; have H3 := Lib.hid ho3; have HQ := Lib.hid (HO2.out.cells hg3 HQ2.out); clear ho3 hg3))
            clear HRD HQ2 HO2 HO
            have HAL := Lib.hid (own_allk H3.out)
            have HXL : Hid ((keys N NS).length ≤ 256) := Lib.hid (Nat.le_trans (keys_len N NS) H3.out.mq.small)
            have HXR := Lib.hid (keys_rising N NS)
            have HXM : Hid (∀ x, x ∈ keys N NS ↔ NS.any x = true) := Lib.hid (fun x => keys_mem H3.out.mq.dom x)
            have HXD := Lib.hid H3.out.mq.dom
            generalize hxs : keys N NS = xs at HAL HXL HXR HXM
            obtain ⟨L, hL⟩ : ∃ L, L = xs.length := ⟨_, rfl⟩
            rw [← hL] at HAL HXL
            have HL := Lib.hid hL
            have hL256 := HXL.out
            clear hxs hL HXL
            go_wp2_with (first
              | (go_at_call 16; ((with_reducible refine HAL.out.mono ?_); rintro e w4 ⟨ad4, cap4, rfl, ha4, hg4⟩; have H4 := Lib.hid (H3.out.grown hg4); have HA4 := Lib.hid ha4; have hq4 := (hg4.block _ (lt_of HQ.out) (by simp)).trans HQ.out; have HQ4 := Lib.hid hq4; clear ha4 hg4 hq4))
              | fail)
            clear HAL
            go_loopw [57, 10] (fun i l wr => ∃ (k : Nat) (last : Int), k ≤ L ∧ i = .int .i64 (k : Int) ∧ l = .int .i64 last ∧ (∀ y, xs[k]? = some y → last < y) ∧ wr = w4) (fun i _ _ => L - (intOf i).toNat)
            case atStart => exact ⟨0, -1, Nat.zero_le _, rfl, rfl, fun y hy => by have := HXD.out y ((HXM.out y).1 (List.mem_of_getElem? hy)); omega, rfl⟩
            case round =>
              obtain ⟨k, last, hkL, rfl, rfl, hla, rfl⟩ := hrel
              have HLA := Lib.hid hla
              clear hla
              by_cases hlt2 : k < L
              · obtain ⟨y, hy⟩ : ∃ y, xs[k]? = some y := ⟨_, List.getElem?_eq_getElem (by have := HL.out; omega)⟩
                obtain ⟨g4, o4, rfl, hc4⟩ := HA4.out k y hy
                have hle : decide (y ≤ last) = false := by have := HLA.out y hy; simp; omega
                have hany : NS.any y = true := (HXM.out y).1 (List.mem_of_getElem? hy)
                unfold Ms.any at hany
                have HHS : Hid (∀ (W : World), Own wb W t b N NS → _) := Lib.hid fun W h => own_has h y _ _ rfl rfl
                generalize NS.r y = R at hany HHS
                generalize NS.w y = W' at hany HHS
                have HY := Lib.hid hy
                clear hy
                cases R <;> cases W' <;> (first | (exact absurd hany (by decide)) | skip)
                all_goals
                  clear hany
                  go_wp2_with (first | (go_at_call 15; ((with_reducible refine (HHS.out _ H4.out).mono ?_); rintro e w5 ⟨rfl, rfl⟩)) | fail)
                  go_roundw
                  case rel => exact ⟨k + 1, y, by omega, by go_num, rfl, fun z hz => rising_next HXR.out HY.out hz, by simp⟩
                  case measure => simp [intOf]; omega
              · have q1 : wr.cell? ⟨wo.heap.size, 1, none⟩ = some (.int .i64 b2) := by simp [World.cell?, HQ4.out]
                have HHS : Hid (∀ (W : World), Own wb W t b N NS → _) := Lib.hid fun W h => own_has h b2 _ _ rfl rfl
                have HCO := Lib.hid (contains_any xs ad4 L cap4 b2 _ HL.out (by omega) HA4.out)
                have hcm : decide (b2 ∈ xs) = (NS.r b2 || NS.w b2) := by rw [Bool.eq_iff_iff]; simp only [decide_eq_true_eq]; exact HXM.out b2
                rw [hcm] at HCO
                clear hcm
                generalize NS.r b2 = R at HHS HCO
                generalize NS.w b2 = W' at HHS HCO
                cases R <;> cases W'
                all_goals
                  simp only [Bool.or_true, Bool.or_false, Bool.true_or, Bool.false_or] at HCO
                  go_wp2_with (first
                    | (go_at_call 15; ((with_reducible refine (HHS.out _ H4.out).mono ?_); rintro e w5 ⟨rfl, rfl⟩))
                    | (go_at_call 27; ((with_reducible refine HCO.out.mono ?_); rintro e w6 ⟨rfl, rfl⟩))
                    | fail)
                  go_roundw
                  case rel => exact ⟨j + 1, NS, by omega, by go_num, H4.out⟩
                  case measure => simp [intOf]; omega
          · have k0 : (kd == 0) = false := by simpa using hk0
            have k1 : (kd == 1) = false := by simpa using hk1
            have k2 : (kd == 2) = false := by simpa using hk2
            clear hk0 hk1 hk2
            have HO2 := Lib.hid (HO.out.grown (w2 := wo.alloc (.cells #[.int .i64 kd, .int .i64 b2, .int .u8 x] 42)) (grown_alloc (grown_refl _ _) _))
            have HQ2 : Hid ((wo.alloc (.cells #[.int .i64 kd, .int .i64 b2, .int .u8 x] 42)).heap[wo.heap.size]? = some (.cells #[.int .i64 kd, .int .i64 b2, .int .u8 x] 42 (0, 0))) := Lib.hid (heap_alloc_new _ _)
            have HQ := Lib.hid HQ2.out
            have HAL := Lib.hid (own_allk HO2.out)
            have HXL : Hid ((keys N s).length ≤ 256) := Lib.hid (Nat.le_trans (keys_len N s) HO2.out.mq.small)
            have HXR := Lib.hid (keys_rising N s)
            have HXM : Hid (∀ x, x ∈ keys N s ↔ s.any x = true) := Lib.hid (fun x => keys_mem HO2.out.mq.dom x)
            have HXD := Lib.hid HO2.out.mq.dom
            generalize hxs : keys N s = xs at HAL HXL HXR HXM
            obtain ⟨L, hL⟩ : ∃ L, L = xs.length := ⟨_, rfl⟩
            rw [← hL] at HAL HXL
            have HL := Lib.hid hL
            have hL256 := HXL.out
            clear hxs hL HXL
            go_wp2_with (first
              | (go_at_call 16; ((with_reducible refine HAL.out.mono ?_); rintro e w4 ⟨ad4, cap4, rfl, ha4, hg4⟩; have H4 := Lib.hid (HO2.out.grown hg4); have HA4 := Lib.hid ha4; have hq4 := (hg4.block _ (lt_of HQ.out) (by simp)).trans HQ.out; have HQ4 := Lib.hid hq4; clear ha4 hg4 hq4))
              | fail)
            clear HAL
            go_loopw [57, 10] (fun i l wr => ∃ (k : Nat) (last : Int), k ≤ L ∧ i = .int .i64 (k : Int) ∧ l = .int .i64 last ∧ (∀ y, xs[k]? = some y → last < y) ∧ wr = w4) (fun i _ _ => L - (intOf i).toNat)
            case atStart => exact ⟨0, -1, Nat.zero_le _, rfl, rfl, fun y hy => by have := HXD.out y ((HXM.out y).1 (List.mem_of_getElem? hy)); omega, rfl⟩
            case round =>
              obtain ⟨k, last, hkL, rfl, rfl, hla, rfl⟩ := hrel
              have HLA := Lib.hid hla
              clear hla
              by_cases hlt2 : k < L
              · obtain ⟨y, hy⟩ : ∃ y, xs[k]? = some y := ⟨_, List.getElem?_eq_getElem (by have := HL.out; omega)⟩
                obtain ⟨g4, o4, rfl, hc4⟩ := HA4.out k y hy
                have hle : decide (y ≤ last) = false := by have := HLA.out y hy; simp; omega
                have hany : s.any y = true := (HXM.out y).1 (List.mem_of_getElem? hy)
                unfold Ms.any at hany
                have HHS : Hid (∀ (W : World), Own wb W t b N s → _) := Lib.hid fun W h => own_has h y _ _ rfl rfl
                generalize s.r y = R at hany HHS
                generalize s.w y = W' at hany HHS
                have HY := Lib.hid hy
                clear hy
                cases R <;> cases W' <;> (first | (exact absurd hany (by decide)) | skip)
                all_goals
                  clear hany
                  go_wp2_with (first | (go_at_call 15; ((with_reducible refine (HHS.out _ H4.out).mono ?_); rintro e w5 ⟨rfl, rfl⟩)) | fail)
                  go_roundw
                  case rel => exact ⟨k + 1, y, by omega, by go_num, rfl, fun z hz => rising_next HXR.out HY.out hz, by simp⟩
                  case measure => simp [intOf]; omega
              · have q1 : wr.cell? ⟨wo.heap.size, 1, none⟩ = some (.int .i64 b2) := by simp [World.cell?, HQ4.out]
                have HHS : Hid (∀ (W : World), Own wb W t b N s → _) := Lib.hid fun W h => own_has h b2 _ _ rfl rfl
                have HCO := Lib.hid (contains_any xs ad4 L cap4 b2 _ HL.out (by omega) HA4.out)
                have hcm : decide (b2 ∈ xs) = (s.r b2 || s.w b2) := by rw [Bool.eq_iff_iff]; simp only [decide_eq_true_eq]; exact HXM.out b2
                rw [hcm] at HCO
                clear hcm
                generalize s.r b2 = R at HHS HCO
                generalize s.w b2 = W' at HHS HCO
                cases R <;> cases W'
                all_goals
                  simp only [Bool.or_true, Bool.or_false, Bool.true_or, Bool.false_or] at HCO
                  go_wp2_with (first
                    | (go_at_call 15; ((with_reducible refine (HHS.out _ H4.out).mono ?_); rintro e w5 ⟨rfl, rfl⟩))
                    | (go_at_call 27; ((with_reducible refine HCO.out.mono ?_); rintro e w6 ⟨rfl, rfl⟩))
                    | fail)
                  go_roundw
                  case rel => exact ⟨j + 1, s, by omega, by go_num, H4.out⟩
                  case measure => simp [intOf]; omega
    · go_wp2_with (go_at_call 10; ((with_reducible refine (HW.out _ HO.out.old).mono ?_); rintro e w6 ⟨rfl, hg6⟩; have HG6 := Lib.hid (grown_trans HO.out.old hg6); clear hg6))
      go_ret
      exact ⟨rfl, HFIN.out _ HG6.out⟩
theorem all_true (c : Cfg) (os : List OpX) (ad : Option Addr) (len cap : Nat) (w : World) (hT : Tab w) (hlen : len = os.length) (hat : OpsAt w ad os) : Calls Tryd.prog 7 #[.agg c.cells, .slice ad len cap] w fun e w' => e = .returned (.bool true) ∧ w.grownBy w' none := by
  by_cases h : 300 < len
  · exact all_long c ad len cap w hT h
  · by_cases hm : c.may
    · exact all_some c os ad len cap w hT hlen hat (by omega) hm
    · exact all_no c ad len cap w hT (by omega) hm
end Go.Proofs.YtegaalhbebibgaaDoor.mrk
