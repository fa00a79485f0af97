/-
  The law MarksApart returns true: the walk. Condition: the table of bounds lies in its variable as the program's text has it; that the script lies where the argument says.
-/
import Derived.Test.YtegaalhbebibgaaDoorMkP
namespace Go.Proofs.YtegaalhbebibgaaDoor.mrk
open Go Go.ChangeShapes Go.WideShapes Go.ChangeAt Go.RowKit Go.Maps Go.Sort
open Go.Proofs.YtegaalhbebibgaaDoor.tt (Cfg Tab CfgAt cfg_at grown_refl grown_alloc grown_trans grown_drew grown_drewN lt_of)
set_option linter.unusedVariables false
set_option maxRecDepth 1000000

theorem rdS_r (N : Nat) (s : Ms) (k q : Int) : (rdS N s k).r q = (if addE N k = 0 ∧ q = k then true else s.r q) := by
  unfold rdS
  by_cases h : addE N k = 0
  · rw [if_pos h]; simp only [Ms.rd, h, true_and]
  · rw [if_neg h, if_neg (fun e => h e.1)]
theorem rdS_w (N : Nat) (s : Ms) (k q : Int) : (rdS N s k).w q = s.w q := by
  unfold rdS
  by_cases h : addE N k = 0
  · rw [if_pos h]; rfl
  · rw [if_neg h]
theorem wrS_w (N : Nat) (s : Ms) (k q : Int) : (wrS N s k).w q = (if addE N k = 0 ∧ q = k then true else s.w q) := by
  unfold wrS
  by_cases h : addE N k = 0
  · rw [if_pos h]; simp only [Ms.wr, h, true_and]
  · rw [if_neg h, if_neg (fun e => h e.1)]
theorem wrS_r (N : Nat) (s : Ms) (k q : Int) : (wrS N s k).r q = s.r q := by
  unfold wrS
  by_cases h : addE N k = 0
  · rw [if_pos h]; rfl
  · rw [if_neg h]
theorem own_has {w w1 : World} {t b N : Nat} {s : Ms} (h : Own w w1 t b N s) (k : Int) (X Y : Bool) (hX : s.r k = X) (hY : s.w k = Y) : Calls Tryd.prog 15 #[.pointer (some ⟨t, 0, none⟩), .int .i64 k] w1 fun e w' => e = .returned (.tuple #[.bool X, .bool Y]) ∧ w1 = w' := by
  subst hX hY; exact has_any h.mq k
theorem addE_cases (N : Nat) (k : Int) : addE N k = 0 ∨ addE N k = 2 := by
  unfold addE
  by_cases h : k < 0 ∨ (N : Int) ≤ k
  · rw [if_pos h]; exact .inr rfl
  · rw [if_neg h]; exact .inl rfl

set_option maxHeartbeats 1000000 in
theorem apart_long (c : Cfg) (ad : Option Addr) (len cap : Nat) (q : Int) (w : World) (hT : Tab w) (h : 300 < len) : Calls Tryd.prog 6 #[.agg c.cells, .slice ad len cap, .int .i64 q] w fun e w' => e = .returned (.bool true) ∧ w.grownBy w' none := by
  have hd : decide ((300 : Int) < (len : Int)) = true := by simp; omega
  have hg0 : w.grownBy (w.alloc (.cells c.cells 27)) none := grown_alloc (grown_refl _ _) _
  have HW := Lib.hid (works_any _ (hT.grown hg0))
  have HG0 := Lib.hid hg0
  clear hT h hg0
  unfold Cfg.cells at *
  go_enter Tryd.func6, Tryd.ntmps6
  go_wp2_with (go_at_call 10; ((with_reducible refine HW.out.mono ?_); rintro e w3 ⟨rfl, hg3⟩; have HG3 := Lib.hid hg3; clear hg3))
  go_ret
  exact ⟨rfl, grown_trans HG0.out HG3.out⟩
set_option maxHeartbeats 1000000 in
theorem apart_no (c : Cfg) (ad : Option Addr) (len cap : Nat) (q : Int) (w : World) (hT : Tab w) (h : len ≤ 300) (hm : ¬ c.may) : Calls Tryd.prog 6 #[.agg c.cells, .slice ad len cap, .int .i64 q] w fun e w' => e = .returned (.bool true) ∧ w.grownBy w' none := by
  have hd : decide ((300 : Int) < (len : Int)) = false := by simp; omega
  have hg0 : w.grownBy (w.alloc (.cells c.cells 27)) none := grown_alloc (grown_refl _ _) _
  have HN := Lib.hid (new_no c _ (hT.grown hg0) hm)
  have HW : Hid (∀ w', w.grownBy w' none → _) := Lib.hid (fun w' h => works_any w' (hT.grown h))
  obtain ⟨c0, c1, c2, c3, c4, c5, c6, c7⟩ := cfg_at w c
  have HG0 := Lib.hid hg0
  clear hT h hm hg0
  unfold Cfg.cells at HN HG0 c0 c1 c2 c3 c4 c5 c6 c7 ⊢
  go_enter Tryd.func6, Tryd.ntmps6
  go_wp2_with (first
    | (go_at_call 8; ((with_reducible refine HN.out.mono ?_); rintro e w2 ⟨rfl, hg2⟩; have HG2 := Lib.hid (grown_trans HG0.out hg2); clear hg2))
    | (go_at_call 10; ((with_reducible refine (HW.out _ HG2.out).mono ?_); rintro e w3 ⟨rfl, hg3⟩; have HG3 := Lib.hid (grown_trans HG2.out hg3); clear hg3)))
  go_ret
  exact ⟨rfl, HG3.out⟩
set_option maxHeartbeats 8000000 in
theorem apart_some (c : Cfg) (os : List OpX) (ad : Option Addr) (len cap : Nat) (q : Int) (w : World) (hT : Tab w) (hlen : len = os.length) (hat : OpsAt w ad os) (h : len ≤ 300) (hm : c.may) : Calls Tryd.prog 6 #[.agg c.cells, .slice ad len cap, .int .i64 q] w fun e w' => e = .returned (.bool true) ∧ w.grownBy w' none := by
  obtain ⟨N, hN, hN1, hN2⟩ := cfg_nat hm
  have hd : decide ((300 : Int) < (len : Int)) = false := by simp; omega
  have hg0 : w.grownBy (w.alloc (.cells c.cells 27)) none := grown_alloc (grown_refl _ _) _
  have HN := Lib.hid (own_new c N _ (hT.grown hg0) hm hN hN2)
  have HW : Hid (∀ w', w.grownBy w' none → _) := Lib.hid (fun w' h => works_any w' (hT.grown h))
  obtain ⟨c0, c1, c2, c3, c4, c5, c6, c7⟩ := cfg_at w c
  have HG0 := Lib.hid hg0
  have HLEN := Lib.hid hlen
  have H300 := Lib.hid h
  have HAT := Lib.hid (fun w' (h : w.grownBy w' none) => hat.grown h)
  clear hT hm hN hN1 hN2 hg0 hlen hat h
  unfold Cfg.cells at HN HG0 c0 c1 c2 c3 c4 c5 c6 c7 ⊢
  go_enter Tryd.func6, Tryd.ntmps6
  go_wp2_with (go_at_call 8; ((with_reducible refine HN.out.mono ?_); rintro e w2 ⟨t, b, rfl, ho2⟩; have H2 := Lib.hid ho2; clear ho2 c0 c1 c2 c3 c4 c5 c6 c7))
  clear HN
  obtain ⟨wb, hwb⟩ : ∃ wb, w.alloc (.cells #[.int .i64 c.co, .int .i64 c.se, .int .i64 c.wa, .int .i64 c.bl, .int .i64 c.lo, .int .i64 c.ba, .int .i64 c.ne, .int .i64 c.tr] 27) = wb := ⟨_, rfl⟩
  rw [hwb] at H2 HG0
  have HAT := Lib.hid fun (w' : World) (h : wb.grownBy w' none) => HAT.out w' (grown_trans HG0.out h)
  have HW := Lib.hid fun (w' : World) (h : wb.grownBy w' none) => HW.out w' (grown_trans HG0.out h)
  have HFIN := Lib.hid fun (w' : World) (h : wb.grownBy w' none) => grown_trans HG0.out h
  clear hwb HG0
  go_loopw [29, 9, 10] (fun i r x wr => ∃ (j : Nat) (s : Ms), j ≤ len ∧ i = .int .i64 (j : Int) ∧ r = .bool (s.r q) ∧ x = .bool (s.w q) ∧ Own wb wr t b N s) (fun i _ _ _ => len - (intOf i).toNat)
  case atStart => exact ⟨0, Ms.zero, Nat.zero_le _, rfl, rfl, rfl, H2.out⟩
  case round =>
    clear H2
    obtain ⟨j, s, hj, rfl, rfl, rfl, ho⟩ := hrel
    have HO := Lib.hid ho
    have hj300 : j ≤ 300 := by have := H300.out; omega
    clear ho
    by_cases hlt : j < len
    · obtain ⟨⟨kd, b2, x⟩, hx⟩ : ∃ y, os[j]? = some y := ⟨_, List.getElem?_eq_getElem (by have := HLEN.out; omega)⟩
      obtain ⟨bp, op, rfl, hr0, hr1, hr2⟩ := HAT.out _ HO.out.old j _ hx
      clear hx
      dsimp only at hr0 hr1 hr2
      by_cases hk0 : kd = 0
      · subst hk0
        rcases addE_cases N b2 with he | he
        · by_cases hbq : b2 = q
          · have HO2 := Lib.hid (HO.out.grown (w2 := wr.alloc (.cells #[.int .i64 0, .int .i64 b2, .int .u8 x] 42)) (grown_alloc (grown_refl _ _) _))
            have HQ2 : Hid ((wr.alloc (.cells #[.int .i64 0, .int .i64 b2, .int .u8 x] 42)).heap[wr.heap.size]? = some (.cells #[.int .i64 0, .int .i64 b2, .int .u8 x] 42 (0, 0))) := Lib.hid (heap_alloc_new _ _)
            have HRD := Lib.hid (own_read HO2.out b2)
            rw [he] at HRD
            obtain ⟨NS, hNS⟩ : ∃ NS, NS = rdS N s b2 := ⟨_, rfl⟩
            rw [← hNS] at HRD
            have hv1 : NS.r q = true := by rw [hNS, rdS_r, if_pos ⟨he, hbq.symm⟩]
            have hv2 : NS.w q = s.w q := by rw [hNS, rdS_w]
            have eb : (b2 == q) = true := by simpa using hbq
            clear hNS he hbq
            generalize hX : s.r q = X at hv1 hv2 ⊢
            generalize hY : s.w q = Y at hv1 hv2 ⊢
            have HH : Hid (∀ (W : World), Own wb W t b N NS → _) := Lib.hid fun W h => own_has h q _ _ hv1 hv2
            have HV1 := Lib.hid hv1
            have HV2 := Lib.hid hv2
            have e1 : (X != X) = false := by simp
            have e2 : (Y != Y) = false := by simp
            clear hX hY hv1 hv2
            go_wp2_with (first
              | (go_at_call 11; ((with_reducible refine HRD.out.mono ?_); rintro e w3 ⟨rfl, ho3, hg3⟩; have H3 := Lib.hid ho3; have hq3 := HO2.out.cells hg3 HQ2.out; have q0 : w3.cell? ⟨wr.heap.size, 0, none⟩ = some (.int .i64 0) := (by simp [World.cell?, hq3]); have q1 : w3.cell? ⟨wr.heap.size, 1, none⟩ = some (.int .i64 b2) := (by simp [World.cell?, hq3]); clear ho3 hg3 hq3))
              | (go_at_call 15; ((with_reducible refine (HH.out _ H3.out).mono ?_); rintro e w4 ⟨rfl, rfl⟩))
              | fail)
            go_roundw
            case rel => exact ⟨j + 1, NS, by omega, by go_num, by rw [HV1.out], by rw [HV2.out], H3.out⟩
            case measure => simp [intOf]; omega
          · have HO2 := Lib.hid (HO.out.grown (w2 := wr.alloc (.cells #[.int .i64 0, .int .i64 b2, .int .u8 x] 42)) (grown_alloc (grown_refl _ _) _))
            have HQ2 : Hid ((wr.alloc (.cells #[.int .i64 0, .int .i64 b2, .int .u8 x] 42)).heap[wr.heap.size]? = some (.cells #[.int .i64 0, .int .i64 b2, .int .u8 x] 42 (0, 0))) := Lib.hid (heap_alloc_new _ _)
            have HRD := Lib.hid (own_read HO2.out b2)
            rw [he] at HRD
            obtain ⟨NS, hNS⟩ : ∃ NS, NS = rdS N s b2 := ⟨_, rfl⟩
            rw [← hNS] at HRD
            have hv1 : NS.r q = s.r q := by rw [hNS, rdS_r, if_neg (fun e => hbq e.2.symm)]
            have hv2 : NS.w q = s.w q := by rw [hNS, rdS_w]
            have eb : (b2 == q) = false := by simpa using hbq
            clear hNS he hbq
            generalize hX : s.r q = X at hv1 hv2 ⊢
            generalize hY : s.w q = Y at hv1 hv2 ⊢
            have HH : Hid (∀ (W : World), Own wb W t b N NS → _) := Lib.hid fun W h => own_has h q _ _ hv1 hv2
            have HV1 := Lib.hid hv1
            have HV2 := Lib.hid hv2
            have e1 : (X != X) = false := by simp
            have e2 : (Y != Y) = false := by simp
            clear hX hY hv1 hv2
            go_wp2_with (first
              | (go_at_call 11; ((with_reducible refine HRD.out.mono ?_); rintro e w3 ⟨rfl, ho3, hg3⟩; have H3 := Lib.hid ho3; have hq3 := HO2.out.cells hg3 HQ2.out; have q0 : w3.cell? ⟨wr.heap.size, 0, none⟩ = some (.int .i64 0) := (by simp [World.cell?, hq3]); have q1 : w3.cell? ⟨wr.heap.size, 1, none⟩ = some (.int .i64 b2) := (by simp [World.cell?, hq3]); clear ho3 hg3 hq3))
              | (go_at_call 15; ((with_reducible refine (HH.out _ H3.out).mono ?_); rintro e w4 ⟨rfl, rfl⟩))
              | fail)
            go_roundw
            case rel => exact ⟨j + 1, NS, by omega, by go_num, by rw [HV1.out], by rw [HV2.out], H3.out⟩
            case measure => simp [intOf]; omega
        · have HO2 := Lib.hid (HO.out.grown (w2 := wr.alloc (.cells #[.int .i64 0, .int .i64 b2, .int .u8 x] 42)) (grown_alloc (grown_refl _ _) _))
          have HQ2 : Hid ((wr.alloc (.cells #[.int .i64 0, .int .i64 b2, .int .u8 x] 42)).heap[wr.heap.size]? = some (.cells #[.int .i64 0, .int .i64 b2, .int .u8 x] 42 (0, 0))) := Lib.hid (heap_alloc_new _ _)
          have HRD := Lib.hid (own_read HO2.out b2)
          rw [he] at HRD
          obtain ⟨NS, hNS⟩ : ∃ NS, NS = rdS N s b2 := ⟨_, rfl⟩
          rw [← hNS] at HRD
          have hv1 : NS.r q = s.r q := by rw [hNS, rdS_r, if_neg (fun e => by rw [he] at e; exact absurd e.1 (by decide))]
          have hv2 : NS.w q = s.w q := by rw [hNS, rdS_w]
          clear hNS he
          generalize hX : s.r q = X at hv1 hv2 ⊢
          generalize hY : s.w q = Y at hv1 hv2 ⊢
          have HH : Hid (∀ (W : World), Own wb W t b N NS → _) := Lib.hid fun W h => own_has h q _ _ hv1 hv2
          have HV1 := Lib.hid hv1
          have HV2 := Lib.hid hv2
          have e1 : (X != X) = false := by simp
          have e2 : (Y != Y) = false := by simp
          clear hX hY hv1 hv2
          go_wp2_with (first
            | (go_at_call 11; ((with_reducible refine HRD.out.mono ?_); rintro e w3 ⟨rfl, ho3, hg3⟩; have H3 := Lib.hid ho3; have hq3 := HO2.out.cells hg3 HQ2.out; have q0 : w3.cell? ⟨wr.heap.size, 0, none⟩ = some (.int .i64 0) := (by simp [World.cell?, hq3]); have q1 : w3.cell? ⟨wr.heap.size, 1, none⟩ = some (.int .i64 b2) := (by simp [World.cell?, hq3]); clear ho3 hg3 hq3))
            | (go_at_call 15; ((with_reducible refine (HH.out _ H3.out).mono ?_); rintro e w4 ⟨rfl, rfl⟩))
            | fail)
          go_roundw
          case rel => exact ⟨j + 1, NS, by omega, by go_num, by rw [HV1.out], by rw [HV2.out], H3.out⟩
          case measure => simp [intOf]; omega
      · skip
        by_cases hk1 : kd = 1
        · subst hk1
          clear hk0
          rcases addE_cases N b2 with he | he
          · by_cases hbq : b2 = q
            · have HO2 := Lib.hid (HO.out.grown (w2 := wr.alloc (.cells #[.int .i64 1, .int .i64 b2, .int .u8 x] 42)) (grown_alloc (grown_refl _ _) _))
              have HQ2 : Hid ((wr.alloc (.cells #[.int .i64 1, .int .i64 b2, .int .u8 x] 42)).heap[wr.heap.size]? = some (.cells #[.int .i64 1, .int .i64 b2, .int .u8 x] 42 (0, 0))) := Lib.hid (heap_alloc_new _ _)
              have HRD := Lib.hid (own_write HO2.out b2)
              rw [he] at HRD
              obtain ⟨NS, hNS⟩ : ∃ NS, NS = wrS N s b2 := ⟨_, rfl⟩
              rw [← hNS] at HRD
              have hv1 : NS.w q = true := by rw [hNS, wrS_w, if_pos ⟨he, hbq.symm⟩]
              have hv2 : NS.r q = s.r q := by rw [hNS, wrS_r]
              have eb : (b2 == q) = true := by simpa using hbq
              clear hNS he hbq
              generalize hX : s.r q = X at hv1 hv2 ⊢
              generalize hY : s.w q = Y at hv1 hv2 ⊢
              have HH : Hid (∀ (W : World), Own wb W t b N NS → _) := Lib.hid fun W h => own_has h q _ _ hv2 hv1
              have HV1 := Lib.hid hv1
              have HV2 := Lib.hid hv2
              have e1 : (X != X) = false := by simp
              have e2 : (Y != Y) = false := by simp
              clear hX hY hv1 hv2
              go_wp2_with (first
                | (go_at_call 12; ((with_reducible refine HRD.out.mono ?_); rintro e w3 ⟨rfl, ho3, hg3⟩; have H3 := Lib.hid ho3; have hq3 := HO2.out.cells hg3 HQ2.out; have q0 : w3.cell? ⟨wr.heap.size, 0, none⟩ = some (.int .i64 1) := (by simp [World.cell?, hq3]); have q1 : w3.cell? ⟨wr.heap.size, 1, none⟩ = some (.int .i64 b2) := (by simp [World.cell?, hq3]); clear ho3 hg3 hq3))
                | (go_at_call 15; ((with_reducible refine (HH.out _ H3.out).mono ?_); rintro e w4 ⟨rfl, rfl⟩))
                | fail)
              go_roundw
              case rel => exact ⟨j + 1, NS, by omega, by go_num, by rw [HV2.out], by rw [HV1.out], H3.out⟩
              case measure => simp [intOf]; omega
            · have HO2 := Lib.hid (HO.out.grown (w2 := wr.alloc (.cells #[.int .i64 1, .int .i64 b2, .int .u8 x] 42)) (grown_alloc (grown_refl _ _) _))
              have HQ2 : Hid ((wr.alloc (.cells #[.int .i64 1, .int .i64 b2, .int .u8 x] 42)).heap[wr.heap.size]? = some (.cells #[.int .i64 1, .int .i64 b2, .int .u8 x] 42 (0, 0))) := Lib.hid (heap_alloc_new _ _)
              have HRD := Lib.hid (own_write HO2.out b2)
              rw [he] at HRD
              obtain ⟨NS, hNS⟩ : ∃ NS, NS = wrS N s b2 := ⟨_, rfl⟩
              rw [← hNS] at HRD
              have hv1 : NS.w q = s.w q := by rw [hNS, wrS_w, if_neg (fun e => hbq e.2.symm)]
              have hv2 : NS.r q = s.r q := by rw [hNS, wrS_r]
              have eb : (b2 == q) = false := by simpa using hbq
              clear hNS he hbq
              generalize hX : s.r q = X at hv1 hv2 ⊢
              generalize hY : s.w q = Y at hv1 hv2 ⊢
              have HH : Hid (∀ (W : World), Own wb W t b N NS → _) := Lib.hid fun W h => own_has h q _ _ hv2 hv1
              have HV1 := Lib.hid hv1
              have HV2 := Lib.hid hv2
              have e1 : (X != X) = false := by simp
              have e2 : (Y != Y) = false := by simp
              clear hX hY hv1 hv2
              go_wp2_with (first
                | (go_at_call 12; ((with_reducible refine HRD.out.mono ?_); rintro e w3 ⟨rfl, ho3, hg3⟩; have H3 := Lib.hid ho3; have hq3 := HO2.out.cells hg3 HQ2.out; have q0 : w3.cell? ⟨wr.heap.size, 0, none⟩ = some (.int .i64 1) := (by simp [World.cell?, hq3]); have q1 : w3.cell? ⟨wr.heap.size, 1, none⟩ = some (.int .i64 b2) := (by simp [World.cell?, hq3]); clear ho3 hg3 hq3))
                | (go_at_call 15; ((with_reducible refine (HH.out _ H3.out).mono ?_); rintro e w4 ⟨rfl, rfl⟩))
                | fail)
              go_roundw
              case rel => exact ⟨j + 1, NS, by omega, by go_num, by rw [HV2.out], by rw [HV1.out], H3.out⟩
              case measure => simp [intOf]; omega
          · have HO2 := Lib.hid (HO.out.grown (w2 := wr.alloc (.cells #[.int .i64 1, .int .i64 b2, .int .u8 x] 42)) (grown_alloc (grown_refl _ _) _))
            have HQ2 : Hid ((wr.alloc (.cells #[.int .i64 1, .int .i64 b2, .int .u8 x] 42)).heap[wr.heap.size]? = some (.cells #[.int .i64 1, .int .i64 b2, .int .u8 x] 42 (0, 0))) := Lib.hid (heap_alloc_new _ _)
            have HRD := Lib.hid (own_write HO2.out b2)
            rw [he] at HRD
            obtain ⟨NS, hNS⟩ : ∃ NS, NS = wrS N s b2 := ⟨_, rfl⟩
            rw [← hNS] at HRD
            have hv1 : NS.w q = s.w q := by rw [hNS, wrS_w, if_neg (fun e => by rw [he] at e; exact absurd e.1 (by decide))]
            have hv2 : NS.r q = s.r q := by rw [hNS, wrS_r]
            clear hNS he
            generalize hX : s.r q = X at hv1 hv2 ⊢
            generalize hY : s.w q = Y at hv1 hv2 ⊢
            have HH : Hid (∀ (W : World), Own wb W t b N NS → _) := Lib.hid fun W h => own_has h q _ _ hv2 hv1
            have HV1 := Lib.hid hv1
            have HV2 := Lib.hid hv2
            have e1 : (X != X) = false := by simp
            have e2 : (Y != Y) = false := by simp
            clear hX hY hv1 hv2
            go_wp2_with (first
              | (go_at_call 12; ((with_reducible refine HRD.out.mono ?_); rintro e w3 ⟨rfl, ho3, hg3⟩; have H3 := Lib.hid ho3; have hq3 := HO2.out.cells hg3 HQ2.out; have q0 : w3.cell? ⟨wr.heap.size, 0, none⟩ = some (.int .i64 1) := (by simp [World.cell?, hq3]); have q1 : w3.cell? ⟨wr.heap.size, 1, none⟩ = some (.int .i64 b2) := (by simp [World.cell?, hq3]); clear ho3 hg3 hq3))
              | (go_at_call 15; ((with_reducible refine (HH.out _ H3.out).mono ?_); rintro e w4 ⟨rfl, rfl⟩))
              | fail)
            go_roundw
            case rel => exact ⟨j + 1, NS, by omega, by go_num, by rw [HV2.out], by rw [HV1.out], H3.out⟩
            case measure => simp [intOf]; omega
        · have k0 : (kd == 0) = false := by simpa using hk0
          have k1 : (kd == 1) = false := by simpa using hk1
          clear hk0 hk1
          have HO2 := Lib.hid (HO.out.grown (w2 := wr.alloc (.cells #[.int .i64 kd, .int .i64 b2, .int .u8 x] 42)) (grown_alloc (grown_refl _ _) _))
          have HQ2 : Hid ((wr.alloc (.cells #[.int .i64 kd, .int .i64 b2, .int .u8 x] 42)).heap[wr.heap.size]? = some (.cells #[.int .i64 kd, .int .i64 b2, .int .u8 x] 42 (0, 0))) := Lib.hid (heap_alloc_new _ _)
          have HH : Hid (∀ (W : World), Own wb W t b N s → _) := Lib.hid fun W h => own_has h q _ _ rfl rfl
          generalize hX : s.r q = X at HH ⊢
          generalize hY : s.w q = Y at HH ⊢
          have HX := Lib.hid hX
          have HY := Lib.hid hY
          have e1 : (X != X) = false := by simp
          have e2 : (Y != Y) = false := by simp
          clear hX hY
          go_wp2_with (first | (go_at_call 15; ((with_reducible refine (HH.out _ HO2.out).mono ?_); rintro e w4 ⟨rfl, rfl⟩)) | fail)
          go_roundw
          case rel => exact ⟨j + 1, s, by omega, by go_num, by rw [HX.out], by rw [HY.out], HO2.out⟩
          case measure => simp [intOf]; omega
    · go_wp2_with (go_at_call 10; ((with_reducible refine (HW.out _ HO.out.old).mono ?_); rintro e w3 ⟨rfl, hg3⟩; have HG3 := Lib.hid (grown_trans HO.out.old hg3); clear hg3))
      go_ret
      exact ⟨rfl, HFIN.out _ HG3.out⟩
theorem apart_true (c : Cfg) (os : List OpX) (ad : Option Addr) (len cap : Nat) (q : Int) (w : World) (hT : Tab w) (hlen : len = os.length) (hat : OpsAt w ad os) : Calls Tryd.prog 6 #[.agg c.cells, .slice ad len cap, .int .i64 q] w fun e w' => e = .returned (.bool true) ∧ w.grownBy w' none := by
  by_cases h : 300 < len
  · exact apart_long c ad len cap q w hT h
  · by_cases hm : c.may
    · exact apart_some c os ad len cap q w hT hlen hat (by omega) hm
    · exact apart_no c ad len cap q w hT (by omega) hm
end Go.Proofs.YtegaalhbebibgaaDoor.mrk
