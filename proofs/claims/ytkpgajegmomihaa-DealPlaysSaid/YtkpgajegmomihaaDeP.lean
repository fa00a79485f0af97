/-
  The law DealPlays returns true: the walk. Conditions: the script lies where the argument says, and its words are words.
-/
import Derived.Test.YtkpgajegmomihaaDeO
namespace Go.Proofs.Ytkpgajegmomihaa.de
open Go Go.ChangeShapes Go.WideShapes Go.ChangeAt Go.RowKit
open Go.Proofs.Ytkpgajegmomihaa.tt (U zd row tyne add_lit lt_of range_grown setCells_rest heap_setCells heap_setCells_other grown_setCells grown_setRow grown_new grown_drewN grown_alloc grown_refl grown_trans grown_drew)
open Go.Proofs.Ytkpgajegmomihaa.oo (ref flag' gives older ret_bool jump_ret)
set_option linter.unusedVariables false
set_option maxRecDepth 1000000

/-- The landed deal d in g, the document's own d2 in r. -/
structure Mid (w0 w : World) (g r : Nat) (d d2 : Dl) : Prop where
  lw : Lw w0 w g d
  rf : Both w r d2
  ne : g ≠ r
  ge : w0.heap.size ≤ r
section
variable {w0 w w' : World} {g r : Nat} {d d' d2 d3 : Dl}
theorem Mid.grown (h : Mid w0 w g r d d2) (hg : w.grownBy w' none) : Mid w0 w' g r d d2 := ⟨h.lw.grown hg, h.rf.grown hg (by simp), h.ne, h.ge⟩
theorem Mid.mine (h : Mid w0 w g r d d2) (h' : Lw w0 w' g d') (hg : w.grownBy w' (some g)) : Mid w0 w' g r d' d2 := ⟨h', h.rf.grown hg (by simp; exact h.ne.symm), h.ne, h.ge⟩
theorem Mid.theirs (h : Mid w0 w g r d d2) (h' : Both w' r d3) (hg : w.grownBy w' (some r)) : Mid w0 w' g r d d3 := ⟨h.lw.other hg h.ge h.ne, h', h.ne, h.ge⟩
end
theorem both_new (w : World) (n : Int) : Both (w.alloc (.cells (da (nw n)) 47)) w.heap.size (nw n) := ⟨zs, 0, ⟨heap_alloc_new _ _⟩, fun h => (h rfl).elim, fun h => by cases h⟩
set_option maxHeartbeats 16000000 in
theorem plays_some (n : Int) (os : List OpX) (ad1 : Option Addr) (len1 cap1 : Nat) (w : World) (h1 : len1 ≤ 300) (hl1 : len1 = os.length) (ha1 : OpXAt w ad1 os) (hrg : OpXRng os) (hn1 : 1 ≤ n) (hn8 : n ≤ 8) : Calls Try.prog 4 #[.int .i64 n, .slice ad1 len1 cap1] w fun e w' => e = .returned (.bool true) ∧ w.grownBy w' none := by
  have hd : decide ((300 : Int) < (len1 : Int)) = false := by simp; omega
  have e1 : decide (n < 1) = false := decide_eq_false (by omega)
  have e8 : decide (8 < n) = false := decide_eq_false (by omega)
  have HN := Lib.hid (Lw.new n w w (grown_refl _ _) hn1 hn8)
  have HS : Hid (∀ n w, _) := Lib.hid save_any
  have HWK : Hid (∀ w, _) := Lib.hid works_any
  have HAT := Lib.hid ha1
  have HL1 := Lib.hid hl1
  have HRG := Lib.hid hrg
  have H31 := Lib.hid h1
  clear h1 hl1 ha1 hrg hn1 hn8
  go_enter Try.func4, Try.ntmps4
  go_wp2_with (first
    | (go_at_call 8; (with_reducible refine HN.out.mono ?_); rintro e w1 ⟨g0, rfl, h1, _, _⟩; have H0 := Lib.hid h1; clear h1))
  have HK0 : Hid (Mid w (w1.alloc (.cells (da (nw n)) 47)) g0 w1.heap.size (nw n) (nw n)) := Lib.hid ⟨H0.out.grown (grown_alloc (grown_refl _ _) _), both_new _ _, Nat.ne_of_lt H0.out.ltB, H0.out.gr.size⟩
  obtain ⟨r, hR⟩ : ∃ r, w1.heap.size = r := ⟨_, rfl⟩
  rw [hR] at HK0 ⊢
  clear H0 HN hR e1 e8
  go_loopw [53, 5] (fun i k wr => ∃ (j g : Nat) (d : Dl), j ≤ len1 ∧ i = .int .i64 (j : Int) ∧ k = .pointer (some ⟨g, 0, none⟩) ∧ Mid w wr g r d d) (fun i _ _ => len1 - (intOf i).toNat)
  case atStart => exact ⟨0, g0, nw n, Nat.zero_le _, rfl, rfl, HK0.out⟩
  case round =>
    clear HK0
    obtain ⟨j, g, d, hj, rfl, rfl, ho⟩ := hrel
    have HO := Lib.hid ho
    clear ho
    have hj300 : j ≤ 300 := by have := H31.out; omega
    by_cases hlt : j < len1
    · obtain ⟨⟨kd, nn, st, ca, m⟩, hq⟩ : ∃ q, os[j]? = some q := ⟨_, List.getElem?_eq_getElem (by have := HL1.out; omega)⟩
      have hrg := HRG.out _ (List.mem_of_getElem? hq)
      obtain ⟨bp, op, rfl, hr0, hr1, hr2, hr3, hr4⟩ := (HAT.out.grown HO.out.lw.gr) j _ hq
      clear hq
      dsimp only at hr0 hr1 hr2 hr3 hr4 hrg
      have HX : Hid (wr.grownBy (wr.alloc (.cells #[.int .i64 kd, .int .i64 nn, .int .u64 st, .int .u32 ca, .bool m] 49)) none) := Lib.hid (grown_alloc (grown_refl _ _) _)
      have HLX := Lib.hid (HO.out.grown HX.out)
      have HGB : Hid (g < wr.heap.size ∧ r < wr.heap.size) := Lib.hid ⟨HO.out.lw.ltB, HO.out.rf.lt⟩
      have HI := Lib.hid HO.out.lw.inv
      by_cases hk0 : kd = 0
      · subst hk0
        obtain ⟨XW, hXW⟩ : ∃ W, W = wr.alloc (.cells #[.int .i64 0, .int .i64 nn, .int .u64 st, .int .u32 ca, .bool m] 49) := ⟨_, rfl⟩
        have hb0 : XW.heap[wr.heap.size]? = some (.cells #[.int .i64 0, .int .i64 nn, .int .u64 st, .int .u32 ca, .bool m] 49 (0, 0)) := by rw [hXW]; exact heap_alloc_new _ _
        have HB0 := Lib.hid hb0
        clear hb0
        go_upto_region 15 with fail
        rw [← hXW] at HLX ⊢
        clear hXW HX
        obtain ⟨B, hB⟩ : ∃ B, wr.heap.size = B := ⟨_, rfl⟩
        rw [hB] at HB0 HGB ⊢
        clear hB
        have HK0 : Hid (XW.cell? ⟨B, 1, none⟩ = some (.int .i64 nn) ∧ XW.cell? ⟨B, 2, none⟩ = some (.int .u64 st)) := Lib.hid ⟨(op_cells HB0.out).1, (op_cells HB0.out).2.1⟩
        have HK1 : Hid (XW.drew.cell? ⟨B, 1, none⟩ = some (.int .i64 nn) ∧ XW.drew.cell? ⟨B, 2, none⟩ = some (.int .u64 st)) := Lib.hid HK0.out
        have HL1 : Hid (Mid w XW.drew g r d d) := Lib.hid (HLX.out.grown (grown_drewN (grown_refl _ _) 1))
        have HBG : Hid (∀ W, Mid w W g r d d → _) := Lib.hid fun W h => Lw.begin_ (Mid.lw h) (sN nn) st hrg.1
        have HBR : Hid (∀ W d1, Mid w W g r d1 d → _) := Lib.hid fun W d1 h => rbegin_any HI.out (Mid.rf h) (sN nn) st
        obtain ⟨d1, hd1⟩ : ∃ d1, bD d (sN nn) st = d1 := ⟨_, rfl⟩
        obtain ⟨z, hz⟩ : ∃ z, bE d st = z := ⟨_, rfl⟩
        rw [hd1, hz] at HBG HBR
        clear hd1 hz hrg
        go_region_held3 (fun W => W.cell? ⟨B, 1, none⟩ = some (.int .i64 nn) ∧ W.cell? ⟨B, 2, none⟩ = some (.int .u64 st))
          (first | exact HK0.out | exact HK1.out | exact HK2.out | exact HK3.out | exact HK4.out | exact HK5.out)
          (first
            | (go_at_call 11; ((with_reducible refine (HS.out _ _).mono ?_); rintro e w2 ⟨rfl, h2⟩); first
               | (have HL4 := Lib.hid (HL3.out.grown h2); have HK4 : Hid (w2.cell? ⟨B, 1, none⟩ = some (.int .i64 nn) ∧ w2.cell? ⟨B, 2, none⟩ = some (.int .u64 st)) := Lib.hid ⟨(h2.cell HK3.out.1 (by simp)), (h2.cell HK3.out.2 (by simp))⟩; clear h2)
               | (have HL2 := Lib.hid (HL1.out.grown h2); have HK2 : Hid (w2.cell? ⟨B, 1, none⟩ = some (.int .i64 nn) ∧ w2.cell? ⟨B, 2, none⟩ = some (.int .u64 st)) := Lib.hid ⟨(h2.cell HK1.out.1 (by simp)), (h2.cell HK1.out.2 (by simp))⟩; clear h2))
            | (go_at_call 10; ((with_reducible refine (HBG.out _ HL2.out).mono ?_); rintro e w3 ⟨rfl, h3, hg3⟩); have HL3 := Lib.hid (HL2.out.mine h3 hg3); have HK3 : Hid (w3.cell? ⟨B, 1, none⟩ = some (.int .i64 nn) ∧ w3.cell? ⟨B, 2, none⟩ = some (.int .u64 st)) := Lib.hid ⟨(hg3.cell HK2.out.1 (by have := HGB.out.1; simp; omega)), (hg3.cell HK2.out.2 (by have := HGB.out.1; simp; omega))⟩; clear h3 hg3)
            | (go_at_call 22; ((with_reducible refine (HBR.out _ _ HL4.out).mono ?_); rintro e w5 ⟨rfl, h5, hg5⟩); have HL := Lib.hid (HL4.out.theirs h5 hg5); have HK5 : Hid (w5.cell? ⟨B, 1, none⟩ = some (.int .i64 nn) ∧ w5.cell? ⟨B, 2, none⟩ = some (.int .u64 st)) := Lib.hid ⟨(hg5.cell HK4.out.1 (by have := HGB.out.2; simp; omega)), (hg5.cell HK4.out.2 (by have := HGB.out.2; simp; omega))⟩; clear h5 hg5))
        clear HK0 HK1 HK2 HK3 HK4 HK5 HL1 HL2 HL3 HL4 HBG HBR HLX
        go_upto_region 35 with fail
        obtain ⟨dd, hdd⟩ : ∃ dd, d1 = dd := ⟨_, rfl⟩
        rw [hdd] at HL
        clear hdd
        have HDe : Hid (∀ k, _) := Lib.hid fun k => depth_any (HL.out.grown (grown_drewN (grown_refl _ _) k)).lw.at_
        have HFa : Hid (∀ k, _) := Lib.hid fun k => failing_any (HL.out.grown (grown_drewN (grown_refl _ _) k)).lw.at_
        have HFl : Hid (∀ k, _) := Lib.hid fun k => flag_any (HL.out.grown (grown_drewN (grown_refl _ _) k)).lw.at_
        have HSt : Hid (∀ k, _) := Lib.hid fun k => stamp_any (HL.out.grown (grown_drewN (grown_refl _ _) k)).lw.at_
        have HRs : Hid (∀ k, _) := Lib.hid fun k => rstamp_any (HL.out.grown (grown_drewN (grown_refl _ _) k)).rf
        have l1 : ∀ k, (w5.drewN k).cell? ⟨r, 1, none⟩ = some (.int .i64 dd.de) := fun k => HL.out.rf.cells.2.1
        have l20 : ∀ k, (w5.drewN k).cell? ⟨r, 20, none⟩ = some (.bool dd.fl) := fun k => HL.out.rf.cells.2.2.2.1
        have l21 : ∀ k, (w5.drewN k).cell? ⟨r, 21, none⟩ = some (.bool dd.fa) := fun k => HL.out.rf.cells.2.2.2.2
        have l1' : w5.cell? ⟨r, 1, none⟩ = some (.int .i64 dd.de) := l1 0
        have l20' : w5.cell? ⟨r, 20, none⟩ = some (.bool dd.fl) := l20 0
        have l21' : w5.cell? ⟨r, 21, none⟩ = some (.bool dd.fa) := l21 0
        generalize dd.de = D0 at HDe l1 l1'
        generalize dd.fa = F0 at HFa l21 l21'
        generalize dd.fl = L0 at HFl l20 l20'
        generalize sT dd = T0 at HSt HRs
        go_quiet (first
          | (go_at_call 18; exact Calls.quiet_of_same ((HDe.out _).mono fun _ _ he => ⟨he.1, he.2.symm⟩))
          | (go_at_call 19; exact Calls.quiet_of_same ((HFa.out _).mono fun _ _ he => ⟨he.1, he.2.symm⟩))
          | (go_at_call 20; exact Calls.quiet_of_same ((HFl.out _).mono fun _ _ he => ⟨he.1, he.2.symm⟩))
          | (go_at_call 13; exact Calls.quiet_of_same ((HSt.out _).mono fun _ _ he => ⟨he.1, he.2.symm⟩))
          | (go_at_call 28; exact Calls.quiet_of_same ((HRs.out _).mono fun _ _ he => ⟨he.1, he.2.symm⟩)))
        go_wp2_with fail
        go_roundw
        case rel => exact ⟨j + 1, _, dd, by omega, by go_num, rfl, HL.out.grown (grown_drewN (grown_refl _ _) _)⟩
        case measure => simp [intOf]; omega
      · by_cases hk1 : kd = 1
        · subst hk1
          have HEN := Lib.hid HLX.out.lw.end_
          have HRE : Hid (∀ W d1, Mid w W g r d1 d → _) := Lib.hid fun W d1 h => rend_any HI.out (Mid.rf h)
          obtain ⟨d1, hd1⟩ : ∃ d1, eD d = d1 := ⟨_, rfl⟩
          obtain ⟨z, hz⟩ : ∃ z, gE d = z := ⟨_, rfl⟩
          obtain ⟨c, hc⟩ : ∃ c, eC d = c := ⟨_, rfl⟩
          rw [hd1, hz, hc] at HEN HRE
          clear hd1 hz hc hrg
          go_upto_region 35 with (first
            | (go_at_call 12; ((with_reducible refine HEN.out.mono ?_); rintro e w3 ⟨rfl, h3, hg3⟩); have HL3 := Lib.hid (HLX.out.mine h3 hg3); clear h3 hg3)
            | (go_at_call 23; ((with_reducible refine (HRE.out _ _ HL3.out).mono ?_); rintro e w5 ⟨rfl, h5, hg5⟩); have HL := Lib.hid (HL3.out.theirs h5 hg5); clear h5 hg5))
          clear HEN HRE HX HLX HL3
          obtain ⟨dd, hdd⟩ : ∃ dd, d1 = dd := ⟨_, rfl⟩
          rw [hdd] at HL
          clear hdd
          have HDe : Hid (∀ k, _) := Lib.hid fun k => depth_any (HL.out.grown (grown_drewN (grown_refl _ _) k)).lw.at_
          have HFa : Hid (∀ k, _) := Lib.hid fun k => failing_any (HL.out.grown (grown_drewN (grown_refl _ _) k)).lw.at_
          have HFl : Hid (∀ k, _) := Lib.hid fun k => flag_any (HL.out.grown (grown_drewN (grown_refl _ _) k)).lw.at_
          have HSt : Hid (∀ k, _) := Lib.hid fun k => stamp_any (HL.out.grown (grown_drewN (grown_refl _ _) k)).lw.at_
          have HRs : Hid (∀ k, _) := Lib.hid fun k => rstamp_any (HL.out.grown (grown_drewN (grown_refl _ _) k)).rf
          have l1 : ∀ k, (w5.drewN k).cell? ⟨r, 1, none⟩ = some (.int .i64 dd.de) := fun k => HL.out.rf.cells.2.1
          have l20 : ∀ k, (w5.drewN k).cell? ⟨r, 20, none⟩ = some (.bool dd.fl) := fun k => HL.out.rf.cells.2.2.2.1
          have l21 : ∀ k, (w5.drewN k).cell? ⟨r, 21, none⟩ = some (.bool dd.fa) := fun k => HL.out.rf.cells.2.2.2.2
          have l1' : w5.cell? ⟨r, 1, none⟩ = some (.int .i64 dd.de) := l1 0
          have l20' : w5.cell? ⟨r, 20, none⟩ = some (.bool dd.fl) := l20 0
          have l21' : w5.cell? ⟨r, 21, none⟩ = some (.bool dd.fa) := l21 0
          generalize dd.de = D0 at HDe l1 l1'
          generalize dd.fa = F0 at HFa l21 l21'
          generalize dd.fl = L0 at HFl l20 l20'
          generalize sT dd = T0 at HSt HRs
          go_quiet (first
            | (go_at_call 18; exact Calls.quiet_of_same ((HDe.out _).mono fun _ _ he => ⟨he.1, he.2.symm⟩))
            | (go_at_call 19; exact Calls.quiet_of_same ((HFa.out _).mono fun _ _ he => ⟨he.1, he.2.symm⟩))
            | (go_at_call 20; exact Calls.quiet_of_same ((HFl.out _).mono fun _ _ he => ⟨he.1, he.2.symm⟩))
            | (go_at_call 13; exact Calls.quiet_of_same ((HSt.out _).mono fun _ _ he => ⟨he.1, he.2.symm⟩))
            | (go_at_call 28; exact Calls.quiet_of_same ((HRs.out _).mono fun _ _ he => ⟨he.1, he.2.symm⟩)))
          go_wp2_with fail
          go_roundw
          case rel => exact ⟨j + 1, _, dd, by omega, by go_num, rfl, HL.out.grown (grown_drewN (grown_refl _ _) _)⟩
          case measure => simp [intOf]; omega
        · by_cases hk2 : kd = 2
          · subst hk2
            obtain ⟨XW, hXW⟩ : ∃ W, W = wr.alloc (.cells #[.int .i64 2, .int .i64 nn, .int .u64 st, .int .u32 ca, .bool m] 49) := ⟨_, rfl⟩
            have hb0 : XW.heap[wr.heap.size]? = some (.cells #[.int .i64 2, .int .i64 nn, .int .u64 st, .int .u32 ca, .bool m] 49 (0, 0)) := by rw [hXW]; exact heap_alloc_new _ _
            have HB0 := Lib.hid hb0
            clear hb0
            go_upto_region 21 with fail
            rw [← hXW] at HLX ⊢
            clear hXW HX
            obtain ⟨B, hB⟩ : ∃ B, wr.heap.size = B := ⟨_, rfl⟩
            rw [hB] at HB0 HGB ⊢
            clear hB
            have HK0 : Hid (XW.cell? ⟨B, 3, none⟩ = some (.int .u32 ca)) := Lib.hid (op_cells HB0.out).2.2.1
            have HK1 : Hid (XW.drew.cell? ⟨B, 3, none⟩ = some (.int .u32 ca)) := Lib.hid HK0.out
            have HL1 : Hid (Mid w XW.drew g r d d) := Lib.hid (HLX.out.grown (grown_drewN (grown_refl _ _) 1))
            have HBG : Hid (∀ W, Mid w W g r d d → _) := Lib.hid fun W h => Lw.fail_ (Mid.lw h) ca hrg.2.2.1 hrg.2.2.2
            have HBR : Hid (∀ W d1, Mid w W g r d1 d → _) := Lib.hid fun W d1 h => rfail_any HI.out (Mid.rf h) ca
            obtain ⟨d1, hd1⟩ : ∃ d1, fD d ca = d1 := ⟨_, rfl⟩
            obtain ⟨z, hz⟩ : ∃ z, gE d = z := ⟨_, rfl⟩
            rw [hd1, hz] at HBG HBR
            clear hd1 hz hrg
            go_region_held3 (fun W => W.cell? ⟨B, 3, none⟩ = some (.int .u32 ca))
              (first | exact HK0.out | exact HK1.out | exact HK3.out | exact HK5.out)
              (first
                | (go_at_call 14; ((with_reducible refine (HBG.out _ HL1.out).mono ?_); rintro e w3 ⟨rfl, h3, hg3⟩); have HL3 := Lib.hid (HL1.out.mine h3 hg3); have HK3 : Hid (w3.cell? ⟨B, 3, none⟩ = some (.int .u32 ca)) := Lib.hid (hg3.cell HK1.out (by have := HGB.out.1; simp; omega)); clear h3 hg3)
                | (go_at_call 24; ((with_reducible refine (HBR.out _ _ HL3.out).mono ?_); rintro e w5 ⟨rfl, h5, hg5⟩); have HL := Lib.hid (HL3.out.theirs h5 hg5); have HK5 : Hid (w5.cell? ⟨B, 3, none⟩ = some (.int .u32 ca)) := Lib.hid (hg5.cell HK3.out (by have := HGB.out.2; simp; omega)); clear h5 hg5))
            clear HK0 HK1 HK3 HK5 HL1 HL3 HBG HBR HLX
            go_upto_region 35 with fail
            obtain ⟨dd, hdd⟩ : ∃ dd, d1 = dd := ⟨_, rfl⟩
            rw [hdd] at HL
            clear hdd
            have HDe : Hid (∀ k, _) := Lib.hid fun k => depth_any (HL.out.grown (grown_drewN (grown_refl _ _) k)).lw.at_
            have HFa : Hid (∀ k, _) := Lib.hid fun k => failing_any (HL.out.grown (grown_drewN (grown_refl _ _) k)).lw.at_
            have HFl : Hid (∀ k, _) := Lib.hid fun k => flag_any (HL.out.grown (grown_drewN (grown_refl _ _) k)).lw.at_
            have HSt : Hid (∀ k, _) := Lib.hid fun k => stamp_any (HL.out.grown (grown_drewN (grown_refl _ _) k)).lw.at_
            have HRs : Hid (∀ k, _) := Lib.hid fun k => rstamp_any (HL.out.grown (grown_drewN (grown_refl _ _) k)).rf
            have l1 : ∀ k, (w5.drewN k).cell? ⟨r, 1, none⟩ = some (.int .i64 dd.de) := fun k => HL.out.rf.cells.2.1
            have l20 : ∀ k, (w5.drewN k).cell? ⟨r, 20, none⟩ = some (.bool dd.fl) := fun k => HL.out.rf.cells.2.2.2.1
            have l21 : ∀ k, (w5.drewN k).cell? ⟨r, 21, none⟩ = some (.bool dd.fa) := fun k => HL.out.rf.cells.2.2.2.2
            have l1' : w5.cell? ⟨r, 1, none⟩ = some (.int .i64 dd.de) := l1 0
            have l20' : w5.cell? ⟨r, 20, none⟩ = some (.bool dd.fl) := l20 0
            have l21' : w5.cell? ⟨r, 21, none⟩ = some (.bool dd.fa) := l21 0
            generalize dd.de = D0 at HDe l1 l1'
            generalize dd.fa = F0 at HFa l21 l21'
            generalize dd.fl = L0 at HFl l20 l20'
            generalize sT dd = T0 at HSt HRs
            go_quiet (first
              | (go_at_call 18; exact Calls.quiet_of_same ((HDe.out _).mono fun _ _ he => ⟨he.1, he.2.symm⟩))
              | (go_at_call 19; exact Calls.quiet_of_same ((HFa.out _).mono fun _ _ he => ⟨he.1, he.2.symm⟩))
              | (go_at_call 20; exact Calls.quiet_of_same ((HFl.out _).mono fun _ _ he => ⟨he.1, he.2.symm⟩))
              | (go_at_call 13; exact Calls.quiet_of_same ((HSt.out _).mono fun _ _ he => ⟨he.1, he.2.symm⟩))
              | (go_at_call 28; exact Calls.quiet_of_same ((HRs.out _).mono fun _ _ he => ⟨he.1, he.2.symm⟩)))
            go_wp2_with fail
            go_roundw
            case rel => exact ⟨j + 1, _, dd, by omega, by go_num, rfl, HL.out.grown (grown_drewN (grown_refl _ _) _)⟩
            case measure => simp [intOf]; omega
          · by_cases hk3 : kd = 3
            · subst hk3
              have HEN := Lib.hid HLX.out.lw.over
              have HRE : Hid (∀ W d1, Mid w W g r d1 d → _) := Lib.hid fun W d1 h => rover_any HI.out (Mid.rf h)
              obtain ⟨d1, hd1⟩ : ∃ d1, oD d = d1 := ⟨_, rfl⟩
              obtain ⟨z, hz⟩ : ∃ z, oE d = z := ⟨_, rfl⟩
              obtain ⟨c, hc⟩ : ∃ c, oC d = c := ⟨_, rfl⟩
              obtain ⟨S, hS⟩ : ∃ S, oS d = S := ⟨_, rfl⟩
              rw [hd1, hz, hc, hS] at HEN HRE
              have heq : ∀ w, (binOp .eql 31 (.agg (sa S)) (.agg (sa S))).run Try.prog w = .ok (.bool true) w := fun w => by
                have := eqS S S w
                simpa using this
              clear hd1 hz hc hS hrg
              go_upto_region 25 with (first
                | (go_at_call 15; ((with_reducible refine HEN.out.mono ?_); rintro e w3 ⟨rfl, h3, hg3⟩); have HL3 := Lib.hid ((HLX.out.mine h3 hg3).grown (grown_alloc (grown_refl w3 none) (.cells (sa S) 31))); have HV3 := Lib.hid (sv_new w3 S 31); have HV4 : Hid (w3.heap.size < (w3.alloc (.cells (sa S) 31)).heap.size ∧ r < w3.heap.size) := Lib.hid ⟨by simp, ((HLX.out.mine h3 hg3).rf).lt⟩; clear h3 hg3)
                | ((with_reducible refine store_svN S _ _ _ ?_ ?_ ?_ ?_); ((rfl)); ((rfl)); ((rfl)))
                | (go_at_call 25; ((with_reducible refine (HRE.out _ _ HL3.out).mono ?_); rintro e w5 ⟨rfl, h5, hg5⟩); have HL5 := Lib.hid (HL3.out.theirs h5 hg5); have HV5 : Hid (w5.rangeAt w3.heap.size 0 (sl S)) := Lib.hid (range_grown HV3.out hg5 (by have := HV4.out.2; simp; omega)); clear h5 hg5))
              obtain ⟨w6, hw6⟩ : ∃ w6, w5.alloc (.cells (sa S) 31) = w6 := ⟨_, rfl⟩
              have HL : Hid (Mid w w6 g r d1 d1) := Lib.hid (hw6 ▸ HL5.out.grown (grown_alloc (grown_refl _ _) _))
              have HR1 : Hid (w6.rangeAt w3.heap.size 0 (sl S)) := Lib.hid (hw6 ▸ range_grown HV5.out (grown_alloc (grown_refl w5 none) _) (by simp))
              have HR2 : Hid (w6.rangeAt w5.heap.size 0 (sl S)) := Lib.hid (hw6 ▸ sv_new w5 S _)
              rw [hw6]
              clear hw6 HL5 HV5 HV3 HV4 HL3 HEN HRE HX HLX
              go_upto_region 35 with (first
                | ((with_reducible refine load_sv S _ _ 0 ?_ HR1.out ?_); ((rfl)))
                | ((with_reducible refine load_sv S _ _ 0 ?_ HR2.out ?_); ((rfl))))
              clear heq HR1 HR2
              obtain ⟨dd, hdd⟩ : ∃ dd, d1 = dd := ⟨_, rfl⟩
              rw [hdd] at HL
              clear hdd
              have HDe : Hid (∀ k, _) := Lib.hid fun k => depth_any (HL.out.grown (grown_drewN (grown_refl _ _) k)).lw.at_
              have HFa : Hid (∀ k, _) := Lib.hid fun k => failing_any (HL.out.grown (grown_drewN (grown_refl _ _) k)).lw.at_
              have HFl : Hid (∀ k, _) := Lib.hid fun k => flag_any (HL.out.grown (grown_drewN (grown_refl _ _) k)).lw.at_
              have HSt : Hid (∀ k, _) := Lib.hid fun k => stamp_any (HL.out.grown (grown_drewN (grown_refl _ _) k)).lw.at_
              have HRs : Hid (∀ k, _) := Lib.hid fun k => rstamp_any (HL.out.grown (grown_drewN (grown_refl _ _) k)).rf
              have l1 : ∀ k, (w6.drewN k).cell? ⟨r, 1, none⟩ = some (.int .i64 dd.de) := fun k => HL.out.rf.cells.2.1
              have l20 : ∀ k, (w6.drewN k).cell? ⟨r, 20, none⟩ = some (.bool dd.fl) := fun k => HL.out.rf.cells.2.2.2.1
              have l21 : ∀ k, (w6.drewN k).cell? ⟨r, 21, none⟩ = some (.bool dd.fa) := fun k => HL.out.rf.cells.2.2.2.2
              have l1' : w6.cell? ⟨r, 1, none⟩ = some (.int .i64 dd.de) := l1 0
              have l20' : w6.cell? ⟨r, 20, none⟩ = some (.bool dd.fl) := l20 0
              have l21' : w6.cell? ⟨r, 21, none⟩ = some (.bool dd.fa) := l21 0
              generalize dd.de = D0 at HDe l1 l1'
              generalize dd.fa = F0 at HFa l21 l21'
              generalize dd.fl = L0 at HFl l20 l20'
              generalize sT dd = T0 at HSt HRs
              go_quiet (first
                | (go_at_call 18; exact Calls.quiet_of_same ((HDe.out _).mono fun _ _ he => ⟨he.1, he.2.symm⟩))
                | (go_at_call 19; exact Calls.quiet_of_same ((HFa.out _).mono fun _ _ he => ⟨he.1, he.2.symm⟩))
                | (go_at_call 20; exact Calls.quiet_of_same ((HFl.out _).mono fun _ _ he => ⟨he.1, he.2.symm⟩))
                | (go_at_call 13; exact Calls.quiet_of_same ((HSt.out _).mono fun _ _ he => ⟨he.1, he.2.symm⟩))
                | (go_at_call 28; exact Calls.quiet_of_same ((HRs.out _).mono fun _ _ he => ⟨he.1, he.2.symm⟩)))
              go_wp2_with fail
              go_roundw
              case rel => exact ⟨j + 1, _, dd, by omega, by go_num, rfl, HL.out.grown (grown_drewN (grown_refl _ _) _)⟩
              case measure => simp [intOf]; omega
            · by_cases hk4 : kd = 4
              · subst hk4
                obtain ⟨XW, hXW⟩ : ∃ W, W = wr.alloc (.cells #[.int .i64 4, .int .i64 nn, .int .u64 st, .int .u32 ca, .bool m] 49) := ⟨_, rfl⟩
                have hb0 : XW.heap[wr.heap.size]? = some (.cells #[.int .i64 4, .int .i64 nn, .int .u64 st, .int .u32 ca, .bool m] 49 (0, 0)) := by rw [hXW]; exact heap_alloc_new _ _
                have HB0 := Lib.hid hb0
                clear hb0
                go_upto_region 27 with fail
                rw [← hXW] at HLX ⊢
                clear hXW HX
                obtain ⟨B, hB⟩ : ∃ B, wr.heap.size = B := ⟨_, rfl⟩
                rw [hB] at HB0 HGB ⊢
                clear hB
                have HK0 : Hid (XW.cell? ⟨B, 2, none⟩ = some (.int .u64 st) ∧ XW.cell? ⟨B, 4, none⟩ = some (.bool m)) := Lib.hid ⟨(op_cells HB0.out).2.1, (op_cells HB0.out).2.2.2⟩
                have HK1 : Hid (XW.drew.cell? ⟨B, 2, none⟩ = some (.int .u64 st) ∧ XW.drew.cell? ⟨B, 4, none⟩ = some (.bool m)) := Lib.hid HK0.out
                have HL1 : Hid (Mid w XW.drew g r d d) := Lib.hid (HLX.out.grown (grown_drewN (grown_refl _ _) 1))
                have HBG : Hid (∀ W, Mid w W g r d d → _) := Lib.hid fun W h => Lw.asked (Mid.lw h) m st
                have HBR : Hid (∀ W d1, Mid w W g r d1 d → _) := Lib.hid fun W d1 h => rasked_any HI.out (Mid.rf h) m st hrg.1
                obtain ⟨d1, hd1⟩ : ∃ d1, aD d m st = d1 := ⟨_, rfl⟩
                obtain ⟨z, hz⟩ : ∃ z, ref (sT d) m = z := ⟨_, rfl⟩
                rw [hd1, hz] at HBG HBR
                clear hd1 hz hrg
                go_region_held3 (fun W => W.cell? ⟨B, 2, none⟩ = some (.int .u64 st) ∧ W.cell? ⟨B, 4, none⟩ = some (.bool m))
                  (first | exact HK0.out | exact HK1.out | exact HK3.out | exact HK5.out)
                  (first
                    | (go_at_call 16; ((with_reducible refine (HBG.out _ HL1.out).mono ?_); rintro e w3 ⟨rfl, h3, hg3⟩); have HL3 := Lib.hid (HL1.out.mine h3 hg3); have HK3 : Hid (w3.cell? ⟨B, 2, none⟩ = some (.int .u64 st) ∧ w3.cell? ⟨B, 4, none⟩ = some (.bool m)) := Lib.hid ⟨(hg3.cell HK1.out.1 (by have := HGB.out.1; simp; omega)), (hg3.cell HK1.out.2 (by have := HGB.out.1; simp; omega))⟩; clear h3 hg3)
                    | (go_at_call 26; ((with_reducible refine (HBR.out _ _ HL3.out).mono ?_); rintro e w5 ⟨rfl, h5, hg5⟩); have HL := Lib.hid (HL3.out.theirs h5 hg5); have HK5 : Hid (w5.cell? ⟨B, 2, none⟩ = some (.int .u64 st) ∧ w5.cell? ⟨B, 4, none⟩ = some (.bool m)) := Lib.hid ⟨(hg5.cell HK3.out.1 (by have := HGB.out.2; simp; omega)), (hg5.cell HK3.out.2 (by have := HGB.out.2; simp; omega))⟩; clear h5 hg5))
                clear HK0 HK1 HK3 HK5 HL1 HL3 HBG HBR HLX
                go_upto_region 35 with fail
                obtain ⟨dd, hdd⟩ : ∃ dd, d1 = dd := ⟨_, rfl⟩
                rw [hdd] at HL
                clear hdd
                have HDe : Hid (∀ k, _) := Lib.hid fun k => depth_any (HL.out.grown (grown_drewN (grown_refl _ _) k)).lw.at_
                have HFa : Hid (∀ k, _) := Lib.hid fun k => failing_any (HL.out.grown (grown_drewN (grown_refl _ _) k)).lw.at_
                have HFl : Hid (∀ k, _) := Lib.hid fun k => flag_any (HL.out.grown (grown_drewN (grown_refl _ _) k)).lw.at_
                have HSt : Hid (∀ k, _) := Lib.hid fun k => stamp_any (HL.out.grown (grown_drewN (grown_refl _ _) k)).lw.at_
                have HRs : Hid (∀ k, _) := Lib.hid fun k => rstamp_any (HL.out.grown (grown_drewN (grown_refl _ _) k)).rf
                have l1 : ∀ k, (w5.drewN k).cell? ⟨r, 1, none⟩ = some (.int .i64 dd.de) := fun k => HL.out.rf.cells.2.1
                have l20 : ∀ k, (w5.drewN k).cell? ⟨r, 20, none⟩ = some (.bool dd.fl) := fun k => HL.out.rf.cells.2.2.2.1
                have l21 : ∀ k, (w5.drewN k).cell? ⟨r, 21, none⟩ = some (.bool dd.fa) := fun k => HL.out.rf.cells.2.2.2.2
                have l1' : w5.cell? ⟨r, 1, none⟩ = some (.int .i64 dd.de) := l1 0
                have l20' : w5.cell? ⟨r, 20, none⟩ = some (.bool dd.fl) := l20 0
                have l21' : w5.cell? ⟨r, 21, none⟩ = some (.bool dd.fa) := l21 0
                generalize dd.de = D0 at HDe l1 l1'
                generalize dd.fa = F0 at HFa l21 l21'
                generalize dd.fl = L0 at HFl l20 l20'
                generalize sT dd = T0 at HSt HRs
                go_quiet (first
                  | (go_at_call 18; exact Calls.quiet_of_same ((HDe.out _).mono fun _ _ he => ⟨he.1, he.2.symm⟩))
                  | (go_at_call 19; exact Calls.quiet_of_same ((HFa.out _).mono fun _ _ he => ⟨he.1, he.2.symm⟩))
                  | (go_at_call 20; exact Calls.quiet_of_same ((HFl.out _).mono fun _ _ he => ⟨he.1, he.2.symm⟩))
                  | (go_at_call 13; exact Calls.quiet_of_same ((HSt.out _).mono fun _ _ he => ⟨he.1, he.2.symm⟩))
                  | (go_at_call 28; exact Calls.quiet_of_same ((HRs.out _).mono fun _ _ he => ⟨he.1, he.2.symm⟩)))
                go_wp2_with fail
                go_roundw
                case rel => exact ⟨j + 1, _, dd, by omega, by go_num, rfl, HL.out.grown (grown_drewN (grown_refl _ _) _)⟩
                case measure => simp [intOf]; omega
              · by_cases hk5 : kd = 5
                · subst hk5
                  obtain ⟨XW, hXW⟩ : ∃ W, W = wr.alloc (.cells #[.int .i64 5, .int .i64 nn, .int .u64 st, .int .u32 ca, .bool m] 49) := ⟨_, rfl⟩
                  have hb0 : XW.heap[wr.heap.size]? = some (.cells #[.int .i64 5, .int .i64 nn, .int .u64 st, .int .u32 ca, .bool m] 49 (0, 0)) := by rw [hXW]; exact heap_alloc_new _ _
                  have HB0 := Lib.hid hb0
                  clear hb0
                  go_upto_region 29 with fail
                  rw [← hXW] at HLX ⊢
                  clear hXW HX
                  obtain ⟨B, hB⟩ : ∃ B, wr.heap.size = B := ⟨_, rfl⟩
                  rw [hB] at HB0 HGB ⊢
                  clear hB
                  have HK0 : Hid (XW.cell? ⟨B, 2, none⟩ = some (.int .u64 st)) := Lib.hid (op_cells HB0.out).2.1
                  have HK1 : Hid (XW.drew.cell? ⟨B, 2, none⟩ = some (.int .u64 st)) := Lib.hid HK0.out
                  have HL1 : Hid (Mid w XW.drew g r d d) := Lib.hid (HLX.out.grown (grown_drewN (grown_refl _ _) 1))
                  have HBG : Hid (∀ W, Mid w W g r d d → _) := Lib.hid fun W h => Lw.refused (Mid.lw h) st
                  have HBR : Hid (∀ W, Mid w W g r d d → _) := Lib.hid fun W h => rrefused_any HI.out (Mid.rf h) st hrg.1
                  obtain ⟨z, hz⟩ : ∃ z, rF d st = z := ⟨_, rfl⟩
                  rw [hz] at HBG HBR
                  clear hz hrg
                  go_region_held3 (fun W => W.cell? ⟨B, 2, none⟩ = some (.int .u64 st))
                    (first | exact HK0.out | exact HK1.out | exact HK3.out | exact HK5.out)
                    (first
                      | (go_at_call 17; ((with_reducible refine (HBG.out _ HL1.out).mono ?_); rintro e w3 ⟨rfl, h3, hg3⟩); have HL3 := Lib.hid (HL1.out.grown hg3); have HK3 : Hid (w3.cell? ⟨B, 2, none⟩ = some (.int .u64 st)) := Lib.hid (hg3.cell HK1.out (by simp)); clear h3 hg3)
                      | (go_at_call 27; ((with_reducible refine (HBR.out _ HL3.out).mono ?_); rintro e w5 ⟨rfl, n5, h5⟩); have hg5 : w3.grownBy w5 none := (by rw [h5]; exact grown_drewN (grown_refl _ _) _); have HL := Lib.hid (HL3.out.grown hg5); have HK5 : Hid (w5.cell? ⟨B, 2, none⟩ = some (.int .u64 st)) := Lib.hid (hg5.cell HK3.out (by simp)); clear h5 hg5))
                  clear HK0 HK1 HK3 HK5 HL1 HL3 HBG HBR HLX
                  go_upto_region 35 with fail
                  obtain ⟨dd, hdd⟩ : ∃ dd, d = dd := ⟨_, rfl⟩
                  rw [hdd] at HL
                  clear hdd
                  have HDe : Hid (∀ k, _) := Lib.hid fun k => depth_any (HL.out.grown (grown_drewN (grown_refl _ _) k)).lw.at_
                  have HFa : Hid (∀ k, _) := Lib.hid fun k => failing_any (HL.out.grown (grown_drewN (grown_refl _ _) k)).lw.at_
                  have HFl : Hid (∀ k, _) := Lib.hid fun k => flag_any (HL.out.grown (grown_drewN (grown_refl _ _) k)).lw.at_
                  have HSt : Hid (∀ k, _) := Lib.hid fun k => stamp_any (HL.out.grown (grown_drewN (grown_refl _ _) k)).lw.at_
                  have HRs : Hid (∀ k, _) := Lib.hid fun k => rstamp_any (HL.out.grown (grown_drewN (grown_refl _ _) k)).rf
                  have l1 : ∀ k, (w5.drewN k).cell? ⟨r, 1, none⟩ = some (.int .i64 dd.de) := fun k => HL.out.rf.cells.2.1
                  have l20 : ∀ k, (w5.drewN k).cell? ⟨r, 20, none⟩ = some (.bool dd.fl) := fun k => HL.out.rf.cells.2.2.2.1
                  have l21 : ∀ k, (w5.drewN k).cell? ⟨r, 21, none⟩ = some (.bool dd.fa) := fun k => HL.out.rf.cells.2.2.2.2
                  have l1' : w5.cell? ⟨r, 1, none⟩ = some (.int .i64 dd.de) := l1 0
                  have l20' : w5.cell? ⟨r, 20, none⟩ = some (.bool dd.fl) := l20 0
                  have l21' : w5.cell? ⟨r, 21, none⟩ = some (.bool dd.fa) := l21 0
                  generalize dd.de = D0 at HDe l1 l1'
                  generalize dd.fa = F0 at HFa l21 l21'
                  generalize dd.fl = L0 at HFl l20 l20'
                  generalize sT dd = T0 at HSt HRs
                  go_quiet (first
                    | (go_at_call 18; exact Calls.quiet_of_same ((HDe.out _).mono fun _ _ he => ⟨he.1, he.2.symm⟩))
                    | (go_at_call 19; exact Calls.quiet_of_same ((HFa.out _).mono fun _ _ he => ⟨he.1, he.2.symm⟩))
                    | (go_at_call 20; exact Calls.quiet_of_same ((HFl.out _).mono fun _ _ he => ⟨he.1, he.2.symm⟩))
                    | (go_at_call 13; exact Calls.quiet_of_same ((HSt.out _).mono fun _ _ he => ⟨he.1, he.2.symm⟩))
                    | (go_at_call 28; exact Calls.quiet_of_same ((HRs.out _).mono fun _ _ he => ⟨he.1, he.2.symm⟩)))
                  go_wp2_with fail
                  go_roundw
                  case rel => exact ⟨j + 1, _, dd, by omega, by go_num, rfl, HL.out.grown (grown_drewN (grown_refl _ _) _)⟩
                  case measure => simp [intOf]; omega
                · by_cases hk6 : kd = 6
                  · subst hk6
                    have HCP := Lib.hid HLX.out.lw.copy
                    have HFL : Hid (∀ W, Lw w W g d → _) := Lib.hid fun W h => Lw.fail_ h 3 (by decide) (by decide)
                    have HOV : Hid (∀ W, Lw w W g (fD d 3) → _) := Lib.hid fun W h => Lw.over h
                    obtain ⟨d1, hd1⟩ : ∃ d1, fD d 3 = d1 := ⟨_, rfl⟩
                    obtain ⟨z, hz⟩ : ∃ z, gE d = z := ⟨_, rfl⟩
                    rw [hd1] at HFL HOV
                    rw [hz] at HFL
                    obtain ⟨z1, hz1⟩ : ∃ z, oE d1 = z := ⟨_, rfl⟩
                    obtain ⟨c1, hc1⟩ : ∃ z, oC d1 = z := ⟨_, rfl⟩
                    obtain ⟨S1, hS1⟩ : ∃ z, oS d1 = z := ⟨_, rfl⟩
                    rw [hz1, hc1, hS1] at HOV
                    clear hd1 hz hz1 hc1 hS1 hrg
                    go_upto_region 35 with (first
                      | (go_at_call 21; ((with_reducible refine HCP.out.mono ?_); rintro e w3 ⟨g', rfl, h3, h4, hne, hge, hg3⟩); have HL3 : Hid (Mid w w3 g' r d d) := Lib.hid ⟨h3, (HLX.out.grown hg3).rf, (by have := HLX.out.rf.lt; omega), HLX.out.ge⟩; have HG3 := Lib.hid h4; have HNE := Lib.hid (And.intro hne HLX.out.ne); clear h3 h4 hg3 hne hge)
                      | (go_at_call 14; ((with_reducible refine (HFL.out _ HG3.out).mono ?_); rintro e w4 ⟨rfl, h4, hg4⟩); have HG4 := Lib.hid h4; have HL4 : Hid (Mid w w4 g' r d d) := Lib.hid ⟨HL3.out.lw.other hg4 HG3.out.ge HNE.out.1, HL3.out.rf.grown hg4 (by simp; exact HNE.out.2.symm), HL3.out.ne, HL3.out.ge⟩; clear h4 hg4)
                      | (go_at_call 15; ((with_reducible refine (HOV.out _ HG4.out).mono ?_); rintro e w5 ⟨rfl, h5, hg5⟩); have HL : Hid (Mid w w5 g' r d d) := Lib.hid ⟨HL4.out.lw.other hg5 HG4.out.ge HNE.out.1, HL4.out.rf.grown hg5 (by simp; exact HNE.out.2.symm), HL4.out.ne, HL4.out.ge⟩; clear h5 hg5))
                    clear HCP HFL HOV HX HLX HL3 HG3 HG4 HL4 HNE
                    obtain ⟨dd, hdd⟩ : ∃ dd, d = dd := ⟨_, rfl⟩
                    rw [hdd] at HL
                    clear hdd
                    have HDe : Hid (∀ k, _) := Lib.hid fun k => depth_any (HL.out.grown (grown_drewN (grown_refl _ _) k)).lw.at_
                    have HFa : Hid (∀ k, _) := Lib.hid fun k => failing_any (HL.out.grown (grown_drewN (grown_refl _ _) k)).lw.at_
                    have HFl : Hid (∀ k, _) := Lib.hid fun k => flag_any (HL.out.grown (grown_drewN (grown_refl _ _) k)).lw.at_
                    have HSt : Hid (∀ k, _) := Lib.hid fun k => stamp_any (HL.out.grown (grown_drewN (grown_refl _ _) k)).lw.at_
                    have HRs : Hid (∀ k, _) := Lib.hid fun k => rstamp_any (HL.out.grown (grown_drewN (grown_refl _ _) k)).rf
                    have l1 : ∀ k, (w5.drewN k).cell? ⟨r, 1, none⟩ = some (.int .i64 dd.de) := fun k => HL.out.rf.cells.2.1
                    have l20 : ∀ k, (w5.drewN k).cell? ⟨r, 20, none⟩ = some (.bool dd.fl) := fun k => HL.out.rf.cells.2.2.2.1
                    have l21 : ∀ k, (w5.drewN k).cell? ⟨r, 21, none⟩ = some (.bool dd.fa) := fun k => HL.out.rf.cells.2.2.2.2
                    have l1' : w5.cell? ⟨r, 1, none⟩ = some (.int .i64 dd.de) := l1 0
                    have l20' : w5.cell? ⟨r, 20, none⟩ = some (.bool dd.fl) := l20 0
                    have l21' : w5.cell? ⟨r, 21, none⟩ = some (.bool dd.fa) := l21 0
                    generalize dd.de = D0 at HDe l1 l1'
                    generalize dd.fa = F0 at HFa l21 l21'
                    generalize dd.fl = L0 at HFl l20 l20'
                    generalize sT dd = T0 at HSt HRs
                    go_quiet (first
                      | (go_at_call 18; exact Calls.quiet_of_same ((HDe.out _).mono fun _ _ he => ⟨he.1, he.2.symm⟩))
                      | (go_at_call 19; exact Calls.quiet_of_same ((HFa.out _).mono fun _ _ he => ⟨he.1, he.2.symm⟩))
                      | (go_at_call 20; exact Calls.quiet_of_same ((HFl.out _).mono fun _ _ he => ⟨he.1, he.2.symm⟩))
                      | (go_at_call 13; exact Calls.quiet_of_same ((HSt.out _).mono fun _ _ he => ⟨he.1, he.2.symm⟩))
                      | (go_at_call 28; exact Calls.quiet_of_same ((HRs.out _).mono fun _ _ he => ⟨he.1, he.2.symm⟩)))
                    go_wp2_with fail
                    go_roundw
                    case rel => exact ⟨j + 1, _, dd, by omega, by go_num, rfl, HL.out.grown (grown_drewN (grown_refl _ _) _)⟩
                    case measure => simp [intOf]; omega
                  · have q0 : (kd == 0) = false := by simp [hk0]
                    have q1 : (kd == 1) = false := by simp [hk1]
                    have q2 : (kd == 2) = false := by simp [hk2]
                    have q3 : (kd == 3) = false := by simp [hk3]
                    have q4 : (kd == 4) = false := by simp [hk4]
                    have q5 : (kd == 5) = false := by simp [hk5]
                    have q6 : (kd == 6) = false := by simp [hk6]
                    go_upto_region 35 with fail
                    have HL := HLX
                    clear HX HLX q0 q1 q2 q3 q4 q5 q6 hk0 hk1 hk2 hk3 hk4 hk5 hk6
                    obtain ⟨W, hW⟩ : ∃ W, wr.alloc (.cells #[.int .i64 kd, .int .i64 nn, .int .u64 st, .int .u32 ca, .bool m] 49) = W := ⟨_, rfl⟩
                    rw [hW] at HL ⊢
                    clear hW
                    obtain ⟨dd, hdd⟩ : ∃ dd, d = dd := ⟨_, rfl⟩
                    rw [hdd] at HL
                    clear hdd
                    have HDe : Hid (∀ k, _) := Lib.hid fun k => depth_any (HL.out.grown (grown_drewN (grown_refl _ _) k)).lw.at_
                    have HFa : Hid (∀ k, _) := Lib.hid fun k => failing_any (HL.out.grown (grown_drewN (grown_refl _ _) k)).lw.at_
                    have HFl : Hid (∀ k, _) := Lib.hid fun k => flag_any (HL.out.grown (grown_drewN (grown_refl _ _) k)).lw.at_
                    have HSt : Hid (∀ k, _) := Lib.hid fun k => stamp_any (HL.out.grown (grown_drewN (grown_refl _ _) k)).lw.at_
                    have HRs : Hid (∀ k, _) := Lib.hid fun k => rstamp_any (HL.out.grown (grown_drewN (grown_refl _ _) k)).rf
                    have l1 : ∀ k, (W.drewN k).cell? ⟨r, 1, none⟩ = some (.int .i64 dd.de) := fun k => HL.out.rf.cells.2.1
                    have l20 : ∀ k, (W.drewN k).cell? ⟨r, 20, none⟩ = some (.bool dd.fl) := fun k => HL.out.rf.cells.2.2.2.1
                    have l21 : ∀ k, (W.drewN k).cell? ⟨r, 21, none⟩ = some (.bool dd.fa) := fun k => HL.out.rf.cells.2.2.2.2
                    have l1' : W.cell? ⟨r, 1, none⟩ = some (.int .i64 dd.de) := l1 0
                    have l20' : W.cell? ⟨r, 20, none⟩ = some (.bool dd.fl) := l20 0
                    have l21' : W.cell? ⟨r, 21, none⟩ = some (.bool dd.fa) := l21 0
                    generalize dd.de = D0 at HDe l1 l1'
                    generalize dd.fa = F0 at HFa l21 l21'
                    generalize dd.fl = L0 at HFl l20 l20'
                    generalize sT dd = T0 at HSt HRs
                    go_quiet (first
                      | (go_at_call 18; exact Calls.quiet_of_same ((HDe.out _).mono fun _ _ he => ⟨he.1, he.2.symm⟩))
                      | (go_at_call 19; exact Calls.quiet_of_same ((HFa.out _).mono fun _ _ he => ⟨he.1, he.2.symm⟩))
                      | (go_at_call 20; exact Calls.quiet_of_same ((HFl.out _).mono fun _ _ he => ⟨he.1, he.2.symm⟩))
                      | (go_at_call 13; exact Calls.quiet_of_same ((HSt.out _).mono fun _ _ he => ⟨he.1, he.2.symm⟩))
                      | (go_at_call 28; exact Calls.quiet_of_same ((HRs.out _).mono fun _ _ he => ⟨he.1, he.2.symm⟩)))
                    go_wp2_with fail
                    go_roundw
                    case rel => exact ⟨j + 1, _, dd, by omega, by go_num, rfl, HL.out.grown (grown_drewN (grown_refl _ _) _)⟩
                    case measure => simp [intOf]; omega
    · obtain rfl : j = len1 := by omega
      clear HS HL1 HRG H31
      go_wp2_with (first
        | (go_at_call 9; (with_reducible refine (HWK.out _).mono ?_); rintro e w2 ⟨rfl, h2⟩; have HF := Lib.hid (grown_trans HO.out.lw.gr h2); clear h2))
      go_ret
      exact ⟨rfl, HF.out⟩
theorem plays_true (n : Int) (os : List OpX) (ad1 : Option Addr) (len1 cap1 : Nat) (w : World) (hl1 : len1 = os.length) (ha1 : OpXAt w ad1 os) (hrg : OpXRng os) : Calls Try.prog 4 #[.int .i64 n, .slice ad1 len1 cap1] w fun e w' => e = .returned (.bool true) ∧ w.grownBy w' none := by
  have HWK : Hid (∀ w, _) := Lib.hid works_any
  by_cases h1 : len1 ≤ 300
  · have hd : decide ((300 : Int) < (len1 : Int)) = false := by simp; omega
    by_cases hn : 1 ≤ n ∧ n ≤ 8
    · exact plays_some n os ad1 len1 cap1 w h1 hl1 ha1 hrg hn.1 hn.2
    · have HN := Lib.hid (new_no n w (by omega))
      by_cases hn1 : n < 1
      · have en : decide (n < 1) = true := decide_eq_true hn1
        clear ha1 hrg hn hl1 hn1
        go_enter Try.func4, Try.ntmps4
        go_wp2_with (first
          | (go_at_call 8; (with_reducible refine HN.out.mono ?_); rintro e w1 ⟨rfl, rfl⟩)
          | (go_at_call 9; (with_reducible refine (HWK.out _).mono ?_); rintro e w2 ⟨rfl, h2⟩; have HF := Lib.hid h2; clear h2))
        go_ret
        exact ⟨rfl, HF.out⟩
      · have en : decide (n < 1) = false := decide_eq_false hn1
        have en8 : decide (8 < n) = true := decide_eq_true (by omega)
        clear ha1 hrg hn hl1 hn1
        go_enter Try.func4, Try.ntmps4
        go_wp2_with (first
          | (go_at_call 8; (with_reducible refine HN.out.mono ?_); rintro e w1 ⟨rfl, rfl⟩)
          | (go_at_call 9; (with_reducible refine (HWK.out _).mono ?_); rintro e w2 ⟨rfl, h2⟩; have HF := Lib.hid h2; clear h2))
        go_ret
        exact ⟨rfl, HF.out⟩
  · have hd : decide ((300 : Int) < (len1 : Int)) = true := by simp; omega
    clear ha1 hrg hl1
    go_enter Try.func4, Try.ntmps4
    go_wp2_with (first
      | (go_at_call 9; (with_reducible refine (HWK.out _).mono ?_); rintro e w2 ⟨rfl, h2⟩; have HF := Lib.hid h2; clear h2))
    go_ret
    exact ⟨rfl, HF.out⟩
end Go.Proofs.Ytkpgajegmomihaa.de
