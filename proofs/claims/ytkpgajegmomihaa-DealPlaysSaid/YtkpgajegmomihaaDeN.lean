/-
  The law DealFails returns true: the walk. Conditions: the script lies where the argument says, and its words are words; the cause and the stamp are words.
-/
import Derived.Test.YtkpgajegmomihaaDeM
namespace Go.Proofs.Ytkpgajegmomihaa.de
open Go Go.ChangeShapes Go.WideShapes Go.ChangeAt Go.RowKit
open Go.Proofs.Ytkpgajegmomihaa.tt (U zd row tyne add_lit lt_of range_grown setCells_rest heap_setCells heap_setCells_other grown_setCells grown_setRow grown_new grown_drewN grown_alloc grown_refl grown_trans grown_drew)
open Go.Proofs.Ytkpgajegmomihaa.oo (ref flag' gives older ret_bool jump_ret)
set_option linter.unusedVariables false
set_option maxRecDepth 1000000

theorem bD_fa (d : Dl) (s : Sv) (x : Int) : (bD d s x).fa = d.fa := by unfold bD; split; split; rfl; rfl; rfl
/-- What a failing one answers. -/
structure Fails (d : Dl) : Prop where
  fa : d.fa = true
  ne : sT d ≠ 0
  g : gE d = 8
  b : ∀ x, x ≠ 0 → bE d x = 8
  bd : ∀ s x, x ≠ 0 → bD d s x = d
  e : eD d = d
  c : eC d = false
  f : ∀ x, fD d x = d
  r : ∀ x, rF d x = false
  a : ref (sT d) true = true
theorem fails_of {d : Dl} (I : Inv d) (h : d.fa = true) : Fails d := by
  have hg : gE d = 8 := by simp [gE, h]
  have hd : d.de ≠ 0 := fun e => by have := I.fa0 e; rw [h] at this; cases this
  have hs : sT d = d.st := by simp [sT, hd]
  have hn := I.st0 hd
  refine ⟨h, by rw [hs]; exact hn, hg, fun x hx => by simp [bE, hx, h], fun s x hx => by unfold bD; rw [if_neg (by simp [bE, hx, h])], by unfold eD; rw [hg]; rfl, by unfold eC; rw [hg]; rfl, fun x => by unfold fD; rw [hg]; rfl, fun x => by unfold rF; rw [hg]; rfl, ?_⟩
  rw [hs]; simp [ref, hn]
theorem fD_fails {d : Dl} (h : gE d = 0) (c : Int) : (fD d c).fa = true := by unfold fD; rw [if_pos h]
set_option maxHeartbeats 16000000 in
theorem fails_some (n : Int) (os : List OpX) (ad1 : Option Addr) (len1 cap1 : Nat) (cz sz : Int) (w : World) (h1 : len1 ≤ 300) (hl1 : len1 = os.length) (ha1 : OpXAt w ad1 os) (hrg : OpXRng os) (hn1 : 1 ≤ n) (hn8 : n ≤ 8) (hc0 : 0 ≤ cz) (hc1 : cz < 4294967296) (hs0 : 0 ≤ sz) : Calls Try.prog 6 #[.int .i64 n, .slice ad1 len1 cap1, .int .u32 cz, .int .u64 sz] w fun e w' => e = .returned (.bool true) ∧ w.grownBy w' none := by
  have hd : decide ((300 : Int) < (len1 : Int)) = false := by simp; omega
  have HN := Lib.hid (Lw.new n w w (grown_refl _ _) hn1 hn8)
  have HS : Hid (∀ n w, _) := Lib.hid save_any
  have HWK : Hid (∀ w, _) := Lib.hid works_any
  have HAT := Lib.hid ha1
  have HL1 := Lib.hid hl1
  have HRG := Lib.hid hrg
  have H31 := Lib.hid h1
  have HCZ := Lib.hid (And.intro hc0 (And.intro hc1 hs0))
  clear h1 hl1 ha1 hrg hn1 hn8 hc0 hc1 hs0
  go_enter Try.func6, Try.ntmps6
  go_wp2_with (first
    | (go_at_call 8; (with_reducible refine HN.out.mono ?_); rintro e w1 ⟨g, rfl, h1, _, _⟩; have H0 := Lib.hid h1; clear h1))
  go_loopw [28] (fun i wr => ∃ (j : Nat) (d : Dl), j ≤ len1 ∧ i = .int .i64 (j : Int) ∧ Lw w wr g d ∧ d.fa = false) (fun i _ => len1 - (intOf i).toNat)
  case atStart => exact ⟨0, nw n, Nat.zero_le _, rfl, H0.out, rfl⟩
  case round =>
    clear H0 HN
    obtain ⟨j, d, hj, rfl, ho, hfa⟩ := hrel
    have HO := Lib.hid ho
    have HFA := Lib.hid hfa
    clear ho hfa
    have hj300 : j ≤ 300 := by have := H31.out; omega
    by_cases hlt : j < len1
    · obtain ⟨⟨kd, nn, st, ca, m⟩, hq⟩ : ∃ q, os[j]? = some q := ⟨_, List.getElem?_eq_getElem (by have := HL1.out; omega)⟩
      have hrg := HRG.out _ (List.mem_of_getElem? hq)
      obtain ⟨bp, op, rfl, hr0, hr1, hr2, hr3, hr4⟩ := (HAT.out.grown HO.out.gr) j _ hq
      clear hq
      dsimp only at hr0 hr1 hr2 hr3 hr4 hrg
      have HX : Hid (wr.grownBy (wr.alloc (.cells #[.int .i64 kd, .int .i64 nn, .int .u64 st, .int .u32 ca, .bool m] 49)) none) := Lib.hid (grown_alloc (grown_refl _ _) _)
      have HLX := Lib.hid (HO.out.grown HX.out)
      have HGB : Hid (g < wr.heap.size) := Lib.hid HO.out.ltB
      by_cases hk0 : kd = 0
      · subst hk0
        obtain ⟨XW, hXW⟩ : ∃ W, W = wr.alloc (.cells #[.int .i64 0, .int .i64 nn, .int .u64 st, .int .u32 ca, .bool m] 49) := ⟨_, rfl⟩
        have hb0 : XW.heap[wr.heap.size]? = some (.cells #[.int .i64 0, .int .i64 nn, .int .u64 st, .int .u32 ca, .bool m] 49 (0, 0)) := by rw [hXW]; exact heap_alloc_new _ _
        have HB0 := Lib.hid hb0
        clear hb0
        go_upto_region 10 with fail
        rw [← hXW] at HLX ⊢
        clear hXW HX
        obtain ⟨B, hB⟩ : ∃ B, wr.heap.size = B := ⟨_, rfl⟩
        rw [hB] at HB0 HGB ⊢
        clear hB
        have HK0 : Hid (XW.cell? ⟨B, 1, none⟩ = some (.int .i64 nn) ∧ XW.cell? ⟨B, 2, none⟩ = some (.int .u64 st)) := Lib.hid ⟨(op_cells HB0.out).1, (op_cells HB0.out).2.1⟩
        have HK1 : Hid (XW.drew.cell? ⟨B, 1, none⟩ = some (.int .i64 nn) ∧ XW.drew.cell? ⟨B, 2, none⟩ = some (.int .u64 st)) := Lib.hid HK0.out
        have HL1x : Hid (Lw w XW.drew g d) := Lib.hid (HLX.out.grown (grown_drewN (grown_refl _ _) 1))
        have HBG : Hid (∀ W, Lw w W g d → _) := Lib.hid fun W h => Lw.begin_ h (sN nn) st hrg.1
        clear hrg
        go_region_held3 (fun W => W.cell? ⟨B, 1, none⟩ = some (.int .i64 nn) ∧ W.cell? ⟨B, 2, none⟩ = some (.int .u64 st))
          (first | exact HK0.out | exact HK1.out | exact HK2.out | exact HK3.out)
          (first
            | (go_at_call 11; ((with_reducible refine (HS.out _ _).mono ?_); rintro e w2 ⟨rfl, h2⟩; have HL2 := Lib.hid (HL1x.out.grown h2); have HK2 := Lib.hid (And.intro (h2.cell HK1.out.1 (by simp)) (h2.cell HK1.out.2 (by simp))); clear h2))
            | (go_at_call 10; ((with_reducible refine (HBG.out _ HL2.out).mono ?_); rintro e w3 ⟨rfl, h3, hg3⟩; have HL := Lib.hid h3; have HK3 := Lib.hid (And.intro (hg3.cell HK2.out.1 (by have := HGB.out; simp; omega)) (hg3.cell HK2.out.2 (by have := HGB.out; simp; omega))); clear h3 hg3)))
        go_wp2_with fail
        go_roundw
        case rel => exact ⟨j + 1, _, by omega, by go_num, HL.out, (bD_fa _ _ _).trans HFA.out⟩
        case measure => simp [intOf]; omega
      · have q0 : (kd == 0) = false := by simp [hk0]
        have HAS := Lib.hid (HLX.out.asked m st)
        go_wp2_with (first
          | (go_at_call 16; (with_reducible refine HAS.out.mono ?_); rintro e w3 ⟨rfl, h3, hg3⟩; have HL := Lib.hid h3; clear h3 hg3))
        go_roundw
        case rel => exact ⟨j + 1, _, by omega, by go_num, HL.out, HFA.out⟩
        case measure => simp [intOf]; omega
    · obtain rfl : j = len1 := by omega
      have HFL := Lib.hid (HO.out.fail_ cz HCZ.out.1 HCZ.out.2.1)
      rcases gE_cases d with hg | hg
      · have hf := fD_fails hg cz
        rw [hg] at HFL
        obtain ⟨d1, hd1⟩ : ∃ d1, fD d cz = d1 := ⟨_, rfl⟩
        rw [hd1] at HFL hf
        clear HL1 HRG H31 hlt hj hj300 hd1 hg
        have HS1 : Hid (∀ w, _) := Lib.hid fun w => HS.out 1 w
        have hfz : ∀ W, Lw w W g d1 → Fails d1 := fun W h => fails_of h.inv hf
        have HFZ := Lib.hid hfz
        have HST : Hid (∀ W, Lw w W g d1 → _) := Lib.hid fun W h => stamp_any (Lw.at_ h)
        have HEN : Hid (∀ W, Lw w W g d1 → Calls Try.prog 12 #[.pointer (some ⟨g, 0, none⟩)] W fun e w' => e = .returned (.tuple #[.bool false, .int .i64 8]) ∧ Lw w w' g d1) := Lib.hid fun W h => (Lw.end_ h).mono fun e w' ⟨k1, k2, k3⟩ => by
          have F := hfz W h
          rw [F.c, F.g] at k1; rw [F.e] at k2
          exact ⟨k1, k2⟩
        have HBE : Hid (∀ W s, Lw w W g d1 → Calls Try.prog 10 #[.pointer (some ⟨g, 0, none⟩), .agg (sa s), .int .u64 5] W fun e w' => e = .returned (.int .i64 8) ∧ Lw w w' g d1) := Lib.hid fun W s h => (Lw.begin_ h s 5 (by decide)).mono fun e w' ⟨k1, k2, k3⟩ => by
          have F := hfz W h
          rw [F.b 5 (by decide)] at k1; rw [F.bd s 5 (by decide)] at k2
          exact ⟨k1, k2⟩
        have HFB : Hid (∀ W, Lw w W g d1 → Calls Try.prog 14 #[.pointer (some ⟨g, 0, none⟩), .int .u32 cz] W fun e w' => e = .returned (.int .i64 8) ∧ Lw w w' g d1) := Lib.hid fun W h => (Lw.fail_ h cz HCZ.out.1 HCZ.out.2.1).mono fun e w' ⟨k1, k2, k3⟩ => by
          have F := hfz W h
          rw [F.g] at k1; rw [F.f cz] at k2
          exact ⟨k1, k2⟩
        have HRE : Hid (∀ W, Lw w W g d1 → Calls Try.prog 17 #[.pointer (some ⟨g, 0, none⟩), .int .u64 sz] W fun e w' => e = .returned (.bool false) ∧ Lw w w' g d1) := Lib.hid fun W h => (Lw.refused h sz).mono fun e w' ⟨k1, k2, k3⟩ => by
          have F := hfz W h
          rw [F.r sz] at k1
          exact ⟨k1, k2⟩
        have HAS : Hid (∀ W, Lw w W g d1 → Calls Try.prog 16 #[.pointer (some ⟨g, 0, none⟩), .bool true, .int .u64 sz] W fun e w' => e = .returned (.bool true) ∧ Lw w w' g (aD d1 true sz)) := Lib.hid fun W h => (Lw.asked h true sz).mono fun e w' ⟨k1, k2, k3⟩ => by
          have F := hfz W h
          rw [F.a] at k1
          exact ⟨k1, k2⟩
        have HFG : Hid (∀ W, Lw w W g (aD d1 true sz) → Calls Try.prog 19 #[.pointer (some ⟨g, 0, none⟩)] W fun e w' => e = .returned (.bool true) ∧ W = w') := Lib.hid fun W h => by
          have := failing_any (Lw.at_ h)
          rw [show (aD d1 true sz).fa = true from hf] at this
          exact this
        have HSU : Hid (∀ W, Lw w W g (aD d1 true sz) → Calls Try.prog 13 #[.pointer (some ⟨g, 0, none⟩)] W fun e w' => e = .returned (.int .u64 (sT d1)) ∧ W = w') := Lib.hid fun W h => by
          have := stamp_any (Lw.at_ h)
          exact this
        have HNZ : Hid (∀ W, Lw w W g d1 → (sT d1 != 0) = true) := Lib.hid fun W h => by have := (hfz W h).ne; simp [this]
        clear hf hfz HFZ HCZ HS
        generalize sT d1 = T at HST HSU HNZ
        go_wp2_with (first
          | (go_at_call 14; first
             | ((with_reducible refine HFL.out.mono ?_); rintro e w3 ⟨rfl, h3, _⟩; have HL := Lib.hid h3; have hnz := HNZ.out _ h3; clear h3 HFL HO)
             | ((with_reducible refine (HFB.out _ HL.out).mono ?_); rintro e w3 ⟨rfl, h3⟩; clear HL; have HL := Lib.hid h3; clear h3))
          | (go_at_call 13; first
             | ((with_reducible refine (HST.out _ HL.out).mono ?_); rintro e w6 ⟨rfl, rfl⟩)
             | ((with_reducible refine (HSU.out _ HM.out).mono ?_); rintro e w6 ⟨rfl, rfl⟩))
          | (go_at_call 12; (with_reducible refine (HEN.out _ HL.out).mono ?_); rintro e w3 ⟨rfl, h3⟩; clear HL; have HL := Lib.hid h3; clear h3)
          | (go_at_call 11; (with_reducible refine (HS1.out _).mono ?_); rintro e w2 ⟨rfl, h2⟩; have h3 := HL.out.grown h2; clear HL; have HL := Lib.hid h3; clear h2 h3)
          | (go_at_call 10; (with_reducible refine (HBE.out _ _ HL.out).mono ?_); rintro e w3 ⟨rfl, h3⟩; clear HL; have HL := Lib.hid h3; clear h3)
          | (go_at_call 17; (with_reducible refine (HRE.out _ HL.out).mono ?_); rintro e w3 ⟨rfl, h3⟩; clear HL; have HL := Lib.hid h3; clear h3)
          | (go_at_call 16; (with_reducible refine (HAS.out _ HL.out).mono ?_); rintro e w3 ⟨rfl, h3⟩; clear HL; have HM := Lib.hid h3; clear h3)
          | (go_at_call 19; (with_reducible refine (HFG.out _ HM.out).mono ?_); rintro e w6 ⟨rfl, rfl⟩)
          | (go_at_call 9; (with_reducible refine (HWK.out _).mono ?_); rintro e w2 ⟨rfl, h2⟩; have HF := Lib.hid (grown_trans HM.out.gr h2); clear h2))
        go_ret
        exact ⟨rfl, HF.out⟩
      · have hz : d.de = 0 := by
          have := HFA.out
          by_cases h : d.de = 0
          · exact h
          · simp [gE, h, this] at hg
        have hfd : fD d cz = d := by unfold fD; rw [hg]; rfl
        rw [hg, hfd] at HFL
        clear HL1 HRG H31 hlt hj hj300 hfd hg
        have HDP : Hid (∀ W, Lw w W g d → Calls Try.prog 18 #[.pointer (some ⟨g, 0, none⟩)] W fun e w' => e = .returned (.int .i64 0) ∧ W = w') := Lib.hid fun W h => by
          have := depth_any (Lw.at_ h)
          rw [hz] at this
          exact this
        have HAS : Hid (∀ W, Lw w W g d → Calls Try.prog 16 #[.pointer (some ⟨g, 0, none⟩), .bool true, .int .u64 sz] W fun e w' => e = .returned (.bool false) ∧ Lw w w' g (aD d true sz)) := Lib.hid fun W h => (Lw.asked h true sz).mono fun e w' ⟨k1, k2, k3⟩ => by
          rw [show ref (sT d) true = false by simp [ref, sT, hz]] at k1
          exact ⟨k1, k2⟩
        clear hz HCZ HS
        go_wp2_with (first
          | (go_at_call 14; (with_reducible refine HFL.out.mono ?_); rintro e w3 ⟨rfl, h3, _⟩; have HL := Lib.hid h3; clear h3 HFL)
          | (go_at_call 18; (with_reducible refine (HDP.out _ HL.out).mono ?_); rintro e w6 ⟨rfl, rfl⟩)
          | (go_at_call 16; (with_reducible refine (HAS.out _ HL.out).mono ?_); rintro e w3 ⟨rfl, h3⟩; have HM := Lib.hid h3; clear h3)
          | (go_at_call 9; (with_reducible refine (HWK.out _).mono ?_); rintro e w2 ⟨rfl, h2⟩; have HF := Lib.hid (grown_trans HM.out.gr h2); clear h2))
        go_ret
        exact ⟨rfl, HF.out⟩
theorem fails_true (n : Int) (os : List OpX) (ad1 : Option Addr) (len1 cap1 : Nat) (cz sz : Int) (w : World) (hl1 : len1 = os.length) (ha1 : OpXAt w ad1 os) (hrg : OpXRng os) (hc0 : 0 ≤ cz) (hc1 : cz < 4294967296) (hs0 : 0 ≤ sz) : Calls Try.prog 6 #[.int .i64 n, .slice ad1 len1 cap1, .int .u32 cz, .int .u64 sz] w fun e w' => e = .returned (.bool true) ∧ w.grownBy w' none := by
  have HWK : Hid (∀ w, _) := Lib.hid works_any
  by_cases h1 : len1 ≤ 300
  · by_cases hn : 1 ≤ n ∧ n ≤ 8
    · exact fails_some n os ad1 len1 cap1 cz sz w h1 hl1 ha1 hrg hn.1 hn.2 hc0 hc1 hs0
    · have hd : decide ((300 : Int) < (len1 : Int)) = false := by simp; omega
      have HN := Lib.hid (new_no n w (by omega))
      clear ha1 hrg hn hl1
      go_enter Try.func6, Try.ntmps6
      go_wp2_with (first
        | (go_at_call 8; (with_reducible refine HN.out.mono ?_); rintro e w1 ⟨rfl, rfl⟩)
        | (go_at_call 9; (with_reducible refine (HWK.out _).mono ?_); rintro e w2 ⟨rfl, h2⟩; have HF := Lib.hid h2; clear h2))
      go_ret
      exact ⟨rfl, HF.out⟩
  · have hd : decide ((300 : Int) < (len1 : Int)) = true := by simp; omega
    clear ha1 hrg hl1
    go_enter Try.func6, Try.ntmps6
    go_wp2_with (first
      | (go_at_call 9; (with_reducible refine (HWK.out _).mono ?_); rintro e w2 ⟨rfl, h2⟩; have HF := Lib.hid h2; clear h2))
    go_ret
    exact ⟨rfl, HF.out⟩
end Go.Proofs.Ytkpgajegmomihaa.de
