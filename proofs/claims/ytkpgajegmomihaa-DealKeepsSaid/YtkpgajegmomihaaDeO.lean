/-
  The law DealKeeps returns true: the walk. Conditions: the script lies where the argument says, and its words are words.
-/
import Derived.Test.YtkpgajegmomihaaDeN
namespace Go.Proofs.Ytkpgajegmomihaa.de
open Go Go.ChangeShapes Go.WideShapes Go.ChangeAt Go.RowKit
open Go.Proofs.Ytkpgajegmomihaa.tt (U zd row tyne add_lit lt_of range_grown setCells_rest heap_setCells heap_setCells_other grown_setCells grown_setRow grown_new grown_drewN grown_alloc grown_refl grown_trans grown_drew)
open Go.Proofs.Ytkpgajegmomihaa.oo (ref flag' gives older ret_bool jump_ret)
set_option linter.unusedVariables false
set_option maxRecDepth 1000000

theorem Lw.other {w0 w w' : World} {g R : Nat} {d : Dl} (h : Lw w0 w g d) (hg : w.grownBy w' (some R)) (hR : w0.heap.size ≤ R) (hne : g ≠ R) : Lw w0 w' g d := ⟨h.at_.grown hg (by simpa using hne), h.inv, grown_new h.gr hR hg, h.ge⟩
/-- The deal d, and what the law keeps beside it: what the outermost one saved, in a variable. -/
structure Ke (w0 w : World) (g R : Nat) (d : Dl) (S : Sv) : Prop where
  lw : Lw w0 w g d
  out : w.heap[R]? = some (.cells (sa S) 31 (0, 0))
  ne : g ≠ R
  ge : w0.heap.size ≤ R
  s : d.de ≠ 0 → S = d.s
section
variable {w0 w w' : World} {g R : Nat} {d d' : Dl} {S S' : Sv}
theorem Ke.ltR (h : Ke w0 w g R d S) : R < w.heap.size := lt_of h.out
theorem Ke.grown (h : Ke w0 w g R d S) (hg : w.grownBy w' none) : Ke w0 w' g R d S := ⟨h.lw.grown hg, (hg.block R h.ltR (by simp)).trans h.out, h.ne, h.ge, h.s⟩
theorem Ke.step (h : Ke w0 w g R d S) (h' : Lw w0 w' g d') (hg : w.grownBy w' (some g)) (hs : d'.de ≠ 0 → S = d'.s) : Ke w0 w' g R d' S := ⟨h', (hg.block R h.ltR (by simp; exact h.ne.symm)).trans h.out, h.ne, h.ge, hs⟩
theorem Ke.lay (h : Ke w0 w g R d S) (s : d.de ≠ 0 → S' = d.s) : Ke w0 (w.setRow R (sa S')) g R d S' := ⟨h.lw.other (grown_row _ _) h.ge h.ne, setRow_heap _ _ _ _ _ _ h.out, h.ne, h.ge, s⟩
end
set_option maxHeartbeats 16000000 in
theorem keeps_some (n : Int) (os : List OpX) (ad1 : Option Addr) (len1 cap1 : Nat) (w : World) (h1 : len1 ≤ 300) (hl1 : len1 = os.length) (ha1 : OpXAt w ad1 os) (hrg : OpXRng os) (hn1 : 1 ≤ n) (hn8 : n ≤ 8) : Calls Try.prog 5 #[.int .i64 n, .slice ad1 len1 cap1] w fun e w' => e = .returned (.bool true) ∧ w.grownBy w' none := by
  have hd : decide ((300 : Int) < (len1 : Int)) = false := by simp; omega
  have HN := Lib.hid (Lw.new n w w (grown_refl _ _) hn1 hn8)
  have HS : Hid (∀ n w, _) := Lib.hid save_any
  have HWK : Hid (∀ w, _) := Lib.hid works_any
  have HAT := Lib.hid ha1
  have HL1 := Lib.hid hl1
  have HRG := Lib.hid hrg
  have H31 := Lib.hid h1
  obtain ⟨Z, hZ⟩ : ∃ Z, Z = zs := ⟨_, rfl⟩
  have hA := zs_sa.symm
  rw [← hZ] at hA
  clear h1 hl1 ha1 hrg hn1 hn8 hZ
  go_enter Try.func5, Try.ntmps5
  go_wp2_with (first
    | (go_at_call 8; (with_reducible refine HN.out.mono ?_); rintro e w1 ⟨g, rfl, h1, _, _⟩; have H0 := Lib.hid h1; clear h1))
  have HK0 : Hid (Ke w (w1.alloc (.cells (sa Z) 31)) g w1.heap.size (nw n) Z) := Lib.hid ⟨H0.out.grown (grown_alloc (grown_refl _ _) _), heap_alloc_new _ _, Nat.ne_of_lt H0.out.ltB, H0.out.gr.size, fun h => (h rfl).elim⟩
  obtain ⟨R, hR⟩ : ∃ R, w1.heap.size = R := ⟨_, rfl⟩
  rw [hR] at HK0 ⊢
  clear H0 HN hR hA
  go_loopw [32, 7] (fun i k wr => ∃ (j : Nat) (d : Dl) (S : Sv) (K : Int), j ≤ len1 ∧ i = .int .i64 (j : Int) ∧ k = .int .u64 K ∧ Ke w wr g R d S ∧ K = d.st) (fun i _ _ => len1 - (intOf i).toNat)
  case atStart => exact ⟨0, nw n, Z, 0, Nat.zero_le _, rfl, rfl, HK0.out, rfl⟩
  case round =>
    clear HK0
    obtain ⟨j, d, S, K, hj, rfl, rfl, ho, hkv⟩ := hrel
    have HO := Lib.hid ho
    have HKV0 := Lib.hid hkv
    clear ho hkv
    have hj300 : j ≤ 300 := by have := H31.out; omega
    by_cases hlt : j < len1
    · obtain ⟨⟨kd, nn, st, ca, m⟩, hq⟩ : ∃ q, os[j]? = some q := ⟨_, List.getElem?_eq_getElem (by have := HL1.out; omega)⟩
      have hrg := HRG.out _ (List.mem_of_getElem? hq)
      obtain ⟨bp, op, rfl, hr0, hr1, hr2, hr3, hr4⟩ := (HAT.out.grown HO.out.lw.gr) j _ hq
      clear hq
      dsimp only at hr0 hr1 hr2 hr3 hr4 hrg
      have HX : Hid (wr.grownBy (wr.alloc (.cells #[.int .i64 kd, .int .i64 nn, .int .u64 st, .int .u32 ca, .bool m] 49)) none) := Lib.hid (grown_alloc (grown_refl _ _) _)
      have HLX := Lib.hid (HO.out.grown HX.out)
      have HDP := Lib.hid (depth_any HLX.out.lw.at_)
      have HGB : Hid (g < wr.heap.size ∧ R < wr.heap.size) := Lib.hid ⟨HO.out.lw.ltB, HO.out.ltR⟩
      have hd0 := HO.out.lw.inv.d0
      have hd8 : d.de ≤ 8 := Int.le_trans HO.out.lw.inv.dn HO.out.lw.inv.n8
      by_cases hk0 : kd = 0
      · subst hk0
        obtain ⟨XW, hXW⟩ : ∃ W, W = wr.alloc (.cells #[.int .i64 0, .int .i64 nn, .int .u64 st, .int .u32 ca, .bool m] 49) := ⟨_, rfl⟩
        have hb0 : XW.heap[wr.heap.size]? = some (.cells #[.int .i64 0, .int .i64 nn, .int .u64 st, .int .u32 ca, .bool m] 49 (0, 0)) := by rw [hXW]; exact heap_alloc_new _ _
        have HB0 := Lib.hid hb0
        clear hb0
        go_upto_region 14 with (go_at_call 18; (with_reducible refine HDP.out.mono ?_); rintro e w1 ⟨rfl, rfl⟩)
        rw [← hXW] at HLX ⊢
        clear hXW HDP HX
        obtain ⟨B, hB⟩ : ∃ B, wr.heap.size = B := ⟨_, rfl⟩
        rw [hB] at HB0 HGB ⊢
        clear hB
        have HK0 : Hid (XW.cell? ⟨B, 1, none⟩ = some (.int .i64 nn) ∧ XW.cell? ⟨B, 2, none⟩ = some (.int .u64 st)) := Lib.hid ⟨(op_cells HB0.out).1, (op_cells HB0.out).2.1⟩
        have HK1 : Hid (XW.drew.cell? ⟨B, 1, none⟩ = some (.int .i64 nn) ∧ XW.drew.cell? ⟨B, 2, none⟩ = some (.int .u64 st)) := Lib.hid HK0.out
        have HL1x : Hid (Ke w XW.drew g R d S) := Lib.hid (HLX.out.grown (grown_drewN (grown_refl _ _) 1))
        have HBG : Hid (∀ W, Ke w W g R d S → _) := Lib.hid fun W h => Lw.begin_ (Ke.lw h) (sN nn) st hrg.1
        have hst0 := HO.out.lw.inv.st0
        have HSS := Lib.hid HO.out.s
        by_cases he : bE d st = 0
        · by_cases hz : d.de = 0
          · obtain ⟨d1, hd1⟩ : ∃ d1, bD d (sN nn) st = d1 := ⟨_, rfl⟩
            have hD1 : d1 = { opn d (sN nn) st with de := 1 } := by rw [← hd1]; unfold bD; rw [if_pos he, if_pos hz]
            rw [hd1, he] at HBG
            have HS1 : Hid (d1.de ≠ 0 → sN nn = d1.s) := Lib.hid fun _ => by rw [hD1]; rfl
            have HT1 : Hid (d1.st = if d.st = 0 then st else d.st) := Lib.hid (by rw [hD1]; rfl)
            have HD1 : Hid (d1.de ≠ 0) := Lib.hid (by rw [hD1]; show (1 : Int) ≠ 0; decide)
            have HSN : Hid (∀ w, _) := Lib.hid fun w => HS.out nn w
            clear hst0 HSS he hrg hd1 hD1 hd0 hd8
            obtain ⟨S1, hS1⟩ : ∃ S1, sN nn = S1 := ⟨_, rfl⟩
            rw [hS1] at HBG HS1 HSN
            clear hS1
            rw [hz]
            go_region_held3 (fun W => W.cell? ⟨B, 1, none⟩ = some (.int .i64 nn) ∧ W.cell? ⟨B, 2, none⟩ = some (.int .u64 st))
              (first | exact HK0.out | exact HK1.out | exact HK2.out | exact HK3.out)
              (first
                | (go_at_call 11; ((with_reducible refine (HSN.out _).mono ?_); rintro e w2 ⟨rfl, h2⟩; have HL2 := Lib.hid (HL1x.out.grown h2); have HK2 := Lib.hid (And.intro (h2.cell HK1.out.1 (by simp)) (h2.cell HK1.out.2 (by simp))); clear h2))
                | (go_at_call 10; ((with_reducible refine (HBG.out _ HL2.out).mono ?_); rintro e w3 ⟨rfl, h3, hg3⟩; have HL3 := Lib.hid (And.intro h3 hg3); have HK3 := Lib.hid (And.intro (hg3.cell HK2.out.1 (by have := HGB.out.1; simp; omega)) (hg3.cell HK2.out.2 (by have := HGB.out.1; simp; omega))); clear h3 hg3)))
            have hc1 := HK3.out.1
            have hRB : R ≠ B := by have := HGB.out.2; omega
            have HW : Hid (∀ w4, w3.grownBy w4 none → ∃ w5, w4.setRow R (sa S1) = w5 ∧ w5.cell? ⟨B, 2, none⟩ = some (.int .u64 st) ∧ Ke w w5 g R d1 S1) := Lib.hid fun w4 hg4 => by
              have hx : w2.heap[R]? = _ := HL2.out.out
              have h3 := (HL3.out.2.block R HL2.out.ltR (by simp; exact HL2.out.ne.symm)).trans hx
              have h4 := (hg4.block R (lt_of h3) (by simp)).trans h3
              refine ⟨_, rfl, ?_, (HL3.out.1.grown hg4).other (grown_row _ _) HL2.out.ge HL2.out.ne, setRow_heap _ _ _ _ _ _ h4, HL2.out.ne, HL2.out.ge, HS1.out⟩
              have k2 := hg4.cell HK3.out.2 (by simp)
              exact (grown_row (w := w4) R (sa S1)).cell k2 (by simp; exact fun e => hRB e.symm)
            have HO4 : Hid (∀ w4, w3.grownBy w4 none → w4.heap[R]? = some (.cells (sa S) 31 (0, 0))) := Lib.hid fun w4 hg4 => by
              have h3 := (HL3.out.2.block R HL2.out.ltR (by simp; exact HL2.out.ne.symm)).trans HL2.out.out
              exact (hg4.block R (lt_of h3) (by simp)).trans h3
            by_cases hk : K = 0
            · subst hk
              have hKV : st = d1.st := by rw [HT1.out, if_pos HKV0.out.symm]
              have HKV := Lib.hid hKV
              clear hKV HT1
              go_upto_region 38 with (first
                | (go_at_call 11; ((with_reducible refine (HSN.out _).mono ?_); rintro e w4 ⟨rfl, h4⟩; have HO5 := Lib.hid (HO4.out _ h4); obtain ⟨w5, e5, c5, l5⟩ := HW.out w4 h4; have HE5 := Lib.hid e5; have HL := Lib.hid l5; clear h4 e5 l5))
                | ((with_reducible refine store_sv S1 (sa S) _ _ R ?_ ?_ HO5.out (sa_size _) ?_); ((rfl)); ((rfl)); rw [HE5.out]))
              clear HW HO4 HO5 HE5 hc1 c5 HK0 HK1 HK2 HK3 HL1x HL2 HL3
              obtain ⟨dd, hdd⟩ : ∃ dd, d1 = dd := ⟨_, rfl⟩
              rw [hdd] at HL HKV
              clear hdd
              have HDe := Lib.hid (depth_any HL.out.lw.at_)
              have HSt := Lib.hid (stamp_any HL.out.lw.at_)
              have hsn := seen HL.out.lw.inv
              rcases hsn with ⟨h1, h2, h3⟩ | ⟨hp, ht, hst⟩
              · rw [h1] at HDe
                clear h1 h2 h3 HSt
                go_wp2_with (first
                  | (go_at_call 18; (with_reducible refine HDe.out.mono ?_); rintro e w6 ⟨rfl, rfl⟩)
                  | (go_at_call 13; (with_reducible refine HSt.out.mono ?_); rintro e w6 ⟨rfl, rfl⟩))
                go_roundw
                case rel => exact ⟨j + 1, _, _, st, by omega, by go_num, rfl, HL.out, HKV.out⟩
                case measure => simp [intOf]; omega
              · have hp' : decide (0 < dd.de) = true := decide_eq_true hp
                rw [hst, ← HKV.out] at HSt
                generalize dd.de = D at HDe hp'
                clear hp ht hst
                go_wp2_with (first
                  | (go_at_call 18; (with_reducible refine HDe.out.mono ?_); rintro e w6 ⟨rfl, rfl⟩)
                  | (go_at_call 13; (with_reducible refine HSt.out.mono ?_); rintro e w6 ⟨rfl, rfl⟩))
                go_roundw
                case rel => exact ⟨j + 1, _, _, st, by omega, by go_num, rfl, HL.out, HKV.out⟩
                case measure => simp [intOf]; omega
            · have hk' : (K == 0) = false := by simp [hk]
              have hKV : K = d1.st := by rw [HT1.out, if_neg (by rw [← HKV0.out]; exact hk)]; exact HKV0.out
              have HKV := Lib.hid hKV
              clear hKV HT1 hk
              go_upto_region 38 with (first
                | (go_at_call 11; ((with_reducible refine (HSN.out _).mono ?_); rintro e w4 ⟨rfl, h4⟩; have HO5 := Lib.hid (HO4.out _ h4); obtain ⟨w5, e5, c5, l5⟩ := HW.out w4 h4; have HE5 := Lib.hid e5; have HL := Lib.hid l5; clear h4 e5 l5))
                | ((with_reducible refine store_sv S1 (sa S) _ _ R ?_ ?_ HO5.out (sa_size _) ?_); ((rfl)); ((rfl)); rw [HE5.out]))
              clear HW HO4 HO5 HE5 hc1 c5 HK0 HK1 HK2 HK3 HL1x HL2 HL3 hk'
              obtain ⟨dd, hdd⟩ : ∃ dd, d1 = dd := ⟨_, rfl⟩
              rw [hdd] at HL HKV
              clear hdd
              have HDe := Lib.hid (depth_any HL.out.lw.at_)
              have HSt := Lib.hid (stamp_any HL.out.lw.at_)
              have hsn := seen HL.out.lw.inv
              rcases hsn with ⟨h1, h2, h3⟩ | ⟨hp, ht, hst⟩
              · rw [h1] at HDe
                clear h1 h2 h3 HSt
                go_wp2_with (first
                  | (go_at_call 18; (with_reducible refine HDe.out.mono ?_); rintro e w6 ⟨rfl, rfl⟩)
                  | (go_at_call 13; (with_reducible refine HSt.out.mono ?_); rintro e w6 ⟨rfl, rfl⟩))
                go_roundw
                case rel => exact ⟨j + 1, _, _, K, by omega, by go_num, rfl, HL.out, HKV.out⟩
                case measure => simp [intOf]; omega
              · have hp' : decide (0 < dd.de) = true := decide_eq_true hp
                rw [hst, ← HKV.out] at HSt
                generalize dd.de = D at HDe hp'
                clear hp ht hst
                go_wp2_with (first
                  | (go_at_call 18; (with_reducible refine HDe.out.mono ?_); rintro e w6 ⟨rfl, rfl⟩)
                  | (go_at_call 13; (with_reducible refine HSt.out.mono ?_); rintro e w6 ⟨rfl, rfl⟩))
                go_roundw
                case rel => exact ⟨j + 1, _, _, K, by omega, by go_num, rfl, HL.out, HKV.out⟩
                case measure => simp [intOf]; omega
          · obtain ⟨d1, hd1⟩ : ∃ d1, bD d (sN nn) st = d1 := ⟨_, rfl⟩
            have hD1 : d1 = { d with de := d.de + 1 } := by rw [← hd1]; unfold bD; rw [if_pos he, if_neg hz]
            rw [hd1, he] at HBG
            have HKV : Hid (K = d1.st) := Lib.hid (by rw [hD1]; exact HKV0.out)
            have HS1 : Hid (d1.de ≠ 0 → S = d1.s) := Lib.hid fun _ => by rw [hD1]; exact HSS.out hz
            have hz' : (d.de == 0) = false := by simp [hz]
            clear hst0 HSS he hrg hd1 hD1
            generalize d.de = D0 at hz' hd0 hd8 hz ⊢
            clear hz
            go_region_held3 (fun W => W.cell? ⟨B, 1, none⟩ = some (.int .i64 nn) ∧ W.cell? ⟨B, 2, none⟩ = some (.int .u64 st))
              (first | exact HK0.out | exact HK1.out | exact HK2.out | exact HK3.out)
              (first
                | (go_at_call 11; ((with_reducible refine (HS.out _ _).mono ?_); rintro e w2 ⟨rfl, h2⟩; have HL2 := Lib.hid (HL1x.out.grown h2); have HK2 := Lib.hid (And.intro (h2.cell HK1.out.1 (by simp)) (h2.cell HK1.out.2 (by simp))); clear h2))
                | (go_at_call 10; ((with_reducible refine (HBG.out _ HL2.out).mono ?_); rintro e w3 ⟨rfl, h3, hg3⟩; have HL3 := Lib.hid (And.intro h3 hg3); have HK3 := Lib.hid (And.intro (hg3.cell HK2.out.1 (by have := HGB.out.1; simp; omega)) (hg3.cell HK2.out.2 (by have := HGB.out.1; simp; omega))); clear h3 hg3)))
            have HL : Hid (Ke w w3 g R d1 S) := Lib.hid (HL2.out.step HL3.out.1 HL3.out.2 HS1.out)
            clear HK0 HK1 HK2 HK3 HL1x HL2 HL3 HS1 HBG
            go_upto_region 38 with fail
            obtain ⟨dd, hdd⟩ : ∃ dd, d1 = dd := ⟨_, rfl⟩
            rw [hdd] at HL HKV
            clear hdd
            have HDe := Lib.hid (depth_any HL.out.lw.at_)
            have HSt := Lib.hid (stamp_any HL.out.lw.at_)
            have hsn := seen HL.out.lw.inv
            rcases hsn with ⟨h1, h2, h3⟩ | ⟨hp, ht, hst⟩
            · rw [h1] at HDe
              clear h1 h2 h3 HSt
              go_wp2_with (first
                | (go_at_call 18; (with_reducible refine HDe.out.mono ?_); rintro e w6 ⟨rfl, rfl⟩)
                | (go_at_call 13; (with_reducible refine HSt.out.mono ?_); rintro e w6 ⟨rfl, rfl⟩))
              go_roundw
              case rel => exact ⟨j + 1, _, _, K, by omega, by go_num, rfl, HL.out, HKV.out⟩
              case measure => simp [intOf]; omega
            · have hp' : decide (0 < dd.de) = true := decide_eq_true hp
              rw [hst, ← HKV.out] at HSt
              generalize dd.de = D at HDe hp'
              clear hp ht hst
              go_wp2_with (first
                | (go_at_call 18; (with_reducible refine HDe.out.mono ?_); rintro e w6 ⟨rfl, rfl⟩)
                | (go_at_call 13; (with_reducible refine HSt.out.mono ?_); rintro e w6 ⟨rfl, rfl⟩))
              go_roundw
              case rel => exact ⟨j + 1, _, _, K, by omega, by go_num, rfl, HL.out, HKV.out⟩
              case measure => simp [intOf]; omega
        · obtain ⟨d1, hd1⟩ : ∃ d1, bD d (sN nn) st = d1 := ⟨_, rfl⟩
          have hD1 : d1 = d := by rw [← hd1]; unfold bD; rw [if_neg he]
          subst hD1
          rw [hd1] at HBG
          obtain ⟨e1, he1⟩ : ∃ e1, bE d1 st = e1 := ⟨_, rfl⟩
          rw [he1] at HBG he
          have he' : (e1 != 0) = true := by simp [he]
          have HKV := HKV0
          clear hst0 hrg hd1 he he1
          generalize d1.de = D0 at hd0 hd8 ⊢
          go_region_held3 (fun W => W.cell? ⟨B, 1, none⟩ = some (.int .i64 nn) ∧ W.cell? ⟨B, 2, none⟩ = some (.int .u64 st))
            (first | exact HK0.out | exact HK1.out | exact HK2.out | exact HK3.out)
            (first
              | (go_at_call 11; ((with_reducible refine (HS.out _ _).mono ?_); rintro e w2 ⟨rfl, h2⟩; have HL2 := Lib.hid (HL1x.out.grown h2); have HK2 := Lib.hid (And.intro (h2.cell HK1.out.1 (by simp)) (h2.cell HK1.out.2 (by simp))); clear h2))
              | (go_at_call 10; ((with_reducible refine (HBG.out _ HL2.out).mono ?_); rintro e w3 ⟨rfl, h3, hg3⟩; have HL3 := Lib.hid (And.intro h3 hg3); have HK3 := Lib.hid (And.intro (hg3.cell HK2.out.1 (by have := HGB.out.1; simp; omega)) (hg3.cell HK2.out.2 (by have := HGB.out.1; simp; omega))); clear h3 hg3)))
          have HL : Hid (Ke w w3 g R d1 S) := Lib.hid (HL2.out.step HL3.out.1 HL3.out.2 HSS.out)
          clear HK0 HK1 HK2 HK3 HL1x HL2 HL3 HSS HBG
          go_wp2_with fail
          go_roundw
          case rel => exact ⟨j + 1, _, _, K, by omega, by go_num, rfl, HL.out, HKV.out⟩
          case measure => simp [intOf]; omega
      · by_cases hk1 : kd = 1
        · subst hk1
          have HEN := Lib.hid HLX.out.lw.end_
          rcases gE_cases d with hg | hg
          · by_cases h1 : d.de = 1
            · have hc : eC d = true := by unfold eC; rw [hg, h1]; rfl
              have he : eD d = cl d 0 := by unfold eD; rw [if_pos hg, if_pos h1]
              rw [hc, hg, he] at HEN
              have HS1 : Hid ((cl d 0).de ≠ 0 → S = (cl d 0).s) := Lib.hid fun h => (h rfl).elim
              have HKV : Hid (0 = (cl d 0).st) := Lib.hid rfl
              rw [h1] at HDP
              clear hc he hg h1 hd0 hd8 hrg
              go_upto_region 38 with (first
                | (go_at_call 18; (with_reducible refine HDP.out.mono ?_); rintro e w1 ⟨rfl, rfl⟩)
                | (go_at_call 12; (with_reducible refine HEN.out.mono ?_); rintro e w3 ⟨rfl, h3, hg3⟩; have HL := Lib.hid (HLX.out.step h3 hg3 HS1.out); clear h3 hg3))
              clear HX HLX HEN HDP HS1
              have HDe : Hid (Calls Try.prog 18 #[.pointer (some ⟨g, 0, none⟩)] _ fun e w' => e = .returned (.int .i64 0) ∧ _ = w') := Lib.hid (depth_any HL.out.lw.at_)
              go_wp2_with (first
                | (go_at_call 18; (with_reducible refine HDe.out.mono ?_); rintro e w6 ⟨rfl, rfl⟩)
                | (go_at_call 13; (with_reducible refine HSt.out.mono ?_); rintro e w6 ⟨rfl, rfl⟩))
              go_roundw
              case rel => exact ⟨j + 1, _, _, 0, by omega, by go_num, rfl, HL.out, HKV.out⟩
              case measure => simp [intOf]; omega
            · have hc : eC d = false := by unfold eC; rw [hg]; simp [h1]
              have he : eD d = { d with de := d.de - 1 } := by unfold eD; rw [if_pos hg, if_neg h1]
              obtain ⟨d1, hd1⟩ : ∃ d1, eD d = d1 := ⟨_, rfl⟩
              rw [hd1] at he
              have hz := (gE_no hg).1
              have HS1 : Hid (d1.de ≠ 0 → S = d1.s) := Lib.hid fun h => by rw [he]; exact HO.out.s hz
              have HKV : Hid (K = d1.st) := Lib.hid (by rw [he]; exact HKV0.out)
              rw [hc, hg, hd1] at HEN
              have h1' : (d.de == 1) = false := by simp [h1]
              clear hc he hg hrg hd1 hz
              generalize d.de = D0 at h1' hd0 hd8 HDP h1
              clear h1
              go_upto_region 38 with (first
                | (go_at_call 18; (with_reducible refine HDP.out.mono ?_); rintro e w1 ⟨rfl, rfl⟩)
                | (go_at_call 12; (with_reducible refine HEN.out.mono ?_); rintro e w3 ⟨rfl, h3, hg3⟩; have HL := Lib.hid (HLX.out.step h3 hg3 HS1.out); clear h3 hg3))
              clear HX HLX HEN HDP HS1 h1'
              obtain ⟨dd, hdd⟩ : ∃ dd, d1 = dd := ⟨_, rfl⟩
              rw [hdd] at HL HKV
              clear hdd
              have HDe := Lib.hid (depth_any HL.out.lw.at_)
              have HSt := Lib.hid (stamp_any HL.out.lw.at_)
              have hsn := seen HL.out.lw.inv
              rcases hsn with ⟨h1, h2, h3⟩ | ⟨hp, ht, hst⟩
              · rw [h1] at HDe
                clear h1 h2 h3 HSt
                go_wp2_with (first
                  | (go_at_call 18; (with_reducible refine HDe.out.mono ?_); rintro e w6 ⟨rfl, rfl⟩)
                  | (go_at_call 13; (with_reducible refine HSt.out.mono ?_); rintro e w6 ⟨rfl, rfl⟩))
                go_roundw
                case rel => exact ⟨j + 1, _, _, K, by omega, by go_num, rfl, HL.out, HKV.out⟩
                case measure => simp [intOf]; omega
              · have hp' : decide (0 < dd.de) = true := decide_eq_true hp
                rw [hst, ← HKV.out] at HSt
                generalize dd.de = D at HDe hp'
                clear hp ht hst
                go_wp2_with (first
                  | (go_at_call 18; (with_reducible refine HDe.out.mono ?_); rintro e w6 ⟨rfl, rfl⟩)
                  | (go_at_call 13; (with_reducible refine HSt.out.mono ?_); rintro e w6 ⟨rfl, rfl⟩))
                go_roundw
                case rel => exact ⟨j + 1, _, _, K, by omega, by go_num, rfl, HL.out, HKV.out⟩
                case measure => simp [intOf]; omega
          · have hc : eC d = false := by unfold eC; rw [hg]; rfl
            have he : eD d = d := by unfold eD; rw [hg]; rfl
            have HS1 := Lib.hid HO.out.s
            rw [hc, hg, he] at HEN
            have HKV := HKV0
            clear hc he hg hrg
            generalize d.de = D0 at hd0 hd8 HDP
            go_upto_region 38 with (first
              | (go_at_call 18; (with_reducible refine HDP.out.mono ?_); rintro e w1 ⟨rfl, rfl⟩)
              | (go_at_call 12; (with_reducible refine HEN.out.mono ?_); rintro e w3 ⟨rfl, h3, hg3⟩; have HL := Lib.hid (HLX.out.step h3 hg3 HS1.out); clear h3 hg3))
            clear HX HLX HEN HDP HS1
            obtain ⟨dd, hdd⟩ : ∃ dd, d = dd := ⟨_, rfl⟩
            rw [hdd] at HL HKV
            clear hdd
            have HDe := Lib.hid (depth_any HL.out.lw.at_)
            have HSt := Lib.hid (stamp_any HL.out.lw.at_)
            have hsn := seen HL.out.lw.inv
            rcases hsn with ⟨h1, h2, h3⟩ | ⟨hp, ht, hst⟩
            · rw [h1] at HDe
              clear h1 h2 h3 HSt
              go_wp2_with (first
                | (go_at_call 18; (with_reducible refine HDe.out.mono ?_); rintro e w6 ⟨rfl, rfl⟩)
                | (go_at_call 13; (with_reducible refine HSt.out.mono ?_); rintro e w6 ⟨rfl, rfl⟩))
              go_roundw
              case rel => exact ⟨j + 1, _, _, K, by omega, by go_num, rfl, HL.out, HKV.out⟩
              case measure => simp [intOf]; omega
            · have hp' : decide (0 < dd.de) = true := decide_eq_true hp
              rw [hst, ← HKV.out] at HSt
              generalize dd.de = D at HDe hp'
              clear hp ht hst
              go_wp2_with (first
                | (go_at_call 18; (with_reducible refine HDe.out.mono ?_); rintro e w6 ⟨rfl, rfl⟩)
                | (go_at_call 13; (with_reducible refine HSt.out.mono ?_); rintro e w6 ⟨rfl, rfl⟩))
              go_roundw
              case rel => exact ⟨j + 1, _, _, K, by omega, by go_num, rfl, HL.out, HKV.out⟩
              case measure => simp [intOf]; omega
        · by_cases hk2 : kd = 2
          · subst hk2
            have HEN := Lib.hid (HLX.out.lw.fail_ ca hrg.2.2.1 hrg.2.2.2)
            have HFG := Lib.hid (failing_any HLX.out.lw.at_)
            obtain ⟨d1, hd1⟩ : ∃ d1, fD d ca = d1 := ⟨_, rfl⟩
            have hst : d1.st = d.st := by rw [← hd1]; unfold fD; split <;> rfl
            have hde : d1.de = d.de := by rw [← hd1]; unfold fD; split <;> rfl
            have hsv : d1.s = d.s := by rw [← hd1]; unfold fD; split <;> rfl
            have HS1 : Hid (d1.de ≠ 0 → S = d1.s) := Lib.hid fun h => by rw [hsv]; exact HO.out.s (hde ▸ h)
            have HKV : Hid (K = d1.st) := Lib.hid (by rw [hst]; exact HKV0.out)
            rw [hd1] at HEN
            clear hd1 hst hde hsv
            by_cases hz : d.de = 0
            · have hg : gE d = 8 := by simp [gE, hz]
              have hf := HO.out.lw.inv.fa0 hz
              rw [hg] at HEN
              rw [hf] at HFG
              rw [hz] at HDP
              clear hg hf hz hrg hd0 hd8
              go_upto_region 38 with (first
                | (go_at_call 18; (with_reducible refine HDP.out.mono ?_); rintro e w1 ⟨rfl, rfl⟩)
                | (go_at_call 19; (with_reducible refine HFG.out.mono ?_); rintro e w6 ⟨rfl, rfl⟩)
                | (go_at_call 14; (with_reducible refine HEN.out.mono ?_); rintro e w3 ⟨rfl, h3, hg3⟩; have HL := Lib.hid (HLX.out.step h3 hg3 HS1.out); clear h3 hg3))
              clear HX HLX HEN HDP HS1 HFG
              obtain ⟨dd, hdd⟩ : ∃ dd, d1 = dd := ⟨_, rfl⟩
              rw [hdd] at HL HKV
              clear hdd
              have HDe := Lib.hid (depth_any HL.out.lw.at_)
              have HSt := Lib.hid (stamp_any HL.out.lw.at_)
              have hsn := seen HL.out.lw.inv
              rcases hsn with ⟨h1, h2, h3⟩ | ⟨hp, ht, hst⟩
              · rw [h1] at HDe
                clear h1 h2 h3 HSt
                go_wp2_with (first
                  | (go_at_call 18; (with_reducible refine HDe.out.mono ?_); rintro e w6 ⟨rfl, rfl⟩)
                  | (go_at_call 13; (with_reducible refine HSt.out.mono ?_); rintro e w6 ⟨rfl, rfl⟩))
                go_roundw
                case rel => exact ⟨j + 1, _, _, K, by omega, by go_num, rfl, HL.out, HKV.out⟩
                case measure => simp [intOf]; omega
              · have hp' : decide (0 < dd.de) = true := decide_eq_true hp
                rw [hst, ← HKV.out] at HSt
                generalize dd.de = D at HDe hp'
                clear hp ht hst
                go_wp2_with (first
                  | (go_at_call 18; (with_reducible refine HDe.out.mono ?_); rintro e w6 ⟨rfl, rfl⟩)
                  | (go_at_call 13; (with_reducible refine HSt.out.mono ?_); rintro e w6 ⟨rfl, rfl⟩))
                go_roundw
                case rel => exact ⟨j + 1, _, _, K, by omega, by go_num, rfl, HL.out, HKV.out⟩
                case measure => simp [intOf]; omega
            · have hp : decide (0 < d.de) = true := decide_eq_true (by omega)
              cases hf : d.fa
              · have hg : gE d = 0 := by simp [gE, hz, hf]
                rw [hg] at HEN
                rw [hf] at HFG
                clear hg hf hz hrg
                generalize d.de = D0 at hd0 hd8 HDP hp
                go_upto_region 38 with (first
                  | (go_at_call 18; (with_reducible refine HDP.out.mono ?_); rintro e w1 ⟨rfl, rfl⟩)
                  | (go_at_call 19; (with_reducible refine HFG.out.mono ?_); rintro e w6 ⟨rfl, rfl⟩)
                  | (go_at_call 14; (with_reducible refine HEN.out.mono ?_); rintro e w3 ⟨rfl, h3, hg3⟩; have HL := Lib.hid (HLX.out.step h3 hg3 HS1.out); clear h3 hg3))
                clear HX HLX HEN HDP HS1 HFG
                obtain ⟨dd, hdd⟩ : ∃ dd, d1 = dd := ⟨_, rfl⟩
                rw [hdd] at HL HKV
                clear hdd
                have HDe := Lib.hid (depth_any HL.out.lw.at_)
                have HSt := Lib.hid (stamp_any HL.out.lw.at_)
                have hsn := seen HL.out.lw.inv
                rcases hsn with ⟨h1, h2, h3⟩ | ⟨hp, ht, hst⟩
                · rw [h1] at HDe
                  clear h1 h2 h3 HSt
                  go_wp2_with (first
                    | (go_at_call 18; (with_reducible refine HDe.out.mono ?_); rintro e w6 ⟨rfl, rfl⟩)
                    | (go_at_call 13; (with_reducible refine HSt.out.mono ?_); rintro e w6 ⟨rfl, rfl⟩))
                  go_roundw
                  case rel => exact ⟨j + 1, _, _, K, by omega, by go_num, rfl, HL.out, HKV.out⟩
                  case measure => simp [intOf]; omega
                · have hp' : decide (0 < dd.de) = true := decide_eq_true hp
                  rw [hst, ← HKV.out] at HSt
                  generalize dd.de = D at HDe hp'
                  clear hp ht hst
                  go_wp2_with (first
                    | (go_at_call 18; (with_reducible refine HDe.out.mono ?_); rintro e w6 ⟨rfl, rfl⟩)
                    | (go_at_call 13; (with_reducible refine HSt.out.mono ?_); rintro e w6 ⟨rfl, rfl⟩))
                  go_roundw
                  case rel => exact ⟨j + 1, _, _, K, by omega, by go_num, rfl, HL.out, HKV.out⟩
                  case measure => simp [intOf]; omega
              · have hg : gE d = 8 := by simp [gE, hf]
                rw [hg] at HEN
                rw [hf] at HFG
                clear hg hf hz hrg
                generalize d.de = D0 at hd0 hd8 HDP hp
                go_upto_region 38 with (first
                  | (go_at_call 18; (with_reducible refine HDP.out.mono ?_); rintro e w1 ⟨rfl, rfl⟩)
                  | (go_at_call 19; (with_reducible refine HFG.out.mono ?_); rintro e w6 ⟨rfl, rfl⟩)
                  | (go_at_call 14; (with_reducible refine HEN.out.mono ?_); rintro e w3 ⟨rfl, h3, hg3⟩; have HL := Lib.hid (HLX.out.step h3 hg3 HS1.out); clear h3 hg3))
                clear HX HLX HEN HDP HS1 HFG
                obtain ⟨dd, hdd⟩ : ∃ dd, d1 = dd := ⟨_, rfl⟩
                rw [hdd] at HL HKV
                clear hdd
                have HDe := Lib.hid (depth_any HL.out.lw.at_)
                have HSt := Lib.hid (stamp_any HL.out.lw.at_)
                have hsn := seen HL.out.lw.inv
                rcases hsn with ⟨h1, h2, h3⟩ | ⟨hp, ht, hst⟩
                · rw [h1] at HDe
                  clear h1 h2 h3 HSt
                  go_wp2_with (first
                    | (go_at_call 18; (with_reducible refine HDe.out.mono ?_); rintro e w6 ⟨rfl, rfl⟩)
                    | (go_at_call 13; (with_reducible refine HSt.out.mono ?_); rintro e w6 ⟨rfl, rfl⟩))
                  go_roundw
                  case rel => exact ⟨j + 1, _, _, K, by omega, by go_num, rfl, HL.out, HKV.out⟩
                  case measure => simp [intOf]; omega
                · have hp' : decide (0 < dd.de) = true := decide_eq_true hp
                  rw [hst, ← HKV.out] at HSt
                  generalize dd.de = D at HDe hp'
                  clear hp ht hst
                  go_wp2_with (first
                    | (go_at_call 18; (with_reducible refine HDe.out.mono ?_); rintro e w6 ⟨rfl, rfl⟩)
                    | (go_at_call 13; (with_reducible refine HSt.out.mono ?_); rintro e w6 ⟨rfl, rfl⟩))
                  go_roundw
                  case rel => exact ⟨j + 1, _, _, K, by omega, by go_num, rfl, HL.out, HKV.out⟩
                  case measure => simp [intOf]; omega
          · by_cases hk3 : kd = 3
            · subst hk3
              have HEN := Lib.hid HLX.out.lw.over
              cases hf : d.fa
              · have e1 : oE d = 8 := by simp [oE, hf]
                have e2 : oD d = d := by simp [oD, hf]
                obtain ⟨V, hV⟩ : ∃ V, oS d = V := ⟨_, rfl⟩
                obtain ⟨C, hC⟩ : ∃ C, oC d = C := ⟨_, rfl⟩
                have HS1 := Lib.hid HO.out.s
                have HKV := HKV0
                rw [e1, e2, hV, hC] at HEN
                clear e1 e2 hV hC hf hrg
                generalize d.de = D0 at hd0 hd8 HDP
                go_wp2_with (first
                  | (go_at_call 18; (with_reducible refine HDP.out.mono ?_); rintro e w1 ⟨rfl, rfl⟩)
                  | (go_at_call 15; (with_reducible refine HEN.out.mono ?_); rintro e w3 ⟨rfl, h3, hg3⟩; have HL := Lib.hid ((HLX.out.step h3 hg3 HS1.out).grown (grown_alloc (grown_refl w3 none) (.cells (sa V) 31))); clear h3 hg3)
                  | ((with_reducible refine store_svN V _ _ _ ?_ ?_ ?_ ?_); ((rfl)); ((rfl)); ((rfl))))
                go_roundw
                case rel => exact ⟨j + 1, _, _, K, by omega, by go_num, rfl, HL.out, HKV.out⟩
                case measure => simp [intOf]; omega
              · have e1 : oE d = 0 := by simp [oE, hf]
                have e2 : oD d = cl d (kp d) := by simp [oD, hf]
                have e3 : oS d = S := by
                  have : S = d.s := HO.out.s (fun e => by have := HO.out.lw.inv.fa0 e; rw [hf] at this; cases this)
                  simp [oS, hf, this]
                have e4 : oC d = d.ca := by simp [oC, hf]
                rw [e1, e2, e3, e4] at HEN
                have HS1 : Hid ((cl d (kp d)).de ≠ 0 → S = (cl d (kp d)).s) := Lib.hid fun h => (h rfl).elim
                have hne : ∀ w, (binOp .neq 31 (.agg (sa S)) (.agg (sa S))).run Try.prog w = .ok (.bool false) w := fun w => by
                  have := neS S S w
                  simpa using this
                have HC1 : Hid (bits .and .u32 d.ca 255 = 1 → K = (cl d (kp d)).st) := Lib.hid fun h => HKV0.out.trans (by show d.st = kp d; unfold kp; rw [if_pos h])
                have HC2 : Hid (¬ bits .and .u32 d.ca 255 = 1 → 0 = (cl d (kp d)).st) := Lib.hid fun h => by show 0 = kp d; unfold kp; rw [if_neg h]
                obtain ⟨C, hC⟩ : ∃ C, d.ca = C := ⟨_, rfl⟩
                rw [hC] at HEN HC1 HC2
                obtain ⟨d1, hd1⟩ : ∃ d1, cl d (kp d) = d1 := ⟨_, rfl⟩
                have HDZ : Hid (d1.de = 0) := Lib.hid (hd1 ▸ rfl)
                rw [hd1] at HEN HS1 HC1 HC2
                clear e1 e2 e3 e4 hf hrg hC hd1
                generalize d.de = D0 at hd0 hd8 HDP
                go_upto_region 32 with (first
                  | (go_at_call 18; (with_reducible refine HDP.out.mono ?_); rintro e w1 ⟨rfl, rfl⟩)
                  | (go_at_call 15; (with_reducible refine HEN.out.mono ?_); rintro e w3 ⟨rfl, h3, hg3⟩; have HL3 := Lib.hid (HLX.out.step h3 hg3 HS1.out); clear h3 hg3)
                  | ((with_reducible refine store_svN S _ _ _ ?_ ?_ ?_ ?_); ((rfl)); ((rfl)); ((rfl))))
                clear HX HLX HEN HDP HS1
                obtain ⟨w4, hw4⟩ : ∃ w4, w3.alloc (.cells (sa S) 31) = w4 := ⟨_, rfl⟩
                have HL : Hid (Ke w w4 g R d1 S) := Lib.hid (hw4 ▸ HL3.out.grown (grown_alloc (grown_refl _ _) _))
                have HR1 : Hid (w4.rangeAt w3.heap.size 0 (sl S)) := Lib.hid (hw4 ▸ sv_new w3 S _)
                have HR2 : Hid (w4.rangeAt R 0 (sl S)) := Lib.hid (sv_at HL.out.out)
                rw [hw4]
                clear hw4 HL3
                have HDe : Hid (Calls Try.prog 18 #[.pointer (some ⟨g, 0, none⟩)] w4 fun e w' => e = .returned (.int .i64 0) ∧ w4 = w') := Lib.hid (HDZ.out ▸ depth_any HL.out.lw.at_)
                by_cases hb : bits .and .u32 C 255 = 1
                · have HKV := Lib.hid (HC1.out hb)
                  have hb' : (bits .and .u32 C 255 != 1) = false := by simp [hb]
                  clear HC1 HC2 hb
                  go_wp2_with (first
                    | ((with_reducible refine load_sv S _ _ 0 ?_ HR1.out ?_); ((rfl)))
                    | ((with_reducible refine load_sv S _ _ 0 ?_ HR2.out ?_); ((rfl)))
                    | (go_at_call 18; (with_reducible refine HDe.out.mono ?_); rintro e w6 ⟨rfl, rfl⟩))
                  go_roundw
                  case rel => exact ⟨j + 1, _, _, K, by omega, by go_num, rfl, HL.out, HKV.out⟩
                  case measure => simp [intOf]; omega
                · have HKV := Lib.hid (HC2.out hb)
                  have hb' : (bits .and .u32 C 255 != 1) = true := by simp [hb]
                  clear HC1 HC2 hb
                  go_wp2_with (first
                    | ((with_reducible refine load_sv S _ _ 0 ?_ HR1.out ?_); ((rfl)))
                    | ((with_reducible refine load_sv S _ _ 0 ?_ HR2.out ?_); ((rfl)))
                    | (go_at_call 18; (with_reducible refine HDe.out.mono ?_); rintro e w6 ⟨rfl, rfl⟩))
                  go_roundw
                  case rel => exact ⟨j + 1, _, _, 0, by omega, by go_num, rfl, HL.out, HKV.out⟩
                  case measure => simp [intOf]; omega
            · by_cases hk4 : kd = 4
              · subst hk4
                have HEN := Lib.hid (HLX.out.lw.asked m st)
                have HS1 : Hid ((aD d m st).de ≠ 0 → S = (aD d m st).s) := Lib.hid HO.out.s
                have HKV : Hid (K = (aD d m st).st) := Lib.hid HKV0.out
                obtain ⟨d1, hd1⟩ : ∃ d1, aD d m st = d1 := ⟨_, rfl⟩
                rw [hd1] at HEN HS1 HKV
                clear hd1 hrg
                generalize d.de = D0 at hd0 hd8 HDP
                generalize ref (sT d) m = RF at HEN
                go_upto_region 38 with (first
                  | (go_at_call 18; (with_reducible refine HDP.out.mono ?_); rintro e w1 ⟨rfl, rfl⟩)
                  | (go_at_call 16; (with_reducible refine HEN.out.mono ?_); rintro e w3 ⟨rfl, h3, hg3⟩; have HL := Lib.hid (HLX.out.step h3 hg3 HS1.out); clear h3 hg3))
                clear HX HLX HEN HDP HS1
                obtain ⟨dd, hdd⟩ : ∃ dd, d1 = dd := ⟨_, rfl⟩
                rw [hdd] at HL HKV
                clear hdd
                have HDe := Lib.hid (depth_any HL.out.lw.at_)
                have HSt := Lib.hid (stamp_any HL.out.lw.at_)
                have hsn := seen HL.out.lw.inv
                rcases hsn with ⟨h1, h2, h3⟩ | ⟨hp, ht, hst⟩
                · rw [h1] at HDe
                  clear h1 h2 h3 HSt
                  go_wp2_with (first
                    | (go_at_call 18; (with_reducible refine HDe.out.mono ?_); rintro e w6 ⟨rfl, rfl⟩)
                    | (go_at_call 13; (with_reducible refine HSt.out.mono ?_); rintro e w6 ⟨rfl, rfl⟩))
                  go_roundw
                  case rel => exact ⟨j + 1, _, _, K, by omega, by go_num, rfl, HL.out, HKV.out⟩
                  case measure => simp [intOf]; omega
                · have hp' : decide (0 < dd.de) = true := decide_eq_true hp
                  rw [hst, ← HKV.out] at HSt
                  generalize dd.de = D at HDe hp'
                  clear hp ht hst
                  go_wp2_with (first
                    | (go_at_call 18; (with_reducible refine HDe.out.mono ?_); rintro e w6 ⟨rfl, rfl⟩)
                    | (go_at_call 13; (with_reducible refine HSt.out.mono ?_); rintro e w6 ⟨rfl, rfl⟩))
                  go_roundw
                  case rel => exact ⟨j + 1, _, _, K, by omega, by go_num, rfl, HL.out, HKV.out⟩
                  case measure => simp [intOf]; omega
              · have q0 : (kd == 0) = false := by simp [hk0]
                have q1 : (kd == 1) = false := by simp [hk1]
                have q2 : (kd == 2) = false := by simp [hk2]
                have q3 : (kd == 3) = false := by simp [hk3]
                have q4 : (kd == 4) = false := by simp [hk4]
                have HKV := HKV0
                go_upto_region 38 with (go_at_call 18; (with_reducible refine HDP.out.mono ?_); rintro e w1 ⟨rfl, rfl⟩)
                have HL := HLX
                clear HDP HX HLX q0 q1 q2 q3 q4 hk0 hk1 hk2 hk3 hk4
                obtain ⟨dd, hdd⟩ : ∃ dd, d = dd := ⟨_, rfl⟩
                rw [hdd] at HL HKV
                clear hdd
                have HDe := Lib.hid (depth_any HL.out.lw.at_)
                have HSt := Lib.hid (stamp_any HL.out.lw.at_)
                have hsn := seen HL.out.lw.inv
                rcases hsn with ⟨h1, h2, h3⟩ | ⟨hp, ht, hst⟩
                · rw [h1] at HDe
                  clear h1 h2 h3 HSt
                  go_wp2_with (first
                    | (go_at_call 18; (with_reducible refine HDe.out.mono ?_); rintro e w6 ⟨rfl, rfl⟩)
                    | (go_at_call 13; (with_reducible refine HSt.out.mono ?_); rintro e w6 ⟨rfl, rfl⟩))
                  go_roundw
                  case rel => exact ⟨j + 1, _, _, K, by omega, by go_num, rfl, HL.out, HKV.out⟩
                  case measure => simp [intOf]; omega
                · have hp' : decide (0 < dd.de) = true := decide_eq_true hp
                  rw [hst, ← HKV.out] at HSt
                  generalize dd.de = D at HDe hp'
                  clear hp ht hst
                  go_wp2_with (first
                    | (go_at_call 18; (with_reducible refine HDe.out.mono ?_); rintro e w6 ⟨rfl, rfl⟩)
                    | (go_at_call 13; (with_reducible refine HSt.out.mono ?_); rintro e w6 ⟨rfl, rfl⟩))
                  go_roundw
                  case rel => exact ⟨j + 1, _, _, K, by omega, by go_num, rfl, HL.out, HKV.out⟩
                  case measure => simp [intOf]; omega
    · obtain rfl : j = len1 := by omega
      clear HS HL1 HRG H31
      go_wp2_with (first
        | (go_at_call 9; (with_reducible refine (HWK.out _).mono ?_); rintro e w2 ⟨rfl, h2⟩; have HF := Lib.hid (grown_trans HO.out.lw.gr h2); clear h2))
      go_ret
      exact ⟨rfl, HF.out⟩
theorem keeps_true (n : Int) (os : List OpX) (ad1 : Option Addr) (len1 cap1 : Nat) (w : World) (hl1 : len1 = os.length) (ha1 : OpXAt w ad1 os) (hrg : OpXRng os) : Calls Try.prog 5 #[.int .i64 n, .slice ad1 len1 cap1] w fun e w' => e = .returned (.bool true) ∧ w.grownBy w' none := by
  have HWK : Hid (∀ w, _) := Lib.hid works_any
  by_cases h1 : len1 ≤ 300
  · by_cases hn : 1 ≤ n ∧ n ≤ 8
    · exact keeps_some n os ad1 len1 cap1 w h1 hl1 ha1 hrg hn.1 hn.2
    · have hd : decide ((300 : Int) < (len1 : Int)) = false := by simp; omega
      have HN := Lib.hid (new_no n w (by omega))
      clear ha1 hrg hn hl1
      go_enter Try.func5, Try.ntmps5
      go_wp2_with (first
        | (go_at_call 8; (with_reducible refine HN.out.mono ?_); rintro e w1 ⟨rfl, rfl⟩)
        | (go_at_call 9; (with_reducible refine (HWK.out _).mono ?_); rintro e w2 ⟨rfl, h2⟩; have HF := Lib.hid h2; clear h2))
      go_ret
      exact ⟨rfl, HF.out⟩
  · have hd : decide ((300 : Int) < (len1 : Int)) = true := by simp; omega
    clear ha1 hrg hl1
    go_enter Try.func5, Try.ntmps5
    go_wp2_with (first
      | (go_at_call 9; (with_reducible refine (HWK.out _).mono ?_); rintro e w2 ⟨rfl, h2⟩; have HF := Lib.hid h2; clear h2))
    go_ret
    exact ⟨rfl, HF.out⟩
end Go.Proofs.Ytkpgajegmomihaa.de
