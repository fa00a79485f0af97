/-
  The law DealDeep returns true: the walk. Conditions: the script lies where the argument says, and its words are words.
-/
import Derived.Test.YtkpgajegmomihaaDeR
import Derived.Deep.Cut
import Derived.Deep.RegionHeld3
import Derived.LoopTactic
namespace Go.Proofs.Ytkpgajegmomihaa.de
open Go Go.ChangeShapes Go.WideShapes Go.ChangeAt Go.RowKit
open Go.Proofs.Ytkpgajegmomihaa.tt (U zd row tyne add_lit lt_of range_grown setCells_rest heap_setCells heap_setCells_other grown_setCells grown_setRow grown_new grown_drewN grown_alloc grown_refl grown_trans grown_drew)
open Go.Proofs.Ytkpgajegmomihaa.oo (ref flag' gives older ret_bool jump_ret)
set_option linter.unusedVariables false
set_option maxRecDepth 1000000

theorem bD_ne (d : Dl) (s : Sv) (x : Int) : (bD d s x).ne = d.ne := by unfold bD; split; split; rfl; rfl; rfl
theorem eD_ne (d : Dl) : (eD d).ne = d.ne := by unfold eD; split; split; rfl; rfl; rfl
theorem fD_ne (d : Dl) (c : Int) : (fD d c).ne = d.ne := by unfold fD; split; rfl; rfl
theorem oD_ne (d : Dl) : (oD d).ne = d.ne := by unfold oD; split; rfl; rfl
theorem bD_de {d : Dl} (I : Inv d) (s : Sv) (x : Int) : (bE d x = 0 ∧ (bD d s x).de = d.de + 1) ∨ (bE d x ≠ 0 ∧ (bD d s x).de = d.de) := by
  by_cases h : bE d x = 0
  · refine .inl ⟨h, ?_⟩
    unfold bD
    rw [if_pos h]
    split
    · rename_i h0; show (1 : Int) = d.de + 1; omega
    · rfl
  · refine .inr ⟨h, ?_⟩
    unfold bD
    rw [if_neg h]
theorem eD_de {d : Dl} (I : Inv d) : (gE d = 0 ∧ (eD d).de = d.de - 1) ∨ (gE d = 8 ∧ (eD d).de = d.de) := by
  rcases gE_cases d with h | h
  · refine .inl ⟨h, ?_⟩
    unfold eD
    rw [if_pos h]
    split
    · rename_i h1; show (0 : Int) = d.de - 1; omega
    · rfl
  · refine .inr ⟨h, ?_⟩
    unfold eD
    rw [h]; rfl
/-- What the laws see of a deal. -/
theorem seen {d : Dl} (I : Inv d) : (d.de = 0 ∧ sT d = 0 ∧ d.fa = false) ∨ (0 < d.de ∧ sT d ≠ 0 ∧ sT d = d.st) := by
  have := I.d0
  by_cases h : d.de = 0
  · exact .inl ⟨h, by simp [sT, h], I.fa0 h⟩
  · have hs : sT d = d.st := by simp [sT, h]
    exact .inr ⟨by omega, by rw [hs]; exact I.st0 h, hs⟩
/-- The five cells of a call of the script. -/
theorem op_cells {W : World} {B : Nat} {kd n st ca : Int} {m : Bool} {t : TypeId} (h : W.heap[B]? = some (.cells #[.int .i64 kd, .int .i64 n, .int .u64 st, .int .u32 ca, .bool m] t (0, 0))) :
    W.cell? ⟨B, 1, none⟩ = some (.int .i64 n) ∧ W.cell? ⟨B, 2, none⟩ = some (.int .u64 st) ∧ W.cell? ⟨B, 3, none⟩ = some (.int .u32 ca) ∧ W.cell? ⟨B, 4, none⟩ = some (.bool m) := by
  simp [World.cell?, h]
theorem wrapI {x : Int} (h0 : -9223372036854775808 ≤ x) (h1 : x < 9223372036854775808) : IntKind.i64.wrap x = x := by rw [IntKind.wrap_i64]; omega
theorem Lw.ltB {w0 w : World} {g : Nat} {d : Dl} (h : Lw w0 w g d) : g < w.heap.size := h.at_.lt
set_option maxHeartbeats 16000000 in
theorem deep_some (n : Int) (os : List OpX) (ad1 : Option Addr) (len1 cap1 : Nat) (w : World) (h1 : len1 ≤ 300) (hl1 : len1 = os.length) (ha1 : OpXAt w ad1 os) (hrg : OpXRng os) (hn1 : 1 ≤ n) (hn8 : n ≤ 8) : Calls Try.prog 7 #[.int .i64 n, .slice ad1 len1 cap1] w fun e w' => e = .returned (.bool true) ∧ w.grownBy w' none := by
  have hd : decide ((300 : Int) < (len1 : Int)) = false := by simp; omega
  have HN := Lib.hid (Lw.new n w w (grown_refl _ _) hn1 hn8)
  have HS : Hid (∀ n w, _) := Lib.hid save_any
  have HWK : Hid (∀ w, _) := Lib.hid works_any
  have HAT := Lib.hid ha1
  have HL1 := Lib.hid hl1
  have HRG := Lib.hid hrg
  have H31 := Lib.hid h1
  clear h1 hl1 ha1 hrg hn1 hn8
  go_enter Try.func7, Try.ntmps7
  go_wp2_with (first
    | (go_at_call 8; (with_reducible refine HN.out.mono ?_); rintro e w1 ⟨g, rfl, h1, _, _⟩; have H0 := Lib.hid h1; clear h1))
  go_loopw [26] (fun i wr => ∃ (j : Nat) (d : Dl), j ≤ len1 ∧ i = .int .i64 (j : Int) ∧ Lw w wr g d ∧ d.ne = n) (fun i _ => len1 - (intOf i).toNat)
  case atStart => exact ⟨0, nw n, Nat.zero_le _, rfl, H0.out, rfl⟩
  case round =>
    clear H0 HN
    obtain ⟨j, d, hj, rfl, ho, hne⟩ := hrel
    have HO := Lib.hid ho
    have HNE0 := Lib.hid hne
    clear ho hne
    have hj300 : j ≤ 300 := by have := H31.out; omega
    by_cases hlt : j < len1
    · obtain ⟨⟨kd, nn, st, ca, m⟩, hq⟩ : ∃ q, os[j]? = some q := ⟨_, List.getElem?_eq_getElem (by have := HL1.out; omega)⟩
      have hrg := HRG.out _ (List.mem_of_getElem? hq)
      obtain ⟨bp, op, rfl, hr0, hr1, hr2, hr3, hr4⟩ := (HAT.out.grown HO.out.gr) j _ hq
      clear hq
      dsimp only at hr0 hr1 hr2 hr3 hr4 hrg
      have HX : Hid (wr.grownBy (wr.alloc (.cells #[.int .i64 kd, .int .i64 nn, .int .u64 st, .int .u32 ca, .bool m] 49)) none) := Lib.hid (grown_alloc (grown_refl _ _) _)
      have HLX := Lib.hid (HO.out.grown HX.out)
      have HDP := Lib.hid (depth_any HLX.out.at_)
      have HGB : Hid (g < wr.heap.size) := Lib.hid HO.out.ltB
      have hd0 := HO.out.inv.d0
      have hd8 : d.de ≤ 8 := Int.le_trans HO.out.inv.dn HO.out.inv.n8
      by_cases hk0 : kd = 0
      · subst hk0
        obtain ⟨XW, hXW⟩ : ∃ W, W = wr.alloc (.cells #[.int .i64 0, .int .i64 nn, .int .u64 st, .int .u32 ca, .bool m] 49) := ⟨_, rfl⟩
        have hb0 : XW.heap[wr.heap.size]? = some (.cells #[.int .i64 0, .int .i64 nn, .int .u64 st, .int .u32 ca, .bool m] 49 (0, 0)) := by rw [hXW]; exact heap_alloc_new _ _
        have HB0 := Lib.hid hb0
        clear hb0
        go_upto_region 12 with (go_at_call 18; (with_reducible refine HDP.out.mono ?_); rintro e w1 ⟨rfl, rfl⟩)
        rw [← hXW] at HLX ⊢
        clear hXW HDP HX
        obtain ⟨B, hB⟩ : ∃ B, wr.heap.size = B := ⟨_, rfl⟩
        rw [hB] at HB0 HGB ⊢
        clear hB
        have HK0 : Hid (XW.cell? ⟨B, 1, none⟩ = some (.int .i64 nn) ∧ XW.cell? ⟨B, 2, none⟩ = some (.int .u64 st)) := Lib.hid ⟨(op_cells HB0.out).1, (op_cells HB0.out).2.1⟩
        have HK1 : Hid (XW.drew.cell? ⟨B, 1, none⟩ = some (.int .i64 nn) ∧ XW.drew.cell? ⟨B, 2, none⟩ = some (.int .u64 st)) := Lib.hid HK0.out
        have HL1x : Hid (Lw w XW.drew g d) := Lib.hid (HLX.out.grown (grown_drewN (grown_refl _ _) 1))
        have HBG : Hid (∀ W, Lw w W g d → _) := Lib.hid fun W h => Lw.begin_ h (sN nn) st hrg.1
        have hbd := bD_de HO.out.inv (sN nn) st
        have HNE : Hid ((bD d (sN nn) st).ne = n) := Lib.hid ((bD_ne _ _ _).trans HNE0.out)
        obtain ⟨d1, hd1⟩ : ∃ d1, bD d (sN nn) st = d1 := ⟨_, rfl⟩
        obtain ⟨e1, he1⟩ : ∃ e1, bE d st = e1 := ⟨_, rfl⟩
        rw [hd1] at HBG hbd HNE
        rw [he1] at HBG hbd
        have HDE : Hid (∀ W, Lw w W g d1 → _) := Lib.hid fun W h => depth_any (Lw.at_ h)
        clear hd1 he1 hrg
        generalize d1.de = D1 at hbd HDE
        generalize d.de = D0 at *
        have hw : IntKind.i64.wrap (D0 + 1) = D0 + 1 := wrapI (by omega) (by omega)
        rcases hbd with ⟨rfl, rfl⟩ | ⟨he1, rfl⟩
        · go_region_held3 (fun W => W.cell? ⟨B, 1, none⟩ = some (.int .i64 nn) ∧ W.cell? ⟨B, 2, none⟩ = some (.int .u64 st))
            (first | exact HK0.out | exact HK1.out | exact HK2.out | exact HK3.out)
            (first
              | (go_at_call 11; ((with_reducible refine (HS.out _ _).mono ?_); rintro e w2 ⟨rfl, h2⟩; have HL2 := Lib.hid (HL1x.out.grown h2); have HK2 := Lib.hid (And.intro (h2.cell HK1.out.1 (by simp)) (h2.cell HK1.out.2 (by simp))); clear h2))
              | (go_at_call 10; ((with_reducible refine (HBG.out _ HL2.out).mono ?_); rintro e w3 ⟨rfl, h3, hg3⟩; have HL := Lib.hid h3; have HK3 := Lib.hid (And.intro (hg3.cell HK2.out.1 (by have := HGB.out; simp; omega)) (hg3.cell HK2.out.2 (by have := HGB.out; simp; omega))); clear h3 hg3))
              | (go_at_call 18; (with_reducible refine (HDE.out _ HL.out).mono ?_); rintro e w6 ⟨rfl, rfl⟩))
          clear HL1x HL2 HK0 HK1 HK2 HK3 hw HBG HDE
          obtain ⟨dd, hdd⟩ : ∃ dd, d1 = dd := ⟨_, rfl⟩
          rw [hdd] at HL HNE
          clear hdd
          have HDe := Lib.hid (depth_any HL.out.at_)
          have HSt := Lib.hid (stamp_any HL.out.at_)
          have HFa := Lib.hid (failing_any HL.out.at_)
          have hq0 := HL.out.inv.d0
          have hq1 : dd.de ≤ n := HNE.out ▸ HL.out.inv.dn
          have hsn := seen HL.out.inv
          have HINV := Lib.hid HL.out.inv
          generalize dd.de = D at HDe hq0 hq1 hsn
          generalize sT dd = T at HSt hsn
          generalize dd.fa = F at HFa hsn
          have hl0 : decide (D < 0) = false := decide_eq_false (by omega)
          have hl1 : decide (n < D) = false := decide_eq_false (by omega)
          rcases hsn with ⟨rfl, rfl, rfl⟩ | ⟨hp, ht, hst⟩
          · clear hq0 hq1
            go_wp2_with (first
              | (go_at_call 18; (with_reducible refine HDe.out.mono ?_); rintro e w6 ⟨rfl, rfl⟩)
              | (go_at_call 13; (with_reducible refine HSt.out.mono ?_); rintro e w6 ⟨rfl, rfl⟩)
              | (go_at_call 19; (with_reducible refine HFa.out.mono ?_); rintro e w6 ⟨rfl, rfl⟩))
            go_roundw
            case rel => exact ⟨j + 1, _, by omega, by go_num, HL.out, HNE.out⟩
            case measure => simp [intOf]; omega
          · have hp' : decide (0 < D) = true := decide_eq_true hp
            have hp2 : (D == 0) = false := by simp; omega
            have ht' : (T != 0) = true := by simp [ht]
            clear hq0 hq1 hp ht hst
            cases F
            · go_wp2_with (first
                | (go_at_call 18; (with_reducible refine HDe.out.mono ?_); rintro e w6 ⟨rfl, rfl⟩)
                | (go_at_call 13; (with_reducible refine HSt.out.mono ?_); rintro e w6 ⟨rfl, rfl⟩)
                | (go_at_call 19; (with_reducible refine HFa.out.mono ?_); rintro e w6 ⟨rfl, rfl⟩))
              go_roundw
              case rel => exact ⟨j + 1, _, by omega, by go_num, HL.out, HNE.out⟩
              case measure => simp [intOf]; omega
            · go_wp2_with (first
                | (go_at_call 18; (with_reducible refine HDe.out.mono ?_); rintro e w6 ⟨rfl, rfl⟩)
                | (go_at_call 13; (with_reducible refine HSt.out.mono ?_); rintro e w6 ⟨rfl, rfl⟩)
                | (go_at_call 19; (with_reducible refine HFa.out.mono ?_); rintro e w6 ⟨rfl, rfl⟩))
              go_roundw
              case rel => exact ⟨j + 1, _, by omega, by go_num, HL.out, HNE.out⟩
              case measure => simp [intOf]; omega
        · have he1' : (e1 == 0) = false := by simp [he1]
          have hw2 : (D1 == D1 + 1) = false := by simp; omega
          go_region_held3 (fun W => W.cell? ⟨B, 1, none⟩ = some (.int .i64 nn) ∧ W.cell? ⟨B, 2, none⟩ = some (.int .u64 st))
            (first | exact HK0.out | exact HK1.out | exact HK2.out | exact HK3.out)
            (first
              | (go_at_call 11; ((with_reducible refine (HS.out _ _).mono ?_); rintro e w2 ⟨rfl, h2⟩; have HL2 := Lib.hid (HL1x.out.grown h2); have HK2 := Lib.hid (And.intro (h2.cell HK1.out.1 (by simp)) (h2.cell HK1.out.2 (by simp))); clear h2))
              | (go_at_call 10; ((with_reducible refine (HBG.out _ HL2.out).mono ?_); rintro e w3 ⟨rfl, h3, hg3⟩; have HL := Lib.hid h3; have HK3 := Lib.hid (And.intro (hg3.cell HK2.out.1 (by have := HGB.out; simp; omega)) (hg3.cell HK2.out.2 (by have := HGB.out; simp; omega))); clear h3 hg3))
              | (go_at_call 18; (with_reducible refine (HDE.out _ HL.out).mono ?_); rintro e w6 ⟨rfl, rfl⟩))
          clear HL1x HL2 HK0 HK1 HK2 HK3 hw hw2 HBG HDE
          obtain ⟨dd, hdd⟩ : ∃ dd, d1 = dd := ⟨_, rfl⟩
          rw [hdd] at HL HNE
          clear hdd
          have HDe := Lib.hid (depth_any HL.out.at_)
          have HSt := Lib.hid (stamp_any HL.out.at_)
          have HFa := Lib.hid (failing_any HL.out.at_)
          have hq0 := HL.out.inv.d0
          have hq1 : dd.de ≤ n := HNE.out ▸ HL.out.inv.dn
          have hsn := seen HL.out.inv
          have HINV := Lib.hid HL.out.inv
          generalize dd.de = D at HDe hq0 hq1 hsn
          generalize sT dd = T at HSt hsn
          generalize dd.fa = F at HFa hsn
          have hl0 : decide (D < 0) = false := decide_eq_false (by omega)
          have hl1 : decide (n < D) = false := decide_eq_false (by omega)
          rcases hsn with ⟨rfl, rfl, rfl⟩ | ⟨hp, ht, hst⟩
          · clear hq0 hq1
            go_wp2_with (first
              | (go_at_call 18; (with_reducible refine HDe.out.mono ?_); rintro e w6 ⟨rfl, rfl⟩)
              | (go_at_call 13; (with_reducible refine HSt.out.mono ?_); rintro e w6 ⟨rfl, rfl⟩)
              | (go_at_call 19; (with_reducible refine HFa.out.mono ?_); rintro e w6 ⟨rfl, rfl⟩))
            go_roundw
            case rel => exact ⟨j + 1, _, by omega, by go_num, HL.out, HNE.out⟩
            case measure => simp [intOf]; omega
          · have hp' : decide (0 < D) = true := decide_eq_true hp
            have hp2 : (D == 0) = false := by simp; omega
            have ht' : (T != 0) = true := by simp [ht]
            clear hq0 hq1 hp ht hst
            cases F
            · go_wp2_with (first
                | (go_at_call 18; (with_reducible refine HDe.out.mono ?_); rintro e w6 ⟨rfl, rfl⟩)
                | (go_at_call 13; (with_reducible refine HSt.out.mono ?_); rintro e w6 ⟨rfl, rfl⟩)
                | (go_at_call 19; (with_reducible refine HFa.out.mono ?_); rintro e w6 ⟨rfl, rfl⟩))
              go_roundw
              case rel => exact ⟨j + 1, _, by omega, by go_num, HL.out, HNE.out⟩
              case measure => simp [intOf]; omega
            · go_wp2_with (first
                | (go_at_call 18; (with_reducible refine HDe.out.mono ?_); rintro e w6 ⟨rfl, rfl⟩)
                | (go_at_call 13; (with_reducible refine HSt.out.mono ?_); rintro e w6 ⟨rfl, rfl⟩)
                | (go_at_call 19; (with_reducible refine HFa.out.mono ?_); rintro e w6 ⟨rfl, rfl⟩))
              go_roundw
              case rel => exact ⟨j + 1, _, by omega, by go_num, HL.out, HNE.out⟩
              case measure => simp [intOf]; omega
      · by_cases hk1 : kd = 1
        · subst hk1
          have HEN := Lib.hid HLX.out.end_
          have hed := eD_de HO.out.inv
          have HNE : Hid ((eD d).ne = n) := Lib.hid ((eD_ne _).trans HNE0.out)
          obtain ⟨d1, hd1⟩ : ∃ d1, eD d = d1 := ⟨_, rfl⟩
          obtain ⟨e1, he1⟩ : ∃ e1, gE d = e1 := ⟨_, rfl⟩
          obtain ⟨c1, hc1⟩ : ∃ c1, eC d = c1 := ⟨_, rfl⟩
          rw [hd1] at HEN hed HNE
          rw [he1] at HEN hed
          rw [hc1] at HEN
          have HDE : Hid (∀ W, Lw w W g d1 → _) := Lib.hid fun W h => depth_any (Lw.at_ h)
          clear hd1 he1 hc1 hrg
          generalize d1.de = D1 at hed HDE
          generalize d.de = D0 at *
          rcases hed with ⟨rfl, rfl⟩ | ⟨rfl, rfl⟩
          · go_upto_region 22 with (first
              | (go_at_call 18; (with_reducible refine HDP.out.mono ?_); rintro e w1 ⟨rfl, rfl⟩)
              | (go_at_call 12; (with_reducible refine HEN.out.mono ?_); rintro e w3 ⟨rfl, h3, hg3⟩; have HL := Lib.hid h3; clear h3 hg3)
              | (go_at_call 18; (with_reducible refine (HDE.out _ HL.out).mono ?_); rintro e w6 ⟨rfl, rfl⟩))
            clear HDP HX HLX HEN HDE
            obtain ⟨dd, hdd⟩ : ∃ dd, d1 = dd := ⟨_, rfl⟩
            rw [hdd] at HL HNE
            clear hdd
            have HDe := Lib.hid (depth_any HL.out.at_)
            have HSt := Lib.hid (stamp_any HL.out.at_)
            have HFa := Lib.hid (failing_any HL.out.at_)
            have hq0 := HL.out.inv.d0
            have hq1 : dd.de ≤ n := HNE.out ▸ HL.out.inv.dn
            have hsn := seen HL.out.inv
            have HINV := Lib.hid HL.out.inv
            generalize dd.de = D at HDe hq0 hq1 hsn
            generalize sT dd = T at HSt hsn
            generalize dd.fa = F at HFa hsn
            have hl0 : decide (D < 0) = false := decide_eq_false (by omega)
            have hl1 : decide (n < D) = false := decide_eq_false (by omega)
            rcases hsn with ⟨rfl, rfl, rfl⟩ | ⟨hp, ht, hst⟩
            · clear hq0 hq1
              go_wp2_with (first
                | (go_at_call 18; (with_reducible refine HDe.out.mono ?_); rintro e w6 ⟨rfl, rfl⟩)
                | (go_at_call 13; (with_reducible refine HSt.out.mono ?_); rintro e w6 ⟨rfl, rfl⟩)
                | (go_at_call 19; (with_reducible refine HFa.out.mono ?_); rintro e w6 ⟨rfl, rfl⟩))
              go_roundw
              case rel => exact ⟨j + 1, _, by omega, by go_num, HL.out, HNE.out⟩
              case measure => simp [intOf]; omega
            · have hp' : decide (0 < D) = true := decide_eq_true hp
              have hp2 : (D == 0) = false := by simp; omega
              have ht' : (T != 0) = true := by simp [ht]
              clear hq0 hq1 hp ht hst
              cases F
              · go_wp2_with (first
                  | (go_at_call 18; (with_reducible refine HDe.out.mono ?_); rintro e w6 ⟨rfl, rfl⟩)
                  | (go_at_call 13; (with_reducible refine HSt.out.mono ?_); rintro e w6 ⟨rfl, rfl⟩)
                  | (go_at_call 19; (with_reducible refine HFa.out.mono ?_); rintro e w6 ⟨rfl, rfl⟩))
                go_roundw
                case rel => exact ⟨j + 1, _, by omega, by go_num, HL.out, HNE.out⟩
                case measure => simp [intOf]; omega
              · go_wp2_with (first
                  | (go_at_call 18; (with_reducible refine HDe.out.mono ?_); rintro e w6 ⟨rfl, rfl⟩)
                  | (go_at_call 13; (with_reducible refine HSt.out.mono ?_); rintro e w6 ⟨rfl, rfl⟩)
                  | (go_at_call 19; (with_reducible refine HFa.out.mono ?_); rintro e w6 ⟨rfl, rfl⟩))
                go_roundw
                case rel => exact ⟨j + 1, _, by omega, by go_num, HL.out, HNE.out⟩
                case measure => simp [intOf]; omega
          · have hw2 : (D1 == D1 - 1) = false := by simp; omega
            go_upto_region 22 with (first
              | (go_at_call 18; (with_reducible refine HDP.out.mono ?_); rintro e w1 ⟨rfl, rfl⟩)
              | (go_at_call 12; (with_reducible refine HEN.out.mono ?_); rintro e w3 ⟨rfl, h3, hg3⟩; have HL := Lib.hid h3; clear h3 hg3)
              | (go_at_call 18; (with_reducible refine (HDE.out _ HL.out).mono ?_); rintro e w6 ⟨rfl, rfl⟩))
            clear hw2 HDP HX HLX HEN HDE
            obtain ⟨dd, hdd⟩ : ∃ dd, d1 = dd := ⟨_, rfl⟩
            rw [hdd] at HL HNE
            clear hdd
            have HDe := Lib.hid (depth_any HL.out.at_)
            have HSt := Lib.hid (stamp_any HL.out.at_)
            have HFa := Lib.hid (failing_any HL.out.at_)
            have hq0 := HL.out.inv.d0
            have hq1 : dd.de ≤ n := HNE.out ▸ HL.out.inv.dn
            have hsn := seen HL.out.inv
            have HINV := Lib.hid HL.out.inv
            generalize dd.de = D at HDe hq0 hq1 hsn
            generalize sT dd = T at HSt hsn
            generalize dd.fa = F at HFa hsn
            have hl0 : decide (D < 0) = false := decide_eq_false (by omega)
            have hl1 : decide (n < D) = false := decide_eq_false (by omega)
            rcases hsn with ⟨rfl, rfl, rfl⟩ | ⟨hp, ht, hst⟩
            · clear hq0 hq1
              go_wp2_with (first
                | (go_at_call 18; (with_reducible refine HDe.out.mono ?_); rintro e w6 ⟨rfl, rfl⟩)
                | (go_at_call 13; (with_reducible refine HSt.out.mono ?_); rintro e w6 ⟨rfl, rfl⟩)
                | (go_at_call 19; (with_reducible refine HFa.out.mono ?_); rintro e w6 ⟨rfl, rfl⟩))
              go_roundw
              case rel => exact ⟨j + 1, _, by omega, by go_num, HL.out, HNE.out⟩
              case measure => simp [intOf]; omega
            · have hp' : decide (0 < D) = true := decide_eq_true hp
              have hp2 : (D == 0) = false := by simp; omega
              have ht' : (T != 0) = true := by simp [ht]
              clear hq0 hq1 hp ht hst
              cases F
              · go_wp2_with (first
                  | (go_at_call 18; (with_reducible refine HDe.out.mono ?_); rintro e w6 ⟨rfl, rfl⟩)
                  | (go_at_call 13; (with_reducible refine HSt.out.mono ?_); rintro e w6 ⟨rfl, rfl⟩)
                  | (go_at_call 19; (with_reducible refine HFa.out.mono ?_); rintro e w6 ⟨rfl, rfl⟩))
                go_roundw
                case rel => exact ⟨j + 1, _, by omega, by go_num, HL.out, HNE.out⟩
                case measure => simp [intOf]; omega
              · go_wp2_with (first
                  | (go_at_call 18; (with_reducible refine HDe.out.mono ?_); rintro e w6 ⟨rfl, rfl⟩)
                  | (go_at_call 13; (with_reducible refine HSt.out.mono ?_); rintro e w6 ⟨rfl, rfl⟩)
                  | (go_at_call 19; (with_reducible refine HFa.out.mono ?_); rintro e w6 ⟨rfl, rfl⟩))
                go_roundw
                case rel => exact ⟨j + 1, _, by omega, by go_num, HL.out, HNE.out⟩
                case measure => simp [intOf]; omega
        · by_cases hk2 : kd = 2
          · subst hk2
            have HEN := Lib.hid (HLX.out.fail_ ca hrg.2.2.1 hrg.2.2.2)
            have HNE : Hid ((fD d ca).ne = n) := Lib.hid ((fD_ne _ _).trans HNE0.out)
            go_upto_region 22 with (first
              | (go_at_call 18; (with_reducible refine HDP.out.mono ?_); rintro e w1 ⟨rfl, rfl⟩)
              | (go_at_call 14; (with_reducible refine HEN.out.mono ?_); rintro e w3 ⟨rfl, h3, hg3⟩; have HL := Lib.hid h3; clear h3 hg3))
            clear HDP HX HLX HEN
            obtain ⟨dd, hdd⟩ : ∃ dd, fD d ca = dd := ⟨_, rfl⟩
            rw [hdd] at HL HNE
            clear hdd
            have HDe := Lib.hid (depth_any HL.out.at_)
            have HSt := Lib.hid (stamp_any HL.out.at_)
            have HFa := Lib.hid (failing_any HL.out.at_)
            have hq0 := HL.out.inv.d0
            have hq1 : dd.de ≤ n := HNE.out ▸ HL.out.inv.dn
            have hsn := seen HL.out.inv
            have HINV := Lib.hid HL.out.inv
            generalize dd.de = D at HDe hq0 hq1 hsn
            generalize sT dd = T at HSt hsn
            generalize dd.fa = F at HFa hsn
            have hl0 : decide (D < 0) = false := decide_eq_false (by omega)
            have hl1 : decide (n < D) = false := decide_eq_false (by omega)
            rcases hsn with ⟨rfl, rfl, rfl⟩ | ⟨hp, ht, hst⟩
            · clear hq0 hq1
              go_wp2_with (first
                | (go_at_call 18; (with_reducible refine HDe.out.mono ?_); rintro e w6 ⟨rfl, rfl⟩)
                | (go_at_call 13; (with_reducible refine HSt.out.mono ?_); rintro e w6 ⟨rfl, rfl⟩)
                | (go_at_call 19; (with_reducible refine HFa.out.mono ?_); rintro e w6 ⟨rfl, rfl⟩))
              go_roundw
              case rel => exact ⟨j + 1, _, by omega, by go_num, HL.out, HNE.out⟩
              case measure => simp [intOf]; omega
            · have hp' : decide (0 < D) = true := decide_eq_true hp
              have hp2 : (D == 0) = false := by simp; omega
              have ht' : (T != 0) = true := by simp [ht]
              clear hq0 hq1 hp ht hst
              cases F
              · go_wp2_with (first
                  | (go_at_call 18; (with_reducible refine HDe.out.mono ?_); rintro e w6 ⟨rfl, rfl⟩)
                  | (go_at_call 13; (with_reducible refine HSt.out.mono ?_); rintro e w6 ⟨rfl, rfl⟩)
                  | (go_at_call 19; (with_reducible refine HFa.out.mono ?_); rintro e w6 ⟨rfl, rfl⟩))
                go_roundw
                case rel => exact ⟨j + 1, _, by omega, by go_num, HL.out, HNE.out⟩
                case measure => simp [intOf]; omega
              · go_wp2_with (first
                  | (go_at_call 18; (with_reducible refine HDe.out.mono ?_); rintro e w6 ⟨rfl, rfl⟩)
                  | (go_at_call 13; (with_reducible refine HSt.out.mono ?_); rintro e w6 ⟨rfl, rfl⟩)
                  | (go_at_call 19; (with_reducible refine HFa.out.mono ?_); rintro e w6 ⟨rfl, rfl⟩))
                go_roundw
                case rel => exact ⟨j + 1, _, by omega, by go_num, HL.out, HNE.out⟩
                case measure => simp [intOf]; omega
          · by_cases hk3 : kd = 3
            · subst hk3
              have HEN := Lib.hid HLX.out.over
              have HNE : Hid ((oD d).ne = n) := Lib.hid ((oD_ne _).trans HNE0.out)
              go_upto_region 22 with (first
                | (go_at_call 18; (with_reducible refine HDP.out.mono ?_); rintro e w1 ⟨rfl, rfl⟩)
                | (go_at_call 15; (with_reducible refine HEN.out.mono ?_); rintro e w3 ⟨rfl, h3, hg3⟩; have HL := Lib.hid h3; clear h3 hg3))
              clear HDP HX HLX HEN
              obtain ⟨dd, hdd⟩ : ∃ dd, oD d = dd := ⟨_, rfl⟩
              rw [hdd] at HL HNE
              clear hdd
              have HDe := Lib.hid (depth_any HL.out.at_)
              have HSt := Lib.hid (stamp_any HL.out.at_)
              have HFa := Lib.hid (failing_any HL.out.at_)
              have hq0 := HL.out.inv.d0
              have hq1 : dd.de ≤ n := HNE.out ▸ HL.out.inv.dn
              have hsn := seen HL.out.inv
              have HINV := Lib.hid HL.out.inv
              generalize dd.de = D at HDe hq0 hq1 hsn
              generalize sT dd = T at HSt hsn
              generalize dd.fa = F at HFa hsn
              have hl0 : decide (D < 0) = false := decide_eq_false (by omega)
              have hl1 : decide (n < D) = false := decide_eq_false (by omega)
              rcases hsn with ⟨rfl, rfl, rfl⟩ | ⟨hp, ht, hst⟩
              · clear hq0 hq1
                go_wp2_with (first
                  | (go_at_call 18; (with_reducible refine HDe.out.mono ?_); rintro e w6 ⟨rfl, rfl⟩)
                  | (go_at_call 13; (with_reducible refine HSt.out.mono ?_); rintro e w6 ⟨rfl, rfl⟩)
                  | (go_at_call 19; (with_reducible refine HFa.out.mono ?_); rintro e w6 ⟨rfl, rfl⟩))
                go_roundw
                case rel => exact ⟨j + 1, _, by omega, by go_num, HL.out, HNE.out⟩
                case measure => simp [intOf]; omega
              · have hp' : decide (0 < D) = true := decide_eq_true hp
                have hp2 : (D == 0) = false := by simp; omega
                have ht' : (T != 0) = true := by simp [ht]
                clear hq0 hq1 hp ht hst
                cases F
                · go_wp2_with (first
                    | (go_at_call 18; (with_reducible refine HDe.out.mono ?_); rintro e w6 ⟨rfl, rfl⟩)
                    | (go_at_call 13; (with_reducible refine HSt.out.mono ?_); rintro e w6 ⟨rfl, rfl⟩)
                    | (go_at_call 19; (with_reducible refine HFa.out.mono ?_); rintro e w6 ⟨rfl, rfl⟩))
                  go_roundw
                  case rel => exact ⟨j + 1, _, by omega, by go_num, HL.out, HNE.out⟩
                  case measure => simp [intOf]; omega
                · go_wp2_with (first
                    | (go_at_call 18; (with_reducible refine HDe.out.mono ?_); rintro e w6 ⟨rfl, rfl⟩)
                    | (go_at_call 13; (with_reducible refine HSt.out.mono ?_); rintro e w6 ⟨rfl, rfl⟩)
                    | (go_at_call 19; (with_reducible refine HFa.out.mono ?_); rintro e w6 ⟨rfl, rfl⟩))
                  go_roundw
                  case rel => exact ⟨j + 1, _, by omega, by go_num, HL.out, HNE.out⟩
                  case measure => simp [intOf]; omega
            · have q0 : (kd == 0) = false := by simp [hk0]
              have q1 : (kd == 1) = false := by simp [hk1]
              have q2 : (kd == 2) = false := by simp [hk2]
              have q3 : (kd == 3) = false := by simp [hk3]
              have HNE := HNE0
              go_upto_region 22 with (go_at_call 18; (with_reducible refine HDP.out.mono ?_); rintro e w1 ⟨rfl, rfl⟩)
              have HL := HLX
              clear HDP HX HLX q0 q1 q2 q3 hk0 hk1 hk2 hk3
              obtain ⟨dd, hdd⟩ : ∃ dd, d = dd := ⟨_, rfl⟩
              rw [hdd] at HL HNE
              clear hdd
              have HDe := Lib.hid (depth_any HL.out.at_)
              have HSt := Lib.hid (stamp_any HL.out.at_)
              have HFa := Lib.hid (failing_any HL.out.at_)
              have hq0 := HL.out.inv.d0
              have hq1 : dd.de ≤ n := HNE.out ▸ HL.out.inv.dn
              have hsn := seen HL.out.inv
              have HINV := Lib.hid HL.out.inv
              generalize dd.de = D at HDe hq0 hq1 hsn
              generalize sT dd = T at HSt hsn
              generalize dd.fa = F at HFa hsn
              have hl0 : decide (D < 0) = false := decide_eq_false (by omega)
              have hl1 : decide (n < D) = false := decide_eq_false (by omega)
              rcases hsn with ⟨rfl, rfl, rfl⟩ | ⟨hp, ht, hst⟩
              · clear hq0 hq1
                go_wp2_with (first
                  | (go_at_call 18; (with_reducible refine HDe.out.mono ?_); rintro e w6 ⟨rfl, rfl⟩)
                  | (go_at_call 13; (with_reducible refine HSt.out.mono ?_); rintro e w6 ⟨rfl, rfl⟩)
                  | (go_at_call 19; (with_reducible refine HFa.out.mono ?_); rintro e w6 ⟨rfl, rfl⟩))
                go_roundw
                case rel => exact ⟨j + 1, _, by omega, by go_num, HL.out, HNE.out⟩
                case measure => simp [intOf]; omega
              · have hp' : decide (0 < D) = true := decide_eq_true hp
                have hp2 : (D == 0) = false := by simp; omega
                have ht' : (T != 0) = true := by simp [ht]
                clear hq0 hq1 hp ht hst
                cases F
                · go_wp2_with (first
                    | (go_at_call 18; (with_reducible refine HDe.out.mono ?_); rintro e w6 ⟨rfl, rfl⟩)
                    | (go_at_call 13; (with_reducible refine HSt.out.mono ?_); rintro e w6 ⟨rfl, rfl⟩)
                    | (go_at_call 19; (with_reducible refine HFa.out.mono ?_); rintro e w6 ⟨rfl, rfl⟩))
                  go_roundw
                  case rel => exact ⟨j + 1, _, by omega, by go_num, HL.out, HNE.out⟩
                  case measure => simp [intOf]; omega
                · go_wp2_with (first
                    | (go_at_call 18; (with_reducible refine HDe.out.mono ?_); rintro e w6 ⟨rfl, rfl⟩)
                    | (go_at_call 13; (with_reducible refine HSt.out.mono ?_); rintro e w6 ⟨rfl, rfl⟩)
                    | (go_at_call 19; (with_reducible refine HFa.out.mono ?_); rintro e w6 ⟨rfl, rfl⟩))
                  go_roundw
                  case rel => exact ⟨j + 1, _, by omega, by go_num, HL.out, HNE.out⟩
                  case measure => simp [intOf]; omega
    · obtain rfl : j = len1 := by omega
      clear HS HL1 HRG H31
      go_wp2_with (first
        | (go_at_call 9; (with_reducible refine (HWK.out _).mono ?_); rintro e w2 ⟨rfl, h2⟩; have HF := Lib.hid (grown_trans HO.out.gr h2); clear h2))
      go_ret
      exact ⟨rfl, HF.out⟩
theorem deep_true (n : Int) (os : List OpX) (ad1 : Option Addr) (len1 cap1 : Nat) (w : World) (hl1 : len1 = os.length) (ha1 : OpXAt w ad1 os) (hrg : OpXRng os) : Calls Try.prog 7 #[.int .i64 n, .slice ad1 len1 cap1] w fun e w' => e = .returned (.bool true) ∧ w.grownBy w' none := by
  have HWK : Hid (∀ w, _) := Lib.hid works_any
  by_cases h1 : len1 ≤ 300
  · by_cases hn : 1 ≤ n ∧ n ≤ 8
    · exact deep_some n os ad1 len1 cap1 w h1 hl1 ha1 hrg hn.1 hn.2
    · have hd : decide ((300 : Int) < (len1 : Int)) = false := by simp; omega
      have HN := Lib.hid (new_no n w (by omega))
      clear ha1 hrg hn hl1
      go_enter Try.func7, Try.ntmps7
      go_wp2_with (first
        | (go_at_call 8; (with_reducible refine HN.out.mono ?_); rintro e w1 ⟨rfl, rfl⟩)
        | (go_at_call 9; (with_reducible refine (HWK.out _).mono ?_); rintro e w2 ⟨rfl, h2⟩; have HF := Lib.hid h2; clear h2))
      go_ret
      exact ⟨rfl, HF.out⟩
  · have hd : decide ((300 : Int) < (len1 : Int)) = true := by simp; omega
    clear ha1 hrg hl1
    go_enter Try.func7, Try.ntmps7
    go_wp2_with (first
      | (go_at_call 9; (with_reducible refine (HWK.out _).mono ?_); rintro e w2 ⟨rfl, h2⟩; have HF := Lib.hid h2; clear h2))
    go_ret
    exact ⟨rfl, HF.out⟩
end Go.Proofs.Ytkpgajegmomihaa.de
