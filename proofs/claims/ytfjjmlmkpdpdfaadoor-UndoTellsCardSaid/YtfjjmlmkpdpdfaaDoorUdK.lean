/-
  The law UndoOwn returns true: the walk where a log is made. Condition: the table of bounds lies in its variable as the program's text has it; that the script lies where the argument says, and its addresses are words; the contracts of the log.
-/
import Derived.Test.YtfjjmlmkpdpdfaaDoorUdJ
namespace Go.Proofs.YtfjjmlmkpdpdfaaDoor.ud
open Go Go.ChangeShapes Go.WideShapes Go.ChangeAt Go.RowKit
open Go.Proofs.YtfjjmlmkpdpdfaaDoor.tt (Cfg Tab trip CfgAt cfg_at data_yes)
open Go.Proofs.YtfjjmlmkpdpdfaaDoor.pp (RMem Mem grown_refl grown_trans grown_alloc setW getW inn inb row zero setW_length)
set_option linter.unusedVariables false
set_option maxRecDepth 1000000

theorem zero_cells (w : World) : (w.alloc (.cells (row zero) 56)).cell? ⟨w.heap.size, 0, none⟩ = some (.int .u32 0) ∧ (w.alloc (.cells (row zero) 56)).cell? ⟨w.heap.size, 1, none⟩ = some (.int .u32 0) ∧ (w.alloc (.cells (row zero) 56)).cell? ⟨w.heap.size, 2, none⟩ = some (.int .u32 0) ∧ (w.alloc (.cells (row zero) 56)).cell? ⟨w.heap.size, 3, none⟩ = some (.int .u32 0) ∧ (w.alloc (.cells (row zero) 56)).cell? ⟨w.heap.size, 4, none⟩ = some (.int .u32 0) ∧ (w.alloc (.cells (row zero) 56)).cell? ⟨w.heap.size, 5, none⟩ = some (.int .u32 0) ∧ (w.alloc (.cells (row zero) 56)).cell? ⟨w.heap.size, 6, none⟩ = some (.int .u32 0) ∧ (w.alloc (.cells (row zero) 56)).cell? ⟨w.heap.size, 7, none⟩ = some (.int .u32 0) ∧ (w.alloc (.cells (row zero) 56)).cell? ⟨w.heap.size, 8, none⟩ = some (.int .u32 0) ∧ (w.alloc (.cells (row zero) 56)).cell? ⟨w.heap.size, 9, none⟩ = some (.int .u32 0) ∧ (w.alloc (.cells (row zero) 56)).cell? ⟨w.heap.size, 10, none⟩ = some (.int .u32 0) ∧ (w.alloc (.cells (row zero) 56)).cell? ⟨w.heap.size, 11, none⟩ = some (.int .u32 0) ∧ (w.alloc (.cells (row zero) 56)).cell? ⟨w.heap.size, 12, none⟩ = some (.int .u32 0) ∧ (w.alloc (.cells (row zero) 56)).cell? ⟨w.heap.size, 13, none⟩ = some (.int .u32 0) ∧ (w.alloc (.cells (row zero) 56)).cell? ⟨w.heap.size, 14, none⟩ = some (.int .u32 0) ∧ (w.alloc (.cells (row zero) 56)).cell? ⟨w.heap.size, 15, none⟩ = some (.int .u32 0) := by
  have h : (w.alloc (.cells (row zero) 56)).heap[w.heap.size]? = some (.cells #[.int .u32 0, .int .u32 0, .int .u32 0, .int .u32 0, .int .u32 0, .int .u32 0, .int .u32 0, .int .u32 0, .int .u32 0, .int .u32 0, .int .u32 0, .int .u32 0, .int .u32 0, .int .u32 0, .int .u32 0, .int .u32 0] 56 (0, 0)) := heap_alloc_new _ _
  generalize w.alloc (.cells (row zero) 56) = w1 at h ⊢
  generalize w.heap.size = g at h ⊢
  simp [World.cell?, h]
set_option maxHeartbeats 16000000 in
theorem own_some (HWO : WorksOk) (HNK : NewOk) (c : Cfg) (core : Int) (os : List OpX) (ad1 : Option Addr) (len1 cap1 : Nat) (w : World) (hT : Tab w) (h1 : len1 ≤ 300) (hl1 : len1 = os.length) (ha1 : OpsAt w ad1 os) (hrg : Rng os) (hmay : c.may) (hc0 : 0 ≤ core) (hc1 : core < c.co) (hb1 : 1 ≤ c.bl) (hb2 : c.bl ≤ 256) : Calls Tryd.prog 6 #[.agg c.cells, .int .i64 core, .slice ad1 len1 cap1] w fun e w' => e = .returned (.bool true) ∧ w.grownBy w' none := by
  have hd : decide ((300 : Int) < (len1 : Int)) = false := by simp; omega
  have hg0 : w.grownBy (w.alloc (.cells c.cells 30)) none := grown_alloc (grown_refl _ _) _
  obtain ⟨n, hn⟩ : ∃ n : Nat, c.bl = n := ⟨c.bl.toNat, by omega⟩
  have hcm := tt.core_mul hmay.fits core hc0 hc1
  have hlo := hmay.fits.lo
  obtain ⟨L, hL⟩ : ∃ L : Nat, c.lo = L := ⟨c.lo.toNat, by omega⟩
  have hdat := hmay.2
  obtain ⟨F, hF⟩ : ∃ F : Nat, c.data + core * c.lo = F := ⟨(c.data + core * c.lo).toNat, by omega⟩
  have hFn : F + L ≤ n := by unfold Cfg.data at hF; omega
  have HM := Lib.hid (pp.new_ok n (w.alloc (.cells c.cells 30)) (by omega) (by omega))
  have HNW : Hid (∀ w' mb mv, (w.alloc (.cells c.cells 30)).grownBy w' none → Mem w' mb mv (List.replicate n zero) → (∀ k, mv.ownBlock = some k → (w.alloc (.cells c.cells 30)).heap.size ≤ k) → _) := Lib.hid fun w' mb mv hg hM hv => HNK c core (w.alloc (.cells c.cells 30)) w' mb mv _ F (hT.grown hg0) hg hM hv hmay hc0 hc1 (by simp; omega) hF
  have HLG : Hid (∀ w', (w.alloc (.cells c.cells 30)).grownBy w' none → _) := Lib.hid fun w' h => tt.log_in c core w' ((hT.grown hg0).grown h) hmay hc0 hc1
  have HW : Hid (∀ w', (w.alloc (.cells c.cells 30)).grownBy w' none → _) := Lib.hid fun w' h => HWO w' ((hT.grown hg0).grown h)
  rw [hF, hL] at HLG
  rw [← hn] at HM
  have HCA : Hid (∀ w', (w.alloc (.cells c.cells 30)).grownBy w' none → _) := Lib.hid fun w' h => (cfg_at w c).grown h
  obtain ⟨c0, c1, c2, c3, c4, c5, c6, c7⟩ := cfg_at w c
  have HG0 := Lib.hid hg0
  have HAT := Lib.hid (ha1.grown hg0)
  have HL1 := Lib.hid hl1
  have H31 := Lib.hid h1
  have HRG := Lib.hid hrg
  have HNM : Hid (c.bl = n ∧ n ≤ 256 ∧ c.lo = L ∧ 1 ≤ L ∧ L ≤ 4 ∧ F + L ≤ n) := Lib.hid ⟨hn, by omega, hL, by omega, by omega, hFn⟩
  clear hT hg0 hb1 hb2 h1 hn hcm hlo hL hdat hF hFn hl1 ha1 hrg hmay hc0 hc1
  unfold Cfg.cells trip at *
  go_enter Tryd.func6, Tryd.ntmps6
  go_wp2_with (first
    | (go_at_call 8; ((with_reducible refine HM.out.mono ?_); rintro e w2 ⟨mb, mv, rfl, hm2, hg2, hb2, hv2⟩; have HM2 := Lib.hid hm2; have HG2 := Lib.hid hg2; have HV2 := Lib.hid hv2; clear hm2 hb2 hv2 c0 c1 c2 c3 c4 c5 c6 c7; obtain ⟨c0, c1, c2, c3, c4, c5, c6, c7⟩ := HCA.out _ hg2; clear hg2 HM))
    | (go_at_call 9; ((with_reducible refine (HNW.out _ _ _ HG2.out HM2.out HV2.out).mono ?_); rintro e w4 ⟨lb, S, P, rfl, hI, hs4, hg4⟩; have HI := Lib.hid hI; have HS4 := Lib.hid hs4; have HG4 := Lib.hid (grown_trans HG2.out hg4); clear hI hs4 c0 c1 c2 c3 c4 c5 c6 c7; obtain ⟨c0, c1, c2, c3, c4, c5, c6, c7⟩ := HCA.out _ (grown_trans HG2.out hg4); clear hg4 HNW))
    | (go_at_call 33; ((with_reducible refine (HLG.out _ HG4.out).mono ?_); rintro e w5 ⟨rfl, hg5⟩; have H5 : Hid (Ow S n F L w5 P [] (List.replicate n zero)) := Lib.hid ⟨HI.out.grown HS4.out hg5, (by simp), fun i hi hr => (by rw [List.getD_eq_getElem?_getD, List.getElem?_replicate, if_pos hi]; rfl)⟩; clear hg5 HLG c0 c1 c2 c3 c4 c5 c6 c7)))
  obtain ⟨wb, hwb⟩ : ∃ wb, w.alloc (.cells #[.int .i64 c.co, .int .i64 c.se, .int .i64 c.wa, .int .i64 c.bl, .int .i64 c.lo, .int .i64 c.ba, .int .i64 c.ne, .int .i64 c.tr] 30) = wb := ⟨_, rfl⟩
  rw [hwb] at HI HG0 HCA HAT HW
  clear hwb HG2 HV2 HM2 HS4 HG4
  go_loopw [50] (fun i wr => ∃ (j : Nat) (P : Nat → Prop) (es : List (Int × Int)) (bs : List (List Int)), j ≤ len1 ∧ i = .int .i64 (j : Int) ∧ Ow S n F L wr P es bs) (fun i _ => len1 - (intOf i).toNat)
  case atStart => exact ⟨0, _, _, _, Nat.zero_le _, rfl, H5.out⟩
  case round =>
    clear H5
    obtain ⟨j, P, es, bs, hj, rfl, ho⟩ := hrel
    have HO := Lib.hid ho
    clear ho
    have hj300 : j ≤ 300 := by have := H31.out; omega
    by_cases hlt : j < len1
    · obtain ⟨⟨kd, ix, a, o⟩, hq⟩ : ∃ q, os[j]? = some q := ⟨_, List.getElem?_eq_getElem (by have := HL1.out; omega)⟩
      have hrg := HRG.out _ (List.mem_of_getElem? hq)
      obtain ⟨bp, op, rfl, hr0, hr1, hr2, hr3⟩ := (HAT.out.grown (HI.out.old HO.out.st)) j _ hq
      clear hq
      dsimp only at hr0 hr1 hr2 hr3 hrg
      have HX : Hid (wr.grownBy (wr.alloc (.cells #[.int .i64 kd, .int .i64 ix, .int .u32 a, .int .u32 o] 49)) none) := Lib.hid (grown_alloc (grown_refl _ _) _)
      have HOX := Lib.hid (HO.out.grown HI.out HX.out)
      by_cases hk0 : kd = 0
      · subst hk0
        have HADD : Hid (∀ o', _) := Lib.hid fun o' => HI.out.add a o' HOX.out.st hrg.1 hrg.2
        clear hrg
        go_upto_region 18 with (first
          | (go_at_call 12; ((with_reducible refine (HADD.out _).mono ?_); rintro e w8 ⟨rfl, P8, hs8, hx8⟩; have HZZ := Lib.hid (HOX.out.add HI.out HNM.out.2.2.1 _ _ hs8); clear hs8 hx8))
          | fail)
        clear HADD
        obtain ⟨P9, es9, bs9, HZ⟩ : ∃ P9 es9 bs9, Hid (Ow S n F L _ P9 es9 bs9) := ⟨_, _, _, HZZ⟩
        clear HZZ
        have HC := Lib.hid (HCA.out _ (HI.out.old HZ.out.st))
        obtain ⟨c0, c1, c2, c3, c4, c5, c6, c7⟩ := HC.out
        have hel : es9.length ≤ 32 := by have := HI.out.len HZ.out.st; have := HNM.out; omega
        have HLE : Hid (∀ k, _) := Lib.hid fun k => HI.out.leng (HI.out.grown HZ.out.st (grown_drewN _ k))
        have HRE : Hid (∀ k, _) := Lib.hid fun k => HI.out.room (HI.out.grown HZ.out.st (grown_drewN _ k))
        obtain ⟨E, hE⟩ : ∃ E : Int, E = (es9.length : Int) := ⟨_, rfl⟩
        obtain ⟨R, hR⟩ : ∃ R : Int, R = 8 * c.lo - E := ⟨_, rfl⟩
        rw [← hE] at HLE HRE
        rw [← hR] at HRE
        have hb1 := HI.out.len HZ.out.st
        have hb2 := HNM.out
        have i1 : decide (R < 0) = false := by simp; omega
        have i2 : E + R = 8 * c.lo := by omega
        have i3 : wrap64 (8 * c.lo) = 8 * c.lo := IntWalk.wrap64_in _ (by omega)
        clear hE hR hb1 hb2 hel HC
        go_quiet (first
          | (go_at_call 17; exact Calls.quiet_of (HLE.out _))
          | (go_at_call 18; exact Calls.quiet_of (HRE.out _)))
        clear i1 i2 i3
        go_wp2_with fail
        go_roundw
        case rel => exact ⟨j + 1, _, _, _, by omega, by go_num, HZ.out.grown HI.out (grown_drewN _ _)⟩
        case measure => simp [intOf]; omega
      · by_cases hk1 : kd = 1
        · subst hk1
          have HPO := Lib.hid (HI.out.pop HOX.out.st)
          clear hrg
          go_upto_region 18 with (first
            | (go_at_call 14; ((with_reducible refine HPO.out.mono ?_); rintro e w8 ⟨rfl, P8, hs8, hx8⟩; have HZZ : Hid (Ow S n F L w8 P8 es.dropLast bs) := Lib.hid ⟨hs8, HOX.out.size, HOX.out.rest⟩; clear hs8 hx8))
            | fail)
          clear HPO
          obtain ⟨P9, es9, bs9, HZ⟩ : ∃ P9 es9 bs9, Hid (Ow S n F L _ P9 es9 bs9) := ⟨_, _, _, HZZ⟩
          clear HZZ
          have HC := Lib.hid (HCA.out _ (HI.out.old HZ.out.st))
          obtain ⟨c0, c1, c2, c3, c4, c5, c6, c7⟩ := HC.out
          have hel : es9.length ≤ 32 := by have := HI.out.len HZ.out.st; have := HNM.out; omega
          have HLE : Hid (∀ k, _) := Lib.hid fun k => HI.out.leng (HI.out.grown HZ.out.st (grown_drewN _ k))
          have HRE : Hid (∀ k, _) := Lib.hid fun k => HI.out.room (HI.out.grown HZ.out.st (grown_drewN _ k))
          obtain ⟨E, hE⟩ : ∃ E : Int, E = (es9.length : Int) := ⟨_, rfl⟩
          obtain ⟨R, hR⟩ : ∃ R : Int, R = 8 * c.lo - E := ⟨_, rfl⟩
          rw [← hE] at HLE HRE
          rw [← hR] at HRE
          have hb1 := HI.out.len HZ.out.st
          have hb2 := HNM.out
          have i1 : decide (R < 0) = false := by simp; omega
          have i2 : E + R = 8 * c.lo := by omega
          have i3 : wrap64 (8 * c.lo) = 8 * c.lo := IntWalk.wrap64_in _ (by omega)
          clear hE hR hb1 hb2 hel HC
          go_quiet (first
            | (go_at_call 17; exact Calls.quiet_of (HLE.out _))
            | (go_at_call 18; exact Calls.quiet_of (HRE.out _)))
          clear i1 i2 i3
          go_wp2_with fail
          go_roundw
          case rel => exact ⟨j + 1, _, _, _, by omega, by go_num, HZ.out.grown HI.out (grown_drewN _ _)⟩
          case measure => simp [intOf]; omega
        · have hk0' : (kd == 0) = false := by simp [hk0]
          have hk1' : (kd == 1) = false := by simp [hk1]
          clear hrg hk0 hk1
          go_upto_region 18 with fail
          have HZZ := HOX
          obtain ⟨P9, es9, bs9, HZ⟩ : ∃ P9 es9 bs9, Hid (Ow S n F L _ P9 es9 bs9) := ⟨_, _, _, HZZ⟩
          clear HZZ
          have HC := Lib.hid (HCA.out _ (HI.out.old HZ.out.st))
          obtain ⟨c0, c1, c2, c3, c4, c5, c6, c7⟩ := HC.out
          have hel : es9.length ≤ 32 := by have := HI.out.len HZ.out.st; have := HNM.out; omega
          have HLE : Hid (∀ k, _) := Lib.hid fun k => HI.out.leng (HI.out.grown HZ.out.st (grown_drewN _ k))
          have HRE : Hid (∀ k, _) := Lib.hid fun k => HI.out.room (HI.out.grown HZ.out.st (grown_drewN _ k))
          obtain ⟨E, hE⟩ : ∃ E : Int, E = (es9.length : Int) := ⟨_, rfl⟩
          obtain ⟨R, hR⟩ : ∃ R : Int, R = 8 * c.lo - E := ⟨_, rfl⟩
          rw [← hE] at HLE HRE
          rw [← hR] at HRE
          have hb1 := HI.out.len HZ.out.st
          have hb2 := HNM.out
          have i1 : decide (R < 0) = false := by simp; omega
          have i2 : E + R = 8 * c.lo := by omega
          have i3 : wrap64 (8 * c.lo) = 8 * c.lo := IntWalk.wrap64_in _ (by omega)
          clear hE hR hb1 hb2 hel HC
          go_quiet (first
            | (go_at_call 17; exact Calls.quiet_of (HLE.out _))
            | (go_at_call 18; exact Calls.quiet_of (HRE.out _)))
          clear i1 i2 i3
          go_wp2_with fail
          go_roundw
          case rel => exact ⟨j + 1, _, _, _, by omega, by go_num, HZ.out.grown HI.out (grown_drewN _ _)⟩
          case measure => simp [intOf]; omega
    · have HAR : Hid (∀ w', wr.grownBy w' none → _) := Lib.hid fun w' h => HCA.out _ (grown_trans (HI.out.old HO.out.st) h)
      obtain ⟨c0, c1, c2, c3, c4, c5, c6, c7⟩ := HAR.out _ (grown_refl _ _)
      have HMA : Hid (∀ w', wr.grownBy w' none → Mem w' mb mv bs) := Lib.hid fun w' h => HI.out.mem (HI.out.grown HO.out.st h)
      have HOL : Hid (∀ w', wr.grownBy w' none → wb.grownBy w' none) := Lib.hid fun w' h => grown_trans (HI.out.old HO.out.st) h
      have HRS : Hid (bs.length = n ∧ _) := Lib.hid ⟨HO.out.size, HO.out.rest⟩
      have hbl := HNM.out.1
      rw [hbl] at c3
      clear HO hbl
      go_wp2_with fail
      clear c0 c1 c2 c3 c4 c5 c6 c7
      obtain ⟨wa, hwa⟩ : ∃ wa, wa = wr := ⟨_, rfl⟩
      rw [← hwa] at HMA HOL
      have HG8 : Hid (wa.grownBy wr none) := Lib.hid (by rw [hwa]; exact grown_refl _ _)
      clear hwa HAR
      go_loopw [86] (fun i wr => ∃ (j : Nat), j ≤ n ∧ i = .int .i64 (j : Int) ∧ wa.grownBy wr none) (fun i _ => n - (intOf i).toNat)
      case atStart => exact ⟨0, Nat.zero_le _, rfl, HG8.out⟩
      case round =>
        clear HG8
        obtain ⟨j4, hj4, rfl, hg⟩ := hrel
        have HG := Lib.hid hg
        clear hg
        have hn256 : n ≤ 256 := HNM.out.2.1
        by_cases hlt4 : j4 < n
        · have HB1 : Hid (∀ w', wa.grownBy w' none → _) := Lib.hid fun w' h => pp.block_any (HMA.out w' h) (j4 : Int)
          obtain ⟨X, hX⟩ : ∃ X, X = pp.getB bs (j4 : Int) := ⟨_, rfl⟩
          have HX16 : Hid (X.length = 16) := Lib.hid (by rw [hX]; exact pp.getB_length (HMA.out wa (grown_refl _ _)) _)
          rw [← hX] at HB1
          generalize pp.err (inb bs.length (j4 : Int)) = e1 at HB1
          have hw : wrap64 ((F : Int) + (L : Int)) = (F : Int) + (L : Int) := IntWalk.wrap64_in _ (by have := HNM.out; omega)
          by_cases hin : F ≤ j4 ∧ j4 < F + L
          · have i1 : decide ((j4 : Int) < (F : Int)) = false := by simp; omega
            have i2 : decide ((F : Int) + (L : Int) ≤ (j4 : Int)) = false := by simp; omega
            obtain ⟨n1, n2⟩ := hin
            have n3 : ¬ (j4 < F) := by omega
            have n4 : ¬ (F + L ≤ j4) := by omega
            have n5 : decide (F ≤ j4) = true := by simp; omega
            have n6 : decide (j4 < F) = false := by simp; omega
            have n7 : decide (F + L ≤ j4) = false := by simp; omega
            clear hX
            go_wp2_with (first
              | (go_at_call 26; ((with_reducible refine (HB1.out _ HG.out).mono ?_); rintro e w9 ⟨rfl, hg9⟩; have HGA := Lib.hid (grown_alloc (grown_trans HG.out hg9) (.cells (row X) 56)); clear hg9 HB1))
              | ((with_reducible refine pp.store_new' X 16 93 ?_ ?_ HX16.out ?_); (rfl); (rfl))
              | fail)
            go_roundw
            case rel => exact ⟨j4 + 1, by omega, by go_num, HGA.out⟩
            case measure => simp [intOf]; omega
          · have hz : X = zero := by
              rw [hX]
              unfold pp.getB
              rw [if_pos (by unfold inb; have := HRS.out.1; simp; omega)]
              exact HRS.out.2 j4 hlt4 (by omega)
            subst hz
            have hq : ∀ w, (binOp .neq 56 (.agg #[.int .u32 0, .int .u32 0, .int .u32 0, .int .u32 0, .int .u32 0, .int .u32 0, .int .u32 0, .int .u32 0, .int .u32 0, .int .u32 0, .int .u32 0, .int .u32 0, .int .u32 0, .int .u32 0, .int .u32 0, .int .u32 0]) (.agg #[.int .u32 0, .int .u32 0, .int .u32 0, .int .u32 0, .int .u32 0, .int .u32 0, .int .u32 0, .int .u32 0, .int .u32 0, .int .u32 0, .int .u32 0, .int .u32 0, .int .u32 0, .int .u32 0, .int .u32 0, .int .u32 0])).run Tryd.prog w = .ok (.bool false) w := fun w => by rw [← pp.zero_row, pp.q30 w _ _ pp.zero_size pp.zero_size]; simp
            clear hX
            by_cases hlo : j4 < F
            · have i1 : decide ((j4 : Int) < (F : Int)) = true := by simp; omega
              have n6 : decide (j4 < F) = true := by simp; omega
              clear hin
              go_wp2_with (first
                | (go_at_call 26; ((with_reducible refine (HB1.out _ HG.out).mono ?_); rintro e w9 ⟨rfl, hg9⟩; have HGA := Lib.hid (grown_alloc (grown_trans HG.out hg9) (.cells (row zero) 56)); obtain ⟨k0, k1, k2, k3, k4, k5, k6, k7, k8, k9, ka, kb, kc, kd, ke, kf⟩ := zero_cells w9; clear hg9 HB1))
                | ((with_reducible refine pp.store_new' zero 16 93 ?_ ?_ HX16.out ?_); (rfl); (rfl))
                | ((with_reducible refine pp.load_any zero 16 w9.heap.size ?_ ?_ HX16.out ?_); (rfl); (exact heap_alloc_new _ _))
                | fail)
              go_roundw
              case rel => exact ⟨j4 + 1, by omega, by go_num, HGA.out⟩
              case measure => simp [intOf]; omega
            · have i1 : decide ((j4 : Int) < (F : Int)) = false := by simp; omega
              have i2 : decide ((F : Int) + (L : Int) ≤ (j4 : Int)) = true := by simp; omega
              have n1 : F ≤ j4 := by omega
              have n2 : F + L ≤ j4 := by omega
              have n6 : decide (j4 < F) = false := by simp; omega
              have n7 : decide (F + L ≤ j4) = true := by simp; omega
              clear hin
              go_wp2_with (first
                | (go_at_call 26; ((with_reducible refine (HB1.out _ HG.out).mono ?_); rintro e w9 ⟨rfl, hg9⟩; have HGA := Lib.hid (grown_alloc (grown_trans HG.out hg9) (.cells (row zero) 56)); obtain ⟨k0, k1, k2, k3, k4, k5, k6, k7, k8, k9, ka, kb, kc, kd, ke, kf⟩ := zero_cells w9; clear hg9 HB1))
                | ((with_reducible refine pp.store_new' zero 16 93 ?_ ?_ HX16.out ?_); (rfl); (rfl))
                | ((with_reducible refine pp.load_any zero 16 w9.heap.size ?_ ?_ HX16.out ?_); (rfl); (exact heap_alloc_new _ _))
                | fail)
              go_roundw
              case rel => exact ⟨j4 + 1, by omega, by go_num, HGA.out⟩
              case measure => simp [intOf]; omega
        · go_wp2_with (first
            | (go_at_call 11; ((with_reducible refine (HW.out _ (HOL.out _ HG.out)).mono ?_); rintro e w12 ⟨rfl, hg12⟩; have HG12 := Lib.hid (grown_trans (HOL.out _ HG.out) hg12); clear hg12)))
          go_ret
          exact ⟨rfl, grown_trans HG0.out HG12.out⟩
theorem own_true (HWO : WorksOk) (HNN : NewNo) (HNK : NewOk) (c : Cfg) (core : Int) (os : List OpX) (ad1 : Option Addr) (len1 cap1 : Nat) (w : World) (hT : Tab w) (hl1 : len1 = os.length) (ha1 : OpsAt w ad1 os) (hrg : Rng os) : Calls Tryd.prog 6 #[.agg c.cells, .int .i64 core, .slice ad1 len1 cap1] w fun e w' => e = .returned (.bool true) ∧ w.grownBy w' none := by
  by_cases h : 300 < len1
  · exact own_long HWO c core ad1 len1 cap1 w hT h
  · by_cases hb : c.bl < 1 ∨ 256 < c.bl
    · exact own_nomem HWO c core ad1 len1 cap1 w hT (by omega) hb
    · by_cases hok : c.may ∧ 0 ≤ core ∧ core < c.co
      · exact own_some HWO HNK c core os ad1 len1 cap1 w hT (by omega) hl1 ha1 hrg hok.1 hok.2.1 hok.2.2 (by omega) (by omega)
      · exact own_nonew HWO HNN c core ad1 len1 cap1 w hT (by omega) (by omega) (by omega) hok
end Go.Proofs.YtfjjmlmkpdpdfaaDoor.ud
