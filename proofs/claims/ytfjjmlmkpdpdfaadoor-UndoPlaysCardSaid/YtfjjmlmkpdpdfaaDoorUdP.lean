/-
  The law UndoPlays returns true: the walk where a log is made. Condition: the table of bounds lies in its variable as the program's text has it; that the script lies where the argument says, and its addresses are words; the contracts of the log.
-/
import Derived.Test.YtfjjmlmkpdpdfaaDoorUdO
namespace Go.Proofs.YtfjjmlmkpdpdfaaDoor.ud
open Go Go.ChangeShapes Go.WideShapes Go.ChangeAt Go.RowKit
open Go.Proofs.YtfjjmlmkpdpdfaaDoor.tt (Cfg Tab trip CfgAt cfg_at data_yes)
open Go.Proofs.YtfjjmlmkpdpdfaaDoor.pp (RMem Mem grown_refl grown_trans grown_alloc row zero)
set_option linter.unusedVariables false
set_option maxRecDepth 1000000

theorem Bo.clr_theirs {w0 : World} {c : Cfg} {core : Int} {F mb : Nat} {mv : Value} {lb : Nat} {S : World → (Nat → Prop) → List (Int × Int) → List (List Int) → Prop} {b rmb : Nat} {rmv rv : Value} {w : World} {P : Nat → Prop} {es es2 : List (Int × Int)} {bs bs2 : List (List Int)} (I : Impl w0 c F mb mv lb S) (h : Bo S c core w0.heap.size b rmb rmv w P es bs rv es2 bs2) : Bo S c core w0.heap.size b rmb rmv (w.setCell ⟨b, 9, none⟩ (.slice none 0 0)) P es bs (.slice none 0 0) [] bs2 := by
  obtain ⟨r1, r2⟩ := h.rl.put (v' := .slice none 0 0) (es' := []) (sl.Sl.nil _ _ _)
  exact h.theirs I ⟨r1.blk, r1.sl⟩ (h.rm.grown (grown_setCell w b 9 _) fun k e => by cases e; exact ⟨_, _, _, h.rl.blk, by decide, by decide⟩) (Fr.of_grown (grown_setCell w b 9 _) fun k e => .inl (Option.some.inj e).symm) fun k hk => by cases hk
set_option maxHeartbeats 16000000 in
theorem plays_some (HWO : WorksOk) (HNK : NewOk2) (c : Cfg) (n : Nat) (core : Int) (os : List OpX) (ad1 : Option Addr) (len1 cap1 : Nat) (w : World) (hT : Tab w) (h1 : len1 ≤ 300) (hl1 : len1 = os.length) (ha1 : OpsAt w ad1 os) (hrg : Rng os) (hb1 : 1 ≤ n) (hb2 : n ≤ 256) (hok : newE c core n = 0) : Calls Tryd.prog 4 #[.agg c.cells, .int .i64 (n : Int), .int .i64 core, .slice ad1 len1 cap1] w fun e w' => e = .returned (.bool true) ∧ w.grownBy w' none := by
  obtain ⟨hmay, hc0, hc1, hn⟩ := newE_eq hok
  have hd : decide ((300 : Int) < (len1 : Int)) = false := by simp; omega
  have hg0 : w.grownBy (w.alloc (.cells c.cells 30)) none := grown_alloc (grown_refl _ _) _
  have hcm := tt.core_mul hmay.fits core hc0 hc1
  have hlo := hmay.fits.lo
  have hdat := hmay.2
  obtain ⟨F, hF⟩ : ∃ F : Nat, c.data + core * c.lo = F := ⟨(c.data + core * c.lo).toNat, by omega⟩
  have HW : Hid (∀ w', (w.alloc (.cells c.cells 30)).grownBy w' none → _) := Lib.hid fun w' h => HWO w' ((hT.grown hg0).grown h)
  have HM := Lib.hid (pp.new_ok n (w.alloc (.cells c.cells 30)) hb1 hb2)
  have HR : Hid (∀ w', _) := Lib.hid fun w' => pp.rnew_ok n w' hb1 hb2
  have HNW : Hid (∀ w' mb mv, (w.alloc (.cells c.cells 30)).grownBy w' none → Mem w' mb mv (List.replicate n zero) → (∀ k, mv.ownBlock = some k → (w.alloc (.cells c.cells 30)).heap.size ≤ k) → _) := Lib.hid fun w' mb mv hg hM hv => HNK c core (w.alloc (.cells c.cells 30)) w' mb mv _ F (hT.grown hg0) hg hM hv hmay hc0 hc1 (by simp; omega) hF
  have HNR : Hid (∀ w' mb mv, RMem w' mb mv (List.replicate n zero) → _) := Lib.hid fun w' mb mv hM => rnew_ok (c := c) (core := core) hM hmay hc0 hc1 (by simp; omega)
  have HCA : Hid (∀ w', (w.alloc (.cells c.cells 30)).grownBy w' none → _) := Lib.hid fun w' h => (cfg_at w c).grown h
  have HG0 := Lib.hid hg0
  have HAT := Lib.hid (ha1.grown hg0)
  have HL1 := Lib.hid hl1
  have H31 := Lib.hid h1
  have HRG := Lib.hid hrg
  have HNM : Hid (c.may ∧ 0 ≤ core ∧ core < c.co ∧ (n : Int) = c.bl ∧ c.data + core * c.lo = F ∧ n ≤ 256 ∧ 1 ≤ c.lo ∧ c.lo ≤ 4) := Lib.hid ⟨hmay, hc0, hc1, hn, hF, hb2, by omega, by omega⟩
  clear hT hg0 hb1 hb2 h1 hok hmay hc0 hc1 hn hF hcm hlo hdat hl1 ha1 hrg
  unfold Cfg.cells at *
  go_enter Tryd.func4, Tryd.ntmps4
  go_wp2_with (first
    | (go_at_call 8; ((with_reducible refine HM.out.mono ?_); rintro e w2 ⟨mb, mv, rfl, hm2, hg2, hb2, hv2⟩; have HM2 := Lib.hid hm2; have HG2 := Lib.hid hg2; have HV2 := Lib.hid hv2; clear hm2 hb2 hv2 hg2))
    | (go_at_call 19; ((with_reducible refine (HR.out _).mono ?_); rintro e w3 ⟨rmb, rmv, rfl, hm3, hg3, hb3, hv3⟩; have HR3 := Lib.hid hm3; have HRV := Lib.hid (And.intro hb3 hv3); have HM3 := Lib.hid (HM2.out.kept hg3); have HSZ2 := Lib.hid HG2.out.size; have HG3 := Lib.hid (grown_trans HG2.out hg3); obtain ⟨c0, c1, c2, c3, c4, c5, c6, c7⟩ := HCA.out _ HG3.out; clear hm3 hb3 hv3 hg3))
    | (go_at_call 9; ((with_reducible refine (HNW.out _ _ _ HG3.out HM3.out HV2.out).mono ?_); rintro e w4 ⟨lb, S, P, rfl, hI, hs4, hg4, hp4⟩; have HP4 : Hid (∀ k, (k = rmb ∨ rmv.ownBlock = some k) → ¬ P k ∧ k < w3.heap.size) := Lib.hid (fun k hk => (by have l1 := HM2.out.lt; have l2 := mem_lt HM2.out; have l3 := HRV.out; have l5 : k < w3.heap.size := (by rcases hk with rfl | hk; exact HR3.out.lt; exact HR3.out.sl.lt k hk); have l4 : w2.heap.size ≤ k := (by rcases hk with rfl | hk; exact l3.1; exact l3.2 k hk); exact ⟨fun hp => (by rcases hp4 k hp with h | h | h; omega; have := l2 k h; omega; omega), l5⟩)); clear hp4; have HI := Lib.hid hI; have HS4 := Lib.hid hs4; have HG4 := Lib.hid (grown_trans HG3.out hg4); have HR4 := Lib.hid (HR3.out.kept hg4); clear c0 c1 c2 c3 c4 c5 c6 c7 hg4 hI hs4; obtain ⟨c0, c1, c2, c3, c4, c5, c6, c7⟩ := HCA.out _ HG4.out))
    | (go_at_call 20; ((with_reducible refine (HNR.out _ _ _ HR4.out).mono ?_); rintro e w5 ⟨b, rfl, hl5, hg5, hb5⟩; have HL5 := Lib.hid hl5; have HS5 := Lib.hid (HI.out.grown HS4.out hg5); have HR5 := Lib.hid (HR4.out.kept hg5); have HB5 := Lib.hid hb5; clear hg5 hl5 hb5 c0 c1 c2 c3 c4 c5 c6 c7)))
  obtain ⟨wb, hwb⟩ : ∃ wb, w.alloc (.cells #[.int .i64 c.co, .int .i64 c.se, .int .i64 c.wa, .int .i64 c.bl, .int .i64 c.lo, .int .i64 c.ba, .int .i64 c.ne, .int .i64 c.tr] 30) = wb := ⟨_, rfl⟩
  rw [hwb] at HI HG0 HCA HAT HW HG4 HSZ2 HV2
  have H5 : Hid (Bo S c core wb.heap.size b rmb rmv w5 P [] (List.replicate n zero) (.slice none 0 0) [] (List.replicate n zero)) := Lib.hid ⟨HS5.out, HL5.out, HR5.out, fun k hk => by
    have l1 := HG4.out.size
    have l2 := HB5.out
    have l3 := HRV.out
    rcases hk with rfl | hk | hk
    · exact ⟨fun hp => by have := HI.out.lt HS4.out _ hp; omega, by omega⟩
    · cases hk
    · refine ⟨(HP4.out k hk).1, Nat.le_trans HSZ2.out ?_⟩
      rcases hk with rfl | hk
      · exact l3.1
      · exact l3.2 k hk⟩
  clear hwb HG2 HV2 HM2 HS4 HG4 HR3 HRV HM3 HSZ2 HG3 HR4 HL5 HS5 HR5 HB5 HM HR HNW HNR HP4
  go_loopw [80, 10, 12] (fun i e f wr => ∃ (j : Nat) (z : Int) (P : Nat → Prop) (es : List (Int × Int)) (bs : List (List Int)) (rv : Value), j ≤ len1 ∧ i = .int .i64 (j : Int) ∧ e = .int .i64 z ∧ f = .int .i64 z ∧ Bo S c core wb.heap.size b rmb rmv wr P es bs rv es bs ∧ bs.length = n) (fun i _ _ _ => len1 - (intOf i).toNat)
  case atStart => exact ⟨0, 0, _, _, _, _, Nat.zero_le _, rfl, rfl, rfl, H5.out, by simp⟩
  case round =>
    clear H5
    obtain ⟨j, z, P, es, bs, rv, hj, rfl, rfl, rfl, ho, hbl⟩ := hrel
    have HO := Lib.hid ho
    have HBL := Lib.hid hbl
    clear ho hbl
    have hj300 : j ≤ 300 := by have := H31.out; omega
    by_cases hlt : j < len1
    · obtain ⟨⟨kd, ix, a, o⟩, hq⟩ : ∃ q, os[j]? = some q := ⟨_, List.getElem?_eq_getElem (by have := HL1.out; omega)⟩
      have hrg := HRG.out _ (List.mem_of_getElem? hq)
      obtain ⟨bp, op, rfl, hr0, hr1, hr2, hr3⟩ := (HAT.out.grown (HI.out.old HO.out.st)) j _ hq
      clear hq
      dsimp only at hr0 hr1 hr2 hr3 hrg
      have HX : Hid (wr.grownBy (wr.alloc (.cells #[.int .i64 kd, .int .i64 ix, .int .u32 a, .int .u32 o] 49)) none) := Lib.hid (grown_alloc (grown_refl _ _) _)
      have HOX := Lib.hid (HO.out.grown HI.out HX.out)
      by_cases hk0 : kd = 0
      · subst hk0
        obtain ⟨XW, hXW⟩ : ∃ W, W = wr.alloc (.cells #[.int .i64 0, .int .i64 ix, .int .u32 a, .int .u32 o] 49) := ⟨_, rfl⟩
        have HQ1 : Hid (XW.heap[wr.heap.size]? = some (.cells #[.int .i64 0, .int .i64 ix, .int .u32 a, .int .u32 o] 49 (0, 0))) := Lib.hid (by rw [hXW]; exact heap_alloc_new _ _)
        go_upto_region 20 with fail
        rw [← hXW] at HX HOX ⊢
        clear hXW
        have hel : (es.length : Int) ≤ 8 * c.lo := HI.out.len HO.out.st
        have HMI := Lib.hid ((HOX.out.grown HI.out (w' := XW.drew) (grown_drewN _ 1)).add_mine HI.out a o hrg.1 hrg.2)
        have HTH : Hid (∀ W P' es1 bs1, Bo S c core wb.heap.size b rmb rmv W P' es1 bs1 rv es bs → _) := Lib.hid fun W P' es1 bs1 h => h.add_theirs HI.out HNM.out.1 HNM.out.2.1 HNM.out.2.2.1 (by have := HBL.out; have := HNM.out.2.2.2.1; omega) HNM.out.2.2.2.2.1 hel a o hrg.1 hrg.2
        have HQ2 : Hid (XW.drew.heap[wr.heap.size]? = _) := Lib.hid HQ1.out
        have HLT : Hid (¬ P wr.heap.size ∧ ¬ (wr.heap.size = b ∨ rmv.ownBlock = some wr.heap.size)) := Lib.hid ⟨fun hp => by have := HI.out.lt HO.out.st _ hp; omega, fun hk => by
          rcases hk with hk | hk
          · have := HO.out.lt b (.inl rfl); omega
          · have := HO.out.lt _ (.inr (.inr (.inr hk))); omega⟩
        have HLS : Hid (wr.heap.size < XW.drew.heap.size) := Lib.hid (Array.getElem?_eq_some_iff.1 HQ2.out).1
        have HK0 : Hid (XW.drew.cell? ⟨wr.heap.size, 2, none⟩ = some (.int .u32 a) ∧ XW.drew.cell? ⟨wr.heap.size, 3, none⟩ = some (.int .u32 o)) := Lib.hid (by simp [World.cell?, HQ2.out])
        obtain ⟨z1, hz1⟩ : ∃ z, z = addE c es a := ⟨_, rfl⟩
        rw [← hz1] at HMI HTH
        clear hz1 hel hrg
        go_region_held3 (fun W => W.cell? ⟨wr.heap.size, 2, none⟩ = some (.int .u32 a) ∧ W.cell? ⟨wr.heap.size, 3, none⟩ = some (.int .u32 o))
          (first | exact HK0.out | exact HK8.out | exact HK9.out)
          (first
            | (go_at_call 12; ((with_reducible refine HMI.out.mono ?_); rintro e w8 ⟨rfl, hf8, P8, hb8⟩; have HB8 := Lib.hid hb8; have HQ8 := Lib.hid ((hf8.block _ HLS.out HLT.out.1).trans HQ2.out); have HK8 : Hid (w8.cell? ⟨wr.heap.size, 2, none⟩ = some (.int .u32 a) ∧ w8.cell? ⟨wr.heap.size, 3, none⟩ = some (.int .u32 o)) := Lib.hid (by simp [World.cell?, HQ8.out]); clear hf8 hb8))
            | (go_at_call 21; ((with_reducible refine (HTH.out _ _ _ _ HB8.out).mono ?_); rintro e w9 ⟨rfl, hf9, rv9, hb9⟩; have HB9 := Lib.hid hb9; have HQ9 := Lib.hid ((hf9.block _ (Array.getElem?_eq_some_iff.1 HQ8.out).1 HLT.out.2).trans HQ8.out); have HK9 : Hid (w9.cell? ⟨wr.heap.size, 2, none⟩ = some (.int .u32 a) ∧ w9.cell? ⟨wr.heap.size, 3, none⟩ = some (.int .u32 o)) := Lib.hid (by simp [World.cell?, HQ9.out]); clear hf9 hb9)))
        have HZZ := HB9
        have HZN : Hid ((addB c F es bs a o).length = n) := Lib.hid (by unfold addB; split; rw [putE_len]; exact HBL.out; exact HBL.out)
        clear HB8 HB9 HQ8 HQ9 HK8 HK9 HK0 HLS HLT HQ2 HQ1 HTH HMI HOX
        obtain ⟨P9, es9, bs9, rv9, HZ, HN9⟩ : ∃ P9 es9 bs9 rv9, Hid (Bo S c core wb.heap.size b rmb rmv w9 P9 es9 bs9 rv9 es9 bs9) ∧ Hid (bs9.length = n) := ⟨_, _, _, _, HZZ, HZN⟩
        clear HZZ HZN
        have hel : (es9.length : Int) ≤ 8 * c.lo := HI.out.len HZ.out.st
        have hel2 : es9.length ≤ 32 := by have := HNM.out.2.2.2.2.2.2.2; omega
        obtain ⟨ad9, cap9, hv9⟩ := HZ.out.rl.form
        subst hv9
        obtain ⟨p, q, r, hpq⟩ : ∃ p q r, atV es9 ((es9.length : Int) - 1) = .tuple #[.int .u32 p, .int .u32 q, .int .i64 r] := by unfold atV; split <;> exact ⟨_, _, _, rfl⟩
        have HLA := Lib.hid (HI.out.last HZ.out.st)
        have HTA : Hid (∀ W, w9.grownBy W none → _) := Lib.hid fun W h => (HZ.out.grown HI.out h).at_theirs HI.out ((es9.length : Int) - 1)
        rw [hpq] at HLA HTA
        have HC9 : Hid (∀ W, w9.grownBy W none → W.cell? ⟨b, 9, none⟩ = some (.slice ad9 es9.length cap9)) := Lib.hid fun W h => (HZ.out.rl.grown h).cells.2.2
        clear hpq
        go_upto_region 34 with (first
          | (go_at_call 15; ((with_reducible refine HLA.out.mono ?_); rintro e w10 ⟨rfl, hg10⟩; have HG10 := Lib.hid hg10; have l9 := HC9.out _ hg10; clear hg10))
          | (go_at_call 24; ((with_reducible refine (HTA.out _ HG10.out).mono ?_); rintro e w11 ⟨rfl, hg11⟩; have HG11 := Lib.hid (grown_trans HG10.out hg11); clear hg11 l9)))
        have HZ2 := Lib.hid (HZ.out.grown HI.out HG11.out)
        clear HLA HTA HZ
        obtain ⟨E, hE⟩ : ∃ E : Int, E = (es9.length : Int) := ⟨_, rfl⟩
        obtain ⟨R, hR⟩ : ∃ R : Int, R = 8 * c.lo - (es9.length : Int) := ⟨_, rfl⟩
        have HLE : Hid (∀ k, _) := Lib.hid fun k => HI.out.leng (HI.out.grown HZ2.out.st (grown_drewN _ k))
        have HRE : Hid (∀ k, _) := Lib.hid fun k => HI.out.room (HI.out.grown HZ2.out.st (grown_drewN _ k))
        have HRT : Hid (∀ k, _) := Lib.hid fun k => rroom_any (HZ2.out.rl.grown (grown_drewN _ k)) (by have := HNM.out.2.2.2.2.2.2.1; omega) HNM.out.2.2.2.2.2.2.2 hel2
        rw [← hR] at HRE HRT
        clear hR hE
        have l9 : ∀ k, (w11.drewN k).cell? ⟨b, 9, none⟩ = some (.slice ad9 es9.length cap9) := fun k => HC9.out _ (grown_trans HG11.out (grown_drewN _ k))
        have l8 := l9 0
        go_quiet (first
          | (go_at_call 17; exact Calls.quiet_of (HLE.out _))
          | (go_at_call 18; exact Calls.quiet_of (HRE.out _))
          | (go_at_call 25; exact Calls.quiet_of (HRT.out _)))
        go_wp2_with fail
        go_roundw
        case rel => exact ⟨j + 1, _, _, _, _, _, by omega, by go_num, rfl, rfl, HZ2.out.grown HI.out (grown_drewN _ _), HN9.out⟩
        case measure => simp [intOf]; omega
      · by_cases hk1 : kd = 1
        · subst hk1
          have HMI := Lib.hid (HOX.out.pop_mine HI.out)
          have hel : (es.length : Int) ≤ 8 * c.lo := HI.out.len HO.out.st
          have hel2 : es.length ≤ 32 := by have := HNM.out.2.2.2.2.2.2.2; omega
          have HTH : Hid (∀ W P' es1 bs1, Bo S c core wb.heap.size b rmb rmv W P' es1 bs1 rv es bs → _) := Lib.hid fun W P' es1 bs1 h => h.pop_theirs HI.out hel2
          obtain ⟨z1, hz1⟩ : ∃ z : Int, z = (if es = [] then 4 else 0) := ⟨_, rfl⟩
          rw [← hz1] at HMI HTH
          clear hz1 hel hel2 hrg
          go_upto_region 32 with (first
            | (go_at_call 14; ((with_reducible refine HMI.out.mono ?_); rintro e w8 ⟨rfl, hf8, P8, hb8⟩; have HB8 := Lib.hid hb8; clear hf8 hb8))
            | (go_at_call 22; ((with_reducible refine (HTH.out _ _ _ _ HB8.out).mono ?_); rintro e w9 ⟨rfl, hf9, rv9, hb9⟩; have HZZ := Lib.hid hb9; clear hf9 hb9)))
          have HZN := HBL
          clear HB8 HTH HMI HOX
          obtain ⟨P9, es9, bs9, rv9, HZ, HN9⟩ : ∃ P9 es9 bs9 rv9, Hid (Bo S c core wb.heap.size b rmb rmv w9 P9 es9 bs9 rv9 es9 bs9) ∧ Hid (bs9.length = n) := ⟨_, _, _, _, HZZ, HZN⟩
          clear HZZ HZN
          have hel : (es9.length : Int) ≤ 8 * c.lo := HI.out.len HZ.out.st
          have hel2 : es9.length ≤ 32 := by have := HNM.out.2.2.2.2.2.2.2; omega
          obtain ⟨ad9, cap9, hv9⟩ := HZ.out.rl.form
          subst hv9
          obtain ⟨p, q, r, hpq⟩ : ∃ p q r, atV es9 ((es9.length : Int) - 1) = .tuple #[.int .u32 p, .int .u32 q, .int .i64 r] := by unfold atV; split <;> exact ⟨_, _, _, rfl⟩
          have HLA := Lib.hid (HI.out.last HZ.out.st)
          have HTA : Hid (∀ W, w9.grownBy W none → _) := Lib.hid fun W h => (HZ.out.grown HI.out h).at_theirs HI.out ((es9.length : Int) - 1)
          rw [hpq] at HLA HTA
          have HC9 : Hid (∀ W, w9.grownBy W none → W.cell? ⟨b, 9, none⟩ = some (.slice ad9 es9.length cap9)) := Lib.hid fun W h => (HZ.out.rl.grown h).cells.2.2
          clear hpq
          go_upto_region 34 with (first
            | (go_at_call 15; ((with_reducible refine HLA.out.mono ?_); rintro e w10 ⟨rfl, hg10⟩; have HG10 := Lib.hid hg10; have l9 := HC9.out _ hg10; clear hg10))
            | (go_at_call 24; ((with_reducible refine (HTA.out _ HG10.out).mono ?_); rintro e w11 ⟨rfl, hg11⟩; have HG11 := Lib.hid (grown_trans HG10.out hg11); clear hg11 l9)))
          have HZ2 := Lib.hid (HZ.out.grown HI.out HG11.out)
          clear HLA HTA HZ
          obtain ⟨E, hE⟩ : ∃ E : Int, E = (es9.length : Int) := ⟨_, rfl⟩
          obtain ⟨R, hR⟩ : ∃ R : Int, R = 8 * c.lo - (es9.length : Int) := ⟨_, rfl⟩
          have HLE : Hid (∀ k, _) := Lib.hid fun k => HI.out.leng (HI.out.grown HZ2.out.st (grown_drewN _ k))
          have HRE : Hid (∀ k, _) := Lib.hid fun k => HI.out.room (HI.out.grown HZ2.out.st (grown_drewN _ k))
          have HRT : Hid (∀ k, _) := Lib.hid fun k => rroom_any (HZ2.out.rl.grown (grown_drewN _ k)) (by have := HNM.out.2.2.2.2.2.2.1; omega) HNM.out.2.2.2.2.2.2.2 hel2
          rw [← hR] at HRE HRT
          clear hR hE
          have l9 : ∀ k, (w11.drewN k).cell? ⟨b, 9, none⟩ = some (.slice ad9 es9.length cap9) := fun k => HC9.out _ (grown_trans HG11.out (grown_drewN _ k))
          have l8 := l9 0
          go_quiet (first
            | (go_at_call 17; exact Calls.quiet_of (HLE.out _))
            | (go_at_call 18; exact Calls.quiet_of (HRE.out _))
            | (go_at_call 25; exact Calls.quiet_of (HRT.out _)))
          go_wp2_with fail
          go_roundw
          case rel => exact ⟨j + 1, _, _, _, _, _, by omega, by go_num, rfl, rfl, HZ2.out.grown HI.out (grown_drewN _ _), HN9.out⟩
          case measure => simp [intOf]; omega
        · by_cases hk3 : kd = 3
          · subst hk3
            obtain ⟨p3, q3, r3, hpq3⟩ : ∃ p q r, atV es ix = .tuple #[.int .u32 p, .int .u32 q, .int .i64 r] := by unfold atV; split <;> exact ⟨_, _, _, rfl⟩
            have HMI := Lib.hid (HI.out.at_ ix HOX.out.st)
            have HTH : Hid (∀ W, wr.grownBy W none → _) := Lib.hid fun W h => (HO.out.grown HI.out h).at_theirs HI.out ix
            have HQ1 : Hid ((wr.alloc (.cells #[.int .i64 3, .int .i64 ix, .int .u32 a, .int .u32 o] 49)).heap[wr.heap.size]? = some (.cells #[.int .i64 3, .int .i64 ix, .int .u32 a, .int .u32 o] 49 (0, 0))) := Lib.hid (heap_alloc_new _ _)
            have HLS : Hid (wr.heap.size < (wr.alloc (.cells #[.int .i64 3, .int .i64 ix, .int .u32 a, .int .u32 o] 49)).heap.size) := Lib.hid (by simp)
            rw [hpq3] at HMI HTH
            clear hpq3 hrg
            go_upto_region 32 with (first
              | (go_at_call 23; ((with_reducible refine HMI.out.mono ?_); rintro e w8 ⟨rfl, hg8⟩; have HG8 := Lib.hid (grown_trans HX.out hg8); have HQ8 := Lib.hid ((hg8.block _ HLS.out (by simp)).trans HQ1.out); have q1 : w8.cell? ⟨wr.heap.size, 1, none⟩ = some (.int .i64 ix) := (by simp [World.cell?, HQ8.out]); clear hg8))
              | (go_at_call 24; ((with_reducible refine (HTH.out _ HG8.out).mono ?_); rintro e w9 ⟨rfl, hg9⟩; have HZZ := Lib.hid (HO.out.grown HI.out (grown_trans HG8.out hg9)); clear hg9 q1)))
            have HZN := HBL
            clear HG8 HTH HMI HOX HQ1 HLS HQ8
            obtain ⟨P9, es9, bs9, rv9, HZ, HN9⟩ : ∃ P9 es9 bs9 rv9, Hid (Bo S c core wb.heap.size b rmb rmv w9 P9 es9 bs9 rv9 es9 bs9) ∧ Hid (bs9.length = n) := ⟨_, _, _, _, HZZ, HZN⟩
            clear HZZ HZN
            have hel : (es9.length : Int) ≤ 8 * c.lo := HI.out.len HZ.out.st
            have hel2 : es9.length ≤ 32 := by have := HNM.out.2.2.2.2.2.2.2; omega
            obtain ⟨ad9, cap9, hv9⟩ := HZ.out.rl.form
            subst hv9
            obtain ⟨p, q, r, hpq⟩ : ∃ p q r, atV es9 ((es9.length : Int) - 1) = .tuple #[.int .u32 p, .int .u32 q, .int .i64 r] := by unfold atV; split <;> exact ⟨_, _, _, rfl⟩
            have HLA := Lib.hid (HI.out.last HZ.out.st)
            have HTA : Hid (∀ W, w9.grownBy W none → _) := Lib.hid fun W h => (HZ.out.grown HI.out h).at_theirs HI.out ((es9.length : Int) - 1)
            rw [hpq] at HLA HTA
            have HC9 : Hid (∀ W, w9.grownBy W none → W.cell? ⟨b, 9, none⟩ = some (.slice ad9 es9.length cap9)) := Lib.hid fun W h => (HZ.out.rl.grown h).cells.2.2
            clear hpq
            go_upto_region 34 with (first
              | (go_at_call 15; ((with_reducible refine HLA.out.mono ?_); rintro e w10 ⟨rfl, hg10⟩; have HG10 := Lib.hid hg10; have l9 := HC9.out _ hg10; clear hg10))
              | (go_at_call 24; ((with_reducible refine (HTA.out _ HG10.out).mono ?_); rintro e w11 ⟨rfl, hg11⟩; have HG11 := Lib.hid (grown_trans HG10.out hg11); clear hg11 l9)))
            have HZ2 := Lib.hid (HZ.out.grown HI.out HG11.out)
            clear HLA HTA HZ
            obtain ⟨E, hE⟩ : ∃ E : Int, E = (es9.length : Int) := ⟨_, rfl⟩
            obtain ⟨R, hR⟩ : ∃ R : Int, R = 8 * c.lo - (es9.length : Int) := ⟨_, rfl⟩
            have HLE : Hid (∀ k, _) := Lib.hid fun k => HI.out.leng (HI.out.grown HZ2.out.st (grown_drewN _ k))
            have HRE : Hid (∀ k, _) := Lib.hid fun k => HI.out.room (HI.out.grown HZ2.out.st (grown_drewN _ k))
            have HRT : Hid (∀ k, _) := Lib.hid fun k => rroom_any (HZ2.out.rl.grown (grown_drewN _ k)) (by have := HNM.out.2.2.2.2.2.2.1; omega) HNM.out.2.2.2.2.2.2.2 hel2
            rw [← hR] at HRE HRT
            clear hR hE
            have l9 : ∀ k, (w11.drewN k).cell? ⟨b, 9, none⟩ = some (.slice ad9 es9.length cap9) := fun k => HC9.out _ (grown_trans HG11.out (grown_drewN _ k))
            have l8 := l9 0
            go_quiet (first
              | (go_at_call 17; exact Calls.quiet_of (HLE.out _))
              | (go_at_call 18; exact Calls.quiet_of (HRE.out _))
              | (go_at_call 25; exact Calls.quiet_of (HRT.out _)))
            go_wp2_with fail
            go_roundw
            case rel => exact ⟨j + 1, _, _, _, _, _, by omega, by go_num, rfl, rfl, HZ2.out.grown HI.out (grown_drewN _ _), HN9.out⟩
            case measure => simp [intOf]; omega
          · by_cases hk2 : kd = 2
            · subst hk2
              have HMI := Lib.hid (HI.out.clr HOX.out.st)
              clear hrg
              obtain ⟨ad, cap, hv⟩ := HO.out.rl.form
              subst hv
              go_upto_region 32 with (first
                | (go_at_call 16; ((with_reducible refine HMI.out.mono ?_); rintro e w8 ⟨rfl, P8, hs8, hx8⟩; have HB8 := Lib.hid (HOX.out.mine hs8 hx8); have l9 := HB8.out.rl.cells.2.2; have f9 : w8.frozen? ⟨b, 9, none⟩ = false := (by simp [World.frozen?, HB8.out.rl.blk]); clear hs8 hx8)))
              have HZZ0 := Lib.hid (HB8.out.clr_theirs HI.out)
              clear l9 f9
              generalize w8.setCell ⟨b, 9, none⟩ (.slice none 0 0) = w9 at HZZ0 ⊢
              have HZZ := HZZ0
              have HZN := HBL
              clear HB8 HMI HOX HZZ0
              obtain ⟨P9, es9, bs9, rv9, HZ, HN9⟩ : ∃ P9 es9 bs9 rv9, Hid (Bo S c core wb.heap.size b rmb rmv w9 P9 es9 bs9 rv9 es9 bs9) ∧ Hid (bs9.length = n) := ⟨_, _, _, _, HZZ, HZN⟩
              clear HZZ HZN
              have hel : (es9.length : Int) ≤ 8 * c.lo := HI.out.len HZ.out.st
              have hel2 : es9.length ≤ 32 := by have := HNM.out.2.2.2.2.2.2.2; omega
              obtain ⟨ad9, cap9, hv9⟩ := HZ.out.rl.form
              subst hv9
              obtain ⟨p, q, r, hpq⟩ : ∃ p q r, atV es9 ((es9.length : Int) - 1) = .tuple #[.int .u32 p, .int .u32 q, .int .i64 r] := by unfold atV; split <;> exact ⟨_, _, _, rfl⟩
              have HLA := Lib.hid (HI.out.last HZ.out.st)
              have HTA : Hid (∀ W, w9.grownBy W none → _) := Lib.hid fun W h => (HZ.out.grown HI.out h).at_theirs HI.out ((es9.length : Int) - 1)
              rw [hpq] at HLA HTA
              have HC9 : Hid (∀ W, w9.grownBy W none → W.cell? ⟨b, 9, none⟩ = some (.slice ad9 es9.length cap9)) := Lib.hid fun W h => (HZ.out.rl.grown h).cells.2.2
              clear hpq
              go_upto_region 34 with (first
                | (go_at_call 15; ((with_reducible refine HLA.out.mono ?_); rintro e w10 ⟨rfl, hg10⟩; have HG10 := Lib.hid hg10; have l9 := HC9.out _ hg10; clear hg10))
                | (go_at_call 24; ((with_reducible refine (HTA.out _ HG10.out).mono ?_); rintro e w11 ⟨rfl, hg11⟩; have HG11 := Lib.hid (grown_trans HG10.out hg11); clear hg11 l9)))
              have HZ2 := Lib.hid (HZ.out.grown HI.out HG11.out)
              clear HLA HTA HZ
              obtain ⟨E, hE⟩ : ∃ E : Int, E = (es9.length : Int) := ⟨_, rfl⟩
              obtain ⟨R, hR⟩ : ∃ R : Int, R = 8 * c.lo - (es9.length : Int) := ⟨_, rfl⟩
              have HLE : Hid (∀ k, _) := Lib.hid fun k => HI.out.leng (HI.out.grown HZ2.out.st (grown_drewN _ k))
              have HRE : Hid (∀ k, _) := Lib.hid fun k => HI.out.room (HI.out.grown HZ2.out.st (grown_drewN _ k))
              have HRT : Hid (∀ k, _) := Lib.hid fun k => rroom_any (HZ2.out.rl.grown (grown_drewN _ k)) (by have := HNM.out.2.2.2.2.2.2.1; omega) HNM.out.2.2.2.2.2.2.2 hel2
              rw [← hR] at HRE HRT
              clear hR hE
              have l9 : ∀ k, (w11.drewN k).cell? ⟨b, 9, none⟩ = some (.slice ad9 es9.length cap9) := fun k => HC9.out _ (grown_trans HG11.out (grown_drewN _ k))
              have l8 := l9 0
              go_quiet (first
                | (go_at_call 17; exact Calls.quiet_of (HLE.out _))
                | (go_at_call 18; exact Calls.quiet_of (HRE.out _))
                | (go_at_call 25; exact Calls.quiet_of (HRT.out _)))
              go_wp2_with fail
              go_roundw
              case rel => exact ⟨j + 1, _, _, _, _, _, by omega, by go_num, rfl, rfl, HZ2.out.grown HI.out (grown_drewN _ _), HN9.out⟩
              case measure => simp [intOf]; omega
            · obtain ⟨XW, hXW⟩ : ∃ W, W = wr.alloc (.cells #[.int .i64 kd, .int .i64 ix, .int .u32 a, .int .u32 o] 49) := ⟨_, rfl⟩
              have k0 : (kd == 0) = false := by simp [hk0]
              have k1 : (kd == 1) = false := by simp [hk1]
              have k2 : (kd == 2) = false := by simp [hk2]
              have k3 : (kd == 3) = false := by simp [hk3]
              clear hk0 hk1 hk2 hk3 hrg
              go_upto_region 32 with fail
              rw [← hXW] at HX HOX ⊢
              clear hXW
              have HZZ := HOX
              have HZN := HBL
              clear HOX
              obtain ⟨P9, es9, bs9, rv9, HZ, HN9⟩ : ∃ P9 es9 bs9 rv9, Hid (Bo S c core wb.heap.size b rmb rmv XW P9 es9 bs9 rv9 es9 bs9) ∧ Hid (bs9.length = n) := ⟨_, _, _, _, HZZ, HZN⟩
              clear HZZ HZN
              have hel : (es9.length : Int) ≤ 8 * c.lo := HI.out.len HZ.out.st
              have hel2 : es9.length ≤ 32 := by have := HNM.out.2.2.2.2.2.2.2; omega
              obtain ⟨ad9, cap9, hv9⟩ := HZ.out.rl.form
              subst hv9
              obtain ⟨p, q, r, hpq⟩ : ∃ p q r, atV es9 ((es9.length : Int) - 1) = .tuple #[.int .u32 p, .int .u32 q, .int .i64 r] := by unfold atV; split <;> exact ⟨_, _, _, rfl⟩
              have HLA := Lib.hid (HI.out.last HZ.out.st)
              have HTA : Hid (∀ W, XW.grownBy W none → _) := Lib.hid fun W h => (HZ.out.grown HI.out h).at_theirs HI.out ((es9.length : Int) - 1)
              rw [hpq] at HLA HTA
              have HC9 : Hid (∀ W, XW.grownBy W none → W.cell? ⟨b, 9, none⟩ = some (.slice ad9 es9.length cap9)) := Lib.hid fun W h => (HZ.out.rl.grown h).cells.2.2
              clear hpq
              go_upto_region 34 with (first
                | (go_at_call 15; ((with_reducible refine HLA.out.mono ?_); rintro e w10 ⟨rfl, hg10⟩; have HG10 := Lib.hid hg10; have l9 := HC9.out _ hg10; clear hg10))
                | (go_at_call 24; ((with_reducible refine (HTA.out _ HG10.out).mono ?_); rintro e w11 ⟨rfl, hg11⟩; have HG11 := Lib.hid (grown_trans HG10.out hg11); clear hg11 l9)))
              have HZ2 := Lib.hid (HZ.out.grown HI.out HG11.out)
              clear HLA HTA HZ
              obtain ⟨E, hE⟩ : ∃ E : Int, E = (es9.length : Int) := ⟨_, rfl⟩
              obtain ⟨R, hR⟩ : ∃ R : Int, R = 8 * c.lo - (es9.length : Int) := ⟨_, rfl⟩
              have HLE : Hid (∀ k, _) := Lib.hid fun k => HI.out.leng (HI.out.grown HZ2.out.st (grown_drewN _ k))
              have HRE : Hid (∀ k, _) := Lib.hid fun k => HI.out.room (HI.out.grown HZ2.out.st (grown_drewN _ k))
              have HRT : Hid (∀ k, _) := Lib.hid fun k => rroom_any (HZ2.out.rl.grown (grown_drewN _ k)) (by have := HNM.out.2.2.2.2.2.2.1; omega) HNM.out.2.2.2.2.2.2.2 hel2
              rw [← hR] at HRE HRT
              clear hR hE
              have l9 : ∀ k, (w11.drewN k).cell? ⟨b, 9, none⟩ = some (.slice ad9 es9.length cap9) := fun k => HC9.out _ (grown_trans HG11.out (grown_drewN _ k))
              have l8 := l9 0
              go_quiet (first
                | (go_at_call 17; exact Calls.quiet_of (HLE.out _))
                | (go_at_call 18; exact Calls.quiet_of (HRE.out _))
                | (go_at_call 25; exact Calls.quiet_of (HRT.out _)))
              go_wp2_with fail
              go_roundw
              case rel => exact ⟨j + 1, _, _, _, _, _, by omega, by go_num, rfl, rfl, HZ2.out.grown HI.out (grown_drewN _ _), HN9.out⟩
              case measure => simp [intOf]; omega
    · have HW' : Hid (∀ w', wr.grownBy w' none → _) := Lib.hid fun w' h => HW.out w' (grown_trans (HI.out.old HO.out.st) h)
      have HMA : Hid (∀ w', wr.grownBy w' none → Mem w' mb mv bs) := Lib.hid fun w' h => HI.out.mem (HI.out.grown HO.out.st h)
      have HMB : Hid (∀ w', wr.grownBy w' none → RMem w' rmb rmv bs) := Lib.hid fun w' h => HO.out.rm.kept h
      have HOL : Hid (∀ w', wr.grownBy w' none → wb.grownBy w' none) := Lib.hid fun w' h => grown_trans (HI.out.old HO.out.st) h
      go_wp2_with fail
      obtain ⟨wa, hwa⟩ : ∃ wa, wa = wr := ⟨_, rfl⟩
      rw [← hwa] at HMA HMB HOL HW'
      have HG8 : Hid (wa.grownBy wr none) := Lib.hid (by rw [hwa]; exact grown_refl _ _)
      clear hwa HO HW
      go_loopw [192] (fun i wr => ∃ (j : Nat), j ≤ n ∧ i = .int .i64 (j : Int) ∧ wa.grownBy wr none) (fun i _ => n - (intOf i).toNat)
      case atStart => exact ⟨0, Nat.zero_le _, rfl, HG8.out⟩
      case round =>
        clear HG8
        obtain ⟨j4, hj4, rfl, hg⟩ := hrel
        have HG := Lib.hid hg
        clear hg
        have hn256 : n ≤ 256 := HNM.out.2.2.2.2.2.1
        by_cases hlt4 : j4 < n
        · have HB1 : Hid (∀ w', wa.grownBy w' none → _) := Lib.hid fun w' h => pp.block_any (HMA.out w' h) (j4 : Int)
          have HB2 : Hid (∀ w', wa.grownBy w' none → _) := Lib.hid fun w' h => pp.rblock_any _ _ _ (j4 : Int) _ (HMB.out w' h)
          have HX16 : Hid ((pp.getB bs (j4 : Int)).length = 16) := Lib.hid (pp.getB_length (HMA.out wa (grown_refl _ _)) _)
          generalize pp.getB bs (j4 : Int) = X at HB1 HB2 HX16
          have hq : ∀ w, (binOp .neq 56 (.agg (row X)) (.agg (row X))).run Tryd.prog w = .ok (.bool false) w := fun w => by rw [pp.q30 w _ _ HX16.out HX16.out]; simp
          generalize pp.err (pp.inb bs.length (j4 : Int)) = e1 at HB1 HB2
          go_wp2_with (first
            | (go_at_call 26; ((with_reducible refine (HB1.out _ HG.out).mono ?_); rintro e w9 ⟨rfl, hg9⟩; have HG9 := Lib.hid (grown_trans HG.out hg9); have HGA := Lib.hid (grown_alloc HG9.out (.cells (row X) 56)); have HN9 : Hid ((w9.alloc (.cells (row X) 56)).heap[w9.heap.size]? = some (.cells (row X) 56 (0, 0))) := Lib.hid (heap_alloc_new _ _); clear hg9 HB1))
            | ((with_reducible refine pp.store_new' X 30 199 ?_ ?_ HX16.out ?_); (rfl); (rfl))
            | (go_at_call 27; ((with_reducible refine (HB2.out _ HGA.out).mono ?_); rintro e w10 ⟨rfl, hg10⟩; have HG10 := Lib.hid (grown_trans HGA.out hg10); have HN10 := Lib.hid ((hg10.block w9.heap.size (by simp) (by simp)).trans HN9.out); have HGB := Lib.hid (grown_alloc HG10.out (.cells (row X) 56)); have HN11 := Lib.hid ((Below.heap_alloc w10 (.cells (row X) 56) _ (Array.getElem?_eq_some_iff.1 HN10.out).1).trans HN10.out); clear hg10 HB2))
            | ((with_reducible refine pp.store_new' X 32 205 ?_ ?_ HX16.out ?_); (rfl); (rfl))
            | ((with_reducible refine pp.load_any X 30 w9.heap.size ?_ ?_ HX16.out ?_); (rfl); (exact HN11.out))
            | ((with_reducible refine pp.load_any X 32 w10.heap.size ?_ ?_ HX16.out ?_); (rfl); (exact heap_alloc_new _ _))
            | fail)
          go_roundw
          case rel => exact ⟨j4 + 1, by omega, by go_num, HGB.out⟩
          case measure => simp [intOf]; omega
        · go_wp2_with (first
            | (go_at_call 11; ((with_reducible refine (HW'.out _ HG.out).mono ?_); rintro e w12 ⟨rfl, hg12⟩; have HG12 := Lib.hid (grown_trans (HOL.out _ HG.out) hg12); clear hg12)))
          go_ret
          exact ⟨rfl, grown_trans HG0.out HG12.out⟩
theorem plays_true (HWO : WorksOk) (HNX : NewX) (HNK : NewOk2) (c : Cfg) (blocks core : Int) (os : List OpX) (ad1 : Option Addr) (len1 cap1 : Nat) (w : World) (hT : Tab w) (hl1 : len1 = os.length) (ha1 : OpsAt w ad1 os) (hrg : Rng os) : Calls Tryd.prog 4 #[.agg c.cells, .int .i64 blocks, .int .i64 core, .slice ad1 len1 cap1] w fun e w' => e = .returned (.bool true) ∧ w.grownBy w' none := by
  by_cases h : 300 < len1
  · exact plays_long HWO c blocks core ad1 len1 cap1 w hT h
  · by_cases hb : blocks < 1 ∨ 256 < blocks
    · exact plays_nomem HWO c blocks core ad1 len1 cap1 w hT (by omega) hb
    · obtain ⟨n, rfl⟩ : ∃ n : Nat, blocks = n := ⟨blocks.toNat, by omega⟩
      by_cases hok : newE c core n = 0
      · exact plays_some HWO HNK c n core os ad1 len1 cap1 w hT (by omega) hl1 ha1 hrg (by omega) (by omega) hok
      · exact plays_nonew HWO HNX c n core ad1 len1 cap1 w hT (by omega) (by omega) (by omega) hok
end Go.Proofs.YtfjjmlmkpdpdfaaDoor.ud
