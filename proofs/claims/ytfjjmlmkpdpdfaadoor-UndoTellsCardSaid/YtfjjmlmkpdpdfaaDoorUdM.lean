/-
  The law UndoTells returns true: the walk where a log is made. Condition: the table of bounds lies in its variable as the program's text has it; that the script lies where the argument says, and its addresses are words; the contracts of the log.
-/
import Derived.Test.YtfjjmlmkpdpdfaaDoorUdL
namespace Go.Proofs.YtfjjmlmkpdpdfaaDoor.ud
open Go Go.ChangeShapes Go.WideShapes Go.ChangeAt Go.RowKit
open Go.Proofs.YtfjjmlmkpdpdfaaDoor.tt (Cfg Tab trip CfgAt cfg_at data_yes)
open Go.Proofs.YtfjjmlmkpdpdfaaDoor.pp (RMem Mem grown_refl grown_trans grown_alloc setW getW inn inb row zero setW_length)
open Go.Proofs.YtfjjmlmkpdpdfaaDoor.sl (Sl flat)
set_option linter.unusedVariables false
set_option maxRecDepth 1000000

theorem tells_word {w : World} {mb : Nat} {mv : Value} {bs : List (List Int)} (hM : Mem w mb mv bs) (p q : Int) (p' q' : Nat) (hp : p = (p' : Int)) (hq : q = (q' : Int)) : Calls Tryd.prog 13 #[.pointer (some ⟨mb, 0, none⟩), .int .i64 p, .int .i64 q] w fun e w' => e = .returned (.tuple #[.int .u32 (getW bs (p' : Int) (q' : Int)), .int .i64 (pp.err (inn bs.length (p' : Int) (q' : Int)))]) ∧ w.grownBy w' none := by
  subst hp hq
  exact pp.word_any hM _ _
set_option maxHeartbeats 16000000 in
theorem tells_some (HWO : WorksOk) (HNK : NewOk) (c : Cfg) (core : Int) (os : List OpX) (ad1 : Option Addr) (len1 cap1 : Nat) (w : World) (hT : Tab w) (h1 : len1 ≤ 300) (hl1 : len1 = os.length) (ha1 : OpsAt w ad1 os) (hrg : Rng os) (hmay : c.may) (hc0 : 0 ≤ core) (hc1 : core < c.co) (hb1 : 1 ≤ c.bl) (hb2 : c.bl ≤ 256) : Calls Tryd.prog 7 #[.agg c.cells, .int .i64 core, .slice ad1 len1 cap1] w fun e w' => e = .returned (.bool true) ∧ w.grownBy w' none := by
  have hd : decide ((300 : Int) < (len1 : Int)) = false := by simp; omega
  have hg0 : w.grownBy (w.alloc (.cells c.cells 30)) none := grown_alloc (grown_refl _ _) _
  obtain ⟨n, hn⟩ : ∃ n : Nat, c.bl = n := ⟨c.bl.toNat, by omega⟩
  have hcm := tt.core_mul hmay.fits core hc0 hc1
  have hlo := hmay.fits.lo
  obtain ⟨L, hL⟩ : ∃ L : Nat, c.lo = L := ⟨c.lo.toNat, by omega⟩
  have hdat := hmay.2
  obtain ⟨F, hF⟩ : ∃ F : Nat, c.data + core * c.lo = F := ⟨(c.data + core * c.lo).toNat, by omega⟩
  have hFn : F + L ≤ n := by unfold Cfg.data at hF; omega
  have HM := Lib.hid (pp.new_ok n (w.alloc (.cells c.cells 30)) (by omega) (by omega))
  have HNW : Hid (∀ w' mb mv, (w.alloc (.cells c.cells 30)).grownBy w' none → Mem w' mb mv (List.replicate n zero) → (∀ k, mv.ownBlock = some k → (w.alloc (.cells c.cells 30)).heap.size ≤ k) → _) := Lib.hid fun w' mb mv hg hM hv => HNK c core (w.alloc (.cells c.cells 30)) w' mb mv _ F (hT.grown hg0) hg hM hv hmay hc0 hc1 (by simp; omega) hF
  have HLG : Hid (∀ w', (w.alloc (.cells c.cells 30)).grownBy w' none → _) := Lib.hid fun w' h => tt.log_in c core w' ((hT.grown hg0).grown h) hmay hc0 hc1
  have HW : Hid (∀ w', (w.alloc (.cells c.cells 30)).grownBy w' none → _) := Lib.hid fun w' h => HWO w' ((hT.grown hg0).grown h)
  rw [hF, hL] at HLG
  rw [← hn] at HM
  have HCA : Hid (∀ w', (w.alloc (.cells c.cells 30)).grownBy w' none → _) := Lib.hid fun w' h => (cfg_at w c).grown h
  obtain ⟨c0, c1, c2, c3, c4, c5, c6, c7⟩ := cfg_at w c
  have HG0 := Lib.hid hg0
  have HAT := Lib.hid (ha1.grown hg0)
  have HL1 := Lib.hid hl1
  have H31 := Lib.hid h1
  have HRG := Lib.hid hrg
  have HNM : Hid (c.bl = n ∧ n ≤ 256 ∧ c.lo = L ∧ 1 ≤ L ∧ L ≤ 4 ∧ F + L ≤ n) := Lib.hid ⟨hn, by omega, hL, by omega, by omega, hFn⟩
  clear hT hg0 hb1 hb2 h1 hn hcm hlo hL hdat hF hFn hl1 ha1 hrg hmay hc0 hc1
  unfold Cfg.cells trip at *
  go_enter Tryd.func7, Tryd.ntmps7
  go_wp2_with (first
    | (go_at_call 8; ((with_reducible refine HM.out.mono ?_); rintro e w2 ⟨mb, mv, rfl, hm2, hg2, hb2, hv2⟩; have HM2 := Lib.hid hm2; have HG2 := Lib.hid hg2; have HV2 := Lib.hid hv2; clear hm2 hb2 hv2 c0 c1 c2 c3 c4 c5 c6 c7; obtain ⟨c0, c1, c2, c3, c4, c5, c6, c7⟩ := HCA.out _ hg2; clear hg2 HM))
    | (go_at_call 9; ((with_reducible refine (HNW.out _ _ _ HG2.out HM2.out HV2.out).mono ?_); rintro e w4 ⟨lb, S, P, rfl, hI, hs4, hg4⟩; have HI := Lib.hid hI; have HS4 := Lib.hid hs4; have HG4 := Lib.hid (grown_trans HG2.out hg4); clear hI hs4 c0 c1 c2 c3 c4 c5 c6 c7; obtain ⟨c0, c1, c2, c3, c4, c5, c6, c7⟩ := HCA.out _ (grown_trans HG2.out hg4); clear hg4 HNW))
    | (go_at_call 33; ((with_reducible refine (HLG.out _ HG4.out).mono ?_); rintro e w5 ⟨rfl, hg5⟩; have H5a := Lib.hid (HI.out.grown HS4.out hg5); clear hg5 HLG c0 c1 c2 c3 c4 c5 c6 c7)))
  obtain ⟨wb, hwb⟩ : ∃ wb, w.alloc (.cells #[.int .i64 c.co, .int .i64 c.se, .int .i64 c.wa, .int .i64 c.bl, .int .i64 c.lo, .int .i64 c.ba, .int .i64 c.ne, .int .i64 c.tr] 30) = wb := ⟨_, rfl⟩
  rw [hwb] at HI HG0 HCA HAT HW
  have H5 : Hid (Tl S n F wb.heap.size w5 P [] (List.replicate n zero) (.slice none 0 0)) := Lib.hid ⟨H5a.out, (by simp), sl.Sl.nil _ _ _, fun k hk => (by cases hk), fun i x hx => (by simp at hx)⟩
  clear H5a
  clear hwb HG2 HV2 HM2 HS4 HG4
  go_loopw [57, 13] (fun i hv wr => ∃ (j : Nat) (P : Nat → Prop) (es : List (Int × Int)) (bs : List (List Int)), j ≤ len1 ∧ i = .int .i64 (j : Int) ∧ Tl S n F wb.heap.size wr P es bs hv) (fun i _ _ => len1 - (intOf i).toNat)
  case atStart => exact ⟨0, _, _, _, Nat.zero_le _, rfl, H5.out⟩
  case round =>
    clear H5
    obtain ⟨j, P, es, bs, hj, rfl, ho⟩ := hrel
    have hel : es.length ≤ 32 := by have := HI.out.len ho.st; have := HNM.out; omega
    obtain ⟨ad, cap, hv⟩ := ho.sl.form
    subst hv
    have HO := Lib.hid ho
    clear ho
    have hj300 : j ≤ 300 := by have := H31.out; omega
    by_cases hlt : j < len1
    · obtain ⟨⟨kd, ix, a, o⟩, hq⟩ : ∃ q, os[j]? = some q := ⟨_, List.getElem?_eq_getElem (by have := HL1.out; omega)⟩
      have hrg := HRG.out _ (List.mem_of_getElem? hq)
      obtain ⟨bp, op, rfl, hr0, hr1, hr2, hr3⟩ := (HAT.out.grown (HI.out.old HO.out.st)) j _ hq
      clear hq
      dsimp only at hr0 hr1 hr2 hr3 hrg
      have HX : Hid (wr.grownBy (wr.alloc (.cells #[.int .i64 kd, .int .i64 ix, .int .u32 a, .int .u32 o] 49)) none) := Lib.hid (grown_alloc (grown_refl _ _) _)
      have HOX := Lib.hid (HO.out.grown HI.out HX.out)
      by_cases hk0 : kd = 0
      · subst hk0
        have HADD := Lib.hid (HI.out.add a o HOX.out.st hrg.1 hrg.2)
        have HQ1 : Hid ((wr.alloc (.cells #[.int .i64 0, .int .i64 ix, .int .u32 a, .int .u32 o] 49)).heap[wr.heap.size]? = some (.cells #[.int .i64 0, .int .i64 ix, .int .u32 a, .int .u32 o] 49 (0, 0))) := Lib.hid (heap_alloc_new _ _)
        have HLT := Lib.hid (HI.out.lt HO.out.st)
        clear hrg
        by_cases hE : addE c es a = 0
        · have hne : (es.length : Int) ≠ 8 * c.lo := by
            intro e
            have h1 := addE_zero hE
            unfold addE at hE
            rw [if_neg (by simp [h1]), if_pos e] at hE
            omega
          have hFb : F + es.length / 8 < bs.length := by have := HNM.out; have := HI.out.len HO.out.st; have := HO.out.size; omega
          have HST : Hid (Stands F (es ++ [(a, o)]) (putE bs F es.length (a, o))) := Lib.hid (HO.out.stands.add (a, o) hFb (HI.out.mem HO.out.st).len)
          have HSZ : Hid ((putE bs F es.length (a, o)).length = n) := Lib.hid (by rw [putE_len]; exact HO.out.size)
          unfold addL addB at HADD
          rw [hE, if_pos rfl, if_pos rfl] at HADD
          clear hE hne hFb
          obtain ⟨i0, hi, hz0, hz1, hz2⟩ := infoE
          have HON : Hid (∀ u ∈ [Value.int .u32 a, Value.int .u32 o], u.oneCell' = true) := Lib.hid (et_one (a, o))
          go_wp2_with (first
            | (go_at_call 12; ((with_reducible refine HADD.out.mono ?_); rintro e w8 ⟨rfl, P8, hs8, hx8⟩; have HS8 := Lib.hid hs8; have HC8 := Lib.hid (HOX.out.call hx8); have HQ8 := Lib.hid ((hx8.fr.block wr.heap.size (by simp) (fun hp => by have := HLT.out _ hp; omega)).trans HQ1.out); have q2 : w8.cell? ⟨wr.heap.size, 2, none⟩ = some (.int .u32 a) := (by simp [World.cell?, HQ8.out]); have q3 : w8.cell? ⟨wr.heap.size, 3, none⟩ = some (.int .u32 o) := (by simp [World.cell?, HQ8.out]); clear hs8 hx8))
            | ((with_reducible refine sl.append_sl 51 71 2 i0 (.agg #[.int .u32 0, .int .u32 0]) 8 (.tmp 72) (.tmp 78) Tryd.underlying51 hi hz0 hz1 hz2 rfl _ es.length (flat et es) ?_ (HC8.out.1.grown (grown_alloc (grown_refl _ _) _)) _ 1 [.int .u32 a, .int .u32 o] ?_ (sl.src_one w8 [.int .u32 a, .int .u32 o] 2 71 Tryd.underlying51 rfl HON.out) ?_ ?_ ?_); (rfl); (rfl); (unfold maxLen; omega); (omega); intro v2 w9 hsl2 hgr2 hnx2; have HT9 := Lib.hid (tl_append HI.out HS8.out HC8.out.1 HC8.out.2 (grown_alloc (grown_refl _ _) _) hgr2 hnx2); obtain ⟨ad2, cap2, rfl⟩ := hsl2.form; have HV2 := Lib.hid hsl2; clear hsl2 hgr2 hnx2; have HLN := Lib.hid (HI.out.leng HT9.out.1); rw [show (((es ++ [(a, o)]).length : Nat) : Int) = ((es.length + 1 : Nat) : Int) by simp] at HLN)
            | (go_at_call 17; ((with_reducible refine HLN.out.mono ?_); rintro e w10 ⟨rfl, q10, hw10⟩; have HG10 : Hid (w9.grownBy w10 none) := Lib.hid (by rw [hw10]; exact grown_drewN _ _); clear hw10))
            | fail)
          go_roundw
          case rel =>
            refine ⟨j + 1, P8, es ++ [(a, o)], _, by omega, by go_num, HI.out.grown HT9.out.1 HG10.out, HSZ.out, ?_, HT9.out.2, HST.out⟩
            have := HV2.out.grown HG10.out
            rw [sl.flat_append, sl.flat_single, List.length_append]
            exact this
          case measure => simp [intOf]; omega
        · unfold addL addB at HADD
          rw [if_neg hE, if_neg hE] at HADD
          obtain ⟨z, hz⟩ : ∃ z : Int, z = addE c es a := ⟨_, rfl⟩
          rw [← hz] at HADD hE
          have hE' : (z == 0) = false := by simp [hE]
          clear hE hz
          go_wp2_with (first
            | (go_at_call 12; ((with_reducible refine HADD.out.mono ?_); rintro e w8 ⟨rfl, P8, hs8, hx8⟩; have HS8 := Lib.hid hs8; have HC8 := Lib.hid (HOX.out.call hx8); have HLN := Lib.hid (HI.out.leng hs8); clear hs8 hx8))
            | (go_at_call 17; ((with_reducible refine HLN.out.mono ?_); rintro e w10 ⟨rfl, q10, hw10⟩; have HG10 : Hid (w8.grownBy w10 none) := Lib.hid (by rw [hw10]; exact grown_drewN _ _); clear hw10))
            | fail)
          go_roundw
          case rel => exact ⟨j + 1, P8, es, bs, by omega, by go_num, HI.out.grown HS8.out HG10.out, HO.out.size, HC8.out.1.grown HG10.out, HC8.out.2, HO.out.stands⟩
          case measure => simp [intOf]; omega
      · by_cases hk1 : kd = 1
        · subst hk1
          have HPO := Lib.hid (HI.out.pop HOX.out.st)
          clear hrg
          by_cases hes : es = []
          · subst hes
            rw [if_pos rfl] at HPO
            rcases HO.out.sl with ⟨hv, _, _⟩ | ⟨g, off, cap', cur, hv, _, _, hc, _⟩
            · cases hv
              go_wp2_with (first
                | (go_at_call 14; ((with_reducible refine HPO.out.mono ?_); rintro e w8 ⟨rfl, P8, hs8, hx8⟩; have HS8 := Lib.hid hs8; have HC8 := Lib.hid (HOX.out.call hx8); have HLN := Lib.hid (HI.out.leng hs8); clear hs8 hx8))
                | (go_at_call 17; ((with_reducible refine HLN.out.mono ?_); rintro e w10 ⟨rfl, q10, hw10⟩; have HG10 : Hid (w8.grownBy w10 none) := Lib.hid (by rw [hw10]; exact grown_drewN _ _); clear hw10))
                | fail)
              go_roundw
              case rel => exact ⟨j + 1, P8, [], bs, by omega, by go_num, HI.out.grown HS8.out HG10.out, HO.out.size, HC8.out.1.grown HG10.out, HC8.out.2, HO.out.stands⟩
              case measure => simp [intOf]; omega
            · cases hv
              go_wp2_with (first
                | (go_at_call 14; ((with_reducible refine HPO.out.mono ?_); rintro e w8 ⟨rfl, P8, hs8, hx8⟩; have HS8 := Lib.hid hs8; have HC8 := Lib.hid (HOX.out.call hx8); have HLN := Lib.hid (HI.out.leng hs8); clear hs8 hx8))
                | (go_at_call 17; ((with_reducible refine HLN.out.mono ?_); rintro e w10 ⟨rfl, q10, hw10⟩; have HG10 : Hid (w8.grownBy w10 none) := Lib.hid (by rw [hw10]; exact grown_drewN _ _); clear hw10))
                | fail)
              go_roundw
              case rel => exact ⟨j + 1, P8, [], bs, by omega, by go_num, HI.out.grown HS8.out HG10.out, HO.out.size, HC8.out.1.grown HG10.out, HC8.out.2, HO.out.stands⟩
              case measure => simp [intOf]; omega
          · obtain ⟨n1, hn1⟩ : ∃ n1, es.length = n1 + 1 := ⟨es.length - 1, by have := List.length_pos_iff.2 hes; omega⟩
            rw [if_neg hes] at HPO
            obtain ⟨g, off, cap', hv, hcap⟩ : ∃ g off cap', Value.slice ad es.length cap = .slice (some ⟨g, off, none⟩) es.length cap' ∧ es.length ≤ cap' := by
              rcases HO.out.sl with ⟨hv, h0, _⟩ | ⟨g, off, cap', cur, hv, _, _, hc, _⟩
              · omega
              · exact ⟨g, off, cap', hv, hc⟩
            cases hv
            have HDL : Hid (es.dropLast.length = n1) := Lib.hid (by rw [List.length_dropLast]; omega)
            have HEN := Lib.hid hn1
            have HCAP := Lib.hid hcap
            have HPD : Hid (∀ w' P', S w' P' es.dropLast bs → _) := Lib.hid fun w' P' h => HI.out.leng h
            rw [HDL.out] at HPD
            rw [hn1] at hcap hel ⊢
            have hm : max ((n1 : Int) + 1 - 1) 0 = (n1 : Int) := by omega
            clear hes hn1
            go_wp2_with (first
              | (go_at_call 14; ((with_reducible refine HPO.out.mono ?_); rintro e w8 ⟨rfl, P8, hs8, hx8⟩; have HS8 := Lib.hid hs8; have HC8 := Lib.hid (HOX.out.call hx8); have HLN := Lib.hid (HPD.out _ _ hs8); clear hs8 hx8))
              | (go_at_call 17; ((with_reducible refine HLN.out.mono ?_); rintro e w10 ⟨rfl, q10, hw10⟩; have HG10 : Hid (w8.grownBy w10 none) := Lib.hid (by rw [hw10]; exact grown_drewN _ _); clear hw10))
              | fail)
            go_roundw
            case rel =>
              have h1 := HEN.out
              have hs := sl.head_sl HC8.out.1 n1 (by omega) cap (by have := HCAP.out; omega) (Nat.le_refl _)
              rw [sl.flat_take et_len es n1 (by omega)] at hs
              have hd : es.dropLast = es.take n1 := by rw [List.dropLast_eq_take, h1]; rfl
              refine ⟨j + 1, P8, es.dropLast, bs, by omega, by go_num, HI.out.grown HS8.out HG10.out, HO.out.size, ?_, HC8.out.2, HO.out.stands.pop⟩
              rw [HDL.out, hd]
              exact hs.grown HG10.out
            case measure => simp [intOf]; omega
        · have hk0' : (kd == 0) = false := by simp [hk0]
          have hk1' : (kd == 1) = false := by simp [hk1]
          clear hrg hk0 hk1
          have HLN : Hid (∀ w', wr.grownBy w' none → _) := Lib.hid fun w' h => HI.out.leng (HI.out.grown HO.out.st h)
          go_wp2_with (first
            | (go_at_call 17; ((with_reducible refine (HLN.out _ HX.out).mono ?_); rintro e w10 ⟨rfl, q10, hw10⟩; have HG10 : Hid (wr.grownBy w10 none) := Lib.hid (by rw [hw10]; exact grown_trans HX.out (grown_drewN _ _)); clear hw10))
            | fail)
          go_roundw
          case rel => exact ⟨j + 1, P, es, bs, by omega, by go_num, HO.out.grown HI.out HG10.out⟩
          case measure => simp [intOf]; omega
    · have HW' : Hid (∀ w', wr.grownBy w' none → _) := Lib.hid fun w' h => HW.out w' (grown_trans (HI.out.old HO.out.st) h)
      have HOL : Hid (∀ w', wr.grownBy w' none → wb.grownBy w' none) := Lib.hid fun w' h => grown_trans (HI.out.old HO.out.st) h
      go_wp2_with fail
      obtain ⟨wa, hwa⟩ : ∃ wa, wa = wr := ⟨_, rfl⟩
      rw [← hwa] at HO HOL HW'
      have HG8 : Hid (wa.grownBy wr none) := Lib.hid (by rw [hwa]; exact grown_refl _ _)
      clear hwa HW
      go_loopw [103] (fun i wr => ∃ (j : Nat), j ≤ es.length ∧ i = .int .i64 (j : Int) ∧ wa.grownBy wr none) (fun i _ => es.length - (intOf i).toNat)
      case atStart => exact ⟨0, Nat.zero_le _, rfl, HG8.out⟩
      case round =>
        clear HG8
        obtain ⟨j4, hj4, rfl, hg⟩ := hrel
        have HG := Lib.hid hg
        clear hg
        by_cases hlt4 : j4 < es.length
        · obtain ⟨⟨a, o⟩, hx⟩ : ∃ x, es[j4]? = some x := ⟨_, List.getElem?_eq_getElem hlt4⟩
          have hb : F + j4 / 8 < bs.length := by have := HNM.out; have := HI.out.len HO.out.st; have := HO.out.size; omega
          have HGE := Lib.hid (HO.out.stands.get hx hb)
          have HAT' : Hid (∀ w', wa.grownBy w' none → _) := Lib.hid fun w' h => HI.out.at_ (j4 : Int) (HI.out.grown HO.out.st h)
          rw [atV_in es j4 _ hx] at HAT'
          obtain ⟨g, off, rfl, e0, e1⟩ : ∃ g off, ad = some ⟨g, off, none⟩ ∧ wr.cell? ⟨g, off + j4 * 2, none⟩ = some (.int .u32 a) ∧ wr.cell? ⟨g, off + j4 * 2 + 1, none⟩ = some (.int .u32 o) := by
            have h0 := sl.flat_at et_len es j4 (a, o) 0 (.int .u32 a) hx rfl
            have h1 := sl.flat_at et_len es j4 (a, o) 1 (.int .u32 o) hx rfl
            obtain ⟨g, off, e, _, hc⟩ := (HO.out.sl.grown HG.out).cellAt _ _ h0
            exact ⟨g, off, e, hc _ _ h0, by have := hc _ _ h1; rwa [← Nat.add_assoc] at this⟩
          have hF256 : F ≤ 256 := by have := HNM.out; omega
          have hw1 : wrap64 ((F : Int) + (j4 : Int) / 8) = ((F + j4 / 8 : Nat) : Int) := by rw [IntWalk.wrap64_in _ (by omega)]; omega
          have HWA : Hid (∀ w', wa.grownBy w' none → _) := Lib.hid fun w' h => tells_word (HI.out.mem (HI.out.grown HO.out.st h)) (wrap64 ((F : Int) + (j4 : Int) / 8)) ((j4 : Int) % 8 * 2) (F + j4 / 8) (j4 % 8 * 2) hw1 (by omega)
          have HWB : Hid (∀ w', wa.grownBy w' none → _) := Lib.hid fun w' h => tells_word (HI.out.mem (HI.out.grown HO.out.st h)) (wrap64 ((F : Int) + (j4 : Int) / 8)) ((j4 : Int) % 8 * 2 + 1) (F + j4 / 8) (j4 % 8 * 2 + 1) hw1 (by omega)
          dsimp only at HGE HAT'
          rw [HGE.out.1] at HWA
          rw [HGE.out.2] at HWB
          have HXX : Hid (∀ w' : World, w'.grownBy (w'.alloc (.cells #[.int .u32 a, .int .u32 o] 71)) none) := Lib.hid fun w' => grown_alloc (grown_refl _ _) _
          have HQ0 : Hid ((wr.alloc (.cells #[.int .u32 a, .int .u32 o] 71)).heap[wr.heap.size]? = some (.cells #[.int .u32 a, .int .u32 o] 71 (0, 0))) := Lib.hid (heap_alloc_new _ _)
          have hlt5 : wr.heap.size < (wr.alloc (.cells #[.int .u32 a, .int .u32 o] 71)).heap.size := by simp
          have HQL := Lib.hid hlt5
          clear hlt5 hw1 hF256 hx hb
          go_wp2_with (first
            | (go_at_call 23; ((with_reducible refine (HAT'.out _ (grown_trans HG.out (HXX.out _))).mono ?_); rintro e w9 ⟨rfl, hg9⟩; have HG9 := Lib.hid (grown_trans (grown_trans HG.out (HXX.out _)) hg9); have HQ9 := Lib.hid ((hg9.block _ HQL.out (by simp)).trans HQ0.out); have HQL9 := Lib.hid (Nat.lt_of_lt_of_le HQL.out hg9.size); clear hg9))
            | (go_at_call 13; ((with_reducible refine (HWA.out _ HG9.out).mono ?_); rintro e w10 ⟨rfl, hg10⟩; have HG10 := Lib.hid (grown_trans HG9.out hg10); have HQ10 := Lib.hid ((hg10.block _ HQL9.out (by simp)).trans HQ9.out); have HQL10 := Lib.hid (Nat.lt_of_lt_of_le HQL9.out hg10.size); clear hg10 HG9))
            | (go_at_call 13; ((with_reducible refine (HWB.out _ HG10.out).mono ?_); rintro e w11 ⟨rfl, hg11⟩; have HG11 := Lib.hid (grown_trans HG10.out hg11); have HQ11 := Lib.hid ((hg11.block _ HQL10.out (by simp)).trans HQ10.out); have q0 : w11.cell? ⟨wr.heap.size, 0, none⟩ = some (.int .u32 a) := (by simp [World.cell?, HQ11.out]); have q1 : w11.cell? ⟨wr.heap.size, 1, none⟩ = some (.int .u32 o) := (by simp [World.cell?, HQ11.out]); clear hg11))
            | fail)
          go_roundw
          case rel => exact ⟨j4 + 1, by omega, by go_num, HG11.out⟩
          case measure => simp [intOf]; omega
        · go_wp2_with (first
            | (go_at_call 11; ((with_reducible refine (HW'.out _ HG.out).mono ?_); rintro e w12 ⟨rfl, hg12⟩; have HG12 := Lib.hid (grown_trans (HOL.out _ HG.out) hg12); clear hg12)))
          go_ret
          exact ⟨rfl, grown_trans HG0.out HG12.out⟩
theorem tells_true (HWO : WorksOk) (HNN : NewNo) (HNK : NewOk) (c : Cfg) (core : Int) (os : List OpX) (ad1 : Option Addr) (len1 cap1 : Nat) (w : World) (hT : Tab w) (hl1 : len1 = os.length) (ha1 : OpsAt w ad1 os) (hrg : Rng os) : Calls Tryd.prog 7 #[.agg c.cells, .int .i64 core, .slice ad1 len1 cap1] w fun e w' => e = .returned (.bool true) ∧ w.grownBy w' none := by
  by_cases h : 300 < len1
  · exact tells_long HWO c core ad1 len1 cap1 w hT h
  · by_cases hb : c.bl < 1 ∨ 256 < c.bl
    · exact tells_nomem HWO c core ad1 len1 cap1 w hT (by omega) hb
    · by_cases hok : c.may ∧ 0 ≤ core ∧ core < c.co
      · exact tells_some HWO HNK c core os ad1 len1 cap1 w hT (by omega) hl1 ha1 hrg hok.1 hok.2.1 hok.2.2 (by omega) (by omega)
      · exact tells_nonew HWO HNN c core ad1 len1 cap1 w hT (by omega) (by omega) (by omega) hok
end Go.Proofs.YtfjjmlmkpdpdfaaDoor.ud
