/-
  The law UndoBack returns true: the walk. Condition: the table of bounds lies in its variable as the program's text has it; that the writes lie where the arguments say; the contracts of the log.
-/
import Derived.Test.YtfjjmlmkpdpdfaaDoorUdH
namespace Go.Proofs.YtfjjmlmkpdpdfaaDoor.ud
open Go Go.ChangeShapes Go.WideShapes Go.ChangeAt Go.RowKit
open Go.Proofs.YtfjjmlmkpdpdfaaDoor.tt (Cfg Tab trip CfgAt cfg_at data_yes)
open Go.Proofs.YtfjjmlmkpdpdfaaDoor.pp (RMem Mem grown_refl grown_trans grown_alloc setW getW inn inb row zero setW_length)
set_option linter.unusedVariables false
set_option maxRecDepth 1000000

theorem mem_lt {w : World} {b : Nat} {v : Value} {bs : List (List Int)} (h : Mem w b v bs) (k : Nat) (hk : v.ownBlock = some k) : k < w.heap.size := by
  obtain ⟨ps, h1, h2, h3⟩ := h.sl
  exact h1.lt k hk
theorem atV_last (es : List (Int × Int)) (x : Int × Int) : atV (es ++ [x]) (((es ++ [x]).length : Int) - 1) = .tuple #[.int .u32 x.1, .int .u32 x.2, .int .i64 0] := by
  unfold atV
  rw [if_pos (by simp; omega)]
  have e : ((((es ++ [x]).length : Int) - 1)).toNat = es.length := by simp
  rw [e, List.getD_eq_getElem?_getD, List.getElem?_append_right (Nat.le_refl _)]
  simp
theorem putE_len (bs : List (List Int)) (f k : Nat) (x : Int × Int) : (putE bs f k x).length = bs.length := by unfold putE; rw [put1_len, put1_len]
theorem addE_zero {c : Cfg} {es : List (Int × Int)} {a : Int} (h : addE c es a = 0) : wErr c a = 0 := by
  unfold addE at h
  by_cases h1 : wErr c a = 0
  · exact h1
  · rw [if_pos h1] at h; exact absurd h h1
theorem wErr_zero {c : Cfg} {a : Int} (h : wErr c a = 0) : a / 64 < c.data := by
  unfold wErr at h
  by_cases h1 : a % 4 = 0
  · rw [if_neg (by omega)] at h
    by_cases h2 : c.bl ≤ a / 64
    · rw [if_pos h2] at h; omega
    · rw [if_neg h2] at h
      by_cases h3 : c.data ≤ a / 64
      · rw [if_pos h3] at h; omega
      · omega
  · rw [if_pos h1] at h; omega
/-- The addresses of data words. -/
def Ad (N : Nat) (es : List (Int × Int)) : Prop := ∀ x ∈ es, ∃ b k : Nat, x.1 = ((b * 64 + k * 4 : Nat) : Int) ∧ b < N ∧ k < 16
theorem ad_snoc {N : Nat} {es : List (Int × Int)} {x : Int × Int} (h : Ad N es) (hx : ∃ b k : Nat, x.1 = ((b * 64 + k * 4 : Nat) : Int) ∧ b < N ∧ k < 16) : Ad N (es ++ [x]) := fun y hy => by
  rcases List.mem_append.1 hy with hy | hy
  · exact h y hy
  · simp at hy; subst hy; exact hx
/-- What holds from the copy on. -/
structure St (S : World → (Nat → Prop) → List (Int × Int) → List (List Int) → Prop) (b2 : Nat) (v2 : Value) (N n : Nat) (bs0 : List (List Int)) (w : World) (P : Nat → Prop) (es : List (Int × Int)) (bs : List (List Int)) : Prop where
  st : S w P es bs
  copy : Mem w b2 v2 bs0
  no : ¬ P b2 ∧ ∀ k, v2.ownBlock = some k → ¬ P k
  size : bs.length = n
  ad : Ad N es
  same : undo es (bs.take N) = bs0.take N
section
variable {w0 : World} {c : Cfg} {F mb : Nat} {mv : Value} {lb : Nat} {S : World → (Nat → Prop) → List (Int × Int) → List (List Int) → Prop} {b2 : Nat} {v2 : Value} {N n : Nat} {bs0 : List (List Int)} {w w' : World} {P P' : Nat → Prop} {es es' : List (Int × Int)} {bs bs' : List (List Int)}
theorem St.grown (I : Impl w0 c F mb mv lb S) (h : St S b2 v2 N n bs0 w P es bs) (hg : w.grownBy w' none) : St S b2 v2 N n bs0 w' P es bs := ⟨I.grown h.st hg, h.copy.kept hg, h.no, h.size, h.ad, h.same⟩
theorem St.next (I : Impl w0 c F mb mv lb S) (h : St S b2 v2 N n bs0 w P es bs) (hs : S w' P' es' bs') (hx : Nx w w' P P') (hn : bs'.length = n) (ha : Ad N es') (hu : undo es' (bs'.take N) = bs0.take N) : St S b2 v2 N n bs0 w' P' es' bs' := by
  refine ⟨hs, mem_aside h.copy hx.fr h.no.1 h.no.2 (I.row h.st), ⟨fun hp => ?_, fun k hk hp => ?_⟩, hn, ha, hu⟩
  · rcases hx.nx _ hp with h1 | h1
    · exact h.no.1 h1
    · have := h.copy.lt; omega
  · rcases hx.nx _ hp with h1 | h1
    · exact h.no.2 k hk h1
    · have := mem_lt h.copy k hk; omega
/-- A word is written into the memory: a call that writes its own block alone. -/
theorem nx_set (I : Impl w0 c F mb mv lb S) (h : S w P es bs) (hg : w.grownBy w' mv.ownBlock) : Nx w w' P P := ⟨Fr.of_grown hg fun k hk => (I.own h k hk).1, fun k hk => .inl hk⟩
end
set_option maxHeartbeats 16000000 in
theorem back_some (HWO : WorksOk) (HNN : NewNo) (HNK : NewOk) (c : Cfg) (core : Int) (xs ys : List Wr) (ad1 ad2 : Option Addr) (len1 cap1 len2 cap2 : Nat) (w : World) (hT : Tab w) (h1 : len1 ≤ 300) (h2 : len2 ≤ 300) (hl1 : len1 = xs.length) (hl2 : len2 = ys.length) (ha1 : WrAt w ad1 xs) (ha2 : WrAt w ad2 ys) (hb1 : 1 ≤ c.bl) (hb2 : c.bl ≤ 256) : Calls Tryd.prog 5 #[.agg c.cells, .int .i64 core, .slice ad1 len1 cap1, .slice ad2 len2 cap2] w fun e w' => e = .returned (.bool true) ∧ w.grownBy w' none := by
  have hd : decide ((300 : Int) < (len1 : Int)) = false := by simp; omega
  have hd2 : decide ((300 : Int) < (len2 : Int)) = false := by simp; omega
  have hg0 : w.grownBy (w.alloc (.cells c.cells 30)) none := grown_alloc (grown_refl _ _) _
  obtain ⟨n, hn⟩ : ∃ n : Nat, c.bl = n := ⟨c.bl.toNat, by omega⟩
  have HM := Lib.hid (pp.new_ok n (w.alloc (.cells c.cells 30)) (by omega) (by omega))
  rw [← hn] at HM
  have HCA := Lib.hid (cfg_at w c)
  obtain ⟨c0, c1, c2, c3, c4, c5, c6, c7⟩ := cfg_at w c
  have HG0 := Lib.hid hg0
  have HT0 := Lib.hid (hT.grown hg0)
  have HAT1 := Lib.hid (ha1.grown hg0)
  have HAT2 := Lib.hid (ha2.grown hg0)
  have HL1 := Lib.hid hl1
  have HL2 := Lib.hid hl2
  have H31 := Lib.hid h1
  have H32 := Lib.hid h2
  have HN := Lib.hid hn
  have HB : Hid (1 ≤ n ∧ n ≤ 256) := Lib.hid (by omega)
  clear hT hg0 ha1 ha2 hl1 hl2 hb1 hb2 hn h1 h2
  obtain ⟨CC, hCC⟩ : ∃ CC, CC = c.cells := ⟨_, rfl⟩
  have HCC := Lib.hid hCC
  rw [← hCC] at HM HCA HG0 HT0 HAT1 HAT2 c0 c1 c2 c3 c4 c5 c6 c7 ⊢
  rw [show CC = #[.int .i64 c.co, .int .i64 c.se, .int .i64 c.wa, .int .i64 c.bl, .int .i64 c.lo, .int .i64 c.ba, .int .i64 c.ne, .int .i64 c.tr] from hCC] at HM HCA HG0 HT0 HAT1 HAT2 c0 c1 c2 c3 c4 c5 c6 c7 ⊢
  clear hCC HCC
  go_enter Tryd.func5, Tryd.ntmps5
  go_wp2_with (first
    | (go_at_call 8; ((with_reducible refine HM.out.mono ?_); rintro e w2 ⟨mb, mv, rfl, hm2, hg2, hb2, hv2⟩; have HM2 := Lib.hid hm2; have HG2 := Lib.hid hg2; have HV2 := Lib.hid hv2; clear hm2 hg2 hb2 hv2 c0 c1 c2 c3 c4 c5 c6 c7)))
  clear HM
  obtain ⟨wb, hwb⟩ : ∃ wb, w.alloc (.cells #[.int .i64 c.co, .int .i64 c.se, .int .i64 c.wa, .int .i64 c.bl, .int .i64 c.lo, .int .i64 c.ba, .int .i64 c.ne, .int .i64 c.tr] 30) = wb := ⟨_, rfl⟩
  rw [hwb] at HG2 HV2 HG0 HCA HT0 HAT1 HAT2
  have HA := Lib.hid HCA.out
  clear hwb HCA
  go_loopw [53] (fun i wr => ∃ (j : Nat) (bs : List (List Int)), j ≤ len1 ∧ i = .int .i64 (j : Int) ∧ Mem wr mb mv bs ∧ wb.grownBy wr none ∧ bs.length = n) (fun i _ => len1 - (intOf i).toNat)
  case atStart => exact ⟨0, _, Nat.zero_le _, rfl, HM2.out, HG2.out, by simp⟩
  case round =>
    clear HM2 HG2
    obtain ⟨j, bs, hj, rfl, hm, hg, hbl⟩ := hrel
    have HMM := Lib.hid hm
    have HG := Lib.hid hg
    have HBL := Lib.hid hbl
    clear hm hg hbl
    have hj300 : j ≤ 300 := by have := H31.out; omega
    by_cases hlt : j < len1
    · obtain ⟨⟨b, k, x⟩, hq⟩ : ∃ q, xs[j]? = some q := ⟨_, List.getElem?_eq_getElem (by have := HL1.out; omega)⟩
      obtain ⟨bp, op, rfl, hr0, hr1, hr2⟩ := (HAT1.out.grown HG.out) j _ hq
      clear hq
      dsimp only at hr0 hr1 hr2
      have HX : Hid (wr.grownBy (wr.alloc (.cells #[.int .i64 b, .int .i64 k, .int .u32 x] 62)) none) := Lib.hid (grown_alloc (grown_refl _ _) _)
      have HS := Lib.hid (pp.set_word_any (HMM.out.kept HX.out) b k x)
      go_wp2_with (first
        | (go_at_call 28; ((with_reducible refine HS.out.mono ?_); rintro e w4 ⟨rfl, hm4, hg4⟩; have HM4 := Lib.hid hm4; have HG4 := Lib.hid hg4; clear hm4 hg4))
        | fail)
      go_roundw
      case rel => exact ⟨j + 1, _, by omega, by go_num, HM4.out, grown_new' (grown_trans HG.out HX.out) HV2.out HG4.out, by rw [setW_length]; exact HBL.out⟩
      case measure => simp [intOf]; omega
    · by_cases hok : c.may ∧ 0 ≤ core ∧ core < c.co
      · obtain ⟨hmay, hc0, hc1⟩ := hok
        have hcm := tt.core_mul hmay.fits core hc0 hc1
        have hlo := hmay.fits.lo
        obtain ⟨N, hNd⟩ : ∃ N : Nat, c.data = N := ⟨c.data.toNat, by have := hmay.2; omega⟩
        obtain ⟨F, hF⟩ : ∃ F : Nat, c.data + core * c.lo = F := ⟨(c.data + core * c.lo).toNat, by omega⟩
        have hNn : N ≤ n := by have := HN.out; unfold Cfg.data at hNd; omega
        have hNF : N ≤ F := by omega
        have HNW := Lib.hid (HNK c core wb wr mb mv bs F HT0.out HG.out HMM.out HV2.out hmay hc0 hc1 (by rw [HBL.out]; exact HN.out.symm) hF)
        have HCP : Hid (∀ w', wr.grownBy w' none → _) := Lib.hid (fun w' h => pp.copy_any mb mv bs w' (HMM.out.kept h) (by have := HB.out; have := HBL.out; omega))
        have HMAY := Lib.hid hmay
        have HND := Lib.hid hNd
        have HNN' : Hid (N ≤ n ∧ N ≤ F) := Lib.hid ⟨hNn, hNF⟩
        obtain ⟨c0, c1, c2, c3, c4, c5, c6, c7⟩ := HA.out.grown HG.out
        clear hmay hc0 hc1 hcm hlo hF hNn hNF hNd HMM
        unfold Cfg.cells at HNW
        go_wp2_with (first
          | (go_at_call 9; ((with_reducible refine HNW.out.mono ?_); rintro e w4 ⟨lb, S, P, rfl, hI, hs4, hg4⟩; have HI := Lib.hid hI; have HS4 := Lib.hid hs4; have HG4 := Lib.hid hg4; clear hI hs4 hg4 c0 c1 c2 c3 c4 c5 c6 c7))
          | (go_at_call 29; ((with_reducible refine (HCP.out _ HG4.out).mono ?_); rintro e w5 ⟨b2, v2, rfl, hm5, hg5, hb5, hv5⟩; have H5 : Hid (St S b2 v2 N n bs w5 P [] bs) := Lib.hid ⟨HI.out.grown HS4.out hg5, hm5, ⟨fun hp => (by have := HI.out.lt HS4.out _ hp; omega), fun k hk hp => (by have := HI.out.lt HS4.out _ hp; have := hv5 k hk; omega)⟩, HBL.out, fun x hx => (by cases hx), rfl⟩; clear hm5 hg5 hb5 hv5)))
        clear HNW HCP HS4 HG4 HG
        go_loopw [80] (fun i wr => ∃ (j : Nat) (P : Nat → Prop) (es : List (Int × Int)) (bs' : List (List Int)), j ≤ len2 ∧ i = .int .i64 (j : Int) ∧ St S b2 v2 N n bs wr P es bs') (fun i _ => len2 - (intOf i).toNat)
        case atStart => exact ⟨0, _, _, _, Nat.zero_le _, rfl, H5.out⟩
        case round =>
          clear H5
          obtain ⟨j2, P, es, bs', hj2, rfl, hst⟩ := hrel
          have HST := Lib.hid hst
          clear hst
          have hj2300 : j2 ≤ 300 := by have := H32.out; omega
          by_cases hlt2 : j2 < len2
          · obtain ⟨⟨b, k, x⟩, hq⟩ : ∃ q, ys[j2]? = some q := ⟨_, List.getElem?_eq_getElem (by have := HL2.out; omega)⟩
            obtain ⟨bp, op, rfl, hr0, hr1, hr2⟩ := (HAT2.out.grown (HI.out.old HST.out.st)) j2 _ hq
            clear hq
            dsimp only at hr0 hr1 hr2
            have HX : Hid (wr.grownBy (wr.alloc (.cells #[.int .i64 b, .int .i64 k, .int .u32 x] 62)) none) := Lib.hid (grown_alloc (grown_refl _ _) _)
            by_cases hbk : 0 ≤ b ∧ b < 256 ∧ 0 ≤ k ∧ k < 16
            · obtain ⟨B, rfl⟩ : ∃ B : Nat, b = B := ⟨b.toNat, by omega⟩
              obtain ⟨K, rfl⟩ : ∃ K : Nat, k = K := ⟨k.toNat, by omega⟩
              have hB : B < 256 := by omega
              have hK : K < 16 := by omega
              have HAD : Hid (∀ w', _) := Lib.hid fun w' => tt.addr_in (B : Int) (K : Int) w' (by omega) (by omega) (by omega) (by omega)
              obtain ⟨A, hA⟩ : ∃ A : Int, A = (B : Int) * 64 + (K : Int) * 4 := ⟨_, rfl⟩
              obtain ⟨O, hO⟩ : ∃ O : Int, O = getW bs' (B : Int) (K : Int) := ⟨_, rfl⟩
              obtain ⟨ER, hER⟩ : ∃ ER : Int, ER = pp.err (inn bs'.length (B : Int) (K : Int)) := ⟨_, rfl⟩
              have HX1 := HST.out.grown HI.out HX.out
              have HWD := Lib.hid (pp.word_any (HI.out.mem HX1.st) (B : Int) (K : Int))
              rw [← hO, ← hER] at HWD
              clear hER
              unfold tt.pair at HAD
              rw [← hA] at HAD
              have HADD : Hid (∀ w', wr.grownBy w' none → _) := Lib.hid fun w' h => HI.out.add A O (HI.out.grown HST.out.st h) (by omega) (by omega)
              have HQ1 : Hid ((wr.alloc (.cells #[.int .i64 (B : Int), .int .i64 (K : Int), .int .u32 x] 62)).heap[wr.heap.size]? = some (.cells #[.int .i64 (B : Int), .int .i64 (K : Int), .int .u32 x] 62 (0, 0))) := Lib.hid (heap_alloc_new _ _)
              have HLT := Lib.hid (HI.out.lt HST.out.st)
              have HHA := Lib.hid hA
              have HHO := Lib.hid hO
              have HKB : Hid (B < 256 ∧ K < 16) := Lib.hid ⟨hB, hK⟩
              by_cases hE : addE c es A = 0
              · have hW := addE_zero hE
                have hBN : (B : Int) < c.data := by have := wErr_zero hW; omega
                have hBNn : B < N := by have := HND.out; omega
                have hBb : B < bs'.length := by have := HNN'.out.1; have := HST.out.size; omega
                have HFIN : Hid (addL c es A O = es ++ [(A, O)] ∧ addB c F es bs' A O = putE bs' F es.length (A, O)) := Lib.hid ⟨by unfold addL; rw [if_pos hE], by unfold addB; rw [if_pos hE]⟩
                have HBN : Hid ((B : Int) < c.data ∧ B < N ∧ B < bs'.length) := Lib.hid ⟨hBN, hBNn, hBb⟩
                rw [hE, HFIN.out.1, HFIN.out.2] at HADD
                clear hE hW hBN hBNn hBb hbk hB hK hA hO HFIN
                go_wp2_with (first
                  | (go_at_call 30; ((with_reducible refine (HAD.out _).mono ?_); rintro e w6 ⟨rfl, rfl⟩))
                  | (go_at_call 13; ((with_reducible refine HWD.out.mono ?_); rintro e w7 ⟨rfl, hg7⟩; have HG7 := Lib.hid (grown_trans HX.out hg7); have HQ7 := Lib.hid ((hg7.block wr.heap.size (by simp) (by simp)).trans HQ1.out); clear hg7))
                  | (go_at_call 12; ((with_reducible refine (HADD.out _ HG7.out).mono ?_); rintro e w8 ⟨rfl, P8, hs8, hx8⟩; have HS8 := Lib.hid hs8; have HX8 := Lib.hid hx8; have HQ8 := Lib.hid ((hx8.fr.block wr.heap.size ((by have := (Array.getElem?_eq_some_iff.1 HQ7.out).1; exact this)) (fun hp => by have := HLT.out _ hp; omega)).trans HQ7.out); have q0 : w8.cell? ⟨wr.heap.size, 0, none⟩ = some (.int .i64 (B : Int)) := (by simp [World.cell?, HQ8.out]); have q1 : w8.cell? ⟨wr.heap.size, 1, none⟩ = some (.int .i64 (K : Int)) := (by simp [World.cell?, HQ8.out]); have q2 : w8.cell? ⟨wr.heap.size, 2, none⟩ = some (.int .u32 x) := (by simp [World.cell?, HQ8.out]); have HS9 := Lib.hid (pp.set_word_any (HI.out.mem hs8) (B : Int) (K : Int) x); clear hs8 hx8))
                  | (go_at_call 28; (rw [show pp.err (inn (putE bs' F es.length (A, O)).length (B : Int) (K : Int)) = 0 by (unfold pp.err; rw [if_pos]; unfold inn; rw [putE_len]; have := HBN.out.2.2; have := HKB.out.2; simp; omega)] at HS9; (with_reducible refine HS9.out.mono ?_); rintro e w9 ⟨rfl, hm9, hg9⟩; rw [mem_word_set (by rw [putE_len]; exact HBN.out.2.2) HKB.out.2] at hm9; have HM9 := Lib.hid hm9; have HG9 := Lib.hid hg9; clear hm9 hg9))
                  | fail)
                go_roundw
                case rel =>
                  have hS7 := HST.out.grown HI.out HG7.out
                  have hAA : A = ((B * 64 + K * 4 : Nat) : Int) := by have := HHA.out; omega
                  have hAd : Ad N (es ++ [(A, O)]) := ad_snoc HST.out.ad ⟨B, K, hAA, HBN.out.2.1, HKB.out.2⟩
                  have hOO : O = (bs'.getD B []).getD K 0 := by rw [HHO.out]; exact mem_word_get HBN.out.2.2 HKB.out.2
                  have h16 : (bs'.getD B []).length = 16 := (HI.out.mem HST.out.st).len _ (by rw [List.getD_eq_getElem?_getD, List.getElem?_eq_getElem HBN.out.2.2]; exact List.getElem_mem _)
                  have hS9 := HI.out.setw HS8.out HBN.out.1 HKB.out.2 HM9.out HG9.out
                  have hX9 := nx_set HI.out HS8.out HG9.out
                  have hc8 := mem_aside hS7.copy HX8.out.fr hS7.no.1 hS7.no.2 (HI.out.row hS7.st)
                  refine ⟨j2 + 1, P8, es ++ [(A, O)], _, by omega, by go_num, hS9, mem_aside hc8 hX9.fr ?_ ?_ (HI.out.row HS8.out), ⟨?_, ?_⟩, by rw [put1_len, putE_len]; exact HST.out.size, hAd, ?_⟩
                  · intro hp; rcases HX8.out.nx _ hp with h1 | h1; exact hS7.no.1 h1; have := hS7.copy.lt; omega
                  · intro k hk hp; rcases HX8.out.nx _ hp with h1 | h1; exact hS7.no.2 k hk h1; have := mem_lt hS7.copy k hk; omega
                  · intro hp; rcases HX8.out.nx _ hp with h1 | h1; exact hS7.no.1 h1; have := hS7.copy.lt; omega
                  · intro k hk hp; rcases HX8.out.nx _ hp with h1 | h1; exact hS7.no.2 k hk h1; have := mem_lt hS7.copy k hk; omega
                  · rw [hAA, hOO, undo_step bs' es N F B K x HBN.out.2.1 HBN.out.2.2 HKB.out.2 h16 HNN'.out.2]; exact HST.out.same
                case measure => simp [intOf]; omega
              · have HFIN : Hid (addL c es A O = es ∧ addB c F es bs' A O = bs') := Lib.hid ⟨by unfold addL; rw [if_neg hE], by unfold addB; rw [if_neg hE]⟩
                rw [HFIN.out.1, HFIN.out.2] at HADD
                obtain ⟨z, hz⟩ : ∃ z : Int, z = addE c es A := ⟨_, rfl⟩
                rw [← hz] at HADD hE
                have hE' : (z == 0) = false := by simp [hE]
                clear hE hbk hB hK hA hO HFIN hz
                go_wp2_with (first
                  | (go_at_call 30; ((with_reducible refine (HAD.out _).mono ?_); rintro e w6 ⟨rfl, rfl⟩))
                  | (go_at_call 13; ((with_reducible refine HWD.out.mono ?_); rintro e w7 ⟨rfl, hg7⟩; have HG7 := Lib.hid (grown_trans HX.out hg7); clear hg7))
                  | (go_at_call 12; ((with_reducible refine (HADD.out _ HG7.out).mono ?_); rintro e w8 ⟨rfl, P8, hs8, hx8⟩; have HS8 := Lib.hid hs8; have HX8 := Lib.hid hx8; clear hs8 hx8))
                  | fail)
                go_roundw
                case rel => exact ⟨j2 + 1, P8, es, bs', by omega, by go_num, (HST.out.grown HI.out HG7.out).next HI.out HS8.out HX8.out HST.out.size HST.out.ad HST.out.same⟩
                case measure => simp [intOf]; omega
            · have HAD : Hid (∀ w', _) := Lib.hid fun w' => tt.addr_out b k w' hbk
              clear hbk
              unfold tt.pair at HAD
              go_wp2_with (first
                | (go_at_call 30; ((with_reducible refine (HAD.out _).mono ?_); rintro e w6 ⟨rfl, rfl⟩))
                | fail)
              go_roundw
              case rel => exact ⟨j2 + 1, _, _, _, by omega, by go_num, HST.out.grown HI.out HX.out⟩
              case measure => simp [intOf]; omega
          · have HLN : Hid (∀ w', wr.grownBy w' none → _) := Lib.hid fun w' h => HI.out.leng (HI.out.grown HST.out.st h)
            go_wp2_with (first
              | (go_at_call 17; ((with_reducible refine (HLN.out _ (grown_refl _ _)).mono ?_); rintro e w6 ⟨rfl, q6, hw6⟩; have H6 := Lib.hid (HST.out.grown HI.out (w' := w6) (by rw [hw6]; exact grown_drewN _ _)); clear hw6))
              | fail)
            clear HLN HST
            go_loopw [21] (fun i wr => ∃ (P : Nat → Prop) (es : List (Int × Int)) (bs' : List (List Int)), i = .int .i64 (es.length : Int) ∧ St S b2 v2 N n bs wr P es bs') (fun i _ => (intOf i).toNat)
            case atStart => exact ⟨_, _, _, rfl, H6.out⟩
            case round =>
              clear H6
              obtain ⟨P, es, bs', rfl, hst⟩ := hrel
              have HST := Lib.hid hst
              have hel : es.length ≤ 32 := by have := HI.out.len hst.st; have := HMAY.out.fits.lo; omega
              clear hst
              have HLN : Hid (∀ w', wr.grownBy w' none → _) := Lib.hid fun w' h => HI.out.leng (HI.out.grown HST.out.st h)
              rcases List.eq_nil_or_concat es with rfl | ⟨es0, x, he⟩
              · have HD : Hid (∀ w', wb.grownBy w' none → _) := Lib.hid fun w' h => data_yes c w' (HT0.out.grown h) HMAY.out
                rw [HND.out] at HD
                have HW : Hid (∀ w', wb.grownBy w' none → _) := Lib.hid (fun w' h => HWO w' (HT0.out.grown h))
                have HSAME : Hid (bs'.take N = bs.take N) := Lib.hid HST.out.same
                have HAR : Hid (∀ w', wr.grownBy w' none → _) := Lib.hid fun w' h => HA.out.grown (grown_trans (HI.out.old HST.out.st) h)
                have HMA : Hid (∀ w', wr.grownBy w' none → Mem w' mb mv bs') := Lib.hid fun w' h => HI.out.mem (HI.out.grown HST.out.st h)
                have HMB : Hid (∀ w', wr.grownBy w' none → Mem w' b2 v2 bs) := Lib.hid fun w' h => HST.out.copy.kept h
                have HOL : Hid (∀ w', wr.grownBy w' none → wb.grownBy w' none) := Lib.hid fun w' h => grown_trans (HI.out.old HST.out.st) h
                have HSZ : Hid (bs'.length = n ∧ bs.length = n) := Lib.hid ⟨HST.out.size, HBL.out⟩
                clear HST
                unfold Cfg.cells at HD
                go_wp2_with (first
                  | (go_at_call 17; ((with_reducible refine (HLN.out _ (grown_refl _ _)).mono ?_); rintro e w7 ⟨rfl, q7, hw7⟩; have HG7 : Hid (wr.grownBy w7 none) := Lib.hid (by rw [hw7]; exact grown_drewN _ _); obtain ⟨c0, c1, c2, c3, c4, c5, c6, c7⟩ := HAR.out w7 (by rw [hw7]; exact grown_drewN _ _); clear hw7 HLN))
                  | (go_at_call 32; ((with_reducible refine (HD.out _ (HOL.out _ HG7.out)).mono ?_); rintro e w8 ⟨rfl, hg8⟩; have HG8 := Lib.hid (grown_trans HG7.out hg8); clear hg8 c0 c1 c2 c3 c4 c5 c6 c7))
                  | fail)
                clear HD HAR HG7
                obtain ⟨wa, hwa⟩ : ∃ wa, wa = wr := ⟨_, rfl⟩
                rw [← hwa] at HMA HMB HOL HG8
                clear hwa
                go_loopw [167] (fun i wr => ∃ (j : Nat), j ≤ N ∧ i = .int .i64 (j : Int) ∧ wa.grownBy wr none) (fun i _ => N - (intOf i).toNat)
                case atStart => exact ⟨0, Nat.zero_le _, rfl, HG8.out⟩
                case round =>
                  clear HG8
                  obtain ⟨j4, hj4, rfl, hg⟩ := hrel
                  have HG := Lib.hid hg
                  clear hg
                  have hN256 : N ≤ 256 := by have := HNN'.out; have := HB.out; omega
                  by_cases hlt4 : j4 < N
                  · have HB1 : Hid (∀ w', wa.grownBy w' none → _) := Lib.hid fun w' h => pp.block_any (HMA.out w' h) (j4 : Int)
                    have HB2 : Hid (∀ w', wa.grownBy w' none → _) := Lib.hid fun w' h => pp.block_any (HMB.out w' h) (j4 : Int)
                    have hsame : pp.getB bs' (j4 : Int) = pp.getB bs (j4 : Int) := by
                      unfold pp.getB
                      have := HSZ.out; have := HNN'.out
                      rw [if_pos (by unfold inb; simp; omega), if_pos (by unfold inb; simp; omega)]
                      show bs'.getD j4 [] = bs.getD j4 []
                      have e1 : (bs'.take N).getD j4 [] = bs'.getD j4 [] := by rw [List.getD_eq_getElem?_getD, List.getD_eq_getElem?_getD, List.getElem?_take, if_pos hlt4]
                      have e2 : (bs.take N).getD j4 [] = bs.getD j4 [] := by rw [List.getD_eq_getElem?_getD, List.getD_eq_getElem?_getD, List.getElem?_take, if_pos hlt4]
                      rw [← e1, ← e2, HSAME.out]
                    rw [hsame] at HB1
                    have HX16 : Hid ((pp.getB bs (j4 : Int)).length = 16) := Lib.hid (pp.getB_length (HMB.out wa (grown_refl _ _)) _)
                    generalize pp.getB bs (j4 : Int) = X at HB1 HB2 HX16
                    have hq : ∀ w, (binOp .neq 56 (.agg (row X)) (.agg (row X))).run Tryd.prog w = .ok (.bool false) w := fun w => by rw [pp.q30 w _ _ HX16.out HX16.out]; simp
                    generalize pp.err (inb bs'.length (j4 : Int)) = e1 at HB1
                    generalize pp.err (inb bs.length (j4 : Int)) = e2 at HB2
                    clear hsame
                    go_wp2_with (first
                      | (go_at_call 26; ((with_reducible refine (HB1.out _ HG.out).mono ?_); rintro e w9 ⟨rfl, hg9⟩; have HG9 := Lib.hid (grown_trans HG.out hg9); have HGA := Lib.hid (grown_alloc HG9.out (.cells (row X) 56)); have HN9 : Hid ((w9.alloc (.cells (row X) 56)).heap[w9.heap.size]? = some (.cells (row X) 56 (0, 0))) := Lib.hid (heap_alloc_new _ _); clear hg9 HB1))
                      | ((with_reducible refine pp.store_new' X 29 174 ?_ ?_ HX16.out ?_); (rfl); (rfl))
                      | (go_at_call 26; ((with_reducible refine (HB2.out _ HGA.out).mono ?_); rintro e w10 ⟨rfl, hg10⟩; have HG10 := Lib.hid (grown_trans HGA.out hg10); have HN10 := Lib.hid ((hg10.block w9.heap.size (by simp) (by simp)).trans HN9.out); have HGB := Lib.hid (grown_alloc HG10.out (.cells (row X) 56)); have HN11 := Lib.hid ((Below.heap_alloc w10 (.cells (row X) 56) _ (Array.getElem?_eq_some_iff.1 HN10.out).1).trans HN10.out); clear hg10 HB2))
                      | ((with_reducible refine pp.store_new' X 31 180 ?_ ?_ HX16.out ?_); (rfl); (rfl))
                      | ((with_reducible refine pp.load_any X 29 w9.heap.size ?_ ?_ HX16.out ?_); (rfl); (exact HN11.out))
                      | ((with_reducible refine pp.load_any X 31 w10.heap.size ?_ ?_ HX16.out ?_); (rfl); (exact heap_alloc_new _ _))
                      | fail)
                    go_roundw
                    case rel => exact ⟨j4 + 1, by omega, by go_num, HGB.out⟩
                    case measure => simp [intOf]; omega
                  · go_wp2_with (first
                      | (go_at_call 11; ((with_reducible refine (HW.out _ (HOL.out _ HG.out)).mono ?_); rintro e w12 ⟨rfl, hg12⟩; have HG12 := Lib.hid (grown_trans (HOL.out _ HG.out) hg12); clear hg12)))
                    go_ret
                    exact ⟨rfl, grown_trans HG0.out HG12.out⟩
              · rw [List.concat_eq_append] at he
                subst he
                obtain ⟨B, K, hx1, hBN, hK⟩ := HST.out.ad x (by simp)
                have hB256 : B < 256 := by have := HNN'.out.1; have := HB.out.2; omega
                have HLA : Hid (∀ w', wr.grownBy w' none → _) := Lib.hid fun w' h => HI.out.last (HI.out.grown HST.out.st h)
                rw [atV_last] at HLA
                have HWH : Hid (∀ w', wb.grownBy w' none → _) := Lib.hid fun w' h => tt.where_in c x.1 w' (HT0.out.grown h) HMAY.out (by omega) (by omega) (by omega) (by have := HN.out; have := HNN'.out.1; omega) (by have := HND.out; omega)
                rw [show x.1 / 64 = (B : Int) by omega, show x.1 % 64 / 4 = (K : Int) by omega] at HWH
                unfold trip Cfg.cells at HWH
                obtain ⟨L, hL⟩ : ∃ L : Int, L = ((es0 ++ [x]).length : Int) := ⟨_, rfl⟩
                obtain ⟨L0, hL0⟩ : ∃ L0 : Int, L0 = (es0.length : Int) := ⟨_, rfl⟩
                rw [← hL] at HLN ⊢
                have hLL : L = L0 + 1 := by rw [hL, hL0]; simp
                have hLp : decide (0 < L) = true := by simp; omega
                have hLL' : decide (L ≤ L0) = false := by simp; omega
                have HLL : Hid (L = L0 + 1 ∧ L0 = (es0.length : Int)) := Lib.hid ⟨hLL, hL0⟩
                obtain ⟨x1, x2⟩ := x
                dsimp only at hx1 HLA HWH
                have HBK : Hid (B < N ∧ K < 16 ∧ x1 = ((B * 64 + K * 4 : Nat) : Int) ∧ B < bs'.length ∧ (B : Int) < c.data) := Lib.hid ⟨hBN, hK, hx1, by have := HNN'.out.1; have := HST.out.size; omega, by have := HND.out; omega⟩
                have HAR : Hid (∀ w', wr.grownBy w' none → _) := Lib.hid fun w' h => HA.out.grown (grown_trans (HI.out.old HST.out.st) h)
                have HSW : Hid (∀ w', wr.grownBy w' none → _) := Lib.hid fun w' h => pp.set_word_any (HI.out.mem (HI.out.grown HST.out.st h)) (B : Int) (K : Int) x2
                rw [show pp.err (inn bs'.length (B : Int) (K : Int)) = 0 by (unfold pp.err; rw [if_pos]; unfold inn; have := HBK.out.2.2.2.1; have := HBK.out.2.1; simp; omega), mem_word_set HBK.out.2.2.2.1 HBK.out.2.1] at HSW
                have HPO : Hid (∀ w' bs1, S w' P (es0 ++ [(x1, x2)]) bs1 → _) := Lib.hid fun w' bs1 h => HI.out.pop h
                have HLN2 : Hid (∀ w' P1 bs1, S w' P1 es0 bs1 → _) := Lib.hid fun w' P1 bs1 h => HI.out.leng h
                rw [← hL0] at HLN2
                rw [if_neg (by simp), List.dropLast_concat] at HPO
                clear hx1 hBN hK hB256 hL hL0 hLL
                go_wp2_with (first
                  | (go_at_call 17; ((with_reducible refine (HLN.out _ (grown_refl _ _)).mono ?_); rintro e w7 ⟨rfl, q7, hw7⟩; have HG7 : Hid (wr.grownBy w7 none) := Lib.hid (by rw [hw7]; exact grown_drewN _ _); clear hw7 HLN))
                  | (go_at_call 15; ((with_reducible refine (HLA.out _ HG7.out).mono ?_); rintro e w8 ⟨rfl, hg8⟩; have HG8 := Lib.hid (grown_trans HG7.out hg8); obtain ⟨c0, c1, c2, c3, c4, c5, c6, c7⟩ := HAR.out _ (grown_trans HG7.out hg8); clear hg8 HLA))
                  | (go_at_call 31; ((with_reducible refine (HWH.out _ (grown_trans (HI.out.old HST.out.st) HG8.out)).mono ?_); rintro e w9 ⟨rfl, hg9⟩; have HG9 := Lib.hid (grown_trans HG8.out hg9); clear hg9 HWH))
                  | (go_at_call 28; ((with_reducible refine (HSW.out _ HG9.out).mono ?_); rintro e w10 ⟨rfl, hm10, hg10⟩; have HS9 := Lib.hid (HI.out.grown HST.out.st HG9.out); have HS10 := Lib.hid (HI.out.setw HS9.out HBK.out.2.2.2.2 HBK.out.2.1 hm10 hg10); have HX10 := Lib.hid (nx_set HI.out HS9.out hg10); clear hm10 hg10 HSW))
                  | (go_at_call 14; ((with_reducible refine (HPO.out _ _ HS10.out).mono ?_); rintro e w11 ⟨rfl, P11, hs11, hx11⟩; have HS11 := Lib.hid hs11; have HX11 := Lib.hid hx11; clear hs11 hx11 HPO))
                  | (go_at_call 17; ((with_reducible refine (HLN2.out _ _ _ HS11.out).mono ?_); rintro e w12 ⟨rfl, q12, hw12⟩; have HG12 : Hid (w11.grownBy w12 none) := Lib.hid (by rw [hw12]; exact grown_drewN _ _); clear hw12))
                  | fail)
                go_roundw
                case rel =>
                  have h9 := HST.out.grown HI.out HG9.out
                  have hu : undo es0 ((put1 bs' B K x2).take N) = bs.take N := by
                    have := HST.out.same
                    rw [undo_last] at this
                    rw [put1_take _ _ _ _ _ HBK.out.1, ← this, HBK.out.2.2.1, (addr_of B K HBK.out.2.1).1, (addr_of B K HBK.out.2.1).2]
                  have h10 : Mem w10 b2 v2 bs := mem_aside h9.copy HX10.out.fr h9.no.1 h9.no.2 (HI.out.row h9.st)
                  have h11 : Mem w11 b2 v2 bs := mem_aside h10 HX11.out.fr h9.no.1 h9.no.2 (HI.out.row HS10.out)
                  refine ⟨P11, es0, put1 bs' B K x2, ?_, HI.out.grown HS11.out HG12.out, h11.kept HG12.out, ⟨?_, ?_⟩, by rw [put1_len]; exact HST.out.size, fun y hy => HST.out.ad y (List.mem_append_left _ hy), hu⟩
                  · have h3 := HLL.out.2; have h4 := HLL.out.1; have h32 : es0.length ≤ 31 := by simp at hel; omega
                    rw [IntWalk.wrap64_in (L - 1) (by omega), h4, h3]; go_num
                  · intro hp; rcases HX11.out.nx _ hp with h1 | h1; exact h9.no.1 h1; have := h10.lt; omega
                  · intro k hk hp; rcases HX11.out.nx _ hp with h1 | h1; exact h9.no.2 k hk h1; have := mem_lt h10 k hk; omega
                case measure =>
                  have h3 := HLL.out.2; have h4 := HLL.out.1; have h32 : es0.length ≤ 31 := by simp at hel; omega
                  rw [IntWalk.wrap64_in (L - 1) (by omega)]; simp [intOf]; omega
      · have HNW := Lib.hid (HNN c core wr mb mv bs (HT0.out.grown HG.out) HMM.out (by have := HB.out; have := HBL.out; omega) (fun h => hok ⟨h.1, h.2.1, h.2.2.1⟩))
        have HW : Hid (∀ w', wb.grownBy w' none → _) := Lib.hid (fun w' h => HWO w' (HT0.out.grown h))
        obtain ⟨c0, c1, c2, c3, c4, c5, c6, c7⟩ := HA.out.grown HG.out
        clear hok
        unfold Cfg.cells at HNW
        go_wp2_with (first
          | (go_at_call 9; ((with_reducible refine HNW.out.mono ?_); rintro e w4 ⟨z, hz, rfl, hg4⟩; have hz' : (z != 0) = true := (by simp [hz]); have HG4 := Lib.hid (grown_trans HG.out hg4); clear hg4))
          | (go_at_call 11; ((with_reducible refine (HW.out _ HG4.out).mono ?_); rintro e w5 ⟨rfl, hg5⟩; have HG5 := Lib.hid (grown_trans HG4.out hg5); clear hg5)))
        go_ret
        exact ⟨rfl, grown_trans HG0.out HG5.out⟩
theorem back_true (HWO : WorksOk) (HNN : NewNo) (HNK : NewOk) (c : Cfg) (core : Int) (xs ys : List Wr) (ad1 ad2 : Option Addr) (len1 cap1 len2 cap2 : Nat) (w : World) (hT : Tab w) (hl1 : len1 = xs.length) (hl2 : len2 = ys.length) (ha1 : WrAt w ad1 xs) (ha2 : WrAt w ad2 ys) : Calls Tryd.prog 5 #[.agg c.cells, .int .i64 core, .slice ad1 len1 cap1, .slice ad2 len2 cap2] w fun e w' => e = .returned (.bool true) ∧ w.grownBy w' none := by
  by_cases h : 300 < len1 ∨ 300 < len2
  · exact back_long HWO c core ad1 ad2 len1 cap1 len2 cap2 w hT h
  · by_cases hb : c.bl < 1 ∨ 256 < c.bl
    · exact back_nomem HWO c core ad1 ad2 len1 cap1 len2 cap2 w hT (by omega) (by omega) hb
    · exact back_some HWO HNN HNK c core xs ys ad1 ad2 len1 cap1 len2 cap2 w hT (by omega) (by omega) hl1 hl2 ha1 ha2 (by omega) (by omega)
end Go.Proofs.YtfjjmlmkpdpdfaaDoor.ud
