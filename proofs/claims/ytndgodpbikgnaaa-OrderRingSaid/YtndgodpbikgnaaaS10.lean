/-
  slices.pdqsortOrdered and slices.Sort at stamps: they sort. No condition but the bounds that each theorem names.
-/
import Derived.Test.YtndgodpbikgnaaaS9
namespace Go.Proofs.Ytndgodpbikgnaaa.srt
open Go Go.RowKit Go.Sort
set_option linter.unusedVariables false

section
variable {a b m : Nat} {d d4 L R : Array Int}
theorem Pd.left (h : Pd a b m d d4) (hm : a ≤ m) (hmb : m < b) (hb : b ≤ d4.size) (hL : PermIn a m d4 L) : Pd a b m d L := by
  have hm' : L[m]! = d4[m]! := hL.2.1 m (.inr (Nat.le_refl _))
  refine ⟨permIn_trans _ _ _ _ _ h.perm (permIn_mono _ _ _ _ _ _ (Nat.le_refl _) (by omega) hb hL), ?_, fun k h1 h2 => ?_⟩
  · rw [hm']
    exact permIn_all d4 L a m (fun x => ltInt x d4[m]! = true) (by omega) hL h.lo
  · rw [hm', hL.2.1 k (.inr (by omega))]; exact h.hi k h1 h2
theorem Pd.right (h : Pd a b m d d4) (hm : a ≤ m) (hmb : m < b) (hb : b ≤ d4.size) (hR : PermIn (m + 1) b d4 R) : Pd a b m d R := by
  have hm' : R[m]! = d4[m]! := hR.2.1 m (.inl (by omega))
  refine ⟨permIn_trans _ _ _ _ _ h.perm (permIn_mono _ _ _ _ _ _ (by omega) (Nat.le_refl _) hb hR), fun k h1 h2 => ?_, fun k h1 h2 => ?_⟩
  · rw [hm', hR.2.1 k (.inl (by omega))]; exact h.lo k h1 h2
  · rw [hm']
    exact permIn_all d4 R (m + 1) b (fun x => ltInt x d4[m]! = false) hb hR (fun i h1 h2 => h.hi i (by omega) h2) k (by omega) h2
theorem Pd.done (h : Pd a b m d R) (hl : SortedIn ltInt a m R) (hr : SortedIn ltInt (m + 1) b R) : PermIn a b d R ∧ SortedIn ltInt a b R := ⟨h.perm, sorted_glue swo_ltInt hl hr h.lo h.hi⟩
theorem Pd.belowR (h : Pd a b m d d4) : Below ltInt (m + 1) b d4 := .inr fun i h1 h2 => h.hi i (by omega) h2
theorem Pd.belowL (h : Pd a b m d d4) (hB : Below ltInt a b d) (hmb : m < b) (hb : b ≤ d.size) : Below ltInt a m d4 := (hB.perm hb h.perm).mono (by omega)

/-- Behind partitionEqual: what is left to be sorted. -/
theorem Qt.rest {p : Int} (h : Qt (fun x => !ltInt p x) p a b m (m - 1) d d4) (ham : a < m) (hmb : m ≤ b) (hb : b ≤ d.size) (h0 : 0 < a) (hB : Below ltInt a b d) (hp : ltInt d[a - 1]! p = false) :
    Below ltInt m b d4 ∧ ∀ R, PermIn m b d4 R → SortedIn ltInt m b R → PermIn a b d R ∧ SortedIn ltInt a b R := by
  have hb4 : b ≤ d4.size := by rw [h.perm.1]; exact hb
  have hge : ∀ i, a ≤ i → i < b → ltInt d[i]! p = false := fun i h1 h2 => by
    rcases hB with hB | hB
    · omega
    · exact swo_ltInt.ntrans _ _ _ (hB i h1 h2) hp
  have hge4 := permIn_all d d4 a b (fun x => ltInt x p = false) hb h.perm hge
  have hlo : ∀ i, a ≤ i → i < m → ltInt p d4[i]! = false := fun i h1 h2 => by
    by_cases hi : i = a
    · subst hi; rw [h.piv]; exact swo_ltInt.irrefl _
    · simpa using h.lo i (by omega) h2
  have hhi : ∀ i, m ≤ i → i < b → ltInt p d4[i]! = true := fun i h1 h2 => by simpa using h.hi i (by omega) h2
  refine ⟨.inr fun i h1 h2 => ?_, fun R hR hs => ⟨permIn_trans _ _ _ _ _ h.perm (permIn_mono _ _ _ _ _ _ (by omega) (Nat.le_refl _) hb4 hR), ?_⟩⟩
  · cases hc : ltInt d4[i]! d4[m - 1]! with
    | false => rfl
    | true => have := swo_ltInt.trans _ _ _ (hhi i h1 h2) hc; rw [hlo (m - 1) (by omega) (by omega)] at this; cases this
  · refine sorted_glue_eq swo_ltInt p hs (fun i h1 h2 => ?_) (fun i h1 h2 => ?_) (permIn_all d4 R m b (fun x => ltInt p x = true) hb4 hR hhi)
    · rw [hR.2.1 i (.inl h2)]; exact hlo i h1 h2
    · rw [hR.2.1 i (.inl h2)]; exact hge4 i h1 (by omega)
end

/-- What is left behind a round, told of the whole. -/
def Fin' (a b a' b' : Nat) (d dk : Array Int) : Prop := ∀ R, PermIn a' b' dk R → SortedIn ltInt a' b' R → PermIn a b d R ∧ SortedIn ltInt a b R
theorem Fin'.perm {a b a' b' : Nat} {d dk d3 : Array Int} (h : Fin' a b a' b' d dk) (hp : PermIn a' b' dk d3) : Fin' a b a' b' d d3 := fun R h1 h2 => h R (permIn_trans _ _ _ _ _ hp h1) h2

set_option maxHeartbeats 6400000 in
set_option maxRecDepth 100000 in
theorem pdq (N : Nat) : ∀ (blk off n cap a b limit : Nat) (d : Array Int) (w : World), b - a ≤ N → S blk off n w d w → a ≤ b → b ≤ n → n ≤ 1000 → limit ≤ 64 → Below ltInt a b d →
    Calls Try.prog 18 #[.slice (some ⟨blk, off, none⟩) n cap, .int .i64 a, .int .i64 b, .int .i64 limit] w fun e w' =>
      e = .returned (.tuple #[]) ∧ ∃ d', S blk off n w d' w' ∧ PermIn a b d d' ∧ SortedIn ltInt a b d' := by
  induction N using Nat.strongRecOn with
  | _ N ih =>
  intro blk off n cap a b limit d w hN hS hab hb hn hlim hB
  have HIH := Lib.hid ih
  have HS := Lib.hid hS
  have HB := Lib.hid hB
  clear ih hS hB
  go_enter Try.func18, Try.ntmps18
  go_wp2
  go_loopw [1, 2, 3, 8, 9] (fun v1 v2 v3 v8 v9 wr => ∃ (a' b' lim : Nat) (wb wp : Bool) (dk : Array Int), v1 = .int .i64 a' ∧ v2 = .int .i64 b' ∧ v3 = .int .i64 lim ∧ v8 = .bool wb ∧ v9 = .bool wp ∧ a' ≤ b' ∧ b' ≤ n ∧ b' - a' ≤ N ∧ lim ≤ 64 ∧ S blk off n w dk wr ∧ Below ltInt a' b' dk ∧ Fin' a b a' b' d dk) (fun v1 v2 _ _ _ _ => (intOf v2 - intOf v1).toNat)
  case atStart => exact ⟨a, b, limit, true, true, d, rfl, rfl, rfl, rfl, rfl, hab, hb, hN, hlim, HS.out, HB.out, fun R h1 h2 => ⟨h1, h2⟩⟩
  case round =>
    obtain ⟨a', b', lim, wb, wp, dk, rfl, rfl, rfl, rfl, rfl, hab', hb', hN', hlim', hSk, hBk, hFk⟩ := hrel
    have HSk := Lib.hid hSk
    have HBk := Lib.hid hBk
    have HFk := Lib.hid hFk
    have hdz : b' ≤ dk.size := by rw [hSk.size]; exact hb'
    clear HS HB hSk hBk hFk
    by_cases h12 : b' - a' ≤ 12
    · have h12z : (b' : Int) - (a' : Int) ≤ 12 := by omega
      have hc := Lib.hid (ins blk off n cap a' b' dk wr HSk.out.self hab' hb' hn)
      go_wp2_with (go_at_call 20; refine hc.out.mono ?_; rintro e w1 ⟨rfl, d1, hS1, hP1, hO1⟩)
      (try simp only [Exit.inBlock, Exit.then]); refine bodyPost_ret (results_none rfl _ _ _) rfl ?_
      exact ⟨rfl, d1, HSk.out.trans hS1, HFk.out d1 hP1 hO1⟩
    · have h12z : ¬ ((b' : Int) - (a' : Int) ≤ 12) := by omega
      by_cases hl0 : lim = 0
      · subst hl0
        have hc := Lib.hid (heap blk off n cap a' b' (b' - a') dk wr HSk.out.self (by omega) (by omega) hn)
        go_wp2_with (go_at_call 21; refine hc.out.mono ?_; rintro e w1 ⟨rfl, d1, hS1, hP1, hO1⟩)
        (try simp only [Exit.inBlock, Exit.then]); refine bodyPost_ret (results_none rfl _ _ _) rfl ?_
        rw [show a' + (b' - a') = b' by omega] at hP1 hO1
        exact ⟨rfl, d1, HSk.out.trans hS1, HFk.out d1 hP1 hO1⟩
      · have hl0z : ((lim : Int) == 0) = false := by simp; omega
        go_upto_if 35 with fail
        go_cut [3] from 19 to 133 (fun s3 wx => ∃ (lim1 : Nat) (d1 : Array Int), s3 = .int .i64 lim1 ∧ lim1 ≤ 64 ∧ S blk off n w d1 wx ∧ PermIn a' b' dk d1)
        case first =>
          cases wb
          · have hc := Lib.hid (brk blk off n cap a' b' (b' - a') dk wr HSk.out.self (by omega) (by omega) hn (by omega))
            go_wp2_with (go_at_call 22; refine hc.out.mono ?_; rintro e w1 ⟨rfl, d1, hS1, hP1⟩)
            go_meet
            case rel =>
              rw [show a' + (b' - a') = b' by omega] at hP1
              exact ⟨lim - 1, d1, by go_num, by omega, HSk.out.trans hS1, hP1⟩
          · go_wp2_with fail
            go_meet
            case rel => exact ⟨lim, dk, rfl, hlim', HSk.out, permIn_refl _ _ _⟩
        case rest =>
          obtain ⟨lim1, d1, rfl, hlim1, hS1, hP1⟩ := hcut
          have HP := Lib.hid hP1
          have HS1 := Lib.hid hS1
          have hd1 : b' ≤ d1.size := by rw [hS1.size]; exact hb'
          clear HSk hP1 hS1 hl0 hl0z hlim'
          have hc := Lib.hid (pivot blk off n cap a' b' d1 wc HS1.out.self (by omega) hb' hn)
          go_upto_if 50 with (go_at_call 23; refine hc.out.mono ?_; rintro e w2 ⟨p, h, rfl, hp1, hp2, hg2⟩)
          have HS2 := Lib.hid (HS1.out.beside hg2)
          clear hc HS1 hg2
          go_cut [11, 12] from 19 to 133 (fun s11 s12 wx => ∃ (p' : Nat) (h' : Int) (d2 : Array Int), s11 = .int .i64 p' ∧ s12 = .int .i64 h' ∧ a' ≤ p' ∧ p' < b' ∧ S blk off n w d2 wx ∧ PermIn a' b' dk d2)
          case first =>
            by_cases hh : h = 2
            · subst hh
              have hc := Lib.hid (rev blk off n cap a' b' d1 w2 HS2.out.self hab' hb' hn)
              go_wp2_with (go_at_call 24; refine hc.out.mono ?_; rintro e w3 ⟨rfl, d2, hS3, hP3⟩)
              go_meet
              case rel => exact ⟨b' - 1 - (p - a'), 1, d2, by go_num, rfl, by omega, by omega, HS2.out.trans hS3, permIn_trans _ _ _ _ _ HP.out hP3⟩
            · have hhz : (h == 2) = false := by simp [hh]
              go_wp2_with fail
              go_meet
              case rel => exact ⟨p, h, d1, rfl, rfl, hp1, hp2, HS2.out, HP.out⟩
          case rest =>
            clear hp1 hp2 HP HS2
            obtain ⟨p', h', d2, rfl, rfl, hp1, hp2, hS3, hP3⟩ := hcut
            have HP := Lib.hid hP3
            have HS3 := Lib.hid hS3
            have hd2 : b' ≤ d2.size := by rw [hS3.size]; exact hb'
            clear hP3 hS3 hd1
            go_upto_region 15 with fail
            go_cut [68] from 19 to 133 (fun s68 wx => ∃ B : Bool, s68 = .bool B ∧ wx = wc)
            case first =>
              cases wb <;> cases wp <;> (go_wp2_with fail; go_meet; case rel => exact ⟨_, rfl, rfl⟩)
            case rest =>
              obtain ⟨B, rfl, rfl⟩ := hcut
              go_upto_if 68 with fail
              go_cut [] from 19 to 133 (fun wx => ∃ d3 : Array Int, S blk off n w d3 wx ∧ PermIn a' b' dk d3)
              case first =>
                cases B
                · go_wp2_with fail
                  go_meet
                  case rel => exact ⟨d2, HS3.out, HP.out⟩
                · have hc := Lib.hid (part blk off n cap a' b' d2 wc HS3.out.self (by omega) hb' hn (HBk.out.perm hdz HP.out))
                  go_wp2_with (go_at_call 25; refine hc.out.mono ?_; rintro e w4 ⟨r, rfl, d3, hS4, hP4, hO4⟩)
                  · have hr : r = true := by assumption
                    (try simp only [Exit.inBlock, Exit.then]); refine bodyPost_ret (results_none rfl _ _ _) rfl ?_
                    exact ⟨rfl, d3, HS3.out.trans hS4, HFk.out d3 (permIn_trans _ _ _ _ _ HP.out hP4) (hO4 hr)⟩
                  · go_meet
                    case rel => exact ⟨d3, HS3.out.trans hS4, permIn_trans _ _ _ _ _ HP.out hP4⟩
              case rest =>
                obtain ⟨d3, hS4, hP4⟩ := hcut
                clear HP HS3
                have HP := Lib.hid hP4
                have hd3 : b' ≤ d3.size := by rw [hS4.size]; exact hb'
                obtain ⟨G, hG, hcw, hfw⟩ := hS4.opens
                have HG := Lib.hid hG
                have HS := Lib.hid hS4
                have HB3 := Lib.hid (HBk.out.perm hdz HP.out)
                clear hP4 hd2 hG hS4
                go_upto_region 17 with fail
                go_cut [87] from 19 to 133 (fun s87 wx => s87 = .bool (decide (0 < a') && !ltInt (G (a' - 1)) (G p')) ∧ S blk off n w d3 wx)
                case first =>
                  rcases Nat.eq_zero_or_pos a' with ha0 | ha0
                  · have ha0z : decide (0 < a') = false := by simp; omega
                    go_big_quiet (first | (go_at_call 26; refine Calls.quiet_of_same (less _ _ _)))
                    go_wp2_with fail
                    go_meet
                    case rel => exact ⟨by simp [ha0], HS.out.drewN nq⟩
                  · go_big_quiet (first | (go_at_call 26; refine Calls.quiet_of_same (less _ _ _)))
                    go_wp2_with fail
                    go_meet
                    case rel => exact ⟨by simp [ha0], HS.out.drewN nq⟩
                case rest =>
                  obtain ⟨rfl, hSx⟩ := hcut
                  clear hcw hfw HS
                  have HS := Lib.hid hSx
                  clear hSx
                  obtain ⟨B, hB⟩ : ∃ B : Bool, (decide (0 < a') && !ltInt (G (a' - 1)) (G p')) = B := ⟨_, rfl⟩
                  rw [hB]
                  cases B
                  · clear hB
                    have hc := Lib.hid (prt blk off n cap a' b' p' d3 wc HS.out.self hp1 hp2 hb' hn)
                    go_upto_if 113 with (go_at_call 28; refine hc.out.mono ?_; rintro e w5 ⟨m, ap, rfl, hm1, hm2, d4, hS5, hD⟩)
                    have HD := Lib.hid hD
                    have HS5 := Lib.hid (HS.out.trans hS5)
                    have hd4 : b' ≤ d4.size := by rw [hS5.size]; exact hb'
                    clear hD hS5 hc HG hp1 hp2
                    by_cases h4 : m - a' < b' - m
                    · have h4z : (m : Int) - (a' : Int) < (b' : Int) - (m : Int) := by omega
                      have hih := Lib.hid (HIH.out (m - a') (by omega) blk off n cap a' m lim1 d4 w5 (Nat.le_refl _) HS5.out.self hm1 (by omega) hn hlim1 (HD.out.belowL HB3.out hm2 hd3))
                      go_wp2_with (go_at_call 18; refine hih.out.mono ?_; rintro e w6 ⟨rfl, L, hS6, hP6, hO6⟩)
                      go_roundw
                      case rel =>
                        have hL := HD.out.left hm1 hm2 hd4 hP6
                        have hLz : b' ≤ L.size := by rw [hP6.1]; exact hd4
                        refine ⟨m + 1, b', lim1, _, ap, L, by go_num, rfl, rfl, rfl, rfl, by omega, hb', by omega, hlim1, HS5.out.trans hS6, hL.belowR, fun R h1 h2 => ?_⟩
                        have hR := (hL.right hm1 hm2 hLz h1).done (hO6.congr fun i _ hi => h1.2.1 i (.inl (by omega))) h2
                        exact HFk.out R (permIn_trans _ _ _ _ _ HP.out hR.1) hR.2
                      case measure => simp [intOf]; omega
                    · have h4z : decide ((m : Int) - (a' : Int) < (b' : Int) - (m : Int)) = false := decide_eq_false (by omega)
                      have hih0 := HIH.out (b' - (m + 1)) (by omega) blk off n cap (m + 1) b' lim1 d4 w5 (Nat.le_refl _) HS5.out.self (by omega) hb' hn hlim1 HD.out.belowR
                      rw [show ((m + 1 : Nat) : Int) = (m : Int) + 1 by omega] at hih0
                      have hih := Lib.hid hih0
                      clear hih0
                      go_wp2_with (go_at_call 18; refine hih.out.mono ?_; rintro e w6 ⟨rfl, L, hS6, hP6, hO6⟩)
                      go_roundw
                      case rel =>
                        have hL := HD.out.right hm1 hm2 hd4 hP6
                        have hLz : b' ≤ L.size := by rw [hP6.1]; exact hd4
                        refine ⟨a', m, lim1, _, ap, L, rfl, rfl, rfl, rfl, rfl, by omega, by omega, by omega, hlim1, HS5.out.trans hS6, hL.belowL HB3.out hm2 hd3, fun R h1 h2 => ?_⟩
                        have hR := (hL.left hm1 hm2 hLz h1).done h2 (hO6.congr fun i hi _ => h1.2.1 i (.inr (by omega)))
                        exact HFk.out R (permIn_trans _ _ _ _ _ HP.out hR.1) hR.2
                      case measure => simp [intOf]; omega
                  · simp only [Bool.and_eq_true, decide_eq_true_eq, Bool.not_eq_true'] at hB
                    obtain ⟨ha0, hlt⟩ := hB
                    rw [HG.out, HG.out] at hlt
                    have HL := Lib.hid hlt
                    clear hlt HG
                    have hc := Lib.hid (peq blk off n cap a' b' p' d3 wc HS.out.self hp1 hp2 hb' hn)
                    go_wp2_with (go_at_call 27; refine hc.out.mono ?_; rintro e w5 ⟨m, rfl, hm1, hm2, d4, hS5, hQ5⟩)
                    go_roundw
                    case rel =>
                      obtain ⟨q1, q2⟩ := hQ5.rest hm1 hm2 hd3 ha0 HB3.out HL.out
                      exact ⟨m, b', lim1, wb, wp, d4, rfl, rfl, rfl, rfl, rfl, hm2, hb', by omega, hlim1, HS.out.trans hS5, q1, fun R h1 h2 => HFk.out R (permIn_trans _ _ _ _ _ HP.out (q2 R h1 h2).1) (q2 R h1 h2).2⟩
                    case measure => simp [intOf]; omega

/-- slices.Sort: the row is sorted. -/
theorem sort (blk off n cap : Nat) (d : Array Int) (w : World) (hS : S blk off n w d w) (hn : n ≤ 1000) :
    Calls Try.prog 16 #[.slice (some ⟨blk, off, none⟩) n cap] w fun e w' =>
      e = .returned (.tuple #[]) ∧ ∃ d', S blk off n w d' w' ∧ PermIn 0 n d d' ∧ SortedIn ltInt 0 n d' := by
  have hl := (bit_facts ⟨n, by omega⟩).2
  simp only [] at hl
  have HL := Lib.hid fun w => len n hn w
  have HP := Lib.hid (pdq n blk off n cap 0 n (Lib.bitLen n) d w (by omega) hS (Nat.zero_le _) (Nat.le_refl _) hn (by omega) (.inl rfl))
  clear hS
  generalize Lib.bitLen n = k at HL HP
  go_enter Try.func16, Try.ntmps16
  go_wp2_with (first
    | (go_at_call 19; refine (HL.out _).mono ?_; rintro e w' ⟨rfl, rfl⟩)
    | (go_at_call 18; refine HP.out.mono ?_; rintro e w1 ⟨rfl, d1, h1, h2, h3⟩))
  go_end0
  exact ⟨rfl, d1, h1, h2, h3⟩
end Go.Proofs.Ytndgodpbikgnaaa.srt
