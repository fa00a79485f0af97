/-
  slices.partitionOrdered at stamps: its contract. No condition but the bounds that it names.
-/
import Derived.Test.YtndgodpbikgnaaaS8
namespace Go.Proofs.Ytndgodpbikgnaaa.srt
open Go Go.RowKit Go.Sort
set_option linter.unusedVariables false

/-- What a partition has done: what is less than what stands at m is ahead of m, nothing less is behind it. -/
structure Pd (a b m : Nat) (d d' : Array Int) : Prop where
  perm : PermIn a b d d'
  lo : ∀ k, a ≤ k → k < m → ltInt d'[k]! d'[m]! = true
  hi : ∀ k, m < k → k < b → ltInt d'[k]! d'[m]! = false
theorem qt_end {p : Int} {a b j : Nat} {d dk : Array Int} (h : Qt (fun x => ltInt x p) p a b (j + 1) j d dk) (ha : a ≤ j) (hj : j < b) (hb : b ≤ dk.size) : Pd a b j d (swp dk j a) := by
  have hpj : (swp dk j a)[j]! = p := by
    by_cases h' : j = a
    · subst h'; rw [swp_right _ _ _ (by omega)]; exact h.piv
    · rw [swp_left _ _ _ (by omega) h']; exact h.piv
  refine ⟨perm_swap h.perm (by omega) (by omega) (by omega) (by omega) hb, fun k h1 h2 => ?_, fun k h1 h2 => ?_⟩
  · rw [hpj]
    by_cases hk : k = a
    · subst hk; rw [swp_right _ _ _ (by omega)]; exact h.lo j (by omega) (by omega)
    · rw [swp_other _ _ _ _ (by omega) hk]; exact h.lo k (by omega) (by omega)
  · rw [hpj, swp_other _ _ _ _ (by omega) (by omega)]; exact h.hi k h1 h2

set_option maxHeartbeats 6400000 in
set_option maxRecDepth 100000 in
theorem prt (blk off n cap a b pivot : Nat) (d : Array Int) (w : World) (hS : S blk off n w d w) (h1 : a ≤ pivot) (h2 : pivot < b) (hb : b ≤ n) (hn : n ≤ 1000) :
    Calls Try.prog 28 #[.slice (some ⟨blk, off, none⟩) n cap, .int .i64 a, .int .i64 b, .int .i64 pivot] w fun e w' =>
      ∃ (m : Nat) (r : Bool), e = .returned (.tuple #[.int .i64 m, .bool r]) ∧ a ≤ m ∧ m < b ∧ ∃ d', S blk off n w d' w' ∧ Pd a b m d d' := by
  have HQ0 := Lib.hid (Qt.start (f := fun x => ltInt x d[pivot]!) h1 h2 (by rw [hS.size]; exact hb))
  obtain ⟨G, hG, hcw, hfw⟩ := hS.opens
  have HG := Lib.hid hG
  have HE := Lib.hid (hS.swap (i := a) (j := pivot) (by omega) (by omega) (by rw [← hG]) (by rw [← hG])).drew
  generalize d[pivot]! = p at HQ0
  clear hG
  have hdz : b ≤ (swp d a pivot).size := by rw [size_swp, hS.size]; exact hb
  clear hS
  go_enter Try.func28, Try.ntmps28
  go_upto_region 1 with fail
  go_cut [] from 12 to 25 (fun wx => S blk off n w (swp d a pivot) wx)
  case first =>
    by_cases hEq : a = pivot
    · subst hEq
      go_region
      all_goals go_wp2_with fail
      go_meet
      case rel => exact HE.out
    · go_region
      all_goals go_wp2_with fail
      go_meet
      case rel => exact HE.out
  case rest =>
    have HSk := Lib.hid hcut
    have HQ := Lib.hid HQ0.out
    clear hcut hcw hfw HG HE HQ0
    obtain ⟨i, hi⟩ : ∃ i, i = a + 1 := ⟨_, rfl⟩
    obtain ⟨j, hj⟩ : ∃ j, j = b - 1 := ⟨_, rfl⟩
    rw [← hi, ← hj] at HQ
    have ei : (a : Int) + 1 = (i : Int) := by omega
    have ej : (b : Int) - 1 = (j : Int) := by omega
    have hai : a < i := by omega
    have hjb : j < b := by omega
    have hij : i ≤ j + 1 := by omega
    clear hi hj
    generalize swp d a pivot = dk at HSk HQ hdz
    go_wp2
    go_loopw [10] (fun vi w1 => ∃ (i' : Nat), vi = .int .i64 i' ∧ i ≤ i' ∧ i' ≤ j + 1 ∧ S blk off n w dk w1 ∧ Qt (fun x => ltInt x p) p a b i' j d dk) (fun vi _ => (j + 1 - intOf vi).toNat)
    case atStart => exact ⟨i, rfl, Nat.le_refl _, hij, HSk.out, HQ.out⟩
    case round =>
      obtain ⟨i', rfl, hii, hij', hSk, hQ⟩ := hrel
      clear HSk HQ
      obtain ⟨G, hG, hcw, hfw⟩ := hSk.opens
      have hGa : G a = p := by rw [hG]; exact hQ.piv
      have HG := Lib.hid hG
      have HQ := Lib.hid hQ
      have HS := Lib.hid hSk
      clear hG hQ hSk
      go_upto_region 3 with fail
      go_cut [43] from 30 to 45 (fun sB wx => sB = .bool (decide (i' ≤ j) && ltInt (G i') p) ∧ S blk off n w dk wx)
      case first =>
        by_cases hle : i' ≤ j
        · go_big_quiet (first | (go_at_call 26; refine Calls.quiet_of_same (less _ _ _)))
          go_wp2_with fail
          go_meet
          case rel => exact ⟨by simp [hle], HS.out.drewN nq⟩
        · have hle' : decide (i' ≤ j) = false := by simp; omega
          go_big_quiet (first | (go_at_call 26; refine Calls.quiet_of_same (less _ _ _)))
          go_wp2_with fail
          go_meet
          case rel => exact ⟨by simp [hle'], HS.out.drewN nq⟩
      case rest =>
        obtain ⟨rfl, hSx⟩ := hcut
        have HS := Lib.hid hSx
        clear hSx hcw hfw
        obtain ⟨B, hB⟩ : ∃ B : Bool, (decide (i' ≤ j) && ltInt (G i') p) = B := ⟨_, rfl⟩
        rw [hB]
        go_upto_if 43 with fail
        cases B
        case true =>
          simp only [Bool.and_eq_true, decide_eq_true_eq] at hB
          have HB := Lib.hid hB
          clear hB
          go_wp2
          go_roundw
          case rel =>
            have hb2 := HB.out.2
            rw [HG.out] at hb2
            exact ⟨i' + 1, by go_num, by omega, by have := HB.out.1; omega, HS.out, HQ.out.up hb2⟩
          case measure => have := HB.out.1; simp [intOf]; omega
        case false =>
          have hst : i' ≤ j → ltInt dk[i']! p = false := fun h => by simpa [h, HG.out] using hB
          have HST := Lib.hid hst
          clear hB hst HG hGa
          go_wp2
          go_loopw [11] (fun vj w1 => ∃ (j' : Nat), vj = .int .i64 j' ∧ j' ≤ j ∧ i' ≤ j' + 1 ∧ S blk off n w dk w1 ∧ Qt (fun x => ltInt x p) p a b i' j' d dk) (fun vj _ => (intOf vj).toNat)
          case atStart => exact ⟨j, rfl, Nat.le_refl _, hij', HS.out, HQ.out⟩
          case round =>
            obtain ⟨j', rfl, hjj, hij2, hSk, hQ⟩ := hrel
            clear HS HQ G
            obtain ⟨G, hG, hcw, hfw⟩ := hSk.opens
            have hGa : G a = p := by rw [hG]; exact hQ.piv
            have HG := Lib.hid hG
            have HQ := Lib.hid hQ
            have HS := Lib.hid hSk
            clear hG hQ hSk
            go_upto_region 5 with fail
            go_cut [60] from 46 to 62 (fun sB wx => sB = .bool (decide (i' ≤ j') && !ltInt (G j') p) ∧ S blk off n w dk wx)
            case first =>
              by_cases hle : i' ≤ j'
              · go_big_quiet (first | (go_at_call 26; refine Calls.quiet_of_same (less _ _ _)))
                go_wp2_with fail
                go_meet
                case rel => exact ⟨by simp [hle], HS.out.drewN nq⟩
              · have hle' : decide (i' ≤ j') = false := by simp; omega
                go_big_quiet (first | (go_at_call 26; refine Calls.quiet_of_same (less _ _ _)))
                go_wp2_with fail
                go_meet
                case rel => exact ⟨by simp [hle'], HS.out.drewN nq⟩
            case rest =>
              obtain ⟨rfl, hSx⟩ := hcut
              have HS := Lib.hid hSx
              clear hSx hcw hfw
              obtain ⟨B, hB⟩ : ∃ B : Bool, (decide (i' ≤ j') && !ltInt (G j') p) = B := ⟨_, rfl⟩
              rw [hB]
              go_upto_if 60 with fail
              cases B
              case true =>
                simp only [Bool.and_eq_true, decide_eq_true_eq] at hB
                have HB := Lib.hid hB
                have hj0 : 0 < j' := by have := hB.1; omega
                clear hB
                go_wp2
                go_roundw
                case rel =>
                  have hb2 := HB.out.2
                  rw [HG.out] at hb2
                  exact ⟨j' - 1, by go_num, by omega, by have := HB.out.1; omega, HS.out, HQ.out.down (by simpa using hb2)⟩
                case measure => simp [intOf]; omega
              case false =>
                have hst : i' ≤ j' → ltInt dk[j']! p = true := fun h => by simpa [h, HG.out] using hB
                clear hB hGa HG
                obtain ⟨G2, hG, hcw, hfw⟩ := HS.out.opens
                have HG := Lib.hid hG
                clear hG
                by_cases hle : j' < i'
                · obtain rfl : i' = j' + 1 := by omega
                  have HE := Lib.hid (HS.out.swap (i := j') (j := a) (by omega) (by omega) (by rw [← HG.out]) (by rw [← HG.out])).drew
                  have HF := Lib.hid (qt_end HQ.out (by omega) (by omega) hdz)
                  clear hst HST
                  go_upto_region 8 with fail
                  go_cut [] from 66 to 79 (fun wx => S blk off n w (swp dk j' a) wx)
                  case first =>
                    by_cases hEq : j' = a
                    · subst hEq
                      go_region
                      all_goals go_wp2_with fail
                      go_meet
                      case rel => exact HE.out
                    · go_region
                      all_goals go_wp2_with fail
                      go_meet
                      case rel => exact HE.out
                  case rest =>
                    have HS2 := Lib.hid hcut
                    clear hcut hcw hfw
                    go_wp2
                    go_ret2
                    exact ⟨j', true, rfl, by omega, by omega, _, HS2.out, HF.out⟩
                · have hne : i' < j' := by
                    rcases Nat.lt_or_ge i' j' with h | h
                    · exact h
                    · obtain rfl : i' = j' := by omega
                      have h1 := hst (Nat.le_refl _)
                      rw [HST.out (by omega)] at h1
                      cases h1
                  have HST2 := Lib.hid (hst (by omega))
                  clear hst
                  have hle' : decide (j' < i') = false := by simp; omega
                  go_wp2_with fail
                  go_region
                  all_goals go_wp2
                  go_loopw [10, 11] (fun vi vj wr => ∃ (i j : Nat) (dk : Array Int), vi = .int .i64 i ∧ vj = .int .i64 j ∧ a < i ∧ i ≤ j + 1 ∧ j < b ∧ S blk off n w dk wr ∧ Qt (fun x => ltInt x p) p a b i j d dk) (fun vi vj _ => (intOf vj + 1 - intOf vi).toNat)
                  case atStart => exact ⟨i' + 1, j' - 1, swp dk i' j', by go_num, by go_num, by omega, by omega, by omega, (HS.out.swap (by omega) (by omega) (by rw [← HG.out]) (by rw [← HG.out])).drew, HQ.out.swap (by omega) hne (by omega) hdz (HST.out (by omega)) HST2.out⟩
                  case round =>
                    clear HS HQ HST HST2 HG hcw hfw hdz hij hii hjj hij2 hne hij' hle hle' hai hjb
                    obtain ⟨i, j, dk, rfl, rfl, hai, hij, hjb, hSk, hQ⟩ := hrel
                    have HSk := Lib.hid hSk
                    have HQ := Lib.hid hQ
                    have hdz : b ≤ dk.size := by rw [hSk.size]; exact hb
                    clear hSk hQ
                    go_wp2
                    go_loopw [10] (fun vi w1 => ∃ (i' : Nat), vi = .int .i64 i' ∧ i ≤ i' ∧ i' ≤ j + 1 ∧ S blk off n w dk w1 ∧ Qt (fun x => ltInt x p) p a b i' j d dk) (fun vi _ => (j + 1 - intOf vi).toNat)
                    case atStart => exact ⟨i, rfl, Nat.le_refl _, hij, HSk.out, HQ.out⟩
                    case round =>
                      obtain ⟨i', rfl, hii, hij', hSk, hQ⟩ := hrel
                      clear HSk HQ
                      obtain ⟨G, hG, hcw, hfw⟩ := hSk.opens
                      have hGa : G a = p := by rw [hG]; exact hQ.piv
                      have HG := Lib.hid hG
                      have HQ := Lib.hid hQ
                      have HS := Lib.hid hSk
                      clear hG hQ hSk
                      go_upto_region 13 with fail
                      go_cut [112] from 99 to 114 (fun sB wx => sB = .bool (decide (i' ≤ j) && ltInt (G i') p) ∧ S blk off n w dk wx)
                      case first =>
                        by_cases hle : i' ≤ j
                        · go_big_quiet (first | (go_at_call 26; refine Calls.quiet_of_same (less _ _ _)))
                          go_wp2_with fail
                          go_meet
                          case rel => exact ⟨by simp [hle], HS.out.drewN nq⟩
                        · have hle' : decide (i' ≤ j) = false := by simp; omega
                          go_big_quiet (first | (go_at_call 26; refine Calls.quiet_of_same (less _ _ _)))
                          go_wp2_with fail
                          go_meet
                          case rel => exact ⟨by simp [hle'], HS.out.drewN nq⟩
                      case rest =>
                        obtain ⟨rfl, hSx⟩ := hcut
                        have HS := Lib.hid hSx
                        clear hSx hcw hfw
                        obtain ⟨B, hB⟩ : ∃ B : Bool, (decide (i' ≤ j) && ltInt (G i') p) = B := ⟨_, rfl⟩
                        rw [hB]
                        go_upto_if 112 with fail
                        cases B
                        case true =>
                          simp only [Bool.and_eq_true, decide_eq_true_eq] at hB
                          have HB := Lib.hid hB
                          clear hB
                          go_wp2
                          go_roundw
                          case rel =>
                            have hb2 := HB.out.2
                            rw [HG.out] at hb2
                            exact ⟨i' + 1, by go_num, by omega, by have := HB.out.1; omega, HS.out, HQ.out.up hb2⟩
                          case measure => have := HB.out.1; simp [intOf]; omega
                        case false =>
                          have hst : i' ≤ j → ltInt dk[i']! p = false := fun h => by simpa [h, HG.out] using hB
                          have HST := Lib.hid hst
                          clear hB hst HG hGa
                          go_wp2
                          go_loopw [11] (fun vj w1 => ∃ (j' : Nat), vj = .int .i64 j' ∧ j' ≤ j ∧ i' ≤ j' + 1 ∧ S blk off n w dk w1 ∧ Qt (fun x => ltInt x p) p a b i' j' d dk) (fun vj _ => (intOf vj).toNat)
                          case atStart => exact ⟨j, rfl, Nat.le_refl _, hij', HS.out, HQ.out⟩
                          case round =>
                            obtain ⟨j', rfl, hjj, hij2, hSk, hQ⟩ := hrel
                            clear HS HQ G
                            obtain ⟨G, hG, hcw, hfw⟩ := hSk.opens
                            have hGa : G a = p := by rw [hG]; exact hQ.piv
                            have HG := Lib.hid hG
                            have HQ := Lib.hid hQ
                            have HS := Lib.hid hSk
                            clear hG hQ hSk
                            go_upto_region 15 with fail
                            go_cut [129] from 115 to 131 (fun sB wx => sB = .bool (decide (i' ≤ j') && !ltInt (G j') p) ∧ S blk off n w dk wx)
                            case first =>
                              by_cases hle : i' ≤ j'
                              · go_big_quiet (first | (go_at_call 26; refine Calls.quiet_of_same (less _ _ _)))
                                go_wp2_with fail
                                go_meet
                                case rel => exact ⟨by simp [hle], HS.out.drewN nq⟩
                              · have hle' : decide (i' ≤ j') = false := by simp; omega
                                go_big_quiet (first | (go_at_call 26; refine Calls.quiet_of_same (less _ _ _)))
                                go_wp2_with fail
                                go_meet
                                case rel => exact ⟨by simp [hle'], HS.out.drewN nq⟩
                            case rest =>
                              obtain ⟨rfl, hSx⟩ := hcut
                              have HS := Lib.hid hSx
                              clear hSx hcw hfw
                              obtain ⟨B, hB⟩ : ∃ B : Bool, (decide (i' ≤ j') && !ltInt (G j') p) = B := ⟨_, rfl⟩
                              rw [hB]
                              go_upto_if 129 with fail
                              cases B
                              case true =>
                                simp only [Bool.and_eq_true, decide_eq_true_eq] at hB
                                have HB := Lib.hid hB
                                have hj0 : 0 < j' := by have := hB.1; omega
                                clear hB
                                go_wp2
                                go_roundw
                                case rel =>
                                  have hb2 := HB.out.2
                                  rw [HG.out] at hb2
                                  exact ⟨j' - 1, by go_num, by omega, by have := HB.out.1; omega, HS.out, HQ.out.down (by simpa using hb2)⟩
                                case measure => simp [intOf]; omega
                              case false =>
                                have hst : i' ≤ j' → ltInt dk[j']! p = true := fun h => by simpa [h, HG.out] using hB
                                clear hB hGa HG
                                obtain ⟨G2, hG, hcw, hfw⟩ := HS.out.opens
                                have HG := Lib.hid hG
                                clear hG
                                by_cases hle : j' < i'
                                · obtain rfl : i' = j' + 1 := by omega
                                  have HE := Lib.hid (HS.out.swap (i := j') (j := a) (by omega) (by omega) (by rw [← HG.out]) (by rw [← HG.out])).drew
                                  have HF := Lib.hid (qt_end HQ.out (by omega) (by omega) hdz)
                                  clear hst HST
                                  go_upto_region 21 with fail
                                  go_cut [] from 153 to 166 (fun wx => S blk off n w (swp dk j' a) wx)
                                  case first =>
                                    by_cases hEq : j' = a
                                    · subst hEq
                                      go_region
                                      all_goals go_wp2_with fail
                                      go_meet
                                      case rel => exact HE.out
                                    · go_region
                                      all_goals go_wp2_with fail
                                      go_meet
                                      case rel => exact HE.out
                                  case rest =>
                                    have HS2 := Lib.hid hcut
                                    clear hcut hcw hfw
                                    go_wp2
                                    go_ret2
                                    exact ⟨j', false, rfl, by omega, by omega, _, HS2.out, HF.out⟩
                                · have hne : i' < j' := by
                                    rcases Nat.lt_or_ge i' j' with h | h
                                    · exact h
                                    · obtain rfl : i' = j' := by omega
                                      have h1 := hst (Nat.le_refl _)
                                      rw [HST.out (by omega)] at h1
                                      cases h1
                                  have HST2 := Lib.hid (hst (by omega))
                                  clear hst
                                  have hle' : decide (j' < i') = false := by simp; omega
                                  go_wp2_with fail
                                  go_region
                                  all_goals go_wp2
                                  go_roundw
                                  case rel => exact ⟨i' + 1, j' - 1, swp dk i' j', by go_num, by go_num, by omega, by omega, by omega, (HS.out.swap (by omega) (by omega) (by rw [← HG.out]) (by rw [← HG.out])).drew, HQ.out.swap (by omega) hne (by omega) hdz (HST.out (by omega)) HST2.out⟩
                                  case measure => simp [intOf]; omega
end Go.Proofs.Ytndgodpbikgnaaa.srt
