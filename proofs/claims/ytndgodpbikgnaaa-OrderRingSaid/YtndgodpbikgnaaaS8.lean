/-
  slices.partitionEqualOrdered at stamps: its contract. No condition but the bounds that it names.
-/
import Derived.Test.YtndgodpbikgnaaaS7
namespace Go.Proofs.Ytndgodpbikgnaaa.srt
open Go Go.RowKit Go.Sort
set_option linter.unusedVariables false

/-- The two scans of a partition: behind a, what f holds of stands ahead of i, what it does not hold of behind j. -/
structure Qt (f : Int → Bool) (p : Int) (a b i j : Nat) (d dk : Array Int) : Prop where
  perm : PermIn a b d dk
  piv : dk[a]! = p
  lo : ∀ k, a < k → k < i → f dk[k]! = true
  hi : ∀ k, j < k → k < b → f dk[k]! = false
section
variable {f : Int → Bool} {p : Int} {a b i j : Nat} {d dk : Array Int}
theorem Qt.up (h : Qt f p a b i j d dk) (hl : f dk[i]! = true) : Qt f p a b (i + 1) j d dk := ⟨h.perm, h.piv, fun k h1 h2 => by
  by_cases hk : k = i
  · subst hk; exact hl
  · exact h.lo k h1 (by omega), h.hi⟩
theorem Qt.down (h : Qt f p a b i j d dk) (hl : f dk[j]! = false) : Qt f p a b i (j - 1) d dk := ⟨h.perm, h.piv, h.lo, fun k h1 h2 => by
  by_cases hk : k = j
  · subst hk; exact hl
  · exact h.hi k (by omega) h2⟩
theorem Qt.swap (h : Qt f p a b i j d dk) (ha : a < i) (hij : i < j) (hjb : j < b) (hb : b ≤ dk.size) (h1 : f dk[i]! = false) (h2 : f dk[j]! = true) : Qt f p a b (i + 1) (j - 1) d (swp dk i j) := by
  refine ⟨perm_swap h.perm (by omega) (by omega) (by omega) (by omega) hb, by rw [swp_other _ _ _ _ (by omega) (by omega)]; exact h.piv, fun k hk1 hk2 => ?_, fun k hk1 hk2 => ?_⟩
  · by_cases hk : k = i
    · subst hk; rw [swp_left _ _ _ (by omega) (by omega)]; exact h2
    · rw [swp_other _ _ _ _ hk (by omega)]; exact h.lo k hk1 (by omega)
  · by_cases hk : k = j
    · subst hk; rw [swp_right _ _ _ (by omega)]; exact h1
    · rw [swp_other _ _ _ _ (by omega) hk]; exact h.hi k (by omega) hk2
theorem Qt.start {pivot : Nat} (h1 : a ≤ pivot) (h2 : pivot < b) (hb : b ≤ d.size) : Qt f d[pivot]! a b (a + 1) (b - 1) d (swp d a pivot) := by
  refine ⟨perm_swap (permIn_refl _ _ _) (by omega) (by omega) h1 h2 hb, ?_, fun k hk1 hk2 => by omega, fun k hk1 hk2 => by omega⟩
  by_cases h : a = pivot
  · subst h; exact swp_right _ _ _ (by omega)
  · exact swp_left _ _ _ (by omega) h
end

set_option maxHeartbeats 3200000 in
set_option maxRecDepth 100000 in
theorem peq (blk off n cap a b pivot : Nat) (d : Array Int) (w : World) (hS : S blk off n w d w) (h1 : a ≤ pivot) (h2 : pivot < b) (hb : b ≤ n) (hn : n ≤ 1000) :
    Calls Try.prog 27 #[.slice (some ⟨blk, off, none⟩) n cap, .int .i64 a, .int .i64 b, .int .i64 pivot] w fun e w' =>
      ∃ m : Nat, e = .returned (.int .i64 m) ∧ a < m ∧ m ≤ b ∧ ∃ d', S blk off n w d' w' ∧ Qt (fun x => !ltInt d[pivot]! x) d[pivot]! a b m (m - 1) d d' := by
  have HQ0 := Lib.hid (Qt.start (f := fun x => !ltInt d[pivot]! x) h1 h2 (by rw [hS.size]; exact hb))
  obtain ⟨G, hG, hcw, hfw⟩ := hS.opens
  have HG := Lib.hid hG
  have HE := Lib.hid (hS.swap (i := a) (j := pivot) (by omega) (by omega) (by rw [← hG]) (by rw [← hG])).drew
  generalize d[pivot]! = p at HQ0 ⊢
  clear hG
  have hS0 := Lib.hid hS
  clear hS
  go_enter Try.func27, Try.ntmps27
  go_upto_region 1 with fail
  go_cut [] from 11 to 24 (fun wx => S blk off n w (swp d a pivot) wx)
  case first =>
    by_cases hEq : a = pivot
    · subst hEq
      go_region
      all_goals go_wp2_with fail
      go_meet
      case rel => exact HE.out
    · go_region
      all_goals go_wp2_with fail
      go_meet
      case rel => exact HE.out
  case rest =>
    have HS := Lib.hid hcut
    clear hcut hcw hfw HG HE hS0
    go_wp2
    go_loopw [9, 10] (fun vi vj wr => ∃ (i j : Nat) (dk : Array Int), vi = .int .i64 i ∧ vj = .int .i64 j ∧ a < i ∧ i ≤ j + 1 ∧ j < b ∧ S blk off n w dk wr ∧ Qt (fun x => !ltInt p x) p a b i j d dk) (fun vi vj _ => (intOf vj + 1 - intOf vi).toNat)
    case atStart => exact ⟨a + 1, b - 1, _, by go_num, by go_num, by omega, by omega, by omega, HS.out, HQ0.out⟩
    case round =>
      obtain ⟨i, j, dk, rfl, rfl, hai, hij, hjb, hSk, hQ⟩ := hrel
      clear HS HQ0
      have HSk := Lib.hid hSk
      have HQ := Lib.hid hQ
      have hdz : b ≤ dk.size := by rw [hSk.size]; exact hb
      clear hSk hQ
      go_wp2
      go_loopw [9] (fun vi w1 => ∃ (i' : Nat), vi = .int .i64 i' ∧ i ≤ i' ∧ i' ≤ j + 1 ∧ S blk off n w dk w1 ∧ Qt (fun x => !ltInt p x) p a b i' j d dk) (fun vi _ => (j + 1 - intOf vi).toNat)
      case atStart => exact ⟨i, rfl, Nat.le_refl _, hij, HSk.out, HQ.out⟩
      case round =>
        obtain ⟨i', rfl, hii, hij', hSk, hQ⟩ := hrel
        clear HSk HQ
        obtain ⟨G, hG, hcw, hfw⟩ := hSk.opens
        have hGa : G a = p := by rw [hG]; exact hQ.piv
        have HG := Lib.hid hG
        have HQ := Lib.hid hQ
        have HS := Lib.hid hSk
        clear hG hQ hSk
        go_upto_region 3 with fail
        go_cut [43] from 29 to 45 (fun sB wx => sB = .bool (decide (i' ≤ j) && !ltInt p (G i')) ∧ S blk off n w dk wx)
        case first =>
          by_cases hle : i' ≤ j
          · go_big_quiet (first | (go_at_call 26; refine Calls.quiet_of_same (less _ _ _)))
            go_wp2_with fail
            go_meet
            case rel => exact ⟨by simp [hle], HS.out.drewN nq⟩
          · have hle' : decide (i' ≤ j) = false := by simp; omega
            go_big_quiet (first | (go_at_call 26; refine Calls.quiet_of_same (less _ _ _)))
            go_wp2_with fail
            go_meet
            case rel => exact ⟨by simp [hle'], HS.out.drewN nq⟩
        case rest =>
          obtain ⟨rfl, hSx⟩ := hcut
          have HS := Lib.hid hSx
          clear hSx hcw hfw
          obtain ⟨B, hB⟩ : ∃ B : Bool, (decide (i' ≤ j) && !ltInt p (G i')) = B := ⟨_, rfl⟩
          rw [hB]
          go_upto_if 43 with fail
          cases B
          case true =>
            simp only [Bool.and_eq_true, decide_eq_true_eq] at hB
            have HB := Lib.hid hB
            clear hB
            go_wp2
            go_roundw
            case rel =>
              have hb2 := HB.out.2
              rw [HG.out] at hb2
              exact ⟨i' + 1, by go_num, by omega, by have := HB.out.1; omega, HS.out, HQ.out.up hb2⟩
            case measure => have := HB.out.1; simp [intOf]; omega
          case false =>
            have hst : i' ≤ j → (!ltInt p dk[i']!) = false := fun h => by simpa [h, HG.out] using hB
            have HST := Lib.hid hst
            clear hB hst HG hGa
            go_wp2
            go_loopw [10] (fun vj w1 => ∃ (j' : Nat), vj = .int .i64 j' ∧ j' ≤ j ∧ i' ≤ j' + 1 ∧ S blk off n w dk w1 ∧ Qt (fun x => !ltInt p x) p a b i' j' d dk) (fun vj _ => (intOf vj).toNat)
            case atStart => exact ⟨j, rfl, Nat.le_refl _, hij', HS.out, HQ.out⟩
            case round =>
              obtain ⟨j', rfl, hjj, hij2, hSk, hQ⟩ := hrel
              clear HS HQ G
              obtain ⟨G, hG, hcw, hfw⟩ := hSk.opens
              have hGa : G a = p := by rw [hG]; exact hQ.piv
              have HG := Lib.hid hG
              have HQ := Lib.hid hQ
              have HS := Lib.hid hSk
              clear hG hQ hSk
              go_upto_region 5 with fail
              go_cut [59] from 46 to 61 (fun sB wx => sB = .bool (decide (i' ≤ j') && ltInt p (G j')) ∧ S blk off n w dk wx)
              case first =>
                by_cases hle : i' ≤ j'
                · go_big_quiet (first | (go_at_call 26; refine Calls.quiet_of_same (less _ _ _)))
                  go_wp2_with fail
                  go_meet
                  case rel => exact ⟨by simp [hle], HS.out.drewN nq⟩
                · have hle' : decide (i' ≤ j') = false := by simp; omega
                  go_big_quiet (first | (go_at_call 26; refine Calls.quiet_of_same (less _ _ _)))
                  go_wp2_with fail
                  go_meet
                  case rel => exact ⟨by simp [hle'], HS.out.drewN nq⟩
              case rest =>
                obtain ⟨rfl, hSx⟩ := hcut
                have HS := Lib.hid hSx
                clear hSx hcw hfw
                obtain ⟨B, hB⟩ : ∃ B : Bool, (decide (i' ≤ j') && ltInt p (G j')) = B := ⟨_, rfl⟩
                rw [hB]
                go_upto_if 59 with fail
                cases B
                case true =>
                  simp only [Bool.and_eq_true, decide_eq_true_eq] at hB
                  have HB := Lib.hid hB
                  have hj0 : 0 < j' := by have := hB.1; omega
                  clear hB
                  go_wp2
                  go_roundw
                  case rel =>
                    have hb2 := HB.out.2
                    rw [HG.out] at hb2
                    exact ⟨j' - 1, by go_num, by omega, by have := HB.out.1; omega, HS.out, HQ.out.down (by simp [hb2])⟩
                  case measure => simp [intOf]; omega
                case false =>
                  have hst : i' ≤ j' → (!ltInt p dk[j']!) = true := fun h => by simpa [h, HG.out] using hB
                  obtain ⟨G, hG, hcw, hfw⟩ := HS.out.opens
                  rename_i G0
                  clear hB hGa HG
                  have HG := Lib.hid hG
                  clear hG
                  by_cases hle : j' < i'
                  · obtain rfl : i' = j' + 1 := by omega
                    clear hcw hfw hst
                    go_wp2
                    go_ret
                    exact ⟨j' + 1, rfl, by omega, by omega, dk, HS.out, HQ.out⟩
                  · have hne : i' < j' := by
                      rcases Nat.lt_or_ge i' j' with h | h
                      · exact h
                      · obtain rfl : i' = j' := by omega
                        have h1 := hst (Nat.le_refl _)
                        rw [HST.out (by omega)] at h1
                        cases h1
                    have HST2 := Lib.hid (hst (by omega))
                    clear hst
                    have hle' : decide (j' < i') = false := by simp; omega
                    go_wp2_with fail
                    go_region
                    all_goals go_wp2
                    go_roundw
                    case rel => exact ⟨i' + 1, j' - 1, swp dk i' j', by go_num, by go_num, by omega, by omega, by omega, (HS.out.swap (by omega) (by omega) (by rw [← HG.out]) (by rw [← HG.out])).drew, HQ.out.swap (by omega) hne (by omega) hdz (HST.out (by omega)) HST2.out⟩
                    case measure => simp [intOf]; omega
end Go.Proofs.Ytndgodpbikgnaaa.srt
