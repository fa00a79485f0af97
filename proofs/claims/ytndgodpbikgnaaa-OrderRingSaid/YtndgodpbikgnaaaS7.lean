/-
  slices.partialInsertionSortOrdered at stamps: its contract. No condition but the bounds that it names.
-/
import Derived.Test.YtndgodpbikgnaaaS6
namespace Go.Proofs.Ytndgodpbikgnaaa.srt
open Go Go.RowKit Go.Sort
set_option linter.unusedVariables false

theorem below_lt {a b j : Nat} {dk : Array Int} (h : Below ltInt a b dk) (h1 : 1 ≤ j) (ha : a ≤ j) (hb : j < b) (hl : ltInt dk[j]! dk[j - 1]! = true) : a < j := by
  rcases Nat.lt_or_ge a j with h' | h'
  · exact h'
  · obtain rfl : j = a := by omega
    rcases h with h | h
    · omega
    · rw [h j (Nat.le_refl _) hb] at hl; cases hl
theorem down_start {a b k : Nat} {d dk : Array Int} (h : Ins0 a b d k dk) (hk : a + 1 < k) (hkb : k < b) (hb : b ≤ dk.size) : Ins1 a b d (k - 1) (k - 1) (swp dk k (k - 1)) := by
  refine ins01 ⟨perm_swap h.1 (by omega) (by omega) (by omega) (by omega) hb, fun p q h1 h2 h3 => ?_⟩
  rw [swp_other _ _ _ _ (by omega) (by omega), swp_other _ _ _ _ (by omega) (by omega)]
  exact h.2 p q h1 h2 (by omega)
theorem up_step {a b k j : Nat} {d dk : Array Int} (h : Ins0 a b d k dk) (hk : a < k) (hj : k + 1 ≤ j) (hjb : j < b) (hb : b ≤ dk.size) : Ins0 a b d k (swp dk j (j - 1)) := by
  refine ⟨perm_swap h.1 (by omega) (by omega) (by omega) (by omega) hb, fun p q h1 h2 h3 => ?_⟩
  rw [swp_other _ _ _ _ (by omega) (by omega), swp_other _ _ _ _ (by omega) (by omega)]
  exact h.2 p q h1 h2 h3
theorem one_sorted {a b : Nat} {d dk : Array Int} (h : PermIn a b d dk) : Ins0 a b d (a + 1) dk := ⟨h, fun p q h1 h2 h3 => by omega⟩

set_option maxHeartbeats 3200000 in
set_option maxRecDepth 100000 in
theorem part (blk off n cap a b : Nat) (d : Array Int) (w : World) (hS : S blk off n w d w) (hab : a < b) (hb : b ≤ n) (hn : n ≤ 1000) (hB : Below ltInt a b d) :
    Calls Try.prog 25 #[.slice (some ⟨blk, off, none⟩) n cap, .int .i64 a, .int .i64 b] w fun e w' =>
      ∃ r : Bool, e = .returned (.bool r) ∧ ∃ d', S blk off n w d' w' ∧ PermIn a b d d' ∧ (r = true → SortedIn ltInt a b d') := by
  have HS := Lib.hid hS
  have HBel : Hid (∀ dk, PermIn a b d dk → Below ltInt a b dk) := Lib.hid fun dk hp => Below.perm hB (by rw [hS.size]; exact hb) hp
  clear hS hB
  go_enter Try.func25, Try.ntmps25
  go_wp2
  go_loopw [7, 8] (fun vi vs wr => ∃ (i s : Nat) (dk : Array Int), vi = .int .i64 i ∧ vs = .int .i64 s ∧ s ≤ 5 ∧ a < i ∧ i ≤ b ∧ S blk off n w dk wr ∧ Ins0 a b d i dk) (fun _ vs _ => (5 - intOf vs).toNat)
  case atStart => exact ⟨a + 1, 0, d, by go_num, rfl, by omega, by omega, by omega, HS.out, one_sorted (permIn_refl _ _ _)⟩
  case round =>
    obtain ⟨i, s, dk, rfl, rfl, hs5, hai, hib, hSk, hI⟩ := hrel
    have HI := Lib.hid hI
    have HSk := Lib.hid hSk
    clear hI hSk HS
    by_cases hs : s < 5
    · have hsz : decide ((s : Int) < 5) = true := decide_eq_true (by omega)
      go_wp2
      go_loopw [7] (fun vi w1 => ∃ (k : Nat), vi = .int .i64 k ∧ a < k ∧ k ≤ b ∧ S blk off n w dk w1 ∧ Ins0 a b d k dk) (fun vi _ => (b - intOf vi).toNat)
      case atStart => exact ⟨i, rfl, hai, hib, HSk.out, HI.out⟩
      case round =>
        obtain ⟨k, rfl, hak, hkb, hSk, hI⟩ := hrel
        clear HI HSk
        obtain ⟨G, hG, hcw, hfw⟩ := hSk.opens
        have HG := Lib.hid hG
        have HI := Lib.hid hI
        have HS := Lib.hid hSk
        clear hG hI hSk
        by_cases hlt : k < b
        · go_wp2_with fail
          go_big_quiet (first | (go_at_call 26; refine Calls.quiet_of_same (less _ _ _)))
          go_upto_if 32 with fail
          have HS2 := Lib.hid (HS.out.drewN nq)
          have hcw2 : ∀ t, t < n → (wr.drewN nq).cell? ⟨blk, off + t, none⟩ = some (.int .u64 (G t)) := hcw
          have hfw2 : ∀ t, t < n → (wr.drewN nq).frozen? ⟨blk, off + t, none⟩ = false := hfw
          clear hcw hfw
          generalize wr.drewN nq = wr2 at HS2 hcw2 hfw2 ⊢
          obtain ⟨B, hBl⟩ : ∃ B : Bool, ltInt (G k) (G (k - 1)) = B := ⟨_, rfl⟩
          rw [hBl]
          cases B
          · clear hcw2 hfw2
            go_wp2
            go_roundw
            case rel =>
              rw [HG.out, HG.out] at hBl
              exact ⟨k + 1, by go_num, by omega, by omega, HS2.out, HI.out.1, HI.out.2.snoc swo_ltInt hBl⟩
            case measure => simp [intOf]; omega
          · clear hBl
            by_cases h50 : b - a < 50
            · have hz : (b : Int) - (a : Int) < 50 := by omega
              have hkb' : ((k : Int) == (b : Int)) = false := by simp; omega
              go_wp2
              go_ret
              exact ⟨false, rfl, dk, HS2.out, HI.out.1, fun h => by cases h⟩
            · have hz : decide ((b : Int) - (a : Int) < 50) = false := decide_eq_false (by omega)
              have hkb' : ((k : Int) == (b : Int)) = false := by simp; omega
              have hdz : b ≤ dk.size := by rw [HS.out.size]; exact hb
              go_wp2_with fail
              go_region
              go_upto_if 61 with fail
              have HS3 := Lib.hid (HS2.out.swap (i := k) (j := k - 1) (by omega) (by omega) (by rw [← HG.out]) (by rw [← HG.out])).drew
              have hP3 : PermIn a b d (swp dk k (k - 1)) := perm_swap HI.out.1 (by omega) (by omega) (by omega) (by omega) hdz
              go_cut [] from 13 to 132 (fun wx => ∃ dj, S blk off n w dj wx ∧ Ins0 a b d k dj)
              case first =>
                by_cases hka : a + 1 < k
                · have hkz : (2 : Int) ≤ (k : Int) - (a : Int) := by omega
                  have HD := Lib.hid (down_start HI.out hka hlt hdz)
                  go_wp2_with fail
                  go_loopw [9] (fun vj w3 => ∃ (j : Nat) (dj : Array Int), vj = .int .i64 j ∧ a ≤ j ∧ j < k ∧ S blk off n w dj w3 ∧ Ins1 a b d j (k - 1) dj) (fun vj _ => (intOf vj).toNat)
                  case atStart => exact ⟨k - 1, _, by go_num, by omega, by omega, HS3.out, HD.out⟩
                  case round =>
                    obtain ⟨j, dj, rfl, haj, hjk, hSj, hJ⟩ := hrel
                    clear HS3 hP3 HI HG HS2 HS hcw2 hfw2 HD
                    obtain ⟨G, hG, hcw, hfw⟩ := hSj.opens
                    have HG := Lib.hid hG
                    have HJ := Lib.hid hJ
                    have HS := Lib.hid hSj
                    have hjz : b ≤ dj.size := by rw [hSj.size]; exact hb
                    clear hG hJ hSj
                    by_cases hj1 : 1 ≤ j
                    · have hj1z : (1 : Int) ≤ (j : Int) := by omega
                      go_wp2_with fail
                      go_big_quiet (first | (go_at_call 26; refine Calls.quiet_of_same (less _ _ _)))
                      go_upto_if 78 with fail
                      have HS2 := Lib.hid (HS.out.drewN nq)
                      have hcw2 : ∀ t, t < n → (wr.drewN nq).cell? ⟨blk, off + t, none⟩ = some (.int .u64 (G t)) := hcw
                      have hfw2 : ∀ t, t < n → (wr.drewN nq).frozen? ⟨blk, off + t, none⟩ = false := hfw
                      clear hcw hfw
                      generalize wr.drewN nq = wr3 at HS2 hcw2 hfw2 ⊢
                      obtain ⟨B, hBl⟩ : ∃ B : Bool, ltInt (G j) (G (j - 1)) = B := ⟨_, rfl⟩
                      rw [hBl]
                      cases B
                      · go_wp2_with fail
                        go_meet
                        case rel =>
                          rw [HG.out, HG.out] at hBl
                          have := ins_stop HJ.out (.inr hBl)
                          rw [show k - 1 + 1 = k by omega] at this
                          exact ⟨dj, HS2.out, this⟩
                      · have HL := Lib.hid hBl
                        clear hBl
                        go_wp2_with fail
                        go_region
                        all_goals go_wp2
                        go_roundw
                        case rel =>
                          have hl := HL.out
                          rw [HG.out, HG.out] at hl
                          have haj' := below_lt (HBel.out dj HJ.out.1) hj1 haj (by omega) hl
                          exact ⟨j - 1, swp dj j (j - 1), by congr 1; omega, by omega, by omega, (HS2.out.swap (by omega) (by omega) (by rw [← HG.out]) (by rw [← HG.out])).drew, ins_step HJ.out haj' (by omega) (by omega) hjz hl⟩
                        case measure => simp [intOf]; omega
                    · have hj1z : decide ((1 : Int) ≤ (j : Int)) = false := decide_eq_false (by omega)
                      go_wp2_with fail
                      go_meet
                      case rel =>
                        have := ins_stop HJ.out (.inl (by omega))
                        rw [show k - 1 + 1 = k by omega] at this
                        exact ⟨dj, HS.out, this⟩
                · have hkz : decide ((2 : Int) ≤ (k : Int) - (a : Int)) = false := decide_eq_false (by omega)
                  go_wp2_with fail
                  go_meet
                  case rel =>
                    obtain rfl : k = a + 1 := by omega
                    exact ⟨_, HS3.out, one_sorted hP3⟩
              case rest =>
                obtain ⟨dj, hSj, hIj⟩ := hcut
                clear HS3 hP3 HI HG HS2 HS hcw2 hfw2
                have HI := Lib.hid hIj
                have HS := Lib.hid hSj
                clear hIj hSj
                go_upto_if 98 with fail
                by_cases hup : k + 1 < b
                · have hkz : (2 : Int) ≤ (b : Int) - (k : Int) := by omega
                  go_wp2_with fail
                  go_loopw [10] (fun vj w3 => ∃ (j : Nat) (dj : Array Int), vj = .int .i64 j ∧ k + 1 ≤ j ∧ j ≤ b ∧ S blk off n w dj w3 ∧ Ins0 a b d k dj) (fun vj _ => (b - intOf vj).toNat)
                  case atStart => exact ⟨k + 1, dj, by go_num, Nat.le_refl _, by omega, HS.out, HI.out⟩
                  case round =>
                    clear HS HI
                    obtain ⟨j, dj, rfl, hkj, hjb, hSj, hI⟩ := hrel
                    obtain ⟨G, hG, hcw, hfw⟩ := hSj.opens
                    have HG := Lib.hid hG
                    have HI := Lib.hid hI
                    have HS := Lib.hid hSj
                    have hjz : b ≤ dj.size := by rw [hSj.size]; exact hb
                    clear hG hI hSj
                    by_cases hj1 : j < b
                    · go_wp2_with fail
                      go_big_quiet (first | (go_at_call 26; refine Calls.quiet_of_same (less _ _ _)))
                      go_upto_if 116 with fail
                      have HS2 := Lib.hid (HS.out.drewN nq)
                      have hcw2 : ∀ t, t < n → (wr.drewN nq).cell? ⟨blk, off + t, none⟩ = some (.int .u64 (G t)) := hcw
                      have hfw2 : ∀ t, t < n → (wr.drewN nq).frozen? ⟨blk, off + t, none⟩ = false := hfw
                      clear hcw hfw
                      generalize wr.drewN nq = wr3 at HS2 hcw2 hfw2 ⊢
                      generalize ltInt (G j) (G (j - 1)) = B
                      cases B
                      · go_wp2_with fail
                        go_roundw
                        case rel => exact ⟨k, s + 1, dj, rfl, by go_num, by omega, hak, hkb, HS2.out, HI.out⟩
                        case measure => simp [intOf]; omega
                      · go_wp2_with fail
                        go_region
                        all_goals go_wp2
                        go_roundw
                        case rel => exact ⟨j + 1, swp dj j (j - 1), by go_num, by omega, by omega, (HS2.out.swap (by omega) (by omega) (by rw [← HG.out]) (by rw [← HG.out])).drew, up_step HI.out hak hkj hj1 hjz⟩
                        case measure => simp [intOf]; omega
                    · have hj1z : decide (j < b) = false := by simp; omega
                      go_wp2_with fail
                      go_roundw
                      case rel => exact ⟨k, s + 1, dj, rfl, by go_num, by omega, hak, hkb, HS.out, HI.out⟩
                      case measure => simp [intOf]; omega
                · have hkz : decide ((2 : Int) ≤ (b : Int) - (k : Int)) = false := decide_eq_false (by omega)
                  go_wp2_with fail
                  go_roundw
                  case rel => exact ⟨k, s + 1, dj, rfl, by go_num, by omega, hak, hkb, HS.out, HI.out⟩
                  case measure => simp [intOf]; omega
        · obtain rfl : k = b := by omega
          have hlt' : decide (k < k) = false := by simp
          go_wp2_with fail
          go_big_quiet (first | (go_at_call 26; refine Calls.quiet_of_same (less _ _ _)))
          go_wp2
          go_ret
          exact ⟨true, rfl, dk, HS.out.drewN nq, HI.out.1, fun _ => HI.out.2⟩
    · have hsz : decide ((s : Int) < 5) = false := decide_eq_false (by omega)
      go_wp2
      go_ret
      exact ⟨false, rfl, dk, HSk.out, HI.out.1, fun h => by cases h⟩
end Go.Proofs.Ytndgodpbikgnaaa.srt
