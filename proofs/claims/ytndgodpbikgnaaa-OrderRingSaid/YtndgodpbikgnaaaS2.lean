/-
  slices.reverseRangeOrdered, slices.siftDownOrdered and slices.heapSortOrdered at stamps: contracts. No condition but the bounds that each theorem names.
-/
import Derived.Test.YtndgodpbikgnaaaS1
namespace Go.Proofs.Ytndgodpbikgnaaa.srt
open Go Go.RowKit Go.Sort
set_option linter.unusedVariables false

set_option maxRecDepth 100000 in
theorem rev (blk off n cap a b : Nat) (d : Array Int) (w : World) (hS : S blk off n w d w) (hab : a ≤ b) (hb : b ≤ n) (hn : n ≤ 1000) :
    Calls Try.prog 24 #[.slice (some ⟨blk, off, none⟩) n cap, .int .i64 a, .int .i64 b] w fun e w' =>
      e = .returned (.tuple #[]) ∧ ∃ d', S blk off n w d' w' ∧ PermIn a b d d' := by
  have HS := Lib.hid hS
  clear hS
  go_enter Try.func24, Try.ntmps24
  go_wp2
  go_loopw [6, 7] (fun vi vj wr => ∃ (i : Nat) (jz : Int) (dk : Array Int), vi = .int .i64 i ∧ vj = .int .i64 jz ∧ a ≤ i ∧ jz < b ∧ -1 ≤ jz ∧ i ≤ b ∧ S blk off n w dk wr ∧ PermIn a b d dk) (fun vi vj _ => (intOf vj - intOf vi).toNat)
  case atStart => exact ⟨a, (b : Int) - 1, d, rfl, rfl, by omega, by omega, by omega, by omega, HS.out, permIn_refl _ _ _⟩
  case round =>
    obtain ⟨i, jz, dk, rfl, rfl, hai, hjb, hj0, hib, hSk, hP⟩ := hrel
    have HP := Lib.hid hP
    clear HS hP
    by_cases hlt : (i : Int) < jz
    · obtain ⟨j, rfl⟩ : ∃ j : Nat, jz = j := ⟨jz.toNat, by omega⟩
      obtain ⟨G, hG, hcw, hfw⟩ := hSk.opens
      have HG := Lib.hid hG
      have HS := Lib.hid hSk
      clear hG hSk
      have hij : i < j := by omega
      go_wp2_with fail
      go_region
      all_goals go_wp2
      go_roundw
      case rel =>
        refine ⟨i + 1, (j : Int) - 1, swp dk i j, by go_num, rfl, by omega, by omega, by omega, by omega, ?_, perm_swap HP.out hai (by omega) (by omega) (by omega) (by rw [HS.out.size]; exact hb)⟩
        exact (HS.out.swap (by omega) (by omega) (by rw [← HG.out]) (by rw [← HG.out])).drew
      case measure => simp [intOf]; omega
    · have hlt' : decide ((i : Int) < jz) = false := decide_eq_false hlt
      have HS := Lib.hid hSk
      clear hSk
      go_wp2
      go_end0
      exact ⟨rfl, dk, HS.out, HP.out⟩

/-- A heap from lo on but at root, within the first hi behind F. -/
structure Hp (F hi lo root : Nat) (d dk : Array Int) : Prop where
  ok : ∀ i, lo ≤ i → i < hi → i ≠ root → Ok ltInt F hi dk i
  over : Over ltInt F hi lo dk root
  perm : PermIn F (F + hi) d dk
theorem Hp.step {F hi lo root c : Nat} {d dk : Array Int} (h : Hp F hi lo root d dk) (hs : F + hi ≤ dk.size) (hc : c = 2 * root + 1 ∨ c = 2 * root + 2) (hch : c < hi) (hlt : ltInt dk[F + root]! dk[F + c]! = true)
    (hdom : ∀ c', (c' = 2 * root + 1 ∨ c' = 2 * root + 2) → c' < hi → ltInt dk[F + c]! dk[F + c']! = false) (hlo : lo ≤ root) : Hp F hi lo c d (swp dk (F + root) (F + c)) := by
  obtain ⟨h1, h2⟩ := Go.Sort.step swo_ltInt hs hc hch hlt hdom h.ok h.over hlo
  exact ⟨h1, h2, perm_swap h.perm (by omega) (by omega) (by omega) (by omega) hs⟩
theorem Hp.stop {F hi lo root c : Nat} {d dk : Array Int} (h : Hp F hi lo root d dk) (hlt : ltInt dk[F + root]! dk[F + c]! = false)
    (hdom : ∀ c', (c' = 2 * root + 1 ∨ c' = 2 * root + 2) → c' < hi → ltInt dk[F + c]! dk[F + c']! = false) : PermIn F (F + hi) d dk ∧ ∀ i, lo ≤ i → i < hi → Ok ltInt F hi dk i := by
  refine ⟨h.perm, fun i h1 h2 => ?_⟩
  by_cases hr : i = root
  · subst hr
    exact fun k hk hkh => swo_ltInt.ntrans _ _ _ hlt (hdom k hk hkh)
  · exact h.ok i h1 h2 hr
theorem Hp.none {F hi lo root : Nat} {d dk : Array Int} (h : Hp F hi lo root d dk) (hr : hi ≤ 2 * root + 1) : PermIn F (F + hi) d dk ∧ ∀ i, lo ≤ i → i < hi → Ok ltInt F hi dk i := by
  refine ⟨h.perm, fun i h1 h2 => ?_⟩
  by_cases hr' : i = root
  · subst hr'
    exact fun k hk hkh => by omega
  · exact h.ok i h1 h2 hr'

set_option maxRecDepth 100000 in
set_option maxHeartbeats 1600000 in
theorem sift (blk off n cap lo hi F : Nat) (d : Array Int) (w : World) (hS : S blk off n w d w) (hlo : lo ≤ hi) (hb : F + hi ≤ n) (hn : n ≤ 1000) (hH : ∀ i, lo ≤ i → i < hi → i ≠ lo → Ok ltInt F hi d i) :
    Calls Try.prog 31 #[.slice (some ⟨blk, off, none⟩) n cap, .int .i64 lo, .int .i64 hi, .int .i64 F] w fun e w' =>
      e = .returned (.tuple #[]) ∧ ∃ d', S blk off n w d' w' ∧ PermIn F (F + hi) d d' ∧ ∀ i, lo ≤ i → i < hi → Ok ltInt F hi d' i := by
  have HS := Lib.hid hS
  have HH : Hid (Hp F hi lo lo d d) := Lib.hid ⟨hH, fun p hp hpk => by omega, permIn_refl _ _ _⟩
  clear hS hH
  go_enter Try.func31, Try.ntmps31
  go_wp2
  go_loopw [8] (fun vi wr => ∃ (root : Nat) (dk : Array Int), vi = .int .i64 root ∧ lo ≤ root ∧ root ≤ hi ∧ S blk off n w dk wr ∧ Hp F hi lo root d dk) (fun vi _ => hi - (intOf vi).toNat)
  case atStart => exact ⟨lo, d, rfl, Nat.le_refl _, hlo, HS.out, HH.out⟩
  case round =>
    obtain ⟨root, dk, rfl, hr0, hr1, hSk, hP⟩ := hrel
    have HP := Lib.hid hP
    clear HS HH hP
    obtain ⟨G, hG, hcw, hfw⟩ := hSk.opens
    have HG := Lib.hid hG
    have HS := Lib.hid hSk
    clear hG hSk
    by_cases h0 : hi ≤ 2 * root + 1
    · have h0z : (hi : Int) ≤ 2 * (root : Int) + 1 := by omega
      go_wp2
      go_end0
      exact ⟨rfl, dk, HS.out, HP.out.none h0⟩
    · have h0z : ¬ ((hi : Int) ≤ 2 * (root : Int) + 1) := by omega
      go_upto_region 3 with fail
      go_cut [36] from 11 to 75 (fun s36 wx => s36 = .bool (decide (2 * root + 2 < hi) && ltInt (G (F + (2 * root + 1))) (G (F + (2 * root + 2)))) ∧ S blk off n w dk wx)
      case first =>
        by_cases h1 : 2 * root + 2 < hi
        · have h1z : 2 * (root : Int) + 1 + 1 < (hi : Int) := by omega
          go_big_quiet (first | (go_at_call 26; refine Calls.quiet_of_same (less _ _ _)))
          go_wp2_with fail
          go_meet
          case rel => exact ⟨by simp [h1, Nat.add_assoc], HS.out.drewN nq⟩
        · have h1z : decide (2 * (root : Int) + 1 + 1 < (hi : Int)) = false := decide_eq_false (by omega)
          go_big_quiet (first | (go_at_call 26; refine Calls.quiet_of_same (less _ _ _)))
          go_wp2_with fail
          go_meet
          case rel => exact ⟨by simp [h1], HS.out.drewN nq⟩
      case rest =>
        obtain ⟨rfl, hSx⟩ := hcut
        clear hcw hfw HS
        obtain ⟨B, hB⟩ : ∃ B : Bool, (decide (2 * root + 2 < hi) && ltInt (G (F + (2 * root + 1))) (G (F + (2 * root + 2)))) = B := ⟨_, rfl⟩
        rw [hB]
        go_upto_if 36 with fail
        go_cut [9] from 11 to 75 (fun s9 wx => ∃ c : Nat, s9 = .int .i64 c ∧ wx = wc ∧ (c = 2 * root + 1 ∨ c = 2 * root + 2) ∧ c < hi ∧ (∀ c', (c' = 2 * root + 1 ∨ c' = 2 * root + 2) → c' < hi → ltInt (G (F + c)) (G (F + c')) = false))
        case first =>
          cases B
          · go_wp2_with fail
            go_meet
            case rel =>
              refine ⟨2 * root + 1, by go_num, rfl, .inl rfl, by omega, fun c' hc hlt => ?_⟩
              rcases hc with rfl | rfl
              · exact swo_ltInt.irrefl _
              · simpa [hlt] using hB
          · simp only [Bool.and_eq_true, decide_eq_true_eq] at hB
            go_wp2_with fail
            go_meet
            case rel =>
              refine ⟨2 * root + 2, by go_num, rfl, .inr rfl, hB.1, fun c' hc hlt => ?_⟩
              rcases hc with rfl | rfl
              · exact swo_ltInt.asymm hB.2
              · exact swo_ltInt.irrefl _
        case rest =>
          obtain ⟨c, rfl, rfl, hc, hch, hdom⟩ := hcut
          clear hB
          obtain ⟨G2, hG2, hcw, hfw⟩ := hSx.opens
          obtain rfl : G = G2 := by funext t; rw [HG.out, hG2]
          have HD := Lib.hid hdom
          have HS := Lib.hid hSx
          clear hG2 hSx hdom
          go_wp2_with fail
          go_big_quiet (first | (go_at_call 26; refine Calls.quiet_of_same (less _ _ _)))
          go_wp2_with fail
          · have hl : (!ltInt (G (F + root)) (G (F + c))) = true := by assumption
            (try simp only [Exit.inBlock, Exit.then]); refine bodyPost_ret (results_none rfl _ _ _) rfl ?_
            refine ⟨rfl, dk, HS.out.drewN nq, ?_⟩
            have hl' : ltInt (G (F + root)) (G (F + c)) = false := by simpa using hl
            have hd := HD.out
            simp only [HG.out] at hl' hd
            exact HP.out.stop hl' hd
          · have hl : (!ltInt (G (F + root)) (G (F + c))) = false := by assumption
            have HS2 := Lib.hid (HS.out.drewN nq)
            have hcw2 : ∀ t, t < n → (wc.drewN nq).cell? ⟨blk, off + t, none⟩ = some (.int .u64 (G t)) := hcw
            have hfw2 : ∀ t, t < n → (wc.drewN nq).frozen? ⟨blk, off + t, none⟩ = false := hfw
            clear hcw hfw
            generalize wc.drewN nq = wr2 at HS2 hcw2 hfw2 ⊢
            go_region
            all_goals go_wp2
            go_roundw
            case rel =>
              have hl' : ltInt (G (F + root)) (G (F + c)) = true := by simpa using hl
              have hd := HD.out
              simp only [HG.out] at hl' hd
              exact ⟨c, swp dk (F + root) (F + c), rfl, by omega, by omega, (HS2.out.swap (by omega) (by omega) (by rw [← HG.out]) (by rw [← HG.out])).drew, HP.out.step (by rw [HS.out.size]; exact hb) hc hch hl' hd hr0⟩
            case measure => simp [intOf]; omega
end Go.Proofs.Ytndgodpbikgnaaa.srt
