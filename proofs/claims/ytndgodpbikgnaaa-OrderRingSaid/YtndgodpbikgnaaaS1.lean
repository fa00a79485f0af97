/-
  slices.insertionSortOrdered and slices.reverseRangeOrdered at stamps: contracts. No condition but the bounds that each theorem names.
-/
import Derived.Test.YtndgodpbikgnaaaS0
namespace Go.Proofs.Ytndgodpbikgnaaa.srt
open Go Go.RowKit Go.Sort
set_option linter.unusedVariables false

theorem perm_swap {d : Array Int} {a b i j : Nat} {d0 : Array Int} (h : PermIn a b d0 d) (hi : a ≤ i) (hib : i < b) (hj : a ≤ j) (hjb : j < b) (hb : b ≤ d.size) : PermIn a b d0 (swp d i j) :=
  permIn_trans _ _ _ _ _ h (swp_permIn d a b i j hi hib hj hjb hb)

/-- What insertion has done when the outer round i begins. -/
def Ins0 (a b : Nat) (d : Array Int) (i : Nat) (dk : Array Int) : Prop := PermIn a b d dk ∧ SortedIn ltInt a i dk
/-- What it has done within a round. -/
def Ins1 (a b : Nat) (d : Array Int) (j i : Nat) (dk : Array Int) : Prop := PermIn a b d dk ∧ Ins ltInt a j i dk
theorem ins01 {a b i : Nat} {d dk : Array Int} (h : Ins0 a b d i dk) : Ins1 a b d i i dk :=
  ⟨h.1, fun p q hp hpq hq h1 h2 => h.2 p q hp hpq (by omega), fun q h1 h2 => by omega⟩
theorem ins_stop {a b j i : Nat} {d dk : Array Int} (h : Ins1 a b d j i dk) (hs : j ≤ a ∨ ltInt dk[j]! dk[j - 1]! = false) : Ins0 a b d (i + 1) dk := ⟨h.1, h.2.stop swo_ltInt hs⟩
theorem ins_step {a b j i : Nat} {d dk : Array Int} (h : Ins1 a b d j i dk) (hj : a < j) (hji : j ≤ i) (hi : i < b) (hb : b ≤ dk.size) (hl : ltInt dk[j]! dk[j - 1]! = true) : Ins1 a b d (j - 1) i (swp dk j (j - 1)) := by
  obtain ⟨k, rfl⟩ : ∃ k, j = k + 1 := ⟨j - 1, by omega⟩
  rw [Nat.add_sub_cancel] at hl ⊢
  exact ⟨perm_swap h.1 (by omega) (by omega) (by omega) (by omega) hb, h.2.step hl (by omega) (by omega)⟩

set_option maxRecDepth 100000 in
theorem ins (blk off n cap a b : Nat) (d : Array Int) (w : World) (hS : S blk off n w d w) (hab : a ≤ b) (hb : b ≤ n) (hn : n ≤ 1000) :
    Calls Try.prog 20 #[.slice (some ⟨blk, off, none⟩) n cap, .int .i64 a, .int .i64 b] w fun e w' =>
      e = .returned (.tuple #[]) ∧ ∃ d', S blk off n w d' w' ∧ PermIn a b d d' ∧ SortedIn ltInt a b d' := by
  have HS := Lib.hid hS
  have hsz := hS.size
  clear hS
  go_enter Try.func20, Try.ntmps20
  go_wp2
  go_loopw [6] (fun vi wr => ∃ (i : Nat) (dk : Array Int), vi = .int .i64 i ∧ a < i ∧ i ≤ b + 1 ∧ S blk off n w dk wr ∧ Ins0 a b d i dk ∧ (b < i → b = a)) (fun vi _ => b + 1 - (intOf vi).toNat)
  case atStart => exact ⟨a + 1, d, by go_num, by omega, by omega, HS.out, ⟨permIn_refl _ _ _, fun p q h1 h2 h3 => by omega⟩, by omega⟩
  case round =>
    obtain ⟨i, dk, rfl, hai, hib, hSk, hI, hbe⟩ := hrel
    have HI := Lib.hid hI
    have HSk := Lib.hid hSk
    clear hI hSk HS
    go_wp2
    · have hlt : i < b := by assumption
      go_loopw [7] (fun vj wr2 => ∃ (j : Nat) (dj : Array Int), vj = .int .i64 j ∧ a ≤ j ∧ j ≤ i ∧ S blk off n w dj wr2 ∧ Ins1 a b d j i dj) (fun vj _ => (intOf vj).toNat)
      case atStart => exact ⟨i, dk, rfl, by omega, Nat.le_refl _, HSk.out, ins01 HI.out⟩
      case round =>
        obtain ⟨j, dj, rfl, haj, hji, hSj, hJ⟩ := hrel
        clear HI HSk
        obtain ⟨G, hG, hcw, hfw⟩ := hSj.opens
        have HG := Lib.hid hG
        have HJ := Lib.hid hJ
        have HSj := Lib.hid hSj
        clear hG hJ hSj
        by_cases hja : a < j
        · go_wp2_with fail
          go_big_quiet (first | (go_at_call 26; refine Calls.quiet_of_same (less _ _ _)))
          go_wp2_with fail
          · have hl : ltInt (G j) (G (j - 1)) = true := by assumption
            have HS2 := Lib.hid (HSj.out.drewN nq)
            have hcw2 : ∀ t, t < n → (wr.drewN nq).cell? ⟨blk, off + t, none⟩ = some (.int .u64 (G t)) := hcw
            have hfw2 : ∀ t, t < n → (wr.drewN nq).frozen? ⟨blk, off + t, none⟩ = false := hfw
            clear hcw hfw
            generalize wr.drewN nq = wr2 at HS2 hcw2 hfw2 ⊢
            go_region
            all_goals go_wp2
            go_roundw
            case rel =>
              rw [HG.out, HG.out] at hl
              have hz : b ≤ dj.size := by rw [HSj.out.size]; exact hb
              exact ⟨j - 1, swp dj j (j - 1), by congr 1; omega, by omega, by omega, (HS2.out.swap (by omega) (by omega) (by rw [← HG.out]) (by rw [← HG.out])).drew, ins_step HJ.out hja hji hlt hz hl⟩
            case measure => simp [intOf]; omega
          · have hl : ltInt (G j) (G (j - 1)) = false := by assumption
            go_roundw
            case rel =>
              rw [HG.out, HG.out] at hl
              exact ⟨i + 1, dj, by go_num, by omega, by omega, HSj.out.drewN nq, ins_stop HJ.out (.inr hl), by omega⟩
            case measure => simp [intOf]; omega
        · have hja' : decide (a < j) = false := by simp; omega
          go_wp2_with fail
          go_big_quiet (first | (go_at_call 26; refine Calls.quiet_of_same (less _ _ _)))
          go_wp2_with fail
          go_roundw
          case rel => exact ⟨i + 1, dj, by go_num, by omega, by omega, HSj.out.drewN nq, ins_stop HJ.out (.inl (by omega)), by omega⟩
          case measure => simp [intOf]; omega
    · have hge : ¬ i < b := by assumption
      go_end0
      refine ⟨rfl, dk, HSk.out, HI.out.1, ?_⟩
      by_cases h : b < i
      · have := hbe h
        exact fun p q h1 h2 h3 => by omega
      · obtain rfl : i = b := by omega
        exact HI.out.2
end Go.Proofs.Ytndgodpbikgnaaa.srt
