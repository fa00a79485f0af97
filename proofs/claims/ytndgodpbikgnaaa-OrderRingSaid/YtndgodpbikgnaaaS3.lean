/-
  slices.heapSortOrdered at stamps: its contract. No condition but the bounds that it names.
-/
import Derived.Test.YtndgodpbikgnaaaS2
namespace Go.Proofs.Ytndgodpbikgnaaa.srt
open Go Go.RowKit Go.Sort
set_option linter.unusedVariables false

/-- k elements are left in the heap behind F; the rest, up to n, is sorted, and nothing of it is less than what is left. -/
structure Pp (F n k : Nat) (d dk : Array Int) : Prop where
  ok : ∀ i, i < k → Ok ltInt F k dk i
  srt : SortedIn ltInt (F + k) (F + n) dk
  le : ∀ i j, i < k → k ≤ j → j < n → ltInt dk[F + j]! dk[F + i]! = false
  perm : PermIn F (F + n) d dk
theorem Pp.next {F n k : Nat} {d dk : Array Int} (h : Pp F n (k + 1) d dk) (hk : k < n) (hs : F + n ≤ dk.size) : ∀ i, 0 ≤ i → i < k → i ≠ 0 → Ok ltInt F k (swp dk F (F + k)) i := by
  intro i _ hi hi0 c hc hck
  rw [swp_other _ _ _ _ (by omega) (by omega), swp_other _ _ _ _ (by omega) (by omega)]
  exact h.ok i (by omega) c hc (by omega)
theorem Pp.step {F n k : Nat} {d dk d2 : Array Int} (h : Pp F n (k + 1) d dk) (hk : k < n) (hs : F + n ≤ dk.size) (hp : PermIn F (F + k) (swp dk F (F + k)) d2) (ho : ∀ i, 0 ≤ i → i < k → Ok ltInt F k d2 i) : Pp F n k d d2 := by
  have hz : (swp dk F (F + k)).size = dk.size := size_swp _ _ _
  have ek : (swp dk F (F + k))[F + k]! = dk[F]! := swp_right dk F (F + k) (by omega)
  have e0 : 0 < k → (swp dk F (F + k))[F]! = dk[F + k]! := fun h0 => swp_left dk F (F + k) (by omega) (by omega)
  have eo : ∀ i, i ≠ 0 → i ≠ k → (swp dk F (F + k))[F + i]! = dk[F + i]! := fun i h1 h2 => swp_other _ _ _ _ (by omega) (by omega)
  have hmax := fun i (hi : i < k + 1) => root_max swo_ltInt h.ok i i (Nat.le_refl _) hi
  simp only [Nat.add_zero] at hmax
  have hout : ∀ j, k ≤ j → d2[F + j]! = (swp dk F (F + k))[F + j]! := fun j hj => hp.2.1 (F + j) (.inr (by omega))
  refine ⟨fun i hi => ho i (Nat.zero_le _) hi, ?_, ?_, ?_⟩
  · intro p q hp1 hpq hq
    obtain ⟨x, rfl⟩ : ∃ x, p = F + x := ⟨p - F, by omega⟩
    obtain ⟨y, rfl⟩ : ∃ y, q = F + y := ⟨q - F, by omega⟩
    rw [hout x (by omega), hout y (by omega), eo y (by omega) (by omega)]
    by_cases hx : x = k
    · subst hx
      rw [ek]
      have := h.le 0 y (by omega) (by omega) (by omega)
      simpa using this
    · rw [eo x (by omega) hx]
      exact h.srt (F + x) (F + y) (by omega) hpq hq
  · have key : ∀ i, F ≤ i → i < F + k → (fun x => ∀ j, k ≤ j → j < n → ltInt (swp dk F (F + k))[F + j]! x = false) (swp dk F (F + k))[i]! := by
      intro i hi1 hi2 j hj1 hj2
      obtain ⟨x, rfl⟩ : ∃ x, i = F + x := ⟨i - F, by omega⟩
      have hx : ∃ y, y < k + 1 ∧ (swp dk F (F + k))[F + x]! = dk[F + y]! := by
        by_cases h0 : x = 0
        · subst h0; exact ⟨k, by omega, by simpa using e0 (by omega)⟩
        · exact ⟨x, by omega, eo x h0 (by omega)⟩
      obtain ⟨y, hy, e⟩ := hx
      rw [e]
      by_cases hjk : j = k
      · subst hjk; rw [ek]; exact hmax y hy
      · rw [eo j (by omega) hjk]; exact h.le y j hy (by omega) hj2
    have all := permIn_all (swp dk F (F + k)) d2 F (F + k) (fun x => ∀ j, k ≤ j → j < n → ltInt (swp dk F (F + k))[F + j]! x = false) (by rw [hz]; omega) hp key
    intro i j hi hj hjn
    rw [hout j hj]
    exact all (F + i) (by omega) (by omega) j hj hjn
  · exact permIn_trans _ _ _ _ _ (perm_swap h.perm (by omega) (by omega) (by omega) (by omega) hs) (permIn_mono _ _ _ _ _ _ (Nat.le_refl _) (by omega) (by rw [hz]; exact hs) hp)

theorem half0 {H : Nat} : ((H : Int) - 1).tdiv 2 = (((H - 1) / 2 + 1 : Nat) : Int) - 1 := by
  by_cases h : H = 0
  · subst h; decide
  · rw [Int.tdiv_eq_ediv_of_nonneg (by omega)]; omega

set_option maxRecDepth 100000 in
set_option maxHeartbeats 1600000 in
theorem heap (blk off n cap a b H : Nat) (d : Array Int) (w : World) (hS : S blk off n w d w) (hH : b = a + H) (hb : a + H ≤ n) (hn : n ≤ 1000) :
    Calls Try.prog 21 #[.slice (some ⟨blk, off, none⟩) n cap, .int .i64 a, .int .i64 b] w fun e w' =>
      e = .returned (.tuple #[]) ∧ ∃ d', S blk off n w d' w' ∧ PermIn a (a + H) d d' ∧ SortedIn ltInt a (a + H) d' := by
  have HS := Lib.hid hS
  have eH : (b : Int) - (a : Int) = (H : Int) := by omega
  clear hS hH
  go_enter Try.func21, Try.ntmps21
  go_wp2
  go_loopw [9] (fun vi wr => ∃ (k : Nat) (z : Int) (dk : Array Int), vi = .int .i64 z ∧ z = (k : Int) - 1 ∧ k ≤ (H - 1) / 2 + 1 ∧ S blk off n w dk wr ∧ PermIn a (a + H) d dk ∧ ∀ i, k ≤ i → i < H → Ok ltInt a H dk i) (fun vi _ => (intOf vi + 1).toNat)
  case atStart => exact ⟨(H - 1) / 2 + 1, _, d, rfl, half0, Nat.le_refl _, HS.out, permIn_refl _ _ _, fun i h1 h2 c hc hcH => by omega⟩
  case round =>
    obtain ⟨k, z, dk, rfl, hz0, hk, hSk, hP, hO⟩ := hrel
    have HP := Lib.hid hP
    have HO := Lib.hid hO
    have HSk := Lib.hid hSk
    clear HS hP hO hSk
    cases k with
    | succ k =>
      obtain rfl : z = (k : Int) := by omega
      clear hz0
      have hcall := sift blk off n cap k H a dk wr HSk.out.self (by omega) hb hn (fun i h1 h2 h3 => HO.out i (by omega) h2)
      go_wp2_with (go_at_call 31; refine hcall.mono ?_; rintro e w1 ⟨rfl, d1, hS1, hP1, hO1⟩)
      go_roundw
      case rel => exact ⟨k, _, d1, rfl, by omega, by omega, HSk.out.trans hS1, permIn_trans _ _ _ _ _ HP.out hP1, hO1⟩
      case measure => simp [intOf]
    | zero =>
      obtain rfl : z = -1 := by omega
      clear hz0 hk
      go_wp2
      go_loopw [10] (fun vi wr => ∃ (k : Nat) (z : Int) (dk : Array Int), vi = .int .i64 z ∧ z = (k : Int) - 1 ∧ k ≤ H ∧ S blk off n w dk wr ∧ Pp a H k d dk) (fun vi _ => (intOf vi + 1).toNat)
      case atStart => exact ⟨H, _, dk, rfl, rfl, Nat.le_refl _, HSk.out, ⟨fun i hi => HO.out i (Nat.zero_le _) hi, fun p q h1 h2 h3 => by omega, fun i j h1 h2 h3 => by omega, HP.out⟩⟩
      case round =>
        clear HP HO HSk
        obtain ⟨k, z, dk, rfl, hz0, hk, hSk, hP⟩ := hrel
        have HP := Lib.hid hP
        have HS := Lib.hid hSk
        clear hP
        cases k with
        | zero =>
          obtain rfl : z = -1 := by omega
          clear hSk hz0
          go_wp2
          go_end0
          exact ⟨rfl, dk, HS.out, HP.out.perm, HP.out.srt⟩
        | succ k =>
          obtain rfl : z = (k : Int) := by omega
          clear hz0
          obtain ⟨G, hG, hcw, hfw⟩ := hSk.opens
          have HG := Lib.hid hG
          clear hG hSk
          have hz : a + H ≤ dk.size := by rw [HS.out.size]; exact hb
          have HC : ∀ wx, S blk off n w (swp dk a (a + k)) wx → Hid (Calls Try.prog 31 #[.slice (some ⟨blk, off, none⟩) n cap, .int .i64 (0 : Int), .int .i64 (k : Int), .int .i64 (a : Int)] wx fun e w' => e = .returned (.tuple #[]) ∧ ∃ d', S blk off n wx d' w' ∧ PermIn a (a + k) (swp dk a (a + k)) d' ∧ ∀ i, 0 ≤ i → i < k → Ok ltInt a k d' i) :=
            fun wx hx => Lib.hid (sift blk off n cap 0 k a (swp dk a (a + k)) wx hx.self (Nat.zero_le _) (by omega) hn (HP.out.next (by omega) hz))
          rcases Nat.eq_zero_or_pos k with hk0 | hkp
          · subst hk0
            have HX := Lib.hid (show S blk off n w (swp dk a (a + 0)) ((wr.setCell ⟨blk, off + a, none⟩ (.int .u64 (G a))).setCell ⟨blk, off + a, none⟩ (.int .u64 (G a))).drew from (HS.out.swap (j := a + 0) (by omega) (by omega) (by rw [← HG.out]; rfl) (by rw [← HG.out])).drew)
            go_wp2_with fail
            go_region
            go_wp2_with fail
            refine ((HC _ HX.out).out).mono ?_
            rintro e w1 ⟨rfl, d2, hS2, hP2, hO2⟩
            go_wp2
            go_roundw
            case rel => exact ⟨0, _, d2, rfl, by omega, by omega, HX.out.trans hS2, HP.out.step (by omega) hz hP2 hO2⟩
            case measure => simp [intOf]
          · go_wp2_with fail
            go_region
            go_wp2_with fail
            refine ((HC _ (HS.out.swap (by omega) (by omega) (by rw [← HG.out]) (by rw [← HG.out])).drew).out).mono ?_
            rintro e w1 ⟨rfl, d2, hS2, hP2, hO2⟩
            go_wp2
            go_roundw
            case rel => exact ⟨k, _, d2, rfl, by omega, by omega, (HS.out.swap (by omega) (by omega) (by rw [← HG.out]) (by rw [← HG.out])).drew.trans hS2, HP.out.step (by omega) hz hP2 hO2⟩
            case measure => simp [intOf]
end Go.Proofs.Ytndgodpbikgnaaa.srt
