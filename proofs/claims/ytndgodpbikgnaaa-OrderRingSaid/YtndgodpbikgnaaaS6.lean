/-
  slices.breakPatternsOrdered at stamps: it permutes. No condition but the bounds that it names.
-/
import Derived.Test.YtndgodpbikgnaaaS5
namespace Go.Proofs.Ytndgodpbikgnaaa.srt
open Go Go.RowKit Go.Sort
set_option linter.unusedVariables false

/-- A store into a new block leaves the row alone. -/
theorem S.elsewhere {blk off n : Nat} {w wr : World} {d : Array Int} (h : S blk off n w d wr) (rb o : Nat) (v : Value) (hr : w.heap.size ≤ rb) : S blk off n w d (wr.setCell ⟨rb, o, none⟩ v) := by
  have hlt := h.lt
  refine ⟨⟨h.grown.os, h.grown.tape, h.grown.output, by have := h.grown.size; simpa [World.setCell] using this, fun k hk hn => ?_⟩, fun j hj => ?_, h.size, h.lt⟩
  · rw [Below.heap_setCell _ _ _ _ (by simp; omega)]; exact h.grown.block k hk hn
  · have hc := h.holds j hj
    exact ⟨by rw [World.cell?_setCell_other _ _ _ _ (by intro e; injection e with e _ _; omega)]; exact hc.1, by rw [World.frozen?_setCell]; exact hc.2⟩

/-- Two stores and a draw leave another block alone. -/
theorem far2 (w : World) (b i j : Nat) (x y : Value) (rb : Nat) (h : rb ≠ b) : (((w.setCell ⟨b, i, none⟩ x).setCell ⟨b, j, none⟩ y).drew).cell? ⟨rb, 0, none⟩ = w.cell? ⟨rb, 0, none⟩ ∧ (((w.setCell ⟨b, i, none⟩ x).setCell ⟨b, j, none⟩ y).drew).frozen? ⟨rb, 0, none⟩ = w.frozen? ⟨rb, 0, none⟩ := by
  refine ⟨?_, ?_⟩
  · show ((w.setCell ⟨b, i, none⟩ x).setCell ⟨b, j, none⟩ y).cell? ⟨rb, 0, none⟩ = _
    rw [World.cell?_setCell_other _ _ _ _ (by intro e; injection e with e _ _; exact h e.symm), World.cell?_setCell_other _ _ _ _ (by intro e; injection e with e _ _; exact h e.symm)]
  · show ((w.setCell ⟨b, i, none⟩ x).setCell ⟨b, j, none⟩ y).frozen? ⟨rb, 0, none⟩ = _
    rw [World.frozen?_setCell, World.frozen?_setCell]

set_option maxHeartbeats 1600000 in
set_option maxRecDepth 100000 in
theorem brk (blk off n cap a b L : Nat) (d : Array Int) (w : World) (hS : S blk off n w d w) (hL : b = a + L) (hb : a + L ≤ n) (hn : n ≤ 1000) (h12 : 12 < L) :
    Calls Try.prog 22 #[.slice (some ⟨blk, off, none⟩) n cap, .int .i64 a, .int .i64 b] w fun e w' =>
      e = .returned (.tuple #[]) ∧ ∃ d', S blk off n w d' w' ∧ PermIn a (a + L) d d' := by
  have eL : (b : Int) - (a : Int) = (L : Int) := by omega
  have HN : Hid (∀ w, _) := Lib.hid fun w => npt L (by omega) (by omega) w
  have HX : Hid (∀ (X : Nat) (wx : World), X < 18446744073709551616 → _ → _ → _) := Lib.hid fun X wx h1 h2 h3 => next w.heap.size X h1 wx h2 h3
  have hlb := hS.lt
  have HS0 : Hid (S blk off n w d (w.alloc (.cells #[.int .u64 (L : Int)] 49))) := Lib.hid (hS.beside ⟨rfl, rfl, rfl, by simp, fun k hk _ => Below.heap_alloc _ _ _ hk⟩)
  have HC0 : Hid ((w.alloc (.cells #[.int .u64 (L : Int)] 49)).cell? ⟨w.heap.size, 0, none⟩ = some (.int .u64 (L : Int)) ∧ (w.alloc (.cells #[.int .u64 (L : Int)] 49)).frozen? ⟨w.heap.size, 0, none⟩ = false) := Lib.hid ⟨by simp, by simp⟩
  clear hS hL
  go_enter Try.func22, Try.ntmps22
  go_wp2_with (go_at_call 32; refine (HN.out _).mono ?_; rintro e w' ⟨M, rfl, hM1, hM2, rfl⟩)
  have HAND : Hid (∀ R : Nat, R < 18446744073709551616 → ∃ O : Nat, bits .and .u64 (R : Int) ((M : Int) - 1) = (O : Int) ∧ O ≤ M - 1) := Lib.hid fun R hR =>
    ⟨R &&& (M - 1), by rw [show ((M : Int) - 1) = ((M - 1 : Nat) : Int) by omega, bits_and_u64_nat _ _ hR (by omega)], Nat.and_le_right⟩
  go_loopw [9] (fun vi wr => ∃ (t R : Nat) (z : Int) (dk : Array Int), vi = .int .i64 z ∧ z = (a : Int) + (L : Int) / 4 * 2 - 1 + t ∧ t ≤ 3 ∧ R < 18446744073709551616 ∧ S blk off n w dk wr ∧ PermIn a (a + L) d dk ∧ wr.cell? ⟨w.heap.size, 0, none⟩ = some (.int .u64 (R : Int)) ∧ wr.frozen? ⟨w.heap.size, 0, none⟩ = false) (fun vi _ => (a + L + 3 - intOf vi).toNat)
  case atStart => exact ⟨0, L, _, d, rfl, by omega, by omega, by omega, HS0.out, permIn_refl _ _ _, HC0.out.1, HC0.out.2⟩
  case round =>
    obtain ⟨t, R, z, dk, rfl, hz, ht, hR, hSk, hP, hcR, hfR⟩ := hrel
    have HP := Lib.hid hP
    have HS := Lib.hid hSk
    clear hP hSk HS0 HC0
    by_cases ht3 : t = 3
    · have hzz : decide (z ≤ (a : Int) + (L : Int) / 4 * 2 + 1) = false := decide_eq_false (by omega)
      clear hz
      go_wp2
      go_end0
      exact ⟨rfl, dk, HS.out, HP.out⟩
    · have hzz : decide (z ≤ (a : Int) + (L : Int) / 4 * 2 + 1) = true := decide_eq_true (by omega)
      obtain ⟨J, rfl⟩ : ∃ J : Nat, z = (J : Int) := ⟨z.toNat, by omega⟩
      have hJ : a ≤ J ∧ J + 3 < a + L := by omega
      have HZ := Lib.hid hz
      have hC := HX.out R wr hR hcR hfR
      clear hz
      go_upto_region 8 with (go_at_call 33; refine hC.mono ?_; rintro e w' ⟨R', lR', rfl, rfl⟩; obtain ⟨O, eAnd, lO⟩ := HAND.out R' lR')
      have HS1 := Lib.hid ((HS.out.elsewhere w.heap.size 0 (.int .u64 (R' : Int)) (Nat.le_refl _)).drewN 3)
      have hcR1 : ((wr.setCell ⟨w.heap.size, 0, none⟩ (.int .u64 (R' : Int))).drewN 3).cell? ⟨w.heap.size, 0, none⟩ = some (.int .u64 (R' : Int)) := World.cell?_setCell_same _ _ _ hcR
      have hfR1 : ((wr.setCell ⟨w.heap.size, 0, none⟩ (.int .u64 (R' : Int))).drewN 3).frozen? ⟨w.heap.size, 0, none⟩ = false := (World.frozen?_setCell _ _ _ _).trans hfR
      clear hC hcR hfR HS
      generalize (wr.setCell ⟨w.heap.size, 0, none⟩ (.int .u64 (R' : Int))).drewN 3 = w1 at HS1 hcR1 hfR1 ⊢
      go_upto_if 43 with fail
      go_cut [10] from 26 to 64 (fun s10 wx => ∃ o : Nat, s10 = .int .i64 o ∧ o < L ∧ wx = w1)
      case first =>
        go_wp2_with fail
        · have : L ≤ O := by assumption
          go_meet
          case rel => exact ⟨O - L, by go_num, by omega, rfl⟩
        · go_meet
          case rel => exact ⟨O, rfl, by omega, rfl⟩
      case rest =>
        obtain ⟨o, rfl, ho, rfl⟩ := hcut
        obtain ⟨G, hG, hcw, hfw⟩ := HS1.out.opens
        have HG := Lib.hid hG
        have hne : w.heap.size ≠ blk := by omega
        clear hG eAnd lO HN HX HAND
        have HE := Lib.hid (HS1.out.swap (i := J) (j := a + o) (by omega) (by omega) (by rw [← HG.out]) (by rw [← HG.out])).drew
        have HF := Lib.hid (far2 wc blk (off + J) (off + (a + o)) (.int .u64 (G (a + o))) (.int .u64 (G J)) w.heap.size hne)
        rw [hcR1, hfR1] at HF
        clear hcR1 hfR1
        by_cases hEq : J = a + o
        · subst hEq
          go_wp2_with fail
          go_region
          all_goals go_wp2
          go_roundw
          case rel => exact ⟨t + 1, R', _, swp dk (a + o) (a + o), rfl, by have := HZ.out; omega, by omega, lR', HE.out, perm_swap HP.out (by omega) (by omega) (by omega) (by omega) (by rw [HS1.out.size]; exact hb), HF.out.1, HF.out.2⟩
          case measure => simp [intOf]; omega
        · go_wp2_with fail
          go_region
          all_goals go_wp2
          go_roundw
          case rel => exact ⟨t + 1, R', _, swp dk J (a + o), rfl, by have := HZ.out; omega, by omega, lR', HE.out, perm_swap HP.out (by omega) (by omega) (by omega) (by omega) (by rw [HS1.out.size]; exact hb), HF.out.1, HF.out.2⟩
          case measure => simp [intOf]; omega
end Go.Proofs.Ytndgodpbikgnaaa.srt
