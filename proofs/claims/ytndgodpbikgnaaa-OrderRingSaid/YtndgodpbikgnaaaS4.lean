/-
  slices.order2Ordered, medianOrdered, medianAdjacentOrdered and choosePivotOrdered at stamps: which places they tell. No condition but the bounds that each theorem names.
-/
import Derived.Test.YtndgodpbikgnaaaS3
namespace Go.Proofs.Ytndgodpbikgnaaa.srt
open Go Go.RowKit Go.Sort
set_option linter.unusedVariables false

/-- w' is w, but for the counter's block sb, and the row lies in blk. -/
structure P (blk off n sb : Nat) (d : Array Int) (w w' : World) : Prop where
  grown : w.grownBy w' (some sb)
  holds : Holds E w' blk off d
  size : d.size = n
  lt : blk < w.heap.size
  ne : blk ≠ sb
  cnt : ∃ s, w'.cell? ⟨sb, 0, none⟩ = some (.int .i64 s) ∧ w'.frozen? ⟨sb, 0, none⟩ = false
section
variable {blk off n sb : Nat} {w w' w1 w2 : World} {d : Array Int}
theorem P.self (h : P blk off n sb d w w') : P blk off n sb d w' w' := ⟨grown_refl _ _, h.holds, h.size, Nat.lt_of_lt_of_le h.lt h.grown.size, h.ne, h.cnt⟩
theorem P.trans (h : P blk off n sb d w w1) (k : P blk off n sb d w1 w2) : P blk off n sb d w w2 := ⟨grown_trans h.grown k.grown, k.holds, k.size, h.lt, h.ne, k.cnt⟩
theorem P.drewN (h : P blk off n sb d w w1) (q : Nat) : P blk off n sb d w (w1.drewN q) := ⟨grown_trans h.grown (grown_drewN _ _ _), h.holds, h.size, h.lt, h.ne, h.cnt⟩
theorem P.drew (h : P blk off n sb d w w1) : P blk off n sb d w w1.drew := h.drewN 1
theorem P.opens (h : P blk off n sb d w w1) : ∃ G : Nat → Int, (∀ t, G t = d[t]!) ∧ (∀ t, t < n → w1.cell? ⟨blk, off + t, none⟩ = some (.int .u64 (G t))) :=
  ⟨fun t => d[t]!, fun _ => rfl, fun t ht => (h.holds t (by rw [h.size]; exact ht)).1⟩
theorem P.count (h : P blk off n sb d w w1) (s : Int) : P blk off n sb d w (w1.setCell ⟨sb, 0, none⟩ (.int .i64 s)) := by
  obtain ⟨s0, hc, hf⟩ := h.cnt
  have hb : blk < w1.heap.size := Nat.lt_of_lt_of_le h.lt h.grown.size
  have hg := grown_setCell w1 sb 0 (.int .i64 s)
  refine ⟨grown_trans h.grown hg, fun j hj => ?_, h.size, h.lt, h.ne, s, ?_, ?_⟩
  · have e := hg.block blk hb (by intro e; exact h.ne (Option.some.inj e))
    have hc := h.holds j hj
    simp only [World.cell?, World.frozen?] at hc ⊢
    rw [e]; exact hc
  · exact World.cell?_setCell_same _ _ _ hc
  · rw [World.frozen?_setCell]; exact hf
end

set_option maxRecDepth 100000 in
theorem order2 (blk off n cap sb a b : Nat) (d : Array Int) (w : World) (hP : P blk off n sb d w w) (ha : a < n) (hb : b < n) :
    Calls Try.prog 37 #[.slice (some ⟨blk, off, none⟩) n cap, .int .i64 a, .int .i64 b, .pointer (some ⟨sb, 0, none⟩)] w fun e w' =>
      ∃ x y : Nat, e = .returned (.tuple #[.int .i64 x, .int .i64 y]) ∧ ((x = a ∧ y = b) ∨ (x = b ∧ y = a)) ∧ P blk off n sb d w w' := by
  obtain ⟨G, hG, hcw⟩ := hP.opens
  obtain ⟨s, hc, hf⟩ := hP.cnt
  have HP := Lib.hid hP
  clear hP hG
  go_enter Try.func37, Try.ntmps37
  go_wp2_with fail
  go_big_quiet (first | (go_at_call 26; refine Calls.quiet_of_same (less _ _ _)))
  have hc2 : (w.drewN nq).cell? ⟨sb, 0, none⟩ = some (.int .i64 s) := hc
  have hf2 : (w.drewN nq).frozen? ⟨sb, 0, none⟩ = false := hf
  have HP2 := Lib.hid (HP.out.drewN nq)
  generalize w.drewN nq = w2 at hc2 hf2 HP2 ⊢
  go_wp2_with fail
  · go_ret2
    exact ⟨b, a, rfl, .inr ⟨rfl, rfl⟩, HP2.out.count _⟩
  · go_ret2
    exact ⟨a, b, rfl, .inl ⟨rfl, rfl⟩, HP2.out⟩

theorem median (blk off n cap sb a b c : Nat) (d : Array Int) (w : World) (hP : P blk off n sb d w w) (ha : a < n) (hb : b < n) (hc : c < n) :
    Calls Try.prog 35 #[.slice (some ⟨blk, off, none⟩) n cap, .int .i64 a, .int .i64 b, .int .i64 c, .pointer (some ⟨sb, 0, none⟩)] w fun e w' =>
      ∃ x : Nat, e = .returned (.int .i64 x) ∧ (x = a ∨ x = b ∨ x = c) ∧ P blk off n sb d w w' := by
  have HP := Lib.hid hP
  have HC : Hid (∀ (x y : Nat) wx, P blk off n sb d wx wx → x < n → y < n → _) := Lib.hid fun x y wx h1 h2 h3 => order2 blk off n cap sb x y d wx h1 h2 h3
  clear hP
  go_enter Try.func35, Try.ntmps35
  go_upto_region 2 with (go_at_call 37; refine (HC.out _ _ _ HP.out ha hb).mono ?_; rintro e w1 ⟨x1, y1, rfl, h1, hP1⟩)
  have hx1 : x1 < n ∧ y1 < n := by omega
  have HP1 := Lib.hid hP1
  clear hP1
  go_upto_region 3 with (go_at_call 37; refine (HC.out _ _ _ HP1.out.self hx1.2 hc).mono ?_; rintro e w2 ⟨x2, y2, rfl, h2, hP2⟩)
  have hx2 : x2 < n ∧ y2 < n := by omega
  have HP2 := Lib.hid hP2
  clear hP2
  go_wp2_with (go_at_call 37; refine (HC.out _ _ _ HP2.out.self hx1.1 hx2.1).mono ?_; rintro e w3 ⟨x3, y3, rfl, h3, hP3⟩)
  go_ret
  exact ⟨y3, rfl, by omega, HP1.out.trans (HP2.out.trans hP3)⟩

theorem medianAdj (blk off n cap sb a : Nat) (d : Array Int) (w : World) (hP : P blk off n sb d w w) (ha : 1 ≤ a) (hb : a + 1 < n) (hn : n ≤ 1000) :
    Calls Try.prog 34 #[.slice (some ⟨blk, off, none⟩) n cap, .int .i64 a, .pointer (some ⟨sb, 0, none⟩)] w fun e w' =>
      ∃ x : Nat, e = .returned (.int .i64 x) ∧ a ≤ x + 1 ∧ x ≤ a + 1 ∧ P blk off n sb d w w' := by
  have HC := Lib.hid (median blk off n cap sb (a - 1) a (a + 1) d w hP (by omega) (by omega) (by omega))
  have e1 : ((a - 1 : Nat) : Int) = (a : Int) - 1 := by omega
  have e2 : ((a + 1 : Nat) : Int) = (a : Int) + 1 := by omega
  rw [e1, e2] at HC
  clear hP e1 e2
  go_enter Try.func34, Try.ntmps34
  go_wp2_with (go_at_call 35; refine HC.out.mono ?_; rintro e w1 ⟨x, rfl, h1, hP1⟩)
  go_ret
  exact ⟨x, rfl, by omega, by omega, hP1⟩

theorem P.start {blk off n : Nat} {d : Array Int} {w : World} (h : S blk off n w d w) : P blk off n w.heap.size d (w.alloc (.cells #[.int .i64 0] 3)) (w.alloc (.cells #[.int .i64 0] 3)) := by
  have hg : w.grownBy (w.alloc (.cells #[.int .i64 0] 3)) none := ⟨rfl, rfl, rfl, by simp, fun k hk _ => Below.heap_alloc _ _ _ hk⟩
  have hb := h.beside hg
  exact ⟨grown_refl _ _, hb.holds, hb.size, by have := h.lt; simp; omega, by have := h.lt; omega, 0, by simp, by simp⟩
theorem P.finish {blk off n : Nat} {d : Array Int} {w w' : World} (h : P blk off n w.heap.size d (w.alloc (.cells #[.int .i64 0] 3)) w') : w.grownBy w' none := by
  have hg : w.grownBy (w.alloc (.cells #[.int .i64 0] 3)) none := ⟨rfl, rfl, rfl, by simp, fun k hk _ => Below.heap_alloc _ _ _ hk⟩
  exact ⟨h.grown.os.trans hg.os, h.grown.tape.trans hg.tape, h.grown.output.trans hg.output, Nat.le_trans hg.size h.grown.size, fun k hk _ => (h.grown.block k (Nat.lt_of_lt_of_le hk hg.size) (by simp; omega)).trans (hg.block k hk (by simp))⟩

set_option maxHeartbeats 1600000 in
set_option maxRecDepth 100000 in
theorem pivot (blk off n cap a b : Nat) (d : Array Int) (w : World) (hS : S blk off n w d w) (hab : a + 12 < b) (hb : b ≤ n) (hn : n ≤ 1000) :
    Calls Try.prog 23 #[.slice (some ⟨blk, off, none⟩) n cap, .int .i64 a, .int .i64 b] w fun e w' =>
      ∃ (p : Nat) (h : Int), e = .returned (.tuple #[.int .i64 p, .int .i64 h]) ∧ a ≤ p ∧ p < b ∧ w.grownBy w' none := by
  have HP := Lib.hid (P.start hS)
  have HF : Hid (∀ w', P blk off n w.heap.size d (w.alloc (.cells #[.int .i64 0] 3)) w' → w.grownBy w' none) := Lib.hid fun w' h => h.finish
  have HA : Hid (∀ (x : Nat) wx, P blk off n w.heap.size d wx wx → 1 ≤ x → x + 1 < n → _) := Lib.hid fun x wx h1 h2 h3 => medianAdj blk off n cap w.heap.size x d wx h1 h2 h3 hn
  have HM : Hid (∀ (x y z : Nat) wx, P blk off n w.heap.size d wx wx → x < n → y < n → z < n → _) := Lib.hid fun x y z wx h1 h2 h3 h4 => median blk off n cap w.heap.size x y z d wx h1 h2 h3 h4
  clear hS
  obtain ⟨I, hI⟩ : ∃ I : Nat, I = a + (b - a) / 4 * 1 := ⟨_, rfl⟩
  obtain ⟨J, hJ⟩ : ∃ J : Nat, J = a + (b - a) / 4 * 2 := ⟨_, rfl⟩
  obtain ⟨K, hK⟩ : ∃ K : Nat, K = a + (b - a) / 4 * 3 := ⟨_, rfl⟩
  have eI : ((a : Int) + ((b : Int) - (a : Int)) / 4) = (I : Int) := by omega
  have eJ : ((a : Int) + ((b : Int) - (a : Int)) / 4 * 2) = (J : Int) := by omega
  have eK : ((a : Int) + ((b : Int) - (a : Int)) / 4 * 3) = (K : Int) := by omega
  have bI : a + 3 ≤ I ∧ I + 6 < b := by omega
  have bJ : a + 3 ≤ J ∧ J + 3 < b := by omega
  have bK : a + 3 ≤ K ∧ K + 2 < b := by omega
  clear hI hJ hK
  by_cases h50 : b - a ≥ 50
  · go_enter Try.func23, Try.ntmps23
    go_upto_region 9 with (go_at_call 34; refine (HA.out I _ HP.out (by omega) (by omega)).mono ?_; rintro e w1 ⟨i1, rfl, h1, h2, hP1⟩)
    have HP1 := Lib.hid hP1
    clear hP1
    go_upto_region 10 with (go_at_call 34; refine (HA.out J _ HP1.out.self (by omega) (by omega)).mono ?_; rintro e w2 ⟨j1, rfl, h3, h4, hP2⟩)
    have HP2 := Lib.hid (HP1.out.trans hP2)
    clear hP2 HP1
    go_upto_region 11 with (go_at_call 34; refine (HA.out K _ HP2.out.self (by omega) (by omega)).mono ?_; rintro e w3 ⟨k1, rfl, h5, h6, hP3⟩)
    have HP3 := Lib.hid (HP2.out.trans hP3)
    clear hP3 HP2
    go_upto_region 12 with (go_at_call 35; refine (HM.out i1 j1 k1 _ HP3.out.self (by omega) (by omega) (by omega)).mono ?_; rintro e w4 ⟨p, rfl, h7, hP4⟩)
    have HP4 := Lib.hid (HP3.out.trans hP4)
    clear hP4 HP3
    have hp : a ≤ p ∧ p < b := by omega
    obtain ⟨s, hc, hf⟩ := HP4.out.cnt
    clear h1 h2 h3 h4 h5 h6 h7 eI eJ eK bI bJ bK
    go_wp2
    all_goals (go_ret2; exact ⟨p, _, rfl, hp.1, hp.2, HF.out _ HP4.out⟩)
  · go_enter Try.func23, Try.ntmps23
    go_upto_region 12 with (go_at_call 35; refine (HM.out I J K _ HP.out (by omega) (by omega) (by omega)).mono ?_; rintro e w4 ⟨p, rfl, h7, hP4⟩)
    have HP4 := Lib.hid hP4
    clear hP4
    have hp : a ≤ p ∧ p < b := by omega
    obtain ⟨s, hc, hf⟩ := HP4.out.cnt
    clear h7 eI eJ eK bI bJ bK
    go_wp2
    all_goals (go_ret2; exact ⟨p, _, rfl, hp.1, hp.2, HF.out _ HP4.out⟩)
end Go.Proofs.Ytndgodpbikgnaaa.srt
