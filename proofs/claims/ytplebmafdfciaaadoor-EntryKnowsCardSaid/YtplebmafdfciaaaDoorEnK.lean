/-
  Who must be asked, and what an ask makes of an entry, as the document's own text answers: contracts. No condition but the bounds that each theorem names.
-/
import Derived.Test.YtplebmafdfciaaaDoorEnJ
import Derived.Test.YtplebmafdfciaaaDoorEnG
import Derived.LoopTactic
namespace Go.Proofs.YtplebmafdfciaaaDoor.en
open Go Go.ChangeShapes Go.WideShapes Go.ChangeAt Go.RowKit
open Go.Proofs.YtplebmafdfciaaaDoor.mm (wi wo pop wi_lt wo_lt wi_in wi_out wo_in wo_out in_or ones Tab rwith_any rwout_any rhas_in)
set_option linter.unusedVariables false

theorem ask_parts {e : En} {k x : Int} (h : ask e k x = true) : e.may = true ∧ (0 ≤ x ∧ x ≤ 15) ∧ (k = 1 ∨ k = 2) := by
  unfold ask at h
  simp only [Bool.and_eq_true, decide_eq_true_eq] at h
  exact ⟨h.1.1, h.1.2, h.2⟩
theorem may_parts {o : Int} {s : Nat} (h : En.may ⟨o, s⟩ = true) : -1 ≤ o ∧ o ≤ 15 ∧ s < 65536 ∧ (o ≠ -1 → s = 0) := of_decide_eq_true h
/-- Must i be asked? -/
def pb (o : Int) (s : Nat) (k x : Int) (i : Nat) : Bool := decide ((i : Int) ≠ x) && (decide (o = (i : Int)) || (decide (k = 2) && s.testBit i))
theorem wi_bit (m : Nat) (o : Int) (h : o < 32) (i : Nat) : (wi m o).testBit i = (m.testBit i || decide (o = (i : Int))) := by
  rcases in_or o with ⟨k, hk, rfl⟩ | h'
  · rw [wi_in m k hk, Nat.testBit_or, Nat.testBit_two_pow]
    congr 1
    rw [decide_eq_decide]; omega
  · rw [wi_out m o h', decide_eq_false (by omega), Bool.or_false]
theorem bits_no {o : Int} {s : Nat} {k x : Int} {q j : Nat} (h : ∀ i, q.testBit i = (decide (i < j) && pb o s k x i)) (hp : pb o s k x j = false) (i : Nat) : q.testBit i = (decide (i < j + 1) && pb o s k x i) := by
  rw [h i]
  by_cases e : i = j
  · subst e; simp [hp]
  · congr 1; rw [decide_eq_decide]; omega
theorem bits_yes {o : Int} {s : Nat} {k x : Int} {q j : Nat} (hj : j < 32) (h : ∀ i, q.testBit i = (decide (i < j) && pb o s k x i)) (hp : pb o s k x j = true) (i : Nat) : (wi q (j : Int)).testBit i = (decide (i < j + 1) && pb o s k x i) := by
  rw [wi_bit q j (by omega), h i]
  by_cases e : i = j
  · subst e; simp [hp]
  · have e' : decide ((j : Int) = (i : Int)) = false := decide_eq_false (by omega)
    rw [e', Bool.or_false]
    congr 1; rw [decide_eq_decide]; omega
theorem asks_bits (o : Int) (s : Nat) (k x : Int) (m : Nat) (hm : En.may ⟨o, s⟩ = true) (hk : k = 1 ∨ k = 2) (h : ∀ i, m.testBit i = (decide (i < 16) && pb o s k x i)) : m = asks o s k x := by
  obtain ⟨h1, h2, h3, h4⟩ := may_parts hm
  have s16 : ∀ i, ¬ i < 16 → s.testBit i = false := fun i hi => Nat.testBit_lt_two_pow (Nat.lt_of_lt_of_le h3 (by show 2 ^ 16 ≤ 2 ^ i; exact Nat.pow_le_pow_right (by decide) (by omega)))
  apply Nat.eq_of_testBit_eq
  intro i
  rw [h i]
  unfold asks pb
  split
  · rename_i hc
    obtain ⟨rfl, rfl⟩ := hc
    have e1 : decide ((-1 : Int) = (i : Int)) = false := decide_eq_false (by omega)
    rw [e1]
    simp
  · rename_i hc
    rw [wo_bit _ x (wi_lt s o (by omega)), wi_bit s o (by omega)]
    by_cases ho : o = -1
    · subst ho
      have e1 : decide ((-1 : Int) = (i : Int)) = false := decide_eq_false (by omega)
      have hk2 : k = 2 := by omega
      subst hk2
      rw [e1]
      by_cases hi : i < 16
      · by_cases hx : (i : Int) = x <;> simp [hi, hx]
      · simp [hi, s16 i hi]
    · obtain rfl : s = 0 := h4 ho
      by_cases hi : i < 16
      · by_cases hx : (i : Int) = x <;> simp [hi, hx]
      · have e1 : decide (o = (i : Int)) = false := decide_eq_false (by omega)
        simp [hi, e1]

set_option maxRecDepth 1000000 in
set_option maxHeartbeats 4000000 in
theorem rasked_1 (o : Int) (s : Nat) (x : Int) (w : World) (hs : s < 4294967296) (hask : ask ⟨o, s⟩ 1 x = true) : Calls Tryd.prog 12 #[.agg #[.int .i64 o, .int .u32 (s : Int)], .int .u8 1, .int .i64 x] w fun e w' => e = told (asks o s 1 x, 4, 0) ∧ w.grownBy w' none := by
  have HE0 : Hid ((w.alloc (.cells #[.int .i64 o, .int .u32 (s : Int)] 25)).heap[w.heap.size]? = some (.cells #[.int .i64 o, .int .u32 (s : Int)] 25 (0, 0))) := Lib.hid (heap_alloc_new _ _)
  have HG0 : Hid (w.grownBy (w.alloc (.cells #[.int .i64 o, .int .u32 (s : Int)] 25)) none) := Lib.hid (grown_alloc (grown_refl _ _) _)
  have HM : Hid (∀ w, _) := Lib.hid fun w => rask_any o s 1 x w hs
  have HF := Lib.hid (fun m h => asks_bits o s 1 x m (ask_parts hask).1 (.inl rfl) h)
  rw [hask] at HM
  have HS := Lib.hid hs
  clear hask hs
  go_enter Tryd.func12, Tryd.ntmps12
  go_wp2_with (first
    | ((with_reducible refine load_en _ _ _ _ _ w.heap.size ?_ HE0.out ?_); (rfl))
    | (go_at_call 27; ((with_reducible refine (HM.out _).mono ?_); rintro e w5 ⟨rfl, hg5⟩; have HG5 := Lib.hid (grown_trans HG0.out hg5); obtain ⟨c0, c1⟩ := cells2 (row_grown HE0.out hg5); clear hg5)))
  go_loop [10, 11] (fun m i => ∃ j : Nat, j ≤ 16 ∧ i = .int .i64 (j : Int) ∧ ∃ q : Nat, q < 4294967296 ∧ (∀ i, q.testBit i = (decide (i < j) && pb o s 1 x i)) ∧ m = .int .u32 (q : Int)) (fun _ i => 16 - (intOf i).toNat)
  case atStart => exact ⟨0, by omega, rfl, 0, by decide, fun i => by simp, rfl⟩
  case round =>
    obtain ⟨j, hj, rfl, q, hq, hb, rfl⟩ := hrel
    have HB := Lib.hid hb
    clear hb
    by_cases hlt : j < 16
    · have HW := Lib.hid (rwith_any q (j : Int) w5 hq)
      have HQ := Lib.hid (wi_lt q (j : Int) hq)
      by_cases h1 : (j : Int) = x
      · have e1 : ((j : Int) != x) = false := by simpa using h1
        have HP : Hid (pb o s 1 x j = false) := Lib.hid (by simp [pb, h1])
        clear h1
        go_wp2_with fail
        go_round
        case rel => exact ⟨j + 1, by omega, by go_num, q, hq, bits_no HB.out HP.out, rfl⟩
        case measure => simp [intOf]; omega
      · have e1 : ((j : Int) != x) = true := by simpa using h1
        by_cases h2 : o = (j : Int)
        · have e2 : (o == (j : Int)) = true := by simpa using h2
          have HP : Hid (pb o s 1 x j = true) := Lib.hid (by simp [pb, h1, h2])
          clear h1 h2
          go_wp2_with (go_at_call 29; ((with_reducible refine HW.out.mono ?_); rintro e w' ⟨rfl, rfl⟩))
          go_round
          case rel => exact ⟨j + 1, by omega, by go_num, wi q (j : Int), HQ.out, bits_yes (by omega) HB.out HP.out, rfl⟩
          case measure => simp [intOf]; omega
        · have e2 : (o == (j : Int)) = false := by simpa using h2
          have HP : Hid (pb o s 1 x j = false) := Lib.hid (by simp [pb, h2])
          clear h1 h2
          go_wp2_with fail
          go_round
          case rel => exact ⟨j + 1, by omega, by go_num, q, hq, bits_no HB.out HP.out, rfl⟩
          case measure => simp [intOf]; omega
    · obtain rfl : j = 16 := by omega
      go_wp2_with fail
      go_ret3
      exact ⟨by rw [HF.out q HB.out]; rfl, HG5.out⟩
set_option maxRecDepth 1000000 in
set_option maxHeartbeats 4000000 in
theorem rasked_2 (o : Int) (s : Nat) (x : Int) (w : World) (hs : s < 4294967296) (hask : ask ⟨o, s⟩ 2 x = true) : Calls Tryd.prog 12 #[.agg #[.int .i64 o, .int .u32 (s : Int)], .int .u8 2, .int .i64 x] w fun e w' => e = told (asks o s 2 x, 5, 0) ∧ w.grownBy w' none := by
  have HE0 : Hid ((w.alloc (.cells #[.int .i64 o, .int .u32 (s : Int)] 25)).heap[w.heap.size]? = some (.cells #[.int .i64 o, .int .u32 (s : Int)] 25 (0, 0))) := Lib.hid (heap_alloc_new _ _)
  have HG0 : Hid (w.grownBy (w.alloc (.cells #[.int .i64 o, .int .u32 (s : Int)] 25)) none) := Lib.hid (grown_alloc (grown_refl _ _) _)
  have HM : Hid (∀ w, _) := Lib.hid fun w => rask_any o s 2 x w hs
  have HF := Lib.hid (fun m h => asks_bits o s 2 x m (ask_parts hask).1 (.inr rfl) h)
  rw [hask] at HM
  have HS := Lib.hid hs
  clear hask hs
  go_enter Tryd.func12, Tryd.ntmps12
  go_wp2_with (first
    | ((with_reducible refine load_en _ _ _ _ _ w.heap.size ?_ HE0.out ?_); (rfl))
    | (go_at_call 27; ((with_reducible refine (HM.out _).mono ?_); rintro e w5 ⟨rfl, hg5⟩; have HG5 := Lib.hid (grown_trans HG0.out hg5); obtain ⟨c0, c1⟩ := cells2 (row_grown HE0.out hg5); clear hg5)))
  go_loop [10, 11] (fun m i => ∃ j : Nat, j ≤ 16 ∧ i = .int .i64 (j : Int) ∧ ∃ q : Nat, q < 4294967296 ∧ (∀ i, q.testBit i = (decide (i < j) && pb o s 2 x i)) ∧ m = .int .u32 (q : Int)) (fun _ i => 16 - (intOf i).toNat)
  case atStart => exact ⟨0, by omega, rfl, 0, by decide, fun i => by simp, rfl⟩
  case round =>
    obtain ⟨j, hj, rfl, q, hq, hb, rfl⟩ := hrel
    have HB := Lib.hid hb
    clear hb
    by_cases hlt : j < 16
    · have HW := Lib.hid (rwith_any q (j : Int) w5 hq)
      have HQ := Lib.hid (wi_lt q (j : Int) hq)
      by_cases h1 : (j : Int) = x
      · have e1 : ((j : Int) != x) = false := by simpa using h1
        have HP : Hid (pb o s 2 x j = false) := Lib.hid (by simp [pb, h1])
        clear h1
        go_wp2_with fail
        go_round
        case rel => exact ⟨j + 1, by omega, by go_num, q, hq, bits_no HB.out HP.out, rfl⟩
        case measure => simp [intOf]; omega
      · have e1 : ((j : Int) != x) = true := by simpa using h1
        by_cases h2 : o = (j : Int)
        · have e2 : (o == (j : Int)) = true := by simpa using h2
          have HP : Hid (pb o s 2 x j = true) := Lib.hid (by simp [pb, h1, h2])
          clear h1 h2
          go_wp2_with (go_at_call 29; ((with_reducible refine HW.out.mono ?_); rintro e w' ⟨rfl, rfl⟩))
          go_round
          case rel => exact ⟨j + 1, by omega, by go_num, wi q (j : Int), HQ.out, bits_yes (by omega) HB.out HP.out, rfl⟩
          case measure => simp [intOf]; omega
        · have e2 : (o == (j : Int)) = false := by simpa using h2
          have hh := rhas_in s j w5 HS.out (by omega)
          cases ht : s.testBit j
          · have HP : Hid (pb o s 2 x j = false) := Lib.hid (by simp [pb, h2, ht])
            rw [ht] at hh
            have HH := Lib.hid hh
            clear h1 h2 ht hh
            go_wp2_with (go_at_call 28; ((with_reducible refine HH.out.mono ?_); rintro e w' ⟨rfl, rfl⟩))
            go_round
            case rel => exact ⟨j + 1, by omega, by go_num, q, hq, bits_no HB.out HP.out, rfl⟩
            case measure => simp [intOf]; omega
          · have HP : Hid (pb o s 2 x j = true) := Lib.hid (by simp [pb, h1, h2, ht])
            rw [ht] at hh
            have HH := Lib.hid hh
            clear h1 h2 ht hh
            go_wp2_with (first
              | (go_at_call 28; ((with_reducible refine HH.out.mono ?_); rintro e w' ⟨rfl, rfl⟩))
              | (go_at_call 29; ((with_reducible refine HW.out.mono ?_); rintro e w' ⟨rfl, rfl⟩)))
            go_round
            case rel => exact ⟨j + 1, by omega, by go_num, wi q (j : Int), HQ.out, bits_yes (by omega) HB.out HP.out, rfl⟩
            case measure => simp [intOf]; omega
    · obtain rfl : j = 16 := by omega
      go_wp2_with fail
      go_ret3
      exact ⟨by rw [HF.out q HB.out]; rfl, HG5.out⟩

theorem rasked_any (o : Int) (s : Nat) (k x : Int) (w : World) (hs : s < 4294967296) : Calls Tryd.prog 12 #[.agg #[.int .i64 o, .int .u32 (s : Int)], .int .u8 k, .int .i64 x] w fun e w' => e = told (asked ⟨o, s⟩ k x) ∧ w.grownBy w' none := by
  unfold asked
  cases hask : ask ⟨o, s⟩ k x
  · rw [if_neg (by simp)]
    have HE0 : Hid ((w.alloc (.cells #[.int .i64 o, .int .u32 (s : Int)] 25)).heap[w.heap.size]? = some (.cells #[.int .i64 o, .int .u32 (s : Int)] 25 (0, 0))) := Lib.hid (heap_alloc_new _ _)
    have HG0 : Hid (w.grownBy (w.alloc (.cells #[.int .i64 o, .int .u32 (s : Int)] 25)) none) := Lib.hid (grown_alloc (grown_refl _ _) _)
    have HM : Hid (∀ w, _) := Lib.hid fun w => rask_any o s k x w hs
    rw [hask] at HM
    clear hask hs
    go_enter Tryd.func12, Tryd.ntmps12
    go_wp2_with (first
      | ((with_reducible refine load_en _ _ _ _ _ w.heap.size ?_ HE0.out ?_); (rfl))
      | (go_at_call 27; ((with_reducible refine (HM.out _).mono ?_); rintro e w5 ⟨rfl, hg5⟩; have HG5 := Lib.hid (grown_trans HG0.out hg5); clear hg5)))
    go_ret3
    exact ⟨rfl, HG5.out⟩
  · rw [if_pos rfl]
    rcases (ask_parts hask).2.2 with rfl | rfl
    · exact rasked_1 o s x w hs hask
    · exact rasked_2 o s x w hs hask
end Go.Proofs.YtplebmafdfciaaaDoor.en
