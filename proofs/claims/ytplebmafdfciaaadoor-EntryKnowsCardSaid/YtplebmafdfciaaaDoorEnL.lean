/-
  What an ask makes of an entry, as the document's own text answers: contract. No condition but the bounds that each theorem names.
-/
import Derived.Test.YtplebmafdfciaaaDoorEnK
namespace Go.Proofs.YtplebmafdfciaaaDoor.en
open Go Go.ChangeShapes Go.WideShapes Go.ChangeAt Go.RowKit
open Go.Proofs.YtplebmafdfciaaaDoor.mm (wi wo pop wi_lt wo_lt wi_in wi_out wo_in wo_out in_or ones Tab rwith_any rwout_any rhas_in)
set_option linter.unusedVariables false

theorem pop_step (A B x : Nat) (h : ∀ i, A.testBit i = (B.testBit i || decide (i = x))) (hx : B.testBit x = false) : ∀ n, pop A n = pop B n + if x < n then 1 else 0
  | 0 => rfl
  | n + 1 => by
    show pop A n + _ = pop B n + _ + _
    rw [pop_step A B x h hx n, h n]
    by_cases e : n = x
    · subst e; simp [hx]
    · by_cases hl : x < n
      · simp [e, hl, show x < n + 1 by omega]; omega
      · simp [e, hl, show ¬ x < n + 1 by omega]
theorem pop_zero (m : Nat) : ∀ n, pop m n = 0 → ∀ i, i < n → m.testBit i = false
  | 0, _, i, hi => by omega
  | n + 1, h, i, hi => by
    have h' : pop m n + (m.testBit n).toNat = 0 := h
    by_cases e : i = n
    · subst e
      cases hb : m.testBit i
      · rfl
      · rw [hb] at h'; simp at h'
    · exact pop_zero m n (by omega) i (by omega)
theorem pop_of_zero : ∀ n, pop 0 n = 0
  | 0 => rfl
  | n + 1 => by
    show pop 0 n + _ = 0
    rw [pop_of_zero n]; simp
/-- x is the only one just if there is none but x. -/
theorem only_one (m : Nat) (x : Int) (hm : m < 4294967296) (h0 : 0 ≤ x) (h1 : x < 32) : pop (wi m x) 32 = 1 ↔ wo m x = 0 := by
  obtain ⟨k, rfl⟩ : ∃ k : Nat, x = (k : Int) := ⟨x.toNat, by omega⟩
  have hs := pop_step (wi m k) (wo m k) k (fun i => by
    rw [wi_bit m k (by omega), wo_bit m k hm]
    by_cases e : (i : Int) = (k : Int)
    · have e' : i = k := by omega
      subst e'; simp
    · have e1 : decide ((k : Int) = (i : Int)) = false := decide_eq_false (by omega)
      have e2 : decide (i = k) = false := decide_eq_false (by omega)
      have e3 : decide ((i : Int) = (k : Int)) = false := decide_eq_false e
      rw [e1, e2, e3]; simp) (by rw [wo_bit m k hm]; simp) 32
  rw [if_pos (by omega)] at hs
  constructor
  · intro h
    have hz := pop_zero (wo m k) 32 (by omega)
    apply Nat.eq_of_testBit_eq
    intro i
    rw [Nat.zero_testBit]
    by_cases hi : i < 32
    · exact hz i hi
    · exact Nat.testBit_lt_two_pow (Nat.lt_of_lt_of_le (wo_lt m k hm) (by show 2 ^ 32 ≤ 2 ^ i; exact Nat.pow_le_pow_right (by decide) (by omega)))
  · intro h
    rw [hs, h, pop_of_zero]
theorem pop_two : ∀ a b : Fin 16, a ≠ b → pop ((0 ||| 2 ^ a.val) ||| 2 ^ b.val) 32 = 2 := by decide +kernel

/-- The document's words. -/
theorem gets_doc (o : Int) (s : Nat) (k x : Int) (h : ask ⟨o, s⟩ k x = true) :
    gets ⟨o, s⟩ k x = if k = 2 then (⟨x, 0⟩, 3, 0) else if 0 ≤ o ∧ o ≠ x then (⟨-1, wi (wi 0 o) x⟩, 1, 0) else if wo s x = 0 then (⟨x, 0⟩, 2, 0) else (⟨-1, wi s x⟩, 1, 0) := by
  obtain ⟨hm, hx, hk⟩ := ask_parts h
  obtain ⟨h1, h2, h3, h4⟩ := may_parts hm
  unfold gets
  rw [if_pos h]
  by_cases hk2 : k = 2
  · rw [if_pos hk2, if_pos hk2]
  · rw [if_neg hk2, if_neg hk2]
    by_cases ho : 0 ≤ o
    · obtain rfl : s = 0 := h4 (by omega)
      obtain ⟨a, rfl⟩ : ∃ a : Nat, o = (a : Int) := ⟨o.toNat, by omega⟩
      obtain ⟨c, rfl⟩ : ∃ c : Nat, x = (c : Int) := ⟨x.toNat, by omega⟩
      by_cases he : (a : Int) = (c : Int)
      · rw [if_neg (c := (0 : Int) ≤ (a : Int) ∧ (a : Int) ≠ (c : Int)) (fun h => h.2 he)]
        have hac : a = c := by omega
        subst hac
        have hz : wo 0 (a : Int) = 0 := by
          rw [wo_in 0 a (by omega)]; simp
        have hw : wi (wi 0 (a : Int)) (a : Int) = wi 0 (a : Int) := by
          rw [wi_in 0 a (by omega), wi_in _ a (by omega)]; simp
        show (if pop (wi (wi 0 (a : Int)) (a : Int)) 32 = 1 then _ else _) = _
        rw [hw, if_pos hz, if_pos ((only_one 0 a (by decide) (by omega) (by omega)).2 hz)]
      · rw [if_pos (c := (0 : Int) ≤ (a : Int) ∧ (a : Int) ≠ (c : Int)) ⟨ho, he⟩]
        have hp := pop_two ⟨a, by omega⟩ ⟨c, by omega⟩ (by simp; omega)
        have hw : wi (wi 0 (a : Int)) (c : Int) = (0 ||| 2 ^ a) ||| 2 ^ c := by rw [wi_in 0 a (by omega), wi_in _ c (by omega)]
        show (if pop (wi (wi 0 (a : Int)) (c : Int)) 32 = 1 then _ else _) = _
        rw [if_neg]
        rw [hw]
        have : pop ((0 ||| 2 ^ a) ||| 2 ^ c) 32 = 2 := hp
        omega
    · obtain rfl : o = -1 := by omega
      rw [if_neg (c := (0 : Int) ≤ -1 ∧ (-1 : Int) ≠ x) (fun h => ho h.1)]
      show (if pop (wi (wi s (-1)) x) 32 = 1 then _ else ((⟨-1, wi (wi s (-1)) x⟩, 1, 0) : En × Int × Int)) = _
      rw [wi_out s (-1) (by omega)]
      by_cases hz : wo s x = 0
      · rw [if_pos hz, if_pos ((only_one s x (by omega) hx.1 (by omega)).2 hz)]
      · rw [if_neg hz, if_neg (fun h => hz ((only_one s x (by omega) hx.1 (by omega)).1 h))]

set_option maxRecDepth 1000000 in
set_option maxHeartbeats 1000000 in
theorem rgets_any (o : Int) (s : Nat) (k x : Int) (w : World) (hs : s < 4294967296) : Calls Tryd.prog 15 #[.agg #[.int .i64 o, .int .u32 (s : Int)], .int .u8 k, .int .i64 x] w fun e w' => e = got (gets ⟨o, s⟩ k x) ∧ w.grownBy w' none := by
  have HA := Lib.hid (put2_old w (.int .i64 o) (.int .u32 (s : Int)) (.int .i64 0) (.int .u32 0) 25)
  have HB := Lib.hid (put2_new w (.int .i64 o) (.int .u32 (s : Int)) (.int .i64 0) (.int .u32 0) 25)
  have HG0 : Hid (w.grownBy ((w.alloc (.cells #[.int .i64 o, .int .u32 (s : Int)] 25)).alloc (.cells #[.int .i64 0, .int .u32 0] 25)) none) := Lib.hid (grown_alloc (grown_alloc (grown_refl _ _) _) _)
  have HM : Hid (∀ w, _) := Lib.hid fun w => rask_any o s k x w hs
  cases hask : ask ⟨o, s⟩ k x
  · have hgt : gets ⟨o, s⟩ k x = (⟨0, 0⟩, 0, 2) := by unfold gets; rw [if_neg (by rw [hask]; simp)]
    rw [hgt]
    rw [hask] at HM
    clear hask hs hgt
    go_enter Tryd.func15, Tryd.ntmps15
    go_wp2_with (first
      | ((with_reducible refine load_en _ _ _ _ _ w.heap.size ?_ HA.out ?_); (rfl))
      | (go_at_call 27; ((with_reducible refine (HM.out _).mono ?_); rintro e w5 ⟨rfl, hg5⟩; have HA5 := Lib.hid (row_grown HA.out hg5); obtain ⟨c0, c1⟩ := cells2 HA5.out; have HB5 := Lib.hid (row_grown HB.out hg5); have HG5 := Lib.hid (grown_trans HG0.out hg5); clear hg5))
      | ((with_reducible refine store_en 0 0 _ _ _ _ (w.heap.size + 1) ?_ ?_ HB5.out ?_ ?_); (rfl); (rfl); (rfl)))
    refine ret3 rfl (by rfl) rfl rfl (setRow_heap _ _ _ _ _ _ HB5.out) ?_
    exact ⟨rfl, grown_setRow HG5.out _ (by omega) _⟩
  · rw [gets_doc o s k x hask]
    rw [hask] at HM
    clear hask
    by_cases hk : k = 2
    · subst hk
      rw [if_pos rfl]
      clear hs
      go_enter Tryd.func15, Tryd.ntmps15
      go_wp2_with (first
        | ((with_reducible refine load_en _ _ _ _ _ w.heap.size ?_ HA.out ?_); (rfl))
        | (go_at_call 27; ((with_reducible refine (HM.out _).mono ?_); rintro e w5 ⟨rfl, hg5⟩; have HA5 := Lib.hid (row_grown HA.out hg5); obtain ⟨c0, c1⟩ := cells2 HA5.out; have HB5 := Lib.hid (row_grown HB.out hg5); have HG5 := Lib.hid (grown_trans HG0.out hg5); clear hg5))
        | ((with_reducible refine store_en x 0 _ _ _ _ (w.heap.size + 1) ?_ ?_ HB5.out ?_ ?_); (rfl); (rfl); (rfl)))
      refine ret3 rfl (by rfl) rfl rfl (setRow_heap _ _ _ _ _ _ HB5.out) ?_
      exact ⟨rfl, grown_setRow HG5.out _ (by omega) _⟩
    · rw [if_neg hk]
      have ek : (k == 2) = false := by simpa using hk
      clear hk
      by_cases ho : 0 ≤ o ∧ o ≠ x
      · rw [if_pos ho]
        have e1 : decide (0 ≤ o) = true := decide_eq_true ho.1
        have e2 : (o != x) = true := by simpa using ho.2
        have HW1 : Hid (∀ w, Calls Tryd.prog 29 #[.int .u32 0, .int .i64 o] w fun e w' => e = .returned (.int .u32 (wi 0 o : Nat)) ∧ w = w') := Lib.hid fun w => rwith_any 0 o w (by decide)
        have HW2 : Hid (∀ w, _) := Lib.hid fun w => rwith_any (wi 0 o) x w (wi_lt 0 o (by decide))
        clear ho hs
        generalize wi (wi 0 o) x = p at HW2 ⊢
        generalize wi 0 o = m at HW1 HW2
        go_enter Tryd.func15, Tryd.ntmps15
        go_wp2_with (first
          | ((with_reducible refine load_en _ _ _ _ _ w.heap.size ?_ HA.out ?_); (rfl))
          | (go_at_call 27; ((with_reducible refine (HM.out _).mono ?_); rintro e w5 ⟨rfl, hg5⟩; have HA5 := Lib.hid (row_grown HA.out hg5); obtain ⟨c0, c1⟩ := cells2 HA5.out; have HB5 := Lib.hid (row_grown HB.out hg5); have HG5 := Lib.hid (grown_trans HG0.out hg5); clear hg5))
          | (go_at_call 29; ((with_reducible refine (HW1.out _).mono ?_); rintro e w6 ⟨rfl, rfl⟩))
          | (go_at_call 29; ((with_reducible refine (HW2.out _).mono ?_); rintro e w6 ⟨rfl, rfl⟩))
          | ((with_reducible refine store_en (-1) (p : Int) _ _ _ _ (w.heap.size + 1) ?_ ?_ HB5.out ?_ ?_); (rfl); (rfl); (rfl)))
        refine ret3 rfl (by rfl) rfl rfl (setRow_heap _ _ _ _ _ _ HB5.out) ?_
        exact ⟨rfl, grown_setRow HG5.out _ (by omega) _⟩
      · rw [if_neg ho]
        have HWO : Hid (∀ w, _) := Lib.hid fun w => rwout_any s x w hs
        have HW2 : Hid (∀ w, _) := Lib.hid fun w => rwith_any s x w hs
        have cases_o : (∃ u, decide (0 ≤ o) = u ∧ (u = true → (o != x) = false)) := ⟨_, rfl, fun h => by
          have := of_decide_eq_true h
          have : o = x := by
            by_cases e : o = x
            · exact e
            · exact absurd ⟨by assumption, e⟩ ho
          simp [this]⟩
        obtain ⟨u, e1, e2⟩ := cases_o
        clear ho hs
        generalize wi s x = p at HW2 ⊢
        by_cases hz : wo s x = 0
        · rw [if_pos hz]
          rw [hz] at HWO
          clear hz HW2
          cases u
          · clear e2
            go_enter Tryd.func15, Tryd.ntmps15
            go_wp2_with (first
              | ((with_reducible refine load_en _ _ _ _ _ w.heap.size ?_ HA.out ?_); (rfl))
              | (go_at_call 27; ((with_reducible refine (HM.out _).mono ?_); rintro e w5 ⟨rfl, hg5⟩; have HA5 := Lib.hid (row_grown HA.out hg5); obtain ⟨c0, c1⟩ := cells2 HA5.out; have HB5 := Lib.hid (row_grown HB.out hg5); have HG5 := Lib.hid (grown_trans HG0.out hg5); clear hg5))
              | (go_at_call 30; ((with_reducible refine (HWO.out _).mono ?_); rintro e w6 ⟨rfl, rfl⟩))
              | ((with_reducible refine store_en x 0 _ _ _ _ (w.heap.size + 1) ?_ ?_ HB5.out ?_ ?_); (rfl); (rfl); (rfl)))
            refine ret3 rfl (by rfl) rfl rfl (setRow_heap _ _ _ _ _ _ HB5.out) ?_
            exact ⟨rfl, grown_setRow HG5.out _ (by omega) _⟩
          · have e3 := e2 rfl
            clear e2
            go_enter Tryd.func15, Tryd.ntmps15
            go_wp2_with (first
              | ((with_reducible refine load_en _ _ _ _ _ w.heap.size ?_ HA.out ?_); (rfl))
              | (go_at_call 27; ((with_reducible refine (HM.out _).mono ?_); rintro e w5 ⟨rfl, hg5⟩; have HA5 := Lib.hid (row_grown HA.out hg5); obtain ⟨c0, c1⟩ := cells2 HA5.out; have HB5 := Lib.hid (row_grown HB.out hg5); have HG5 := Lib.hid (grown_trans HG0.out hg5); clear hg5))
              | (go_at_call 30; ((with_reducible refine (HWO.out _).mono ?_); rintro e w6 ⟨rfl, rfl⟩))
              | ((with_reducible refine store_en x 0 _ _ _ _ (w.heap.size + 1) ?_ ?_ HB5.out ?_ ?_); (rfl); (rfl); (rfl)))
            refine ret3 rfl (by rfl) rfl rfl (setRow_heap _ _ _ _ _ _ HB5.out) ?_
            exact ⟨rfl, grown_setRow HG5.out _ (by omega) _⟩
        · rw [if_neg hz]
          have ez : (((wo s x : Nat) : Int) == 0) = false := by simp; omega
          clear hz
          generalize wo s x = m at HWO ez
          cases u
          · clear e2
            go_enter Tryd.func15, Tryd.ntmps15
            go_wp2_with (first
              | ((with_reducible refine load_en _ _ _ _ _ w.heap.size ?_ HA.out ?_); (rfl))
              | (go_at_call 27; ((with_reducible refine (HM.out _).mono ?_); rintro e w5 ⟨rfl, hg5⟩; have HA5 := Lib.hid (row_grown HA.out hg5); obtain ⟨c0, c1⟩ := cells2 HA5.out; have HB5 := Lib.hid (row_grown HB.out hg5); have HG5 := Lib.hid (grown_trans HG0.out hg5); clear hg5))
              | (go_at_call 30; ((with_reducible refine (HWO.out _).mono ?_); rintro e w6 ⟨rfl, rfl⟩))
              | (go_at_call 29; ((with_reducible refine (HW2.out _).mono ?_); rintro e w6 ⟨rfl, rfl⟩))
              | ((with_reducible refine store_en (-1) (p : Int) _ _ _ _ (w.heap.size + 1) ?_ ?_ HB5.out ?_ ?_); (rfl); (rfl); (rfl)))
            refine ret3 rfl (by rfl) rfl rfl (setRow_heap _ _ _ _ _ _ HB5.out) ?_
            exact ⟨rfl, grown_setRow HG5.out _ (by omega) _⟩
          · have e3 := e2 rfl
            clear e2
            go_enter Tryd.func15, Tryd.ntmps15
            go_wp2_with (first
              | ((with_reducible refine load_en _ _ _ _ _ w.heap.size ?_ HA.out ?_); (rfl))
              | (go_at_call 27; ((with_reducible refine (HM.out _).mono ?_); rintro e w5 ⟨rfl, hg5⟩; have HA5 := Lib.hid (row_grown HA.out hg5); obtain ⟨c0, c1⟩ := cells2 HA5.out; have HB5 := Lib.hid (row_grown HB.out hg5); have HG5 := Lib.hid (grown_trans HG0.out hg5); clear hg5))
              | (go_at_call 30; ((with_reducible refine (HWO.out _).mono ?_); rintro e w6 ⟨rfl, rfl⟩))
              | (go_at_call 29; ((with_reducible refine (HW2.out _).mono ?_); rintro e w6 ⟨rfl, rfl⟩))
              | ((with_reducible refine store_en (-1) (p : Int) _ _ _ _ (w.heap.size + 1) ?_ ?_ HB5.out ?_ ?_); (rfl); (rfl); (rfl)))
            refine ret3 rfl (by rfl) rfl rfl (setRow_heap _ _ _ _ _ _ HB5.out) ?_
            exact ⟨rfl, grown_setRow HG5.out _ (by omega) _⟩
end Go.Proofs.YtplebmafdfciaaaDoor.en
