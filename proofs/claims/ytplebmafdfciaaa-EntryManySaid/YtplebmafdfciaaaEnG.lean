/-
  The law's own 'works'; what a block that goes back makes of an entry by the document's own text; the law EntryBacks returns true: contracts. No condition but the bounds that each theorem names.
-/
import Derived.Test.YtplebmafdfciaaaEnF
namespace Go.Proofs.Ytplebmafdfciaaa.en
open Go Go.ChangeShapes Go.WideShapes Go.ChangeAt Go.RowKit
open Go.Proofs.Ytplebmafdfciaaa.mm (wi wo ha pop wi_lt wo_lt with_any count_any)
set_option linter.unusedVariables false

theorem gets_free : gets ⟨-1, 0⟩ 1 1 = (⟨1, 0⟩, 2, 0) := by decide +kernel
theorem eq_same (a b : Int) (w : World) : (binOp .eql 25 (.agg #[.int .i64 a, .int .u32 b]) (.agg #[.int .i64 a, .int .u32 b])).run Try.prog w = .ok (.bool true) w := by
  rw [eqE]; simp
theorem ne_same (a b : Int) (w : World) : (binOp .neq 25 (.agg #[.int .i64 a, .int .u32 b]) (.agg #[.int .i64 a, .int .u32 b])).run Try.prog w = .ok (.bool false) w := by
  rw [neE]; simp

set_option maxRecDepth 1000000 in
set_option maxHeartbeats 1000000 in
theorem works_any (w : World) : Calls Try.prog 7 #[] w fun e w' => e = .returned (.bool true) ∧ w.grownBy w' none := by
  have HF : Hid (∀ w, _) := Lib.hid fun w => free_any w
  have HG : Hid (∀ w, Calls Try.prog 9 #[.agg #[.int .i64 (-1), .int .u32 0], .int .u8 1, .int .i64 1] w fun e w' => e = .returned (.tuple #[.agg #[.int .i64 1, .int .u32 0], .int .u8 2, .int .i64 0]) ∧ w.grownBy w' none) := Lib.hid fun w => by
    have := gets_any (-1) 0 1 1 w (by decide)
    rw [gets_free] at this
    exact this
  have he := eq_same
  go_enter Try.func7, Try.ntmps7
  go_wp2_with (first
    | (go_at_call 8; ((with_reducible refine (HF.out _).mono ?_); rintro e w5 ⟨rfl, hg5⟩; have HG5 := Lib.hid hg5; clear hg5))
    | (go_at_call 9; ((with_reducible refine (HG.out _).mono ?_); rintro e w6 ⟨rfl, hg6⟩; have HG6 := Lib.hid (grown_trans HG5.out hg6); clear hg6))
    | ((with_reducible refine store_enN 1 0 _ _ _ _ ?_ ?_ ?_ ?_); (rfl); (rfl); (rfl)))
  go_ret
  exact ⟨rfl, grown_trans (grown_alloc HG6.out _) HG5.out⟩

set_option maxRecDepth 1000000 in
set_option maxHeartbeats 1000000 in
theorem rback_any (o : Int) (s : Nat) (x : Int) (st : Bool) (w : World) (hs : s < 4294967296) : Calls Try.prog 6 #[.agg #[.int .i64 o, .int .u32 (s : Int)], .int .i64 x, .bool st] w fun e w' => e = gone (back ⟨o, s⟩ x st) ∧ w.grownBy w' none := by
  have HA := Lib.hid (put2_old w (.int .i64 o) (.int .u32 (s : Int)) (.int .i64 0) (.int .u32 0) 25)
  have HB := Lib.hid (put2_new w (.int .i64 o) (.int .u32 (s : Int)) (.int .i64 0) (.int .u32 0) 25)
  have HG0 : Hid (w.grownBy ((w.alloc (.cells #[.int .i64 o, .int .u32 (s : Int)] 25)).alloc (.cells #[.int .i64 0, .int .u32 0] 25)) none) := Lib.hid (grown_alloc (grown_alloc (grown_refl _ _) _) _)
  have HM : Hid (∀ w, _) := Lib.hid fun w => rmay_any o s w hs
  unfold back
  cases hm : En.may ⟨o, s⟩
  · rw [if_neg (by simp)]
    rw [hm] at HM
    clear hm hs
    go_enter Try.func6, Try.ntmps6
    go_wp2_with (first
      | ((with_reducible refine load_en _ _ _ _ _ w.heap.size ?_ HA.out ?_); (rfl))
      | (go_at_call 15; ((with_reducible refine (HM.out _).mono ?_); rintro e w5 ⟨rfl, hg5⟩; have HB5 := Lib.hid (row_grown HB.out hg5); have HG5 := Lib.hid (grown_trans HG0.out hg5); clear hg5))
      | ((with_reducible refine store_en 0 0 _ _ _ _ (w.heap.size + 1) ?_ ?_ HB5.out ?_ ?_); (rfl); (rfl); (rfl)))
    refine ret3 rfl (by rfl) rfl rfl (setRow_heap _ _ _ _ _ _ HB5.out) ?_
    exact ⟨rfl, grown_setRow HG5.out _ (by omega) _⟩
  · rw [hm] at HM
    clear hm hs
    by_cases h0 : 0 ≤ x
    · have e0 : decide (x < 0) = false := decide_eq_false (by omega)
      by_cases h1 : x ≤ 15
      · have e1 : decide (15 < x) = false := decide_eq_false (by omega)
        rw [if_pos (by simp [h0, h1])]
        clear h0 h1
        by_cases ho : o = x
        · subst ho
          rw [if_pos rfl]
          cases st
          · go_enter Try.func6, Try.ntmps6
            go_wp2_with (first
              | ((with_reducible refine load_en _ _ _ _ _ w.heap.size ?_ HA.out ?_); (rfl))
              | (go_at_call 15; ((with_reducible refine (HM.out _).mono ?_); rintro e w5 ⟨rfl, hg5⟩; have HA5 := Lib.hid (row_grown HA.out hg5); obtain ⟨c0, c1⟩ := cells2 HA5.out; have HB5 := Lib.hid (row_grown HB.out hg5); have HG5 := Lib.hid (grown_trans HG0.out hg5); clear hg5))
              | ((with_reducible refine store_en (-1) 0 _ _ _ _ (w.heap.size + 1) ?_ ?_ HB5.out ?_ ?_); (rfl); (rfl); (rfl)))
            refine ret3 rfl (by rfl) rfl rfl (setRow_heap _ _ _ _ _ _ HB5.out) ?_
            exact ⟨rfl, grown_setRow HG5.out _ (by omega) _⟩
          · go_enter Try.func6, Try.ntmps6
            go_wp2_with (first
              | ((with_reducible refine load_en _ _ _ _ _ w.heap.size ?_ HA.out ?_); (rfl))
              | (go_at_call 15; ((with_reducible refine (HM.out _).mono ?_); rintro e w5 ⟨rfl, hg5⟩; have HA5 := Lib.hid (row_grown HA.out hg5); obtain ⟨c0, c1⟩ := cells2 HA5.out; have HB5 := Lib.hid (row_grown HB.out hg5); have HG5 := Lib.hid (grown_trans HG0.out hg5); clear hg5))
              | ((with_reducible refine load_en _ _ _ _ _ w.heap.size ?_ HA5.out ?_); (rfl))
              | ((with_reducible refine store_en o (s : Int) _ _ _ _ (w.heap.size + 1) ?_ ?_ HB5.out ?_ ?_); (rfl); (rfl); (rfl)))
            refine ret3 rfl (by rfl) rfl rfl (setRow_heap _ _ _ _ _ _ HB5.out) ?_
            exact ⟨rfl, grown_setRow HG5.out _ (by omega) _⟩
        · have e2 : (o != x) = true := by simpa using ho
          rw [if_neg (show ¬ (⟨o, s⟩ : En).o = x from ho)]
          clear ho
          go_enter Try.func6, Try.ntmps6
          go_wp2_with (first
            | ((with_reducible refine load_en _ _ _ _ _ w.heap.size ?_ HA.out ?_); (rfl))
            | (go_at_call 15; ((with_reducible refine (HM.out _).mono ?_); rintro e w5 ⟨rfl, hg5⟩; have HA5 := Lib.hid (row_grown HA.out hg5); obtain ⟨c0, c1⟩ := cells2 HA5.out; have HB5 := Lib.hid (row_grown HB.out hg5); have HG5 := Lib.hid (grown_trans HG0.out hg5); clear hg5))
            | ((with_reducible refine load_en _ _ _ _ _ w.heap.size ?_ HA5.out ?_); (rfl))
            | ((with_reducible refine store_en o (s : Int) _ _ _ _ (w.heap.size + 1) ?_ ?_ HB5.out ?_ ?_); (rfl); (rfl); (rfl)))
          refine ret3 rfl (by rfl) rfl rfl (setRow_heap _ _ _ _ _ _ HB5.out) ?_
          exact ⟨rfl, grown_setRow HG5.out _ (by omega) _⟩
      · have e1 : decide (15 < x) = true := decide_eq_true (by omega)
        rw [if_neg (by simp; omega)]
        clear h0 h1
        go_enter Try.func6, Try.ntmps6
        go_wp2_with (first
          | ((with_reducible refine load_en _ _ _ _ _ w.heap.size ?_ HA.out ?_); (rfl))
          | (go_at_call 15; ((with_reducible refine (HM.out _).mono ?_); rintro e w5 ⟨rfl, hg5⟩; have HB5 := Lib.hid (row_grown HB.out hg5); have HG5 := Lib.hid (grown_trans HG0.out hg5); clear hg5))
          | ((with_reducible refine store_en 0 0 _ _ _ _ (w.heap.size + 1) ?_ ?_ HB5.out ?_ ?_); (rfl); (rfl); (rfl)))
        refine ret3 rfl (by rfl) rfl rfl (setRow_heap _ _ _ _ _ _ HB5.out) ?_
        exact ⟨rfl, grown_setRow HG5.out _ (by omega) _⟩
    · have e0 : decide (x < 0) = true := decide_eq_true (by omega)
      rw [if_neg (by simp; omega)]
      clear h0
      go_enter Try.func6, Try.ntmps6
      go_wp2_with (first
        | ((with_reducible refine load_en _ _ _ _ _ w.heap.size ?_ HA.out ?_); (rfl))
        | (go_at_call 15; ((with_reducible refine (HM.out _).mono ?_); rintro e w5 ⟨rfl, hg5⟩; have HB5 := Lib.hid (row_grown HB.out hg5); have HG5 := Lib.hid (grown_trans HG0.out hg5); clear hg5))
        | ((with_reducible refine store_en 0 0 _ _ _ _ (w.heap.size + 1) ?_ ?_ HB5.out ?_ ?_); (rfl); (rfl); (rfl)))
      refine ret3 rfl (by rfl) rfl rfl (setRow_heap _ _ _ _ _ _ HB5.out) ?_
      exact ⟨rfl, grown_setRow HG5.out _ (by omega) _⟩

set_option maxRecDepth 1000000 in
set_option maxHeartbeats 1000000 in
theorem backs_true (o : Int) (s : Nat) (x : Int) (st : Bool) (w : World) (hs : s < 4294967296) : Calls Try.prog 3 #[.agg #[.int .i64 o, .int .u32 (s : Int)], .int .i64 x, .bool st] w fun e w' => e = .returned (.bool true) ∧ w.grownBy w' none := by
  have HA : Hid ((w.alloc (.cells #[.int .i64 o, .int .u32 (s : Int)] 25)).heap[w.heap.size]? = some (.cells #[.int .i64 o, .int .u32 (s : Int)] 25 (0, 0))) := Lib.hid (heap_alloc_new _ _)
  have HG0 : Hid (w.grownBy (w.alloc (.cells #[.int .i64 o, .int .u32 (s : Int)] 25)) none) := Lib.hid (grown_alloc (grown_refl _ _) _)
  have HB : Hid (∀ w, _) := Lib.hid fun w => back_any o s x st w hs
  have HR : Hid (∀ w, _) := Lib.hid fun w => rback_any o s x st w hs
  have HW : Hid (∀ w, _) := Lib.hid fun w => works_any w
  obtain ⟨a, b, t, f, hr⟩ : ∃ a b t f, back ⟨o, s⟩ x st = (⟨a, b⟩, t, f) := ⟨_, _, _, _, rfl⟩
  rw [hr] at HB HR
  unfold gone at HB HR
  have he := eq_same
  have et : (t == t) = true := by simp
  have ef : (f == f) = true := by simp
  clear hr hs
  go_enter Try.func3, Try.ntmps3
  go_wp2_with (first
    | ((with_reducible refine load_en _ _ _ _ _ w.heap.size ?_ HA.out ?_); (rfl))
    | (go_at_call 5; ((with_reducible refine (HB.out _).mono ?_); rintro e w5 ⟨rfl, hg5⟩; have HA5 : Hid ((w5.alloc (.cells #[.int .i64 a, .int .u32 (b : Int)] 25)).heap[w.heap.size]? = _) := Lib.hid (row_grown HA.out (grown_alloc hg5 _)); have HP5 : Hid ((w5.alloc (.cells #[.int .i64 a, .int .u32 (b : Int)] 25)).heap[w5.heap.size]? = some (.cells #[.int .i64 a, .int .u32 (b : Int)] 25 (0, 0))) := Lib.hid (heap_alloc_new _ _); have HG5 : Hid (w.grownBy (w5.alloc (.cells #[.int .i64 a, .int .u32 (b : Int)] 25)) none) := Lib.hid (grown_alloc (grown_trans HG0.out hg5) _); clear hg5))
    | ((with_reducible refine store_enN a (b : Int) _ _ _ _ ?_ ?_ ?_ ?_); (rfl); (rfl); (rfl))
    | ((with_reducible refine load_en _ _ _ _ _ w.heap.size ?_ HA5.out ?_); (rfl))
    | (go_at_call 6; ((with_reducible refine (HR.out _).mono ?_); rintro e w6 ⟨rfl, hg6⟩; have HP6 : Hid ((w6.alloc (.cells #[.int .i64 a, .int .u32 (b : Int)] 25)).heap[w5.heap.size]? = _) := Lib.hid (row_grown HP5.out (grown_alloc hg6 _)); have HG6 : Hid (w.grownBy (w6.alloc (.cells #[.int .i64 a, .int .u32 (b : Int)] 25)) none) := Lib.hid (grown_alloc (grown_trans HG5.out hg6) _); clear hg6))
    | ((with_reducible refine load_en _ _ _ _ _ w5.heap.size ?_ HP6.out ?_); (rfl))
    | (go_at_call 7; ((with_reducible refine (HW.out _).mono ?_); rintro e w7 ⟨rfl, hg7⟩; have HG7 := Lib.hid (grown_trans HG6.out hg7); clear hg7)))
  go_ret
  exact ⟨rfl, HG7.out⟩
end Go.Proofs.Ytplebmafdfciaaa.en
