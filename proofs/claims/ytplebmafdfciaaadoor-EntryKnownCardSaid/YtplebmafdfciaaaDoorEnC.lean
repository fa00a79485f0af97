/-
  Whether an ask may be, who is known, the free entry; whether the document's own entry and ask may be: contracts. No condition but the bounds that each theorem names.
-/
import Derived.Test.YtplebmafdfciaaaDoorEnB
namespace Go.Proofs.YtplebmafdfciaaaDoor.en
open Go Go.ChangeShapes Go.WideShapes Go.ChangeAt Go.RowKit
open Go.Proofs.YtplebmafdfciaaaDoor.mm (wi wo ha pop wi_lt wo_lt with_any rhas_any rhas_in ret_i64 ret_bool ret_u32)
set_option linter.unusedVariables false

theorem known_any (o : Int) (s : Nat) (w : World) (hs : s < 4294967296) : Calls Tryd.prog 24 #[.agg #[.int .i64 o, .int .u32 (s : Int)]] w fun e w' => e = .returned (.int .u32 (wi s o : Nat)) ∧ w.grownBy w' none := by
  have HW := Lib.hid (with_any s o (w.alloc (.cells #[.int .i64 o, .int .u32 (s : Int)] 25)) hs)
  go_enter Tryd.func24, Tryd.ntmps24
  go_wp2_with (go_at_call 19; ((with_reducible refine HW.out.mono ?_); rintro e w' ⟨rfl, rfl⟩))
  go_ret
  exact ⟨rfl, grown_alloc (grown_refl _ _) _⟩
theorem lknown_any (o : Int) (s : Nat) (w : World) (hs : s < 4294967296) : Calls Tryd.prog 17 #[.agg #[.int .i64 o, .int .u32 (s : Int)]] w fun e w' => e = .returned (.int .u32 (wi s o : Nat)) ∧ w.grownBy w' none := by
  have HW := Lib.hid (with_any s o (w.alloc (.cells #[.int .i64 o, .int .u32 (s : Int)] 25)) hs)
  go_enter Tryd.func17, Tryd.ntmps17
  go_wp2_with (go_at_call 19; ((with_reducible refine HW.out.mono ?_); rintro e w' ⟨rfl, rfl⟩))
  go_ret
  exact ⟨rfl, grown_alloc (grown_refl _ _) _⟩
theorem free_any (w : World) : Calls Tryd.prog 11 #[] w fun e w' => e = .returned (.agg #[.int .i64 (-1), .int .u32 0]) ∧ w.grownBy w' none := by
  have HS : Hid (∀ w, _) := Lib.hid fun w => shared_any 0 w
  have HB : Hid ((w.alloc (.cells #[.int .i64 0, .int .u32 0] 25)).heap[w.heap.size]? = some (.cells #[.int .i64 0, .int .u32 0] 25 (0, 0))) := Lib.hid (heap_alloc_new _ _)
  have HG0 : Hid (w.grownBy (w.alloc (.cells #[.int .i64 0, .int .u32 0] 25)) none) := Lib.hid (grown_alloc (grown_refl _ _) _)
  go_enter Tryd.func11, Tryd.ntmps11
  go_wp2_with (first
    | (go_at_call 25; ((with_reducible refine (HS.out _).mono ?_); rintro e w5 ⟨rfl, hg5⟩; have HB5 := Lib.hid (row_grown HB.out hg5); have HG5 := Lib.hid hg5; clear hg5))
    | ((with_reducible refine store_en (-1) 0 _ _ _ _ w.heap.size ?_ ?_ HB5.out ?_ ?_); (rfl); (rfl); (rfl)))
  refine ret1 rfl (by rfl) (setRow_heap _ _ _ _ _ _ HB5.out) ?_
  exact ⟨rfl, grown_setRow (grown_trans HG0.out HG5.out) _ (Nat.le_refl _) _⟩

set_option maxHeartbeats 1000000 in
theorem mayAsk_any (o : Int) (s : Nat) (k x : Int) (w : World) (hs : s < 4294967296) : Calls Tryd.prog 21 #[.agg #[.int .i64 o, .int .u32 (s : Int)], .int .u8 k, .int .i64 x] w fun e w' => e = .returned (.bool (ask ⟨o, s⟩ k x)) ∧ w.grownBy w' none := by
  have HG0 : Hid (w.grownBy (w.alloc (.cells #[.int .i64 o, .int .u32 (s : Int)] 25)) none) := Lib.hid (grown_alloc (grown_refl _ _) _)
  have HM : Hid (∀ w, _) := Lib.hid fun w => may_any o s w hs
  have HI : Hid (∀ w, _) := Lib.hid fun w => core_any x w
  unfold ask
  cases hm : En.may ⟨o, s⟩
  · rw [hm] at HM
    unfold err at HM
    clear hm hs HI
    go_enter Tryd.func21, Tryd.ntmps21
    go_wp2_with (go_at_call 13; ((with_reducible refine (HM.out _).mono ?_); rintro e w5 ⟨rfl, hg5⟩; have HG5 := Lib.hid hg5; clear hg5))
    go_ret
    exact ⟨rfl, grown_trans HG0.out HG5.out⟩
  · rw [hm] at HM
    unfold err at HM
    cases hx : decide (0 ≤ x ∧ x ≤ 15)
    · rw [hx] at HI
      clear hm hs hx
      go_enter Tryd.func21, Tryd.ntmps21
      go_wp2_with (first
        | (go_at_call 13; ((with_reducible refine (HM.out _).mono ?_); rintro e w5 ⟨rfl, hg5⟩; have HG5 := Lib.hid hg5; clear hg5))
        | (go_at_call 26; ((with_reducible refine (HI.out _).mono ?_); rintro e w6 ⟨rfl, rfl⟩)))
      go_ret
      exact ⟨rfl, grown_trans HG0.out HG5.out⟩
    · rw [hx] at HI
      clear hm hs hx
      by_cases h1 : k = 1
      · subst h1
        go_enter Tryd.func21, Tryd.ntmps21
        go_wp2_with (first
          | (go_at_call 13; ((with_reducible refine (HM.out _).mono ?_); rintro e w5 ⟨rfl, hg5⟩; have HG5 := Lib.hid hg5; clear hg5))
          | (go_at_call 26; ((with_reducible refine (HI.out _).mono ?_); rintro e w6 ⟨rfl, rfl⟩)))
        go_ret
        exact ⟨rfl, grown_trans HG0.out HG5.out⟩
      · have e1 : (k == 1) = false := by simpa using h1
        by_cases h2 : k = 2
        · subst h2
          clear h1 e1
          go_enter Tryd.func21, Tryd.ntmps21
          go_wp2_with (first
            | (go_at_call 13; ((with_reducible refine (HM.out _).mono ?_); rintro e w5 ⟨rfl, hg5⟩; have HG5 := Lib.hid hg5; clear hg5))
            | (go_at_call 26; ((with_reducible refine (HI.out _).mono ?_); rintro e w6 ⟨rfl, rfl⟩)))
          go_ret
          exact ⟨rfl, grown_trans HG0.out HG5.out⟩
        · have e2 : (k == 2) = false := by simpa using h2
          rw [decide_eq_false (p := k = 1 ∨ k = 2) (by omega)]
          clear h1 h2
          go_enter Tryd.func21, Tryd.ntmps21
          go_wp2_with (first
            | (go_at_call 13; ((with_reducible refine (HM.out _).mono ?_); rintro e w5 ⟨rfl, hg5⟩; have HG5 := Lib.hid hg5; clear hg5))
            | (go_at_call 26; ((with_reducible refine (HI.out _).mono ?_); rintro e w6 ⟨rfl, rfl⟩)))
          go_ret
          exact ⟨rfl, grown_trans HG0.out HG5.out⟩
end Go.Proofs.YtplebmafdfciaaaDoor.en
