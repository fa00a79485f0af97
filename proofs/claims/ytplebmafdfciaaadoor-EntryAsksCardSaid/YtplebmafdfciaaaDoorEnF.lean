/-
  What a block that goes back makes of an entry, by package entry and by the document's own text: contracts. No condition but the bounds that each theorem names.
-/
import Derived.Test.YtplebmafdfciaaaDoorEnE
namespace Go.Proofs.YtplebmafdfciaaaDoor.en
open Go Go.ChangeShapes Go.WideShapes Go.ChangeAt Go.RowKit
open Go.Proofs.YtplebmafdfciaaaDoor.mm (wi wo ha pop wi_lt wo_lt with_any count_any)
set_option linter.unusedVariables false

theorem cells2 {w : World} {g : Nat} {a b : Value} {t : TypeId} {fr : Nat × Nat} (h : w.heap[g]? = some (.cells #[a, b] t fr)) : w.cell? ⟨g, 0, none⟩ = some a ∧ w.cell? ⟨g, 1, none⟩ = some b :=
  ⟨cell_of_row _ _ 0 _ _ _ h, cell_of_row _ _ 1 _ _ _ h⟩

set_option maxRecDepth 1000000 in
set_option maxHeartbeats 1000000 in
theorem back_bad (o : Int) (s : Nat) (x : Int) (st : Bool) (w : World) (hs : s < 4294967296) (h : (En.may ⟨o, s⟩ && decide (0 ≤ x ∧ x ≤ 15)) = false) : Calls Tryd.prog 10 #[.agg #[.int .i64 o, .int .u32 (s : Int)], .int .i64 x, .bool st] w fun e w' => e = gone (⟨0, 0⟩, false, 2) ∧ w.grownBy w' none := by
  have HA := Lib.hid (put2_old w (.int .i64 o) (.int .u32 (s : Int)) (.int .i64 0) (.int .u32 0) 25)
  have HB := Lib.hid (put2_new w (.int .i64 o) (.int .u32 (s : Int)) (.int .i64 0) (.int .u32 0) 25)
  have HG0 : Hid (w.grownBy ((w.alloc (.cells #[.int .i64 o, .int .u32 (s : Int)] 25)).alloc (.cells #[.int .i64 0, .int .u32 0] 25)) none) := Lib.hid (grown_alloc (grown_alloc (grown_refl _ _) _) _)
  have HM : Hid (∀ w, _) := Lib.hid fun w => may_any o s w hs
  have HI : Hid (∀ w, _) := Lib.hid fun w => core_any x w
  cases hm : En.may ⟨o, s⟩
  · rw [hm] at HM
    unfold err at HM
    clear hm h hs HI
    go_enter Tryd.func10, Tryd.ntmps10
    go_wp2_with (first
      | ((with_reducible refine load_en _ _ _ _ _ w.heap.size ?_ HA.out ?_); (rfl))
      | (go_at_call 13; ((with_reducible refine (HM.out _).mono ?_); rintro e w5 ⟨rfl, hg5⟩; have HB5 := Lib.hid (row_grown HB.out hg5); have HG5 := Lib.hid (grown_trans HG0.out hg5); clear hg5))
      | ((with_reducible refine store_en 0 0 _ _ _ _ (w.heap.size + 1) ?_ ?_ HB5.out ?_ ?_); (rfl); (rfl); (rfl)))
    refine ret3 rfl (by rfl) rfl rfl (setRow_heap _ _ _ _ _ _ HB5.out) ?_
    exact ⟨rfl, grown_setRow HG5.out _ (by omega) _⟩
  · rw [hm] at HM h
    rw [Bool.true_and] at h
    rw [h] at HI
    unfold err at HM
    clear hm h hs
    go_enter Tryd.func10, Tryd.ntmps10
    go_wp2_with (first
      | ((with_reducible refine load_en _ _ _ _ _ w.heap.size ?_ HA.out ?_); (rfl))
      | (go_at_call 13; ((with_reducible refine (HM.out _).mono ?_); rintro e w5 ⟨rfl, hg5⟩; have HB5 := Lib.hid (row_grown HB.out hg5); have HG5 := Lib.hid (grown_trans HG0.out hg5); clear hg5))
      | (go_at_call 26; ((with_reducible refine (HI.out _).mono ?_); rintro e w6 ⟨rfl, rfl⟩))
      | ((with_reducible refine store_en 0 0 _ _ _ _ (w.heap.size + 1) ?_ ?_ HB5.out ?_ ?_); (rfl); (rfl); (rfl)))
    refine ret3 rfl (by rfl) rfl rfl (setRow_heap _ _ _ _ _ _ HB5.out) ?_
    exact ⟨rfl, grown_setRow HG5.out _ (by omega) _⟩

set_option maxRecDepth 1000000 in
set_option maxHeartbeats 1000000 in
theorem back_ok (o : Int) (s : Nat) (x : Int) (st : Bool) (w : World) (hs : s < 4294967296) (h1 : En.may ⟨o, s⟩ = true) (h2 : decide (0 ≤ x ∧ x ≤ 15) = true) (t : Bool) (ht : decide (o = x ∧ s = 0) = t) :
    Calls Tryd.prog 10 #[.agg #[.int .i64 o, .int .u32 (s : Int)], .int .i64 x, .bool st] w fun e w' => e = gone ((if t && !st then free else ⟨o, s⟩), t, 0) ∧ w.grownBy w' none := by
  have HA := Lib.hid (put2_old w (.int .i64 o) (.int .u32 (s : Int)) (.int .i64 0) (.int .u32 0) 25)
  have HB := Lib.hid (put2_new w (.int .i64 o) (.int .u32 (s : Int)) (.int .i64 0) (.int .u32 0) 25)
  have HG0 : Hid (w.grownBy ((w.alloc (.cells #[.int .i64 o, .int .u32 (s : Int)] 25)).alloc (.cells #[.int .i64 0, .int .u32 0] 25)) none) := Lib.hid (grown_alloc (grown_alloc (grown_refl _ _) _) _)
  have HM : Hid (∀ w, _) := Lib.hid fun w => may_any o s w hs
  have HI : Hid (∀ w, _) := Lib.hid fun w => core_any x w
  have HO : Hid (∀ w, _) := Lib.hid fun w => owned_any x w
  have HF : Hid (∀ w, _) := Lib.hid fun w => free_any w
  have he2 : ∀ w, (binOp .eql 25 (.agg #[.int .i64 o, .int .u32 (s : Int)]) (.agg #[.int .i64 x, .int .u32 0])).run Tryd.prog w = .ok (.bool t) w := fun w => by
    rw [eqE, ← ht]; simp
  rw [h1] at HM
  rw [h2] at HI
  unfold err at HM
  clear h1 h2 hs ht
  go_enter Tryd.func10, Tryd.ntmps10
  go_wp2_with (first
    | ((with_reducible refine load_en _ _ _ _ _ w.heap.size ?_ HA.out ?_); (rfl))
    | (go_at_call 13; ((with_reducible refine (HM.out _).mono ?_); rintro e w5 ⟨rfl, hg5⟩; have HA5 := Lib.hid (row_grown HA.out hg5); have HB5 := Lib.hid (row_grown HB.out hg5); have HG5 := Lib.hid (grown_trans HG0.out hg5); clear hg5))
    | (go_at_call 26; ((with_reducible refine (HI.out _).mono ?_); rintro e w6 ⟨rfl, rfl⟩)))
  go_region_held3 (fun w' => w'.cell? ⟨w.heap.size, 0, none⟩ = some (.int .i64 o) ∧ w'.cell? ⟨w.heap.size, 1, none⟩ = some (.int .u32 (s : Int)))
    (first | exact cells2 (row_grown HA5.out (grown_drew (grown_refl _ _))) | exact next2 (by assumption) (by assumption))
    (first | (go_at_call 23; ((with_reducible refine (HO.out _).mono ?_); rintro e w7 ⟨rfl, hg7⟩)))
  have HG7 := Lib.hid (grown_trans (grown_drew HG5.out) hg7)
  have HA7 := Lib.hid (row_grown HA5.out (grown_trans (grown_drew (grown_refl _ _)) hg7))
  have HB7 := Lib.hid (row_grown HB5.out (grown_trans (grown_drew (grown_refl _ _)) hg7))
  clear hg7 he2
  cases t
  · go_wp2_with (first
      | ((with_reducible refine load_en _ _ _ _ _ w.heap.size ?_ HA7.out ?_); (rfl))
      | ((with_reducible refine store_en o (s : Int) _ _ _ _ (w.heap.size + 1) ?_ ?_ HB7.out ?_ ?_); (rfl); (rfl); (rfl)))
    refine ret3 rfl (by rfl) rfl rfl (setRow_heap _ _ _ _ _ _ HB7.out) ?_
    exact ⟨rfl, grown_setRow HG7.out _ (by omega) _⟩
  · cases st
    · go_wp2_with (first
        | (go_at_call 11; ((with_reducible refine (HF.out _).mono ?_); rintro e w8 ⟨rfl, hg8⟩; have HB8 := Lib.hid (row_grown HB7.out hg8); have HG8 := Lib.hid (grown_trans HG7.out hg8); clear hg8))
        | ((with_reducible refine store_en (-1) 0 _ _ _ _ (w.heap.size + 1) ?_ ?_ HB8.out ?_ ?_); (rfl); (rfl); (rfl)))
      refine ret3 rfl (by rfl) rfl rfl (setRow_heap _ _ _ _ _ _ HB8.out) ?_
      exact ⟨rfl, grown_setRow HG8.out _ (by omega) _⟩
    · go_wp2_with (first
        | ((with_reducible refine load_en _ _ _ _ _ w.heap.size ?_ HA7.out ?_); (rfl))
        | ((with_reducible refine store_en o (s : Int) _ _ _ _ (w.heap.size + 1) ?_ ?_ HB7.out ?_ ?_); (rfl); (rfl); (rfl)))
      refine ret3 rfl (by rfl) rfl rfl (setRow_heap _ _ _ _ _ _ HB7.out) ?_
      exact ⟨rfl, grown_setRow HG7.out _ (by omega) _⟩
theorem back_any (o : Int) (s : Nat) (x : Int) (st : Bool) (w : World) (hs : s < 4294967296) : Calls Tryd.prog 10 #[.agg #[.int .i64 o, .int .u32 (s : Int)], .int .i64 x, .bool st] w fun e w' => e = gone (back ⟨o, s⟩ x st) ∧ w.grownBy w' none := by
  unfold back
  cases h : En.may ⟨o, s⟩ && decide (0 ≤ x ∧ x ≤ 15)
  · rw [if_neg (by simp)]; exact back_bad o s x st w hs h
  · rw [if_pos rfl]
    rw [Bool.and_eq_true] at h
    have hm := of_decide_eq_true h.1
    have hx := of_decide_eq_true h.2
    by_cases ho : o = x
    · have := back_ok o s x st w hs h.1 h.2 true (decide_eq_true ⟨ho, hm.2.2.2 (by show o ≠ -1; omega)⟩)
      rw [if_pos (show (⟨o, s⟩ : En).o = x from ho)]
      cases st <;> exact this
    · have := back_ok o s x st w hs h.1 h.2 false (decide_eq_false (fun e => ho e.1))
      rw [if_neg (show ¬ (⟨o, s⟩ : En).o = x from ho)]
      exact this
end Go.Proofs.YtplebmafdfciaaaDoor.en
