/-
  What an ask makes of an entry, by package entry and by the document's own text; what a block that goes back does: contracts. No condition but the bounds that each theorem names.
-/
import Derived.Test.YtplebmafdfciaaaDoorEnD
namespace Go.Proofs.YtplebmafdfciaaaDoor.en
open Go Go.ChangeShapes Go.WideShapes Go.ChangeAt Go.RowKit
open Go.Proofs.YtplebmafdfciaaaDoor.mm (wi wo ha pop wi_lt wo_lt with_any count_any)
set_option linter.unusedVariables false

/-- What an ask of x makes of an entry, and what x gets. -/
def gets (e : En) (k x : Int) : En × Int × Int :=
  if ask e k x then (if k = 2 then (⟨x, 0⟩, 3, 0) else if pop (wi (wi e.s e.o) x) 32 = 1 then (⟨x, 0⟩, 2, 0) else (⟨-1, wi (wi e.s e.o) x⟩, 1, 0)) else (⟨0, 0⟩, 0, 2)
def got (r : En × Int × Int) : Ending := .returned (.tuple #[.agg #[.int .i64 r.1.o, .int .u32 (r.1.s : Int)], .int .u8 r.2.1, .int .i64 r.2.2])
/-- What is made of an entry by a block that x sends back; whether it is taken. -/
def back (e : En) (x : Int) (st : Bool) : En × Bool × Int :=
  if e.may && decide (0 ≤ x ∧ x ≤ 15) then (if e.o = x then (if st then e else free, true, 0) else (e, false, 0)) else (⟨0, 0⟩, false, 2)
def gone (r : En × Bool × Int) : Ending := .returned (.tuple #[.agg #[.int .i64 r.1.o, .int .u32 (r.1.s : Int)], .bool r.2.1, .int .i64 r.2.2])

theorem put2_old (w : World) (a b c d : Value) (t : TypeId) : ((w.alloc (.cells #[a, b] t)).alloc (.cells #[c, d] t)).heap[w.heap.size]? = some (.cells #[a, b] t (0, 0)) :=
  (Below.heap_alloc _ _ _ (by simp)).trans (heap_alloc_new _ _)
theorem put2_new (w : World) (a b c d : Value) (t : TypeId) : ((w.alloc (.cells #[a, b] t)).alloc (.cells #[c, d] t)).heap[w.heap.size + 1]? = some (.cells #[c, d] t (0, 0)) := by
  have := heap_alloc_new (w.alloc (.cells #[a, b] t)) (.cells #[c, d] t)
  rwa [World.size_alloc] at this

set_option maxRecDepth 1000000 in
set_option maxHeartbeats 1000000 in
theorem gets_any (o : Int) (s : Nat) (k x : Int) (w : World) (hs : s < 4294967296) : Calls Tryd.prog 9 #[.agg #[.int .i64 o, .int .u32 (s : Int)], .int .u8 k, .int .i64 x] w fun e w' => e = got (gets ⟨o, s⟩ k x) ∧ w.grownBy w' none := by
  have HA := Lib.hid (put2_old w (.int .i64 o) (.int .u32 (s : Int)) (.int .i64 0) (.int .u32 0) 25)
  have HB := Lib.hid (put2_new w (.int .i64 o) (.int .u32 (s : Int)) (.int .i64 0) (.int .u32 0) 25)
  have HG0 : Hid (w.grownBy ((w.alloc (.cells #[.int .i64 o, .int .u32 (s : Int)] 25)).alloc (.cells #[.int .i64 0, .int .u32 0] 25)) none) := Lib.hid (grown_alloc (grown_alloc (grown_refl _ _) _) _)
  have HM : Hid (∀ w, _) := Lib.hid fun w => mayAsk_any o s k x w hs
  have HK : Hid (∀ w, _) := Lib.hid fun w => known_any o s w hs
  have HO : Hid (∀ w, _) := Lib.hid fun w => owned_any x w
  have hml := wi_lt s o hs
  have HW : Hid (∀ w, _) := Lib.hid fun w => with_any (wi s o) x w hml
  have hpl := wi_lt (wi s o) x hml
  have HC : Hid (∀ w, _) := Lib.hid fun w => count_any (wi (wi s o) x) w hpl
  have HS : Hid (∀ w, _) := Lib.hid fun w => shared_any (wi (wi s o) x : Nat) w
  unfold gets
  generalize wi (wi s o) x = p at HW HC HS ⊢
  generalize wi s o = m at HW HK
  cases hask : ask ⟨o, s⟩ k x
  · rw [hask] at HM
    rw [if_neg (by simp)]
    clear hask hml hpl hs
    go_enter Tryd.func9, Tryd.ntmps9
    go_wp2_with (first
      | ((with_reducible refine load_en _ _ _ _ _ w.heap.size ?_ HA.out ?_); (rfl))
      | (go_at_call 21; ((with_reducible refine (HM.out _).mono ?_); rintro e w5 ⟨rfl, hg5⟩; have HB5 := Lib.hid (row_grown HB.out hg5); have HG5 := Lib.hid (grown_trans HG0.out hg5); clear hg5))
      | ((with_reducible refine store_en 0 0 _ _ _ _ (w.heap.size + 1) ?_ ?_ HB5.out ?_ ?_); (rfl); (rfl); (rfl)))
    refine ret3 rfl (by rfl) rfl rfl (setRow_heap _ _ _ _ _ _ HB5.out) ?_
    exact ⟨rfl, grown_setRow HG5.out _ (by omega) _⟩
  · rw [hask] at HM
    rw [if_pos rfl]
    clear hask hml hpl hs
    by_cases hk : k = 2
    · subst hk
      rw [if_pos rfl]
      go_enter Tryd.func9, Tryd.ntmps9
      go_wp2_with (first
        | ((with_reducible refine load_en _ _ _ _ _ w.heap.size ?_ HA.out ?_); (rfl))
        | (go_at_call 21; ((with_reducible refine (HM.out _).mono ?_); rintro e w5 ⟨rfl, hg5⟩; have HB5 := Lib.hid (row_grown HB.out hg5); have HG5 := Lib.hid (grown_trans HG0.out hg5); clear hg5))
        | (go_at_call 23; ((with_reducible refine (HO.out _).mono ?_); rintro e w6 ⟨rfl, hg6⟩; have HB6 := Lib.hid (row_grown HB5.out hg6); have HG6 := Lib.hid (grown_trans HG5.out hg6); clear hg6))
        | ((with_reducible refine store_en x 0 _ _ _ _ (w.heap.size + 1) ?_ ?_ HB6.out ?_ ?_); (rfl); (rfl); (rfl)))
      refine ret3 rfl (by rfl) rfl rfl (setRow_heap _ _ _ _ _ _ HB6.out) ?_
      exact ⟨rfl, grown_setRow HG6.out _ (by omega) _⟩
    · rw [if_neg hk]
      have hk2 : (k == 2) = false := by simpa using hk
      clear hk
      by_cases hp : pop p 32 = 1
      · rw [if_pos hp]
        rw [hp] at HC
        clear hp
        go_enter Tryd.func9, Tryd.ntmps9
        go_wp2_with (first
          | ((with_reducible refine load_en _ _ _ _ _ w.heap.size ?_ HA.out ?_); (rfl))
          | (go_at_call 21; ((with_reducible refine (HM.out _).mono ?_); rintro e w5 ⟨rfl, hg5⟩; have HA5 := Lib.hid (row_grown HA.out hg5); have HB5 := Lib.hid (row_grown HB.out hg5); have HG5 := Lib.hid (grown_trans HG0.out hg5); clear hg5))
          | ((with_reducible refine load_en _ _ _ _ _ w.heap.size ?_ HA5.out ?_); (rfl))
          | (go_at_call 24; ((with_reducible refine (HK.out _).mono ?_); rintro e w6 ⟨rfl, hg6⟩; have HB6 := Lib.hid (row_grown HB5.out hg6); have HG6 := Lib.hid (grown_trans HG5.out hg6); clear hg6))
          | (go_at_call 19; ((with_reducible refine (HW.out _).mono ?_); rintro e w7 ⟨rfl, rfl⟩))
          | (go_at_call 18; ((with_reducible refine (HC.out _).mono ?_); rintro e w8 ⟨rfl, n8, hw8⟩; have HB8 := Lib.hid (row_grown HB6.out (hw8 ▸ grown_drewN (grown_refl _ _) n8)); have HG8 := Lib.hid (hw8 ▸ grown_drewN HG6.out n8); clear hw8))
          | (go_at_call 23; ((with_reducible refine (HO.out _).mono ?_); rintro e w9 ⟨rfl, hg9⟩; have HB9 := Lib.hid (row_grown HB8.out hg9); have HG9 := Lib.hid (grown_trans HG8.out hg9); clear hg9))
          | ((with_reducible refine store_en x 0 _ _ _ _ (w.heap.size + 1) ?_ ?_ HB9.out ?_ ?_); (rfl); (rfl); (rfl)))
        refine ret3 rfl (by rfl) rfl rfl (setRow_heap _ _ _ _ _ _ HB9.out) ?_
        exact ⟨rfl, grown_setRow HG9.out _ (by omega) _⟩
      · rw [if_neg hp]
        have hp2 : (((pop p 32 : Nat) : Int) == 1) = false := by simp; omega
        clear hp
        go_enter Tryd.func9, Tryd.ntmps9
        go_wp2_with (first
          | ((with_reducible refine load_en _ _ _ _ _ w.heap.size ?_ HA.out ?_); (rfl))
          | (go_at_call 21; ((with_reducible refine (HM.out _).mono ?_); rintro e w5 ⟨rfl, hg5⟩; have HA5 := Lib.hid (row_grown HA.out hg5); have HB5 := Lib.hid (row_grown HB.out hg5); have HG5 := Lib.hid (grown_trans HG0.out hg5); clear hg5))
          | ((with_reducible refine load_en _ _ _ _ _ w.heap.size ?_ HA5.out ?_); (rfl))
          | (go_at_call 24; ((with_reducible refine (HK.out _).mono ?_); rintro e w6 ⟨rfl, hg6⟩; have HB6 := Lib.hid (row_grown HB5.out hg6); have HG6 := Lib.hid (grown_trans HG5.out hg6); clear hg6))
          | (go_at_call 19; ((with_reducible refine (HW.out _).mono ?_); rintro e w7 ⟨rfl, rfl⟩))
          | (go_at_call 18; ((with_reducible refine (HC.out _).mono ?_); rintro e w8 ⟨rfl, n8, hw8⟩; have HB8 := Lib.hid (row_grown HB6.out (hw8 ▸ grown_drewN (grown_refl _ _) n8)); have HG8 := Lib.hid (hw8 ▸ grown_drewN HG6.out n8); clear hw8))
          | (go_at_call 25; ((with_reducible refine (HS.out _).mono ?_); rintro e w9 ⟨rfl, hg9⟩; have HB9 := Lib.hid (row_grown HB8.out hg9); have HG9 := Lib.hid (grown_trans HG8.out hg9); clear hg9))
          | ((with_reducible refine store_en (-1) (p : Int) _ _ _ _ (w.heap.size + 1) ?_ ?_ HB9.out ?_ ?_); (rfl); (rfl); (rfl)))
        refine ret3 rfl (by rfl) rfl rfl (setRow_heap _ _ _ _ _ _ HB9.out) ?_
        exact ⟨rfl, grown_setRow HG9.out _ (by omega) _⟩
end Go.Proofs.YtplebmafdfciaaaDoor.en
