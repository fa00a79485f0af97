/-
  The law EntryAsks returns true: the walk. Condition: the library's table lies in its variable.
-/
import Derived.Test.YtplebmafdfciaaaDoorEnL
namespace Go.Proofs.YtplebmafdfciaaaDoor.en
open Go Go.ChangeShapes Go.WideShapes Go.ChangeAt Go.RowKit
open Go.Proofs.YtplebmafdfciaaaDoor.mm (wi wo pop wi_lt wo_lt Tab)
set_option linter.unusedVariables false

theorem tab_grown {w w' : World} (h : Tab w) (hg : w.grownBy w' none) : Tab w' := h.below (below_of hg) h.lt

set_option maxRecDepth 1000000 in
set_option maxHeartbeats 4000000 in
theorem asks_true (o : Int) (s : Nat) (k x : Int) (w : World) (hs : s < 4294967296) (hT : Tab w) : Calls Tryd.prog 4 #[.agg #[.int .i64 o, .int .u32 (s : Int)], .int .u8 k, .int .i64 x] w fun e w' => e = .returned (.bool true) ∧ w.grownBy w' none := by
  have HE0 : Hid ((w.alloc (.cells #[.int .i64 o, .int .u32 (s : Int)] 25)).heap[w.heap.size]? = some (.cells #[.int .i64 o, .int .u32 (s : Int)] 25 (0, 0))) := Lib.hid (heap_alloc_new _ _)
  have HG0 : Hid (w.grownBy (w.alloc (.cells #[.int .i64 o, .int .u32 (s : Int)] 25)) none) := Lib.hid (grown_alloc (grown_refl _ _) _)
  have HT0 := Lib.hid (tab_grown hT HG0.out)
  have HA : Hid (∀ w, Tab w → _) := Lib.hid fun w h => asked_any o s k x w hs h
  have HB : Hid (∀ w, _) := Lib.hid fun w => rasked_any o s k x w hs
  have HP : Hid (∀ w, _) := Lib.hid fun w => gets_any o s k x w hs
  have HQ : Hid (∀ w, _) := Lib.hid fun w => rgets_any o s k x w hs
  have HM : Hid (∀ w, _) := Lib.hid fun w => may_any o s w hs
  have HN : Hid (∀ w, _) := Lib.hid fun w => rmay_any o s w hs
  have HW : Hid (∀ w, _) := Lib.hid fun w => works_any w
  obtain ⟨a, b, f, hr⟩ : ∃ a b f, asked ⟨o, s⟩ k x = (a, b, f) := ⟨_, _, _, rfl⟩
  obtain ⟨p, q, t, g, hg⟩ : ∃ p q t g, gets ⟨o, s⟩ k x = (⟨p, q⟩, t, g) := ⟨_, _, _, _, rfl⟩
  rw [hr] at HA HB
  rw [hg] at HP HQ
  unfold told at HA HB
  unfold got at HP HQ
  have ea : ((a : Int) != (a : Int)) = false := by simp
  have eb : (b != b) = false := by simp
  have ef : (f != f) = false := by simp
  have et : (t == t) = true := by simp
  have eg : (g == g) = true := by simp
  have he := eq_same
  obtain ⟨y, hy⟩ : ∃ y, y = En.may ⟨o, s⟩ := ⟨_, rfl⟩
  rw [← hy] at HM HN
  clear hT hr hg hs hy
  go_enter Tryd.func4, Tryd.ntmps4
  go_wp2_with (first
    | ((with_reducible refine load_en _ _ _ _ _ w.heap.size ?_ HE0.out ?_); (rfl))
    | (go_at_call 7; ((with_reducible refine (HA.out _ HT0.out).mono ?_); rintro e w5 ⟨rfl, hg5⟩; have HE5 := Lib.hid (row_grown HE0.out hg5); have HG5 := Lib.hid (grown_trans HG0.out hg5); clear hg5))
    | ((with_reducible refine load_en _ _ _ _ _ w.heap.size ?_ HE5.out ?_); (rfl))
    | (go_at_call 12; ((with_reducible refine (HB.out _).mono ?_); rintro e w6 ⟨rfl, hg6⟩; have HE6 := Lib.hid (row_grown HE5.out hg6); have HG6 := Lib.hid (grown_trans HG5.out hg6); clear hg6)))
  cases y
  all_goals
    unfold err at HM
    go_region_held3 (fun w' => w'.cell? ⟨w.heap.size, 0, none⟩ = some (.int .i64 o) ∧ w'.cell? ⟨w.heap.size, 1, none⟩ = some (.int .u32 (s : Int)))
      (first | exact cells2 (row_grown HE6.out (grown_drew (grown_refl _ _))) | exact next2 (by assumption) (by assumption))
      (first
        | (go_at_call 13; ((with_reducible refine (HM.out _).mono ?_); rintro e w7 ⟨rfl, hg7⟩))
        | (go_at_call 14; ((with_reducible refine (HN.out _).mono ?_); rintro e w8 ⟨rfl, hg8⟩)))
    have HG8 := Lib.hid (grown_trans (grown_trans (grown_drew HG6.out) hg7) hg8)
    have HE8 := Lib.hid (row_grown HE6.out (grown_trans (grown_trans (grown_drew (grown_refl _ _)) hg7) hg8))
    clear hg7 hg8
    go_wp2_with (first
      | ((with_reducible refine load_en _ _ _ _ _ w.heap.size ?_ HE8.out ?_); (rfl))
      | (go_at_call 9; ((with_reducible refine (HP.out _).mono ?_); rintro e w9 ⟨rfl, hg9⟩; have HE9 : Hid ((w9.alloc (.cells #[.int .i64 p, .int .u32 (q : Int)] 25)).heap[w.heap.size]? = _) := Lib.hid (row_grown HE8.out (grown_alloc hg9 _)); have HP9 : Hid ((w9.alloc (.cells #[.int .i64 p, .int .u32 (q : Int)] 25)).heap[w9.heap.size]? = some (.cells #[.int .i64 p, .int .u32 (q : Int)] 25 (0, 0))) := Lib.hid (heap_alloc_new _ _); have HG9 : Hid (w.grownBy (w9.alloc (.cells #[.int .i64 p, .int .u32 (q : Int)] 25)) none) := Lib.hid (grown_alloc (grown_trans HG8.out hg9) _); clear hg9))
      | ((with_reducible refine store_enN p (q : Int) _ _ _ _ ?_ ?_ ?_ ?_); (rfl); (rfl); (rfl))
      | ((with_reducible refine load_en _ _ _ _ _ w.heap.size ?_ HE9.out ?_); (rfl))
      | (go_at_call 15; ((with_reducible refine (HQ.out _).mono ?_); rintro e w10 ⟨rfl, hg10⟩; have HP10 : Hid ((w10.alloc (.cells #[.int .i64 p, .int .u32 (q : Int)] 25)).heap[w9.heap.size]? = _) := Lib.hid (row_grown HP9.out (grown_alloc hg10 _)); have HG10 : Hid (w.grownBy (w10.alloc (.cells #[.int .i64 p, .int .u32 (q : Int)] 25)) none) := Lib.hid (grown_alloc (grown_trans HG9.out hg10) _); clear hg10))
      | ((with_reducible refine load_en _ _ _ _ _ w9.heap.size ?_ HP10.out ?_); (rfl))
      | (go_at_call 8; ((with_reducible refine (HW.out _).mono ?_); rintro e w11 ⟨rfl, hg11⟩; have HG11 := Lib.hid (grown_trans HG10.out hg11); clear hg11)))
    go_ret
    exact ⟨rfl, HG11.out⟩
end Go.Proofs.YtplebmafdfciaaaDoor.en
