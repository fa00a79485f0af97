/-
  The law NoteKinds returns true: the walk. Condition: the table of kinds lies in its variable as the program's text has it. (Made by a script.)
-/
import Derived.Test.YthmnjoanehepcaaDoorC1
namespace Go.Proofs.YthmnjoanehepcaaDoor.nn
open Go Go.ChangeShapes Go.WideShapes Go.ChangeAt Go.RowKit
set_option linter.unusedVariables false
set_option linter.unusedSimpArgs false
set_option maxRecDepth 100000
set_option maxHeartbeats 1000000

theorem n_range_Kb (w : World) (n : Nt) (A : Array Value) (hA : na n = A) : (w.alloc (.cells A 31)).rangeAt w.heap.size 0 (nt n) := by
  subst hA; exact range_of (heap_alloc_new _ _)
theorem kinds_5_ok (c b st : Int) (c0 : 0 ≤ c) (c1 : c < 16) (b0 : 0 ≤ b) (b1 : b < 256) (w : World) (hT : Tab w) : Calls Tryd.prog 8 #[.int .u8 5, .int .i64 c, .int .i64 b, .int .u64 st] w fun e w' => e = .returned (.bool true) ∧ w.grownBy w' none := by
  have HT := Lib.hid (fun w' (h : w.grownBy w' none) => hT.grown h)
  have HWK : Hid (∀ w', Tab w' → _) := Lib.hid fun w' h => works_any w' h
  have o1 : (bare 5 (-1) c b st 0 false false).ok := by
    simp [Nt.ok, nt_eq, usd, uses, coreOf, bare]
    omega
  have o2 : (bare 5 (-1) c b st 0 false false).ok := by
    simp [Nt.ok, nt_eq, usd, uses, coreOf, bare]
    omega
  have HM : Hid (∀ w', Tab w' → _) := Lib.hid fun w' h => may_any (bare 5 (-1) c b st 0 false false) w' h
  rw [yes_of o1] at HM
  have HM2 : Hid (∀ w', Tab w' → _) := Lib.hid fun w' h => may_any (bare 5 (-1) c b st 0 false false) w' h
  rw [yes_of o2] at HM2
  have HZ : Hid (na (bare 5 (-1) c b st 0 false false) = _) := Lib.hid (bare_na 5 (-1) c b st 0 false false)
  have HY : Hid (na (bare 5 (-1) c b st 0 false false) = _) := Lib.hid (bare_na 5 (-1) c b st 0 false false)
  have HY2 : Hid (na (bare 5 (-1) c b st 0 false false) = _) := Lib.hid (bare_na 5 (-1) c b st 0 false false)
  clear o1 o2 hT
  go_enter Tryd.func8, Tryd.ntmps8
  go_wp2_with (first
    | ((with_reducible refine store_lit _ _ HZ.out _ 9 17 ?_ ?_ ?_ ?_); (rfl); (rfl); (rfl))
    | ((with_reducible refine load_new _ _ HY.out 9 ?_ ?_); (rfl))
    | (go_at_call 14; ((with_reducible refine (HM.out _ (HT.out _ (grown_alloc (grown_refl _ _) _))).mono ?_); rintro e w2 ⟨rfl, hg2⟩; have H2 := Lib.hid (grown_trans (grown_alloc (grown_refl w none) _) hg2); have hr2 := range_grown (n_range_Kb _ _ _ HY.out) hg2 (by simp); clear hg2))
    | ((with_reducible refine load_nt (bare 5 (-1) c b st 0 false false) 9 w.heap.size ?_ hr2 ?_); (rfl))
    | ((with_reducible refine store_lit _ _ HY.out _ 11 69 ?_ ?_ ?_ ?_); (rfl); (rfl); (rfl))
    | ((with_reducible refine load_new _ _ HY2.out 11 ?_ ?_); (rfl))
    | (go_at_call 14; ((with_reducible refine (HM2.out _ (HT.out _ (grown_alloc H2.out _))).mono ?_); rintro e w3 ⟨rfl, hg3⟩; have H3 := Lib.hid (grown_trans (grown_alloc H2.out _) hg3); clear hg3 H2 hr2))
    | (go_at_call 11; ((with_reducible refine (HWK.out _ (HT.out _ H3.out)).mono ?_); rintro e w4 ⟨rfl, hg4⟩; have H4 := Lib.hid (grown_trans H3.out hg4); clear hg4 H3)))
  go_ret
  exact ⟨rfl, H4.out⟩
theorem kinds_5_cl (c b st : Int) (hx : c < 0) (w : World) (hT : Tab w) : Calls Tryd.prog 8 #[.int .u8 5, .int .i64 c, .int .i64 b, .int .u64 st] w fun e w' => e = .returned (.bool true) ∧ w.grownBy w' none := by
  have HT := Lib.hid (fun w' (h : w.grownBy w' none) => hT.grown h)
  have HWK : Hid (∀ w', Tab w' → _) := Lib.hid fun w' h => works_any w' h
  have o1 : ¬ (bare 5 (-1) c b st 0 false false).ok := by
    simp [Nt.ok, nt_eq, usd, uses, coreOf, bare]
    try omega
  have o2 : ¬ (bare 5 (-1) c b st 0 false false).ok := by
    simp [Nt.ok, nt_eq, usd, uses, coreOf, bare]
    try omega
  have HM : Hid (∀ w', Tab w' → _) := Lib.hid fun w' h => may_any (bare 5 (-1) c b st 0 false false) w' h
  rw [yes_not o1] at HM
  have HM2 : Hid (∀ w', Tab w' → _) := Lib.hid fun w' h => may_any (bare 5 (-1) c b st 0 false false) w' h
  rw [yes_not o2] at HM2
  have HZ : Hid (na (bare 5 (-1) c b st 0 false false) = _) := Lib.hid (bare_na 5 (-1) c b st 0 false false)
  have HY : Hid (na (bare 5 (-1) c b st 0 false false) = _) := Lib.hid (bare_na 5 (-1) c b st 0 false false)
  have HY2 : Hid (na (bare 5 (-1) c b st 0 false false) = _) := Lib.hid (bare_na 5 (-1) c b st 0 false false)
  clear o1 o2 hT
  go_enter Tryd.func8, Tryd.ntmps8
  go_wp2_with (first
    | ((with_reducible refine store_lit _ _ HZ.out _ 9 17 ?_ ?_ ?_ ?_); (rfl); (rfl); (rfl))
    | ((with_reducible refine load_new _ _ HY.out 9 ?_ ?_); (rfl))
    | (go_at_call 14; ((with_reducible refine (HM.out _ (HT.out _ (grown_alloc (grown_refl _ _) _))).mono ?_); rintro e w2 ⟨rfl, hg2⟩; have H2 := Lib.hid (grown_trans (grown_alloc (grown_refl w none) _) hg2); have hr2 := range_grown (n_range_Kb _ _ _ HY.out) hg2 (by simp); clear hg2))
    | ((with_reducible refine load_nt (bare 5 (-1) c b st 0 false false) 9 w.heap.size ?_ hr2 ?_); (rfl))
    | ((with_reducible refine store_lit _ _ HY.out _ 11 69 ?_ ?_ ?_ ?_); (rfl); (rfl); (rfl))
    | ((with_reducible refine load_new _ _ HY2.out 11 ?_ ?_); (rfl))
    | (go_at_call 14; ((with_reducible refine (HM2.out _ (HT.out _ (grown_alloc H2.out _))).mono ?_); rintro e w3 ⟨rfl, hg3⟩; have H3 := Lib.hid (grown_trans (grown_alloc H2.out _) hg3); clear hg3 H2 hr2))
    | (go_at_call 11; ((with_reducible refine (HWK.out _ (HT.out _ H3.out)).mono ?_); rintro e w4 ⟨rfl, hg4⟩; have H4 := Lib.hid (grown_trans H3.out hg4); clear hg4 H3)))
  go_ret
  exact ⟨rfl, H4.out⟩
theorem kinds_5_ch (c b st : Int) (c0 : 0 ≤ c) (hx : 16 ≤ c) (w : World) (hT : Tab w) : Calls Tryd.prog 8 #[.int .u8 5, .int .i64 c, .int .i64 b, .int .u64 st] w fun e w' => e = .returned (.bool true) ∧ w.grownBy w' none := by
  have HT := Lib.hid (fun w' (h : w.grownBy w' none) => hT.grown h)
  have HWK : Hid (∀ w', Tab w' → _) := Lib.hid fun w' h => works_any w' h
  have o1 : ¬ (bare 5 (-1) c b st 0 false false).ok := by
    simp [Nt.ok, nt_eq, usd, uses, coreOf, bare]
    try omega
  have o2 : ¬ (bare 5 (-1) c b st 0 false false).ok := by
    simp [Nt.ok, nt_eq, usd, uses, coreOf, bare]
    try omega
  have HM : Hid (∀ w', Tab w' → _) := Lib.hid fun w' h => may_any (bare 5 (-1) c b st 0 false false) w' h
  rw [yes_not o1] at HM
  have HM2 : Hid (∀ w', Tab w' → _) := Lib.hid fun w' h => may_any (bare 5 (-1) c b st 0 false false) w' h
  rw [yes_not o2] at HM2
  have HZ : Hid (na (bare 5 (-1) c b st 0 false false) = _) := Lib.hid (bare_na 5 (-1) c b st 0 false false)
  have HY : Hid (na (bare 5 (-1) c b st 0 false false) = _) := Lib.hid (bare_na 5 (-1) c b st 0 false false)
  have HY2 : Hid (na (bare 5 (-1) c b st 0 false false) = _) := Lib.hid (bare_na 5 (-1) c b st 0 false false)
  clear o1 o2 hT
  go_enter Tryd.func8, Tryd.ntmps8
  go_wp2_with (first
    | ((with_reducible refine store_lit _ _ HZ.out _ 9 17 ?_ ?_ ?_ ?_); (rfl); (rfl); (rfl))
    | ((with_reducible refine load_new _ _ HY.out 9 ?_ ?_); (rfl))
    | (go_at_call 14; ((with_reducible refine (HM.out _ (HT.out _ (grown_alloc (grown_refl _ _) _))).mono ?_); rintro e w2 ⟨rfl, hg2⟩; have H2 := Lib.hid (grown_trans (grown_alloc (grown_refl w none) _) hg2); have hr2 := range_grown (n_range_Kb _ _ _ HY.out) hg2 (by simp); clear hg2))
    | ((with_reducible refine load_nt (bare 5 (-1) c b st 0 false false) 9 w.heap.size ?_ hr2 ?_); (rfl))
    | ((with_reducible refine store_lit _ _ HY.out _ 11 69 ?_ ?_ ?_ ?_); (rfl); (rfl); (rfl))
    | ((with_reducible refine load_new _ _ HY2.out 11 ?_ ?_); (rfl))
    | (go_at_call 14; ((with_reducible refine (HM2.out _ (HT.out _ (grown_alloc H2.out _))).mono ?_); rintro e w3 ⟨rfl, hg3⟩; have H3 := Lib.hid (grown_trans (grown_alloc H2.out _) hg3); clear hg3 H2 hr2))
    | (go_at_call 11; ((with_reducible refine (HWK.out _ (HT.out _ H3.out)).mono ?_); rintro e w4 ⟨rfl, hg4⟩; have H4 := Lib.hid (grown_trans H3.out hg4); clear hg4 H3)))
  go_ret
  exact ⟨rfl, H4.out⟩
theorem kinds_5_bl (c b st : Int) (c0 : 0 ≤ c) (c1 : c < 16) (hx : b < 0) (w : World) (hT : Tab w) : Calls Tryd.prog 8 #[.int .u8 5, .int .i64 c, .int .i64 b, .int .u64 st] w fun e w' => e = .returned (.bool true) ∧ w.grownBy w' none := by
  have HT := Lib.hid (fun w' (h : w.grownBy w' none) => hT.grown h)
  have HWK : Hid (∀ w', Tab w' → _) := Lib.hid fun w' h => works_any w' h
  have o1 : ¬ (bare 5 (-1) c b st 0 false false).ok := by
    simp [Nt.ok, nt_eq, usd, uses, coreOf, bare]
    try omega
  have o2 : ¬ (bare 5 (-1) c b st 0 false false).ok := by
    simp [Nt.ok, nt_eq, usd, uses, coreOf, bare]
    try omega
  have HM : Hid (∀ w', Tab w' → _) := Lib.hid fun w' h => may_any (bare 5 (-1) c b st 0 false false) w' h
  rw [yes_not o1] at HM
  have HM2 : Hid (∀ w', Tab w' → _) := Lib.hid fun w' h => may_any (bare 5 (-1) c b st 0 false false) w' h
  rw [yes_not o2] at HM2
  have HZ : Hid (na (bare 5 (-1) c b st 0 false false) = _) := Lib.hid (bare_na 5 (-1) c b st 0 false false)
  have HY : Hid (na (bare 5 (-1) c b st 0 false false) = _) := Lib.hid (bare_na 5 (-1) c b st 0 false false)
  have HY2 : Hid (na (bare 5 (-1) c b st 0 false false) = _) := Lib.hid (bare_na 5 (-1) c b st 0 false false)
  clear o1 o2 hT
  go_enter Tryd.func8, Tryd.ntmps8
  go_wp2_with (first
    | ((with_reducible refine store_lit _ _ HZ.out _ 9 17 ?_ ?_ ?_ ?_); (rfl); (rfl); (rfl))
    | ((with_reducible refine load_new _ _ HY.out 9 ?_ ?_); (rfl))
    | (go_at_call 14; ((with_reducible refine (HM.out _ (HT.out _ (grown_alloc (grown_refl _ _) _))).mono ?_); rintro e w2 ⟨rfl, hg2⟩; have H2 := Lib.hid (grown_trans (grown_alloc (grown_refl w none) _) hg2); have hr2 := range_grown (n_range_Kb _ _ _ HY.out) hg2 (by simp); clear hg2))
    | ((with_reducible refine load_nt (bare 5 (-1) c b st 0 false false) 9 w.heap.size ?_ hr2 ?_); (rfl))
    | ((with_reducible refine store_lit _ _ HY.out _ 11 69 ?_ ?_ ?_ ?_); (rfl); (rfl); (rfl))
    | ((with_reducible refine load_new _ _ HY2.out 11 ?_ ?_); (rfl))
    | (go_at_call 14; ((with_reducible refine (HM2.out _ (HT.out _ (grown_alloc H2.out _))).mono ?_); rintro e w3 ⟨rfl, hg3⟩; have H3 := Lib.hid (grown_trans (grown_alloc H2.out _) hg3); clear hg3 H2 hr2))
    | (go_at_call 11; ((with_reducible refine (HWK.out _ (HT.out _ H3.out)).mono ?_); rintro e w4 ⟨rfl, hg4⟩; have H4 := Lib.hid (grown_trans H3.out hg4); clear hg4 H3)))
  go_ret
  exact ⟨rfl, H4.out⟩
theorem kinds_5_bh (c b st : Int) (c0 : 0 ≤ c) (c1 : c < 16) (b0 : 0 ≤ b) (hx : 256 ≤ b) (w : World) (hT : Tab w) : Calls Tryd.prog 8 #[.int .u8 5, .int .i64 c, .int .i64 b, .int .u64 st] w fun e w' => e = .returned (.bool true) ∧ w.grownBy w' none := by
  have HT := Lib.hid (fun w' (h : w.grownBy w' none) => hT.grown h)
  have HWK : Hid (∀ w', Tab w' → _) := Lib.hid fun w' h => works_any w' h
  have o1 : ¬ (bare 5 (-1) c b st 0 false false).ok := by
    simp [Nt.ok, nt_eq, usd, uses, coreOf, bare]
    try omega
  have o2 : ¬ (bare 5 (-1) c b st 0 false false).ok := by
    simp [Nt.ok, nt_eq, usd, uses, coreOf, bare]
    try omega
  have HM : Hid (∀ w', Tab w' → _) := Lib.hid fun w' h => may_any (bare 5 (-1) c b st 0 false false) w' h
  rw [yes_not o1] at HM
  have HM2 : Hid (∀ w', Tab w' → _) := Lib.hid fun w' h => may_any (bare 5 (-1) c b st 0 false false) w' h
  rw [yes_not o2] at HM2
  have HZ : Hid (na (bare 5 (-1) c b st 0 false false) = _) := Lib.hid (bare_na 5 (-1) c b st 0 false false)
  have HY : Hid (na (bare 5 (-1) c b st 0 false false) = _) := Lib.hid (bare_na 5 (-1) c b st 0 false false)
  have HY2 : Hid (na (bare 5 (-1) c b st 0 false false) = _) := Lib.hid (bare_na 5 (-1) c b st 0 false false)
  clear o1 o2 hT
  go_enter Tryd.func8, Tryd.ntmps8
  go_wp2_with (first
    | ((with_reducible refine store_lit _ _ HZ.out _ 9 17 ?_ ?_ ?_ ?_); (rfl); (rfl); (rfl))
    | ((with_reducible refine load_new _ _ HY.out 9 ?_ ?_); (rfl))
    | (go_at_call 14; ((with_reducible refine (HM.out _ (HT.out _ (grown_alloc (grown_refl _ _) _))).mono ?_); rintro e w2 ⟨rfl, hg2⟩; have H2 := Lib.hid (grown_trans (grown_alloc (grown_refl w none) _) hg2); have hr2 := range_grown (n_range_Kb _ _ _ HY.out) hg2 (by simp); clear hg2))
    | ((with_reducible refine load_nt (bare 5 (-1) c b st 0 false false) 9 w.heap.size ?_ hr2 ?_); (rfl))
    | ((with_reducible refine store_lit _ _ HY.out _ 11 69 ?_ ?_ ?_ ?_); (rfl); (rfl); (rfl))
    | ((with_reducible refine load_new _ _ HY2.out 11 ?_ ?_); (rfl))
    | (go_at_call 14; ((with_reducible refine (HM2.out _ (HT.out _ (grown_alloc H2.out _))).mono ?_); rintro e w3 ⟨rfl, hg3⟩; have H3 := Lib.hid (grown_trans (grown_alloc H2.out _) hg3); clear hg3 H2 hr2))
    | (go_at_call 11; ((with_reducible refine (HWK.out _ (HT.out _ H3.out)).mono ?_); rintro e w4 ⟨rfl, hg4⟩; have H4 := Lib.hid (grown_trans H3.out hg4); clear hg4 H3)))
  go_ret
  exact ⟨rfl, H4.out⟩
theorem kinds_6_ok (c b st : Int) (c0 : 0 ≤ c) (c1 : c < 16) (b0 : 0 ≤ b) (b1 : b < 256) (w : World) (hT : Tab w) : Calls Tryd.prog 8 #[.int .u8 6, .int .i64 c, .int .i64 b, .int .u64 st] w fun e w' => e = .returned (.bool true) ∧ w.grownBy w' none := by
  have HT := Lib.hid (fun w' (h : w.grownBy w' none) => hT.grown h)
  have HWK : Hid (∀ w', Tab w' → _) := Lib.hid fun w' h => works_any w' h
  have o1 : (bare 6 (-1) c b 0 2 true false).ok := by
    simp [Nt.ok, nt_eq, usd, uses, coreOf, bare]
    omega
  have o2 : ¬ (bare 6 (-1) c b 0 0 false false).ok := by
    simp [Nt.ok, nt_eq, usd, uses, coreOf, bare]
    try omega
  have HM : Hid (∀ w', Tab w' → _) := Lib.hid fun w' h => may_any (bare 6 (-1) c b 0 2 true false) w' h
  rw [yes_of o1] at HM
  have HM2 : Hid (∀ w', Tab w' → _) := Lib.hid fun w' h => may_any (bare 6 (-1) c b 0 0 false false) w' h
  rw [yes_not o2] at HM2
  have HZ : Hid (na (bare 6 (-1) c b st 0 false false) = _) := Lib.hid (bare_na 6 (-1) c b st 0 false false)
  have HY : Hid (na (bare 6 (-1) c b 0 2 true false) = _) := Lib.hid (bare_na 6 (-1) c b 0 2 true false)
  have HY2 : Hid (na (bare 6 (-1) c b 0 0 false false) = _) := Lib.hid (bare_na 6 (-1) c b 0 0 false false)
  clear o1 o2 hT
  go_enter Tryd.func8, Tryd.ntmps8
  go_wp2_with (first
    | ((with_reducible refine store_lit _ _ HZ.out _ 9 17 ?_ ?_ ?_ ?_); (rfl); (rfl); (rfl))
    | ((with_reducible refine load_new _ _ HY.out 9 ?_ ?_); (rfl))
    | (go_at_call 14; ((with_reducible refine (HM.out _ (HT.out _ (grown_alloc (grown_refl _ _) _))).mono ?_); rintro e w2 ⟨rfl, hg2⟩; have H2 := Lib.hid (grown_trans (grown_alloc (grown_refl w none) _) hg2); have hr2 := range_grown (n_range_Kb _ _ _ HY.out) hg2 (by simp); clear hg2))
    | ((with_reducible refine load_nt (bare 6 (-1) c b 0 2 true false) 9 w.heap.size ?_ hr2 ?_); (rfl))
    | ((with_reducible refine store_lit _ _ HY.out _ 11 69 ?_ ?_ ?_ ?_); (rfl); (rfl); (rfl))
    | ((with_reducible refine load_new _ _ HY2.out 11 ?_ ?_); (rfl))
    | (go_at_call 14; ((with_reducible refine (HM2.out _ (HT.out _ (grown_alloc H2.out _))).mono ?_); rintro e w3 ⟨rfl, hg3⟩; have H3 := Lib.hid (grown_trans (grown_alloc H2.out _) hg3); clear hg3 H2 hr2))
    | (go_at_call 11; ((with_reducible refine (HWK.out _ (HT.out _ H3.out)).mono ?_); rintro e w4 ⟨rfl, hg4⟩; have H4 := Lib.hid (grown_trans H3.out hg4); clear hg4 H3)))
  go_ret
  exact ⟨rfl, H4.out⟩
theorem kinds_6_cl (c b st : Int) (hx : c < 0) (w : World) (hT : Tab w) : Calls Tryd.prog 8 #[.int .u8 6, .int .i64 c, .int .i64 b, .int .u64 st] w fun e w' => e = .returned (.bool true) ∧ w.grownBy w' none := by
  have HT := Lib.hid (fun w' (h : w.grownBy w' none) => hT.grown h)
  have HWK : Hid (∀ w', Tab w' → _) := Lib.hid fun w' h => works_any w' h
  have o1 : ¬ (bare 6 (-1) c b 0 2 true false).ok := by
    simp [Nt.ok, nt_eq, usd, uses, coreOf, bare]
    try omega
  have o2 : ¬ (bare 6 (-1) c b 0 0 false false).ok := by
    simp [Nt.ok, nt_eq, usd, uses, coreOf, bare]
    try omega
  have HM : Hid (∀ w', Tab w' → _) := Lib.hid fun w' h => may_any (bare 6 (-1) c b 0 2 true false) w' h
  rw [yes_not o1] at HM
  have HM2 : Hid (∀ w', Tab w' → _) := Lib.hid fun w' h => may_any (bare 6 (-1) c b 0 0 false false) w' h
  rw [yes_not o2] at HM2
  have HZ : Hid (na (bare 6 (-1) c b st 0 false false) = _) := Lib.hid (bare_na 6 (-1) c b st 0 false false)
  have HY : Hid (na (bare 6 (-1) c b 0 2 true false) = _) := Lib.hid (bare_na 6 (-1) c b 0 2 true false)
  have HY2 : Hid (na (bare 6 (-1) c b 0 0 false false) = _) := Lib.hid (bare_na 6 (-1) c b 0 0 false false)
  clear o1 o2 hT
  go_enter Tryd.func8, Tryd.ntmps8
  go_wp2_with (first
    | ((with_reducible refine store_lit _ _ HZ.out _ 9 17 ?_ ?_ ?_ ?_); (rfl); (rfl); (rfl))
    | ((with_reducible refine load_new _ _ HY.out 9 ?_ ?_); (rfl))
    | (go_at_call 14; ((with_reducible refine (HM.out _ (HT.out _ (grown_alloc (grown_refl _ _) _))).mono ?_); rintro e w2 ⟨rfl, hg2⟩; have H2 := Lib.hid (grown_trans (grown_alloc (grown_refl w none) _) hg2); have hr2 := range_grown (n_range_Kb _ _ _ HY.out) hg2 (by simp); clear hg2))
    | ((with_reducible refine load_nt (bare 6 (-1) c b 0 2 true false) 9 w.heap.size ?_ hr2 ?_); (rfl))
    | ((with_reducible refine store_lit _ _ HY.out _ 11 69 ?_ ?_ ?_ ?_); (rfl); (rfl); (rfl))
    | ((with_reducible refine load_new _ _ HY2.out 11 ?_ ?_); (rfl))
    | (go_at_call 14; ((with_reducible refine (HM2.out _ (HT.out _ (grown_alloc H2.out _))).mono ?_); rintro e w3 ⟨rfl, hg3⟩; have H3 := Lib.hid (grown_trans (grown_alloc H2.out _) hg3); clear hg3 H2 hr2))
    | (go_at_call 11; ((with_reducible refine (HWK.out _ (HT.out _ H3.out)).mono ?_); rintro e w4 ⟨rfl, hg4⟩; have H4 := Lib.hid (grown_trans H3.out hg4); clear hg4 H3)))
  go_ret
  exact ⟨rfl, H4.out⟩
theorem kinds_6_ch (c b st : Int) (c0 : 0 ≤ c) (hx : 16 ≤ c) (w : World) (hT : Tab w) : Calls Tryd.prog 8 #[.int .u8 6, .int .i64 c, .int .i64 b, .int .u64 st] w fun e w' => e = .returned (.bool true) ∧ w.grownBy w' none := by
  have HT := Lib.hid (fun w' (h : w.grownBy w' none) => hT.grown h)
  have HWK : Hid (∀ w', Tab w' → _) := Lib.hid fun w' h => works_any w' h
  have o1 : ¬ (bare 6 (-1) c b 0 2 true false).ok := by
    simp [Nt.ok, nt_eq, usd, uses, coreOf, bare]
    try omega
  have o2 : ¬ (bare 6 (-1) c b 0 0 false false).ok := by
    simp [Nt.ok, nt_eq, usd, uses, coreOf, bare]
    try omega
  have HM : Hid (∀ w', Tab w' → _) := Lib.hid fun w' h => may_any (bare 6 (-1) c b 0 2 true false) w' h
  rw [yes_not o1] at HM
  have HM2 : Hid (∀ w', Tab w' → _) := Lib.hid fun w' h => may_any (bare 6 (-1) c b 0 0 false false) w' h
  rw [yes_not o2] at HM2
  have HZ : Hid (na (bare 6 (-1) c b st 0 false false) = _) := Lib.hid (bare_na 6 (-1) c b st 0 false false)
  have HY : Hid (na (bare 6 (-1) c b 0 2 true false) = _) := Lib.hid (bare_na 6 (-1) c b 0 2 true false)
  have HY2 : Hid (na (bare 6 (-1) c b 0 0 false false) = _) := Lib.hid (bare_na 6 (-1) c b 0 0 false false)
  clear o1 o2 hT
  go_enter Tryd.func8, Tryd.ntmps8
  go_wp2_with (first
    | ((with_reducible refine store_lit _ _ HZ.out _ 9 17 ?_ ?_ ?_ ?_); (rfl); (rfl); (rfl))
    | ((with_reducible refine load_new _ _ HY.out 9 ?_ ?_); (rfl))
    | (go_at_call 14; ((with_reducible refine (HM.out _ (HT.out _ (grown_alloc (grown_refl _ _) _))).mono ?_); rintro e w2 ⟨rfl, hg2⟩; have H2 := Lib.hid (grown_trans (grown_alloc (grown_refl w none) _) hg2); have hr2 := range_grown (n_range_Kb _ _ _ HY.out) hg2 (by simp); clear hg2))
    | ((with_reducible refine load_nt (bare 6 (-1) c b 0 2 true false) 9 w.heap.size ?_ hr2 ?_); (rfl))
    | ((with_reducible refine store_lit _ _ HY.out _ 11 69 ?_ ?_ ?_ ?_); (rfl); (rfl); (rfl))
    | ((with_reducible refine load_new _ _ HY2.out 11 ?_ ?_); (rfl))
    | (go_at_call 14; ((with_reducible refine (HM2.out _ (HT.out _ (grown_alloc H2.out _))).mono ?_); rintro e w3 ⟨rfl, hg3⟩; have H3 := Lib.hid (grown_trans (grown_alloc H2.out _) hg3); clear hg3 H2 hr2))
    | (go_at_call 11; ((with_reducible refine (HWK.out _ (HT.out _ H3.out)).mono ?_); rintro e w4 ⟨rfl, hg4⟩; have H4 := Lib.hid (grown_trans H3.out hg4); clear hg4 H3)))
  go_ret
  exact ⟨rfl, H4.out⟩
theorem kinds_6_bl (c b st : Int) (c0 : 0 ≤ c) (c1 : c < 16) (hx : b < 0) (w : World) (hT : Tab w) : Calls Tryd.prog 8 #[.int .u8 6, .int .i64 c, .int .i64 b, .int .u64 st] w fun e w' => e = .returned (.bool true) ∧ w.grownBy w' none := by
  have HT := Lib.hid (fun w' (h : w.grownBy w' none) => hT.grown h)
  have HWK : Hid (∀ w', Tab w' → _) := Lib.hid fun w' h => works_any w' h
  have o1 : ¬ (bare 6 (-1) c b 0 2 true false).ok := by
    simp [Nt.ok, nt_eq, usd, uses, coreOf, bare]
    try omega
  have o2 : ¬ (bare 6 (-1) c b 0 0 false false).ok := by
    simp [Nt.ok, nt_eq, usd, uses, coreOf, bare]
    try omega
  have HM : Hid (∀ w', Tab w' → _) := Lib.hid fun w' h => may_any (bare 6 (-1) c b 0 2 true false) w' h
  rw [yes_not o1] at HM
  have HM2 : Hid (∀ w', Tab w' → _) := Lib.hid fun w' h => may_any (bare 6 (-1) c b 0 0 false false) w' h
  rw [yes_not o2] at HM2
  have HZ : Hid (na (bare 6 (-1) c b st 0 false false) = _) := Lib.hid (bare_na 6 (-1) c b st 0 false false)
  have HY : Hid (na (bare 6 (-1) c b 0 2 true false) = _) := Lib.hid (bare_na 6 (-1) c b 0 2 true false)
  have HY2 : Hid (na (bare 6 (-1) c b 0 0 false false) = _) := Lib.hid (bare_na 6 (-1) c b 0 0 false false)
  clear o1 o2 hT
  go_enter Tryd.func8, Tryd.ntmps8
  go_wp2_with (first
    | ((with_reducible refine store_lit _ _ HZ.out _ 9 17 ?_ ?_ ?_ ?_); (rfl); (rfl); (rfl))
    | ((with_reducible refine load_new _ _ HY.out 9 ?_ ?_); (rfl))
    | (go_at_call 14; ((with_reducible refine (HM.out _ (HT.out _ (grown_alloc (grown_refl _ _) _))).mono ?_); rintro e w2 ⟨rfl, hg2⟩; have H2 := Lib.hid (grown_trans (grown_alloc (grown_refl w none) _) hg2); have hr2 := range_grown (n_range_Kb _ _ _ HY.out) hg2 (by simp); clear hg2))
    | ((with_reducible refine load_nt (bare 6 (-1) c b 0 2 true false) 9 w.heap.size ?_ hr2 ?_); (rfl))
    | ((with_reducible refine store_lit _ _ HY.out _ 11 69 ?_ ?_ ?_ ?_); (rfl); (rfl); (rfl))
    | ((with_reducible refine load_new _ _ HY2.out 11 ?_ ?_); (rfl))
    | (go_at_call 14; ((with_reducible refine (HM2.out _ (HT.out _ (grown_alloc H2.out _))).mono ?_); rintro e w3 ⟨rfl, hg3⟩; have H3 := Lib.hid (grown_trans (grown_alloc H2.out _) hg3); clear hg3 H2 hr2))
    | (go_at_call 11; ((with_reducible refine (HWK.out _ (HT.out _ H3.out)).mono ?_); rintro e w4 ⟨rfl, hg4⟩; have H4 := Lib.hid (grown_trans H3.out hg4); clear hg4 H3)))
  go_ret
  exact ⟨rfl, H4.out⟩
theorem kinds_6_bh (c b st : Int) (c0 : 0 ≤ c) (c1 : c < 16) (b0 : 0 ≤ b) (hx : 256 ≤ b) (w : World) (hT : Tab w) : Calls Tryd.prog 8 #[.int .u8 6, .int .i64 c, .int .i64 b, .int .u64 st] w fun e w' => e = .returned (.bool true) ∧ w.grownBy w' none := by
  have HT := Lib.hid (fun w' (h : w.grownBy w' none) => hT.grown h)
  have HWK : Hid (∀ w', Tab w' → _) := Lib.hid fun w' h => works_any w' h
  have o1 : ¬ (bare 6 (-1) c b 0 2 true false).ok := by
    simp [Nt.ok, nt_eq, usd, uses, coreOf, bare]
    try omega
  have o2 : ¬ (bare 6 (-1) c b 0 0 false false).ok := by
    simp [Nt.ok, nt_eq, usd, uses, coreOf, bare]
    try omega
  have HM : Hid (∀ w', Tab w' → _) := Lib.hid fun w' h => may_any (bare 6 (-1) c b 0 2 true false) w' h
  rw [yes_not o1] at HM
  have HM2 : Hid (∀ w', Tab w' → _) := Lib.hid fun w' h => may_any (bare 6 (-1) c b 0 0 false false) w' h
  rw [yes_not o2] at HM2
  have HZ : Hid (na (bare 6 (-1) c b st 0 false false) = _) := Lib.hid (bare_na 6 (-1) c b st 0 false false)
  have HY : Hid (na (bare 6 (-1) c b 0 2 true false) = _) := Lib.hid (bare_na 6 (-1) c b 0 2 true false)
  have HY2 : Hid (na (bare 6 (-1) c b 0 0 false false) = _) := Lib.hid (bare_na 6 (-1) c b 0 0 false false)
  clear o1 o2 hT
  go_enter Tryd.func8, Tryd.ntmps8
  go_wp2_with (first
    | ((with_reducible refine store_lit _ _ HZ.out _ 9 17 ?_ ?_ ?_ ?_); (rfl); (rfl); (rfl))
    | ((with_reducible refine load_new _ _ HY.out 9 ?_ ?_); (rfl))
    | (go_at_call 14; ((with_reducible refine (HM.out _ (HT.out _ (grown_alloc (grown_refl _ _) _))).mono ?_); rintro e w2 ⟨rfl, hg2⟩; have H2 := Lib.hid (grown_trans (grown_alloc (grown_refl w none) _) hg2); have hr2 := range_grown (n_range_Kb _ _ _ HY.out) hg2 (by simp); clear hg2))
    | ((with_reducible refine load_nt (bare 6 (-1) c b 0 2 true false) 9 w.heap.size ?_ hr2 ?_); (rfl))
    | ((with_reducible refine store_lit _ _ HY.out _ 11 69 ?_ ?_ ?_ ?_); (rfl); (rfl); (rfl))
    | ((with_reducible refine load_new _ _ HY2.out 11 ?_ ?_); (rfl))
    | (go_at_call 14; ((with_reducible refine (HM2.out _ (HT.out _ (grown_alloc H2.out _))).mono ?_); rintro e w3 ⟨rfl, hg3⟩; have H3 := Lib.hid (grown_trans (grown_alloc H2.out _) hg3); clear hg3 H2 hr2))
    | (go_at_call 11; ((with_reducible refine (HWK.out _ (HT.out _ H3.out)).mono ?_); rintro e w4 ⟨rfl, hg4⟩; have H4 := Lib.hid (grown_trans H3.out hg4); clear hg4 H3)))
  go_ret
  exact ⟨rfl, H4.out⟩
theorem kinds_7_ok (c b st : Int) (c0 : 0 ≤ c) (c1 : c < 16) (b0 : 0 ≤ b) (b1 : b < 256) (w : World) (hT : Tab w) : Calls Tryd.prog 8 #[.int .u8 7, .int .i64 c, .int .i64 b, .int .u64 st] w fun e w' => e = .returned (.bool true) ∧ w.grownBy w' none := by
  have HT := Lib.hid (fun w' (h : w.grownBy w' none) => hT.grown h)
  have HWK : Hid (∀ w', Tab w' → _) := Lib.hid fun w' h => works_any w' h
  have o1 : (bare 7 (-1) c b st 0 false false).ok := by
    simp [Nt.ok, nt_eq, usd, uses, coreOf, bare]
    omega
  have o2 : (bare 7 (-1) c b st 0 false false).ok := by
    simp [Nt.ok, nt_eq, usd, uses, coreOf, bare]
    omega
  have HM : Hid (∀ w', Tab w' → _) := Lib.hid fun w' h => may_any (bare 7 (-1) c b st 0 false false) w' h
  rw [yes_of o1] at HM
  have HM2 : Hid (∀ w', Tab w' → _) := Lib.hid fun w' h => may_any (bare 7 (-1) c b st 0 false false) w' h
  rw [yes_of o2] at HM2
  have HZ : Hid (na (bare 7 (-1) c b st 0 false false) = _) := Lib.hid (bare_na 7 (-1) c b st 0 false false)
  have HY : Hid (na (bare 7 (-1) c b st 0 false false) = _) := Lib.hid (bare_na 7 (-1) c b st 0 false false)
  have HY2 : Hid (na (bare 7 (-1) c b st 0 false false) = _) := Lib.hid (bare_na 7 (-1) c b st 0 false false)
  clear o1 o2 hT
  go_enter Tryd.func8, Tryd.ntmps8
  go_wp2_with (first
    | ((with_reducible refine store_lit _ _ HZ.out _ 9 17 ?_ ?_ ?_ ?_); (rfl); (rfl); (rfl))
    | ((with_reducible refine load_new _ _ HY.out 9 ?_ ?_); (rfl))
    | (go_at_call 14; ((with_reducible refine (HM.out _ (HT.out _ (grown_alloc (grown_refl _ _) _))).mono ?_); rintro e w2 ⟨rfl, hg2⟩; have H2 := Lib.hid (grown_trans (grown_alloc (grown_refl w none) _) hg2); have hr2 := range_grown (n_range_Kb _ _ _ HY.out) hg2 (by simp); clear hg2))
    | ((with_reducible refine load_nt (bare 7 (-1) c b st 0 false false) 9 w.heap.size ?_ hr2 ?_); (rfl))
    | ((with_reducible refine store_lit _ _ HY.out _ 11 69 ?_ ?_ ?_ ?_); (rfl); (rfl); (rfl))
    | ((with_reducible refine load_new _ _ HY2.out 11 ?_ ?_); (rfl))
    | (go_at_call 14; ((with_reducible refine (HM2.out _ (HT.out _ (grown_alloc H2.out _))).mono ?_); rintro e w3 ⟨rfl, hg3⟩; have H3 := Lib.hid (grown_trans (grown_alloc H2.out _) hg3); clear hg3 H2 hr2))
    | (go_at_call 11; ((with_reducible refine (HWK.out _ (HT.out _ H3.out)).mono ?_); rintro e w4 ⟨rfl, hg4⟩; have H4 := Lib.hid (grown_trans H3.out hg4); clear hg4 H3)))
  go_ret
  exact ⟨rfl, H4.out⟩
theorem kinds_7_cl (c b st : Int) (hx : c < 0) (w : World) (hT : Tab w) : Calls Tryd.prog 8 #[.int .u8 7, .int .i64 c, .int .i64 b, .int .u64 st] w fun e w' => e = .returned (.bool true) ∧ w.grownBy w' none := by
  have HT := Lib.hid (fun w' (h : w.grownBy w' none) => hT.grown h)
  have HWK : Hid (∀ w', Tab w' → _) := Lib.hid fun w' h => works_any w' h
  have o1 : ¬ (bare 7 (-1) c b st 0 false false).ok := by
    simp [Nt.ok, nt_eq, usd, uses, coreOf, bare]
    try omega
  have o2 : ¬ (bare 7 (-1) c b st 0 false false).ok := by
    simp [Nt.ok, nt_eq, usd, uses, coreOf, bare]
    try omega
  have HM : Hid (∀ w', Tab w' → _) := Lib.hid fun w' h => may_any (bare 7 (-1) c b st 0 false false) w' h
  rw [yes_not o1] at HM
  have HM2 : Hid (∀ w', Tab w' → _) := Lib.hid fun w' h => may_any (bare 7 (-1) c b st 0 false false) w' h
  rw [yes_not o2] at HM2
  have HZ : Hid (na (bare 7 (-1) c b st 0 false false) = _) := Lib.hid (bare_na 7 (-1) c b st 0 false false)
  have HY : Hid (na (bare 7 (-1) c b st 0 false false) = _) := Lib.hid (bare_na 7 (-1) c b st 0 false false)
  have HY2 : Hid (na (bare 7 (-1) c b st 0 false false) = _) := Lib.hid (bare_na 7 (-1) c b st 0 false false)
  clear o1 o2 hT
  go_enter Tryd.func8, Tryd.ntmps8
  go_wp2_with (first
    | ((with_reducible refine store_lit _ _ HZ.out _ 9 17 ?_ ?_ ?_ ?_); (rfl); (rfl); (rfl))
    | ((with_reducible refine load_new _ _ HY.out 9 ?_ ?_); (rfl))
    | (go_at_call 14; ((with_reducible refine (HM.out _ (HT.out _ (grown_alloc (grown_refl _ _) _))).mono ?_); rintro e w2 ⟨rfl, hg2⟩; have H2 := Lib.hid (grown_trans (grown_alloc (grown_refl w none) _) hg2); have hr2 := range_grown (n_range_Kb _ _ _ HY.out) hg2 (by simp); clear hg2))
    | ((with_reducible refine load_nt (bare 7 (-1) c b st 0 false false) 9 w.heap.size ?_ hr2 ?_); (rfl))
    | ((with_reducible refine store_lit _ _ HY.out _ 11 69 ?_ ?_ ?_ ?_); (rfl); (rfl); (rfl))
    | ((with_reducible refine load_new _ _ HY2.out 11 ?_ ?_); (rfl))
    | (go_at_call 14; ((with_reducible refine (HM2.out _ (HT.out _ (grown_alloc H2.out _))).mono ?_); rintro e w3 ⟨rfl, hg3⟩; have H3 := Lib.hid (grown_trans (grown_alloc H2.out _) hg3); clear hg3 H2 hr2))
    | (go_at_call 11; ((with_reducible refine (HWK.out _ (HT.out _ H3.out)).mono ?_); rintro e w4 ⟨rfl, hg4⟩; have H4 := Lib.hid (grown_trans H3.out hg4); clear hg4 H3)))
  go_ret
  exact ⟨rfl, H4.out⟩
theorem kinds_7_ch (c b st : Int) (c0 : 0 ≤ c) (hx : 16 ≤ c) (w : World) (hT : Tab w) : Calls Tryd.prog 8 #[.int .u8 7, .int .i64 c, .int .i64 b, .int .u64 st] w fun e w' => e = .returned (.bool true) ∧ w.grownBy w' none := by
  have HT := Lib.hid (fun w' (h : w.grownBy w' none) => hT.grown h)
  have HWK : Hid (∀ w', Tab w' → _) := Lib.hid fun w' h => works_any w' h
  have o1 : ¬ (bare 7 (-1) c b st 0 false false).ok := by
    simp [Nt.ok, nt_eq, usd, uses, coreOf, bare]
    try omega
  have o2 : ¬ (bare 7 (-1) c b st 0 false false).ok := by
    simp [Nt.ok, nt_eq, usd, uses, coreOf, bare]
    try omega
  have HM : Hid (∀ w', Tab w' → _) := Lib.hid fun w' h => may_any (bare 7 (-1) c b st 0 false false) w' h
  rw [yes_not o1] at HM
  have HM2 : Hid (∀ w', Tab w' → _) := Lib.hid fun w' h => may_any (bare 7 (-1) c b st 0 false false) w' h
  rw [yes_not o2] at HM2
  have HZ : Hid (na (bare 7 (-1) c b st 0 false false) = _) := Lib.hid (bare_na 7 (-1) c b st 0 false false)
  have HY : Hid (na (bare 7 (-1) c b st 0 false false) = _) := Lib.hid (bare_na 7 (-1) c b st 0 false false)
  have HY2 : Hid (na (bare 7 (-1) c b st 0 false false) = _) := Lib.hid (bare_na 7 (-1) c b st 0 false false)
  clear o1 o2 hT
  go_enter Tryd.func8, Tryd.ntmps8
  go_wp2_with (first
    | ((with_reducible refine store_lit _ _ HZ.out _ 9 17 ?_ ?_ ?_ ?_); (rfl); (rfl); (rfl))
    | ((with_reducible refine load_new _ _ HY.out 9 ?_ ?_); (rfl))
    | (go_at_call 14; ((with_reducible refine (HM.out _ (HT.out _ (grown_alloc (grown_refl _ _) _))).mono ?_); rintro e w2 ⟨rfl, hg2⟩; have H2 := Lib.hid (grown_trans (grown_alloc (grown_refl w none) _) hg2); have hr2 := range_grown (n_range_Kb _ _ _ HY.out) hg2 (by simp); clear hg2))
    | ((with_reducible refine load_nt (bare 7 (-1) c b st 0 false false) 9 w.heap.size ?_ hr2 ?_); (rfl))
    | ((with_reducible refine store_lit _ _ HY.out _ 11 69 ?_ ?_ ?_ ?_); (rfl); (rfl); (rfl))
    | ((with_reducible refine load_new _ _ HY2.out 11 ?_ ?_); (rfl))
    | (go_at_call 14; ((with_reducible refine (HM2.out _ (HT.out _ (grown_alloc H2.out _))).mono ?_); rintro e w3 ⟨rfl, hg3⟩; have H3 := Lib.hid (grown_trans (grown_alloc H2.out _) hg3); clear hg3 H2 hr2))
    | (go_at_call 11; ((with_reducible refine (HWK.out _ (HT.out _ H3.out)).mono ?_); rintro e w4 ⟨rfl, hg4⟩; have H4 := Lib.hid (grown_trans H3.out hg4); clear hg4 H3)))
  go_ret
  exact ⟨rfl, H4.out⟩
theorem kinds_7_bl (c b st : Int) (c0 : 0 ≤ c) (c1 : c < 16) (hx : b < 0) (w : World) (hT : Tab w) : Calls Tryd.prog 8 #[.int .u8 7, .int .i64 c, .int .i64 b, .int .u64 st] w fun e w' => e = .returned (.bool true) ∧ w.grownBy w' none := by
  have HT := Lib.hid (fun w' (h : w.grownBy w' none) => hT.grown h)
  have HWK : Hid (∀ w', Tab w' → _) := Lib.hid fun w' h => works_any w' h
  have o1 : ¬ (bare 7 (-1) c b st 0 false false).ok := by
    simp [Nt.ok, nt_eq, usd, uses, coreOf, bare]
    try omega
  have o2 : ¬ (bare 7 (-1) c b st 0 false false).ok := by
    simp [Nt.ok, nt_eq, usd, uses, coreOf, bare]
    try omega
  have HM : Hid (∀ w', Tab w' → _) := Lib.hid fun w' h => may_any (bare 7 (-1) c b st 0 false false) w' h
  rw [yes_not o1] at HM
  have HM2 : Hid (∀ w', Tab w' → _) := Lib.hid fun w' h => may_any (bare 7 (-1) c b st 0 false false) w' h
  rw [yes_not o2] at HM2
  have HZ : Hid (na (bare 7 (-1) c b st 0 false false) = _) := Lib.hid (bare_na 7 (-1) c b st 0 false false)
  have HY : Hid (na (bare 7 (-1) c b st 0 false false) = _) := Lib.hid (bare_na 7 (-1) c b st 0 false false)
  have HY2 : Hid (na (bare 7 (-1) c b st 0 false false) = _) := Lib.hid (bare_na 7 (-1) c b st 0 false false)
  clear o1 o2 hT
  go_enter Tryd.func8, Tryd.ntmps8
  go_wp2_with (first
    | ((with_reducible refine store_lit _ _ HZ.out _ 9 17 ?_ ?_ ?_ ?_); (rfl); (rfl); (rfl))
    | ((with_reducible refine load_new _ _ HY.out 9 ?_ ?_); (rfl))
    | (go_at_call 14; ((with_reducible refine (HM.out _ (HT.out _ (grown_alloc (grown_refl _ _) _))).mono ?_); rintro e w2 ⟨rfl, hg2⟩; have H2 := Lib.hid (grown_trans (grown_alloc (grown_refl w none) _) hg2); have hr2 := range_grown (n_range_Kb _ _ _ HY.out) hg2 (by simp); clear hg2))
    | ((with_reducible refine load_nt (bare 7 (-1) c b st 0 false false) 9 w.heap.size ?_ hr2 ?_); (rfl))
    | ((with_reducible refine store_lit _ _ HY.out _ 11 69 ?_ ?_ ?_ ?_); (rfl); (rfl); (rfl))
    | ((with_reducible refine load_new _ _ HY2.out 11 ?_ ?_); (rfl))
    | (go_at_call 14; ((with_reducible refine (HM2.out _ (HT.out _ (grown_alloc H2.out _))).mono ?_); rintro e w3 ⟨rfl, hg3⟩; have H3 := Lib.hid (grown_trans (grown_alloc H2.out _) hg3); clear hg3 H2 hr2))
    | (go_at_call 11; ((with_reducible refine (HWK.out _ (HT.out _ H3.out)).mono ?_); rintro e w4 ⟨rfl, hg4⟩; have H4 := Lib.hid (grown_trans H3.out hg4); clear hg4 H3)))
  go_ret
  exact ⟨rfl, H4.out⟩
theorem kinds_7_bh (c b st : Int) (c0 : 0 ≤ c) (c1 : c < 16) (b0 : 0 ≤ b) (hx : 256 ≤ b) (w : World) (hT : Tab w) : Calls Tryd.prog 8 #[.int .u8 7, .int .i64 c, .int .i64 b, .int .u64 st] w fun e w' => e = .returned (.bool true) ∧ w.grownBy w' none := by
  have HT := Lib.hid (fun w' (h : w.grownBy w' none) => hT.grown h)
  have HWK : Hid (∀ w', Tab w' → _) := Lib.hid fun w' h => works_any w' h
  have o1 : ¬ (bare 7 (-1) c b st 0 false false).ok := by
    simp [Nt.ok, nt_eq, usd, uses, coreOf, bare]
    try omega
  have o2 : ¬ (bare 7 (-1) c b st 0 false false).ok := by
    simp [Nt.ok, nt_eq, usd, uses, coreOf, bare]
    try omega
  have HM : Hid (∀ w', Tab w' → _) := Lib.hid fun w' h => may_any (bare 7 (-1) c b st 0 false false) w' h
  rw [yes_not o1] at HM
  have HM2 : Hid (∀ w', Tab w' → _) := Lib.hid fun w' h => may_any (bare 7 (-1) c b st 0 false false) w' h
  rw [yes_not o2] at HM2
  have HZ : Hid (na (bare 7 (-1) c b st 0 false false) = _) := Lib.hid (bare_na 7 (-1) c b st 0 false false)
  have HY : Hid (na (bare 7 (-1) c b st 0 false false) = _) := Lib.hid (bare_na 7 (-1) c b st 0 false false)
  have HY2 : Hid (na (bare 7 (-1) c b st 0 false false) = _) := Lib.hid (bare_na 7 (-1) c b st 0 false false)
  clear o1 o2 hT
  go_enter Tryd.func8, Tryd.ntmps8
  go_wp2_with (first
    | ((with_reducible refine store_lit _ _ HZ.out _ 9 17 ?_ ?_ ?_ ?_); (rfl); (rfl); (rfl))
    | ((with_reducible refine load_new _ _ HY.out 9 ?_ ?_); (rfl))
    | (go_at_call 14; ((with_reducible refine (HM.out _ (HT.out _ (grown_alloc (grown_refl _ _) _))).mono ?_); rintro e w2 ⟨rfl, hg2⟩; have H2 := Lib.hid (grown_trans (grown_alloc (grown_refl w none) _) hg2); have hr2 := range_grown (n_range_Kb _ _ _ HY.out) hg2 (by simp); clear hg2))
    | ((with_reducible refine load_nt (bare 7 (-1) c b st 0 false false) 9 w.heap.size ?_ hr2 ?_); (rfl))
    | ((with_reducible refine store_lit _ _ HY.out _ 11 69 ?_ ?_ ?_ ?_); (rfl); (rfl); (rfl))
    | ((with_reducible refine load_new _ _ HY2.out 11 ?_ ?_); (rfl))
    | (go_at_call 14; ((with_reducible refine (HM2.out _ (HT.out _ (grown_alloc H2.out _))).mono ?_); rintro e w3 ⟨rfl, hg3⟩; have H3 := Lib.hid (grown_trans (grown_alloc H2.out _) hg3); clear hg3 H2 hr2))
    | (go_at_call 11; ((with_reducible refine (HWK.out _ (HT.out _ H3.out)).mono ?_); rintro e w4 ⟨rfl, hg4⟩; have H4 := Lib.hid (grown_trans H3.out hg4); clear hg4 H3)))
  go_ret
  exact ⟨rfl, H4.out⟩
theorem kinds_8_ok (c b st : Int) (c0 : 0 ≤ c) (c1 : c < 16) (b0 : 0 ≤ b) (b1 : b < 256) (w : World) (hT : Tab w) : Calls Tryd.prog 8 #[.int .u8 8, .int .i64 c, .int .i64 b, .int .u64 st] w fun e w' => e = .returned (.bool true) ∧ w.grownBy w' none := by
  have HT := Lib.hid (fun w' (h : w.grownBy w' none) => hT.grown h)
  have HWK : Hid (∀ w', Tab w' → _) := Lib.hid fun w' h => works_any w' h
  have o1 : (bare 8 (-1) c b 0 0 false false).ok := by
    simp [Nt.ok, nt_eq, usd, uses, coreOf, bare]
    omega
  have o2 : (bare 8 (-1) c b 0 0 false false).ok := by
    simp [Nt.ok, nt_eq, usd, uses, coreOf, bare]
    omega
  have HM : Hid (∀ w', Tab w' → _) := Lib.hid fun w' h => may_any (bare 8 (-1) c b 0 0 false false) w' h
  rw [yes_of o1] at HM
  have HM2 : Hid (∀ w', Tab w' → _) := Lib.hid fun w' h => may_any (bare 8 (-1) c b 0 0 false false) w' h
  rw [yes_of o2] at HM2
  have HZ : Hid (na (bare 8 (-1) c b st 0 false false) = _) := Lib.hid (bare_na 8 (-1) c b st 0 false false)
  have HY : Hid (na (bare 8 (-1) c b 0 0 false false) = _) := Lib.hid (bare_na 8 (-1) c b 0 0 false false)
  have HY2 : Hid (na (bare 8 (-1) c b 0 0 false false) = _) := Lib.hid (bare_na 8 (-1) c b 0 0 false false)
  clear o1 o2 hT
  go_enter Tryd.func8, Tryd.ntmps8
  go_wp2_with (first
    | ((with_reducible refine store_lit _ _ HZ.out _ 9 17 ?_ ?_ ?_ ?_); (rfl); (rfl); (rfl))
    | ((with_reducible refine load_new _ _ HY.out 9 ?_ ?_); (rfl))
    | (go_at_call 14; ((with_reducible refine (HM.out _ (HT.out _ (grown_alloc (grown_refl _ _) _))).mono ?_); rintro e w2 ⟨rfl, hg2⟩; have H2 := Lib.hid (grown_trans (grown_alloc (grown_refl w none) _) hg2); have hr2 := range_grown (n_range_Kb _ _ _ HY.out) hg2 (by simp); clear hg2))
    | ((with_reducible refine load_nt (bare 8 (-1) c b 0 0 false false) 9 w.heap.size ?_ hr2 ?_); (rfl))
    | ((with_reducible refine store_lit _ _ HY.out _ 11 69 ?_ ?_ ?_ ?_); (rfl); (rfl); (rfl))
    | ((with_reducible refine load_new _ _ HY2.out 11 ?_ ?_); (rfl))
    | (go_at_call 14; ((with_reducible refine (HM2.out _ (HT.out _ (grown_alloc H2.out _))).mono ?_); rintro e w3 ⟨rfl, hg3⟩; have H3 := Lib.hid (grown_trans (grown_alloc H2.out _) hg3); clear hg3 H2 hr2))
    | (go_at_call 11; ((with_reducible refine (HWK.out _ (HT.out _ H3.out)).mono ?_); rintro e w4 ⟨rfl, hg4⟩; have H4 := Lib.hid (grown_trans H3.out hg4); clear hg4 H3)))
  go_ret
  exact ⟨rfl, H4.out⟩
theorem kinds_8_cl (c b st : Int) (hx : c < 0) (w : World) (hT : Tab w) : Calls Tryd.prog 8 #[.int .u8 8, .int .i64 c, .int .i64 b, .int .u64 st] w fun e w' => e = .returned (.bool true) ∧ w.grownBy w' none := by
  have HT := Lib.hid (fun w' (h : w.grownBy w' none) => hT.grown h)
  have HWK : Hid (∀ w', Tab w' → _) := Lib.hid fun w' h => works_any w' h
  have o1 : ¬ (bare 8 (-1) c b 0 0 false false).ok := by
    simp [Nt.ok, nt_eq, usd, uses, coreOf, bare]
    try omega
  have o2 : ¬ (bare 8 (-1) c b 0 0 false false).ok := by
    simp [Nt.ok, nt_eq, usd, uses, coreOf, bare]
    try omega
  have HM : Hid (∀ w', Tab w' → _) := Lib.hid fun w' h => may_any (bare 8 (-1) c b 0 0 false false) w' h
  rw [yes_not o1] at HM
  have HM2 : Hid (∀ w', Tab w' → _) := Lib.hid fun w' h => may_any (bare 8 (-1) c b 0 0 false false) w' h
  rw [yes_not o2] at HM2
  have HZ : Hid (na (bare 8 (-1) c b st 0 false false) = _) := Lib.hid (bare_na 8 (-1) c b st 0 false false)
  have HY : Hid (na (bare 8 (-1) c b 0 0 false false) = _) := Lib.hid (bare_na 8 (-1) c b 0 0 false false)
  have HY2 : Hid (na (bare 8 (-1) c b 0 0 false false) = _) := Lib.hid (bare_na 8 (-1) c b 0 0 false false)
  clear o1 o2 hT
  go_enter Tryd.func8, Tryd.ntmps8
  go_wp2_with (first
    | ((with_reducible refine store_lit _ _ HZ.out _ 9 17 ?_ ?_ ?_ ?_); (rfl); (rfl); (rfl))
    | ((with_reducible refine load_new _ _ HY.out 9 ?_ ?_); (rfl))
    | (go_at_call 14; ((with_reducible refine (HM.out _ (HT.out _ (grown_alloc (grown_refl _ _) _))).mono ?_); rintro e w2 ⟨rfl, hg2⟩; have H2 := Lib.hid (grown_trans (grown_alloc (grown_refl w none) _) hg2); have hr2 := range_grown (n_range_Kb _ _ _ HY.out) hg2 (by simp); clear hg2))
    | ((with_reducible refine load_nt (bare 8 (-1) c b 0 0 false false) 9 w.heap.size ?_ hr2 ?_); (rfl))
    | ((with_reducible refine store_lit _ _ HY.out _ 11 69 ?_ ?_ ?_ ?_); (rfl); (rfl); (rfl))
    | ((with_reducible refine load_new _ _ HY2.out 11 ?_ ?_); (rfl))
    | (go_at_call 14; ((with_reducible refine (HM2.out _ (HT.out _ (grown_alloc H2.out _))).mono ?_); rintro e w3 ⟨rfl, hg3⟩; have H3 := Lib.hid (grown_trans (grown_alloc H2.out _) hg3); clear hg3 H2 hr2))
    | (go_at_call 11; ((with_reducible refine (HWK.out _ (HT.out _ H3.out)).mono ?_); rintro e w4 ⟨rfl, hg4⟩; have H4 := Lib.hid (grown_trans H3.out hg4); clear hg4 H3)))
  go_ret
  exact ⟨rfl, H4.out⟩
theorem kinds_8_ch (c b st : Int) (c0 : 0 ≤ c) (hx : 16 ≤ c) (w : World) (hT : Tab w) : Calls Tryd.prog 8 #[.int .u8 8, .int .i64 c, .int .i64 b, .int .u64 st] w fun e w' => e = .returned (.bool true) ∧ w.grownBy w' none := by
  have HT := Lib.hid (fun w' (h : w.grownBy w' none) => hT.grown h)
  have HWK : Hid (∀ w', Tab w' → _) := Lib.hid fun w' h => works_any w' h
  have o1 : ¬ (bare 8 (-1) c b 0 0 false false).ok := by
    simp [Nt.ok, nt_eq, usd, uses, coreOf, bare]
    try omega
  have o2 : ¬ (bare 8 (-1) c b 0 0 false false).ok := by
    simp [Nt.ok, nt_eq, usd, uses, coreOf, bare]
    try omega
  have HM : Hid (∀ w', Tab w' → _) := Lib.hid fun w' h => may_any (bare 8 (-1) c b 0 0 false false) w' h
  rw [yes_not o1] at HM
  have HM2 : Hid (∀ w', Tab w' → _) := Lib.hid fun w' h => may_any (bare 8 (-1) c b 0 0 false false) w' h
  rw [yes_not o2] at HM2
  have HZ : Hid (na (bare 8 (-1) c b st 0 false false) = _) := Lib.hid (bare_na 8 (-1) c b st 0 false false)
  have HY : Hid (na (bare 8 (-1) c b 0 0 false false) = _) := Lib.hid (bare_na 8 (-1) c b 0 0 false false)
  have HY2 : Hid (na (bare 8 (-1) c b 0 0 false false) = _) := Lib.hid (bare_na 8 (-1) c b 0 0 false false)
  clear o1 o2 hT
  go_enter Tryd.func8, Tryd.ntmps8
  go_wp2_with (first
    | ((with_reducible refine store_lit _ _ HZ.out _ 9 17 ?_ ?_ ?_ ?_); (rfl); (rfl); (rfl))
    | ((with_reducible refine load_new _ _ HY.out 9 ?_ ?_); (rfl))
    | (go_at_call 14; ((with_reducible refine (HM.out _ (HT.out _ (grown_alloc (grown_refl _ _) _))).mono ?_); rintro e w2 ⟨rfl, hg2⟩; have H2 := Lib.hid (grown_trans (grown_alloc (grown_refl w none) _) hg2); have hr2 := range_grown (n_range_Kb _ _ _ HY.out) hg2 (by simp); clear hg2))
    | ((with_reducible refine load_nt (bare 8 (-1) c b 0 0 false false) 9 w.heap.size ?_ hr2 ?_); (rfl))
    | ((with_reducible refine store_lit _ _ HY.out _ 11 69 ?_ ?_ ?_ ?_); (rfl); (rfl); (rfl))
    | ((with_reducible refine load_new _ _ HY2.out 11 ?_ ?_); (rfl))
    | (go_at_call 14; ((with_reducible refine (HM2.out _ (HT.out _ (grown_alloc H2.out _))).mono ?_); rintro e w3 ⟨rfl, hg3⟩; have H3 := Lib.hid (grown_trans (grown_alloc H2.out _) hg3); clear hg3 H2 hr2))
    | (go_at_call 11; ((with_reducible refine (HWK.out _ (HT.out _ H3.out)).mono ?_); rintro e w4 ⟨rfl, hg4⟩; have H4 := Lib.hid (grown_trans H3.out hg4); clear hg4 H3)))
  go_ret
  exact ⟨rfl, H4.out⟩
theorem kinds_8_bl (c b st : Int) (c0 : 0 ≤ c) (c1 : c < 16) (hx : b < 0) (w : World) (hT : Tab w) : Calls Tryd.prog 8 #[.int .u8 8, .int .i64 c, .int .i64 b, .int .u64 st] w fun e w' => e = .returned (.bool true) ∧ w.grownBy w' none := by
  have HT := Lib.hid (fun w' (h : w.grownBy w' none) => hT.grown h)
  have HWK : Hid (∀ w', Tab w' → _) := Lib.hid fun w' h => works_any w' h
  have o1 : ¬ (bare 8 (-1) c b 0 0 false false).ok := by
    simp [Nt.ok, nt_eq, usd, uses, coreOf, bare]
    try omega
  have o2 : ¬ (bare 8 (-1) c b 0 0 false false).ok := by
    simp [Nt.ok, nt_eq, usd, uses, coreOf, bare]
    try omega
  have HM : Hid (∀ w', Tab w' → _) := Lib.hid fun w' h => may_any (bare 8 (-1) c b 0 0 false false) w' h
  rw [yes_not o1] at HM
  have HM2 : Hid (∀ w', Tab w' → _) := Lib.hid fun w' h => may_any (bare 8 (-1) c b 0 0 false false) w' h
  rw [yes_not o2] at HM2
  have HZ : Hid (na (bare 8 (-1) c b st 0 false false) = _) := Lib.hid (bare_na 8 (-1) c b st 0 false false)
  have HY : Hid (na (bare 8 (-1) c b 0 0 false false) = _) := Lib.hid (bare_na 8 (-1) c b 0 0 false false)
  have HY2 : Hid (na (bare 8 (-1) c b 0 0 false false) = _) := Lib.hid (bare_na 8 (-1) c b 0 0 false false)
  clear o1 o2 hT
  go_enter Tryd.func8, Tryd.ntmps8
  go_wp2_with (first
    | ((with_reducible refine store_lit _ _ HZ.out _ 9 17 ?_ ?_ ?_ ?_); (rfl); (rfl); (rfl))
    | ((with_reducible refine load_new _ _ HY.out 9 ?_ ?_); (rfl))
    | (go_at_call 14; ((with_reducible refine (HM.out _ (HT.out _ (grown_alloc (grown_refl _ _) _))).mono ?_); rintro e w2 ⟨rfl, hg2⟩; have H2 := Lib.hid (grown_trans (grown_alloc (grown_refl w none) _) hg2); have hr2 := range_grown (n_range_Kb _ _ _ HY.out) hg2 (by simp); clear hg2))
    | ((with_reducible refine load_nt (bare 8 (-1) c b 0 0 false false) 9 w.heap.size ?_ hr2 ?_); (rfl))
    | ((with_reducible refine store_lit _ _ HY.out _ 11 69 ?_ ?_ ?_ ?_); (rfl); (rfl); (rfl))
    | ((with_reducible refine load_new _ _ HY2.out 11 ?_ ?_); (rfl))
    | (go_at_call 14; ((with_reducible refine (HM2.out _ (HT.out _ (grown_alloc H2.out _))).mono ?_); rintro e w3 ⟨rfl, hg3⟩; have H3 := Lib.hid (grown_trans (grown_alloc H2.out _) hg3); clear hg3 H2 hr2))
    | (go_at_call 11; ((with_reducible refine (HWK.out _ (HT.out _ H3.out)).mono ?_); rintro e w4 ⟨rfl, hg4⟩; have H4 := Lib.hid (grown_trans H3.out hg4); clear hg4 H3)))
  go_ret
  exact ⟨rfl, H4.out⟩
theorem kinds_8_bh (c b st : Int) (c0 : 0 ≤ c) (c1 : c < 16) (b0 : 0 ≤ b) (hx : 256 ≤ b) (w : World) (hT : Tab w) : Calls Tryd.prog 8 #[.int .u8 8, .int .i64 c, .int .i64 b, .int .u64 st] w fun e w' => e = .returned (.bool true) ∧ w.grownBy w' none := by
  have HT := Lib.hid (fun w' (h : w.grownBy w' none) => hT.grown h)
  have HWK : Hid (∀ w', Tab w' → _) := Lib.hid fun w' h => works_any w' h
  have o1 : ¬ (bare 8 (-1) c b 0 0 false false).ok := by
    simp [Nt.ok, nt_eq, usd, uses, coreOf, bare]
    try omega
  have o2 : ¬ (bare 8 (-1) c b 0 0 false false).ok := by
    simp [Nt.ok, nt_eq, usd, uses, coreOf, bare]
    try omega
  have HM : Hid (∀ w', Tab w' → _) := Lib.hid fun w' h => may_any (bare 8 (-1) c b 0 0 false false) w' h
  rw [yes_not o1] at HM
  have HM2 : Hid (∀ w', Tab w' → _) := Lib.hid fun w' h => may_any (bare 8 (-1) c b 0 0 false false) w' h
  rw [yes_not o2] at HM2
  have HZ : Hid (na (bare 8 (-1) c b st 0 false false) = _) := Lib.hid (bare_na 8 (-1) c b st 0 false false)
  have HY : Hid (na (bare 8 (-1) c b 0 0 false false) = _) := Lib.hid (bare_na 8 (-1) c b 0 0 false false)
  have HY2 : Hid (na (bare 8 (-1) c b 0 0 false false) = _) := Lib.hid (bare_na 8 (-1) c b 0 0 false false)
  clear o1 o2 hT
  go_enter Tryd.func8, Tryd.ntmps8
  go_wp2_with (first
    | ((with_reducible refine store_lit _ _ HZ.out _ 9 17 ?_ ?_ ?_ ?_); (rfl); (rfl); (rfl))
    | ((with_reducible refine load_new _ _ HY.out 9 ?_ ?_); (rfl))
    | (go_at_call 14; ((with_reducible refine (HM.out _ (HT.out _ (grown_alloc (grown_refl _ _) _))).mono ?_); rintro e w2 ⟨rfl, hg2⟩; have H2 := Lib.hid (grown_trans (grown_alloc (grown_refl w none) _) hg2); have hr2 := range_grown (n_range_Kb _ _ _ HY.out) hg2 (by simp); clear hg2))
    | ((with_reducible refine load_nt (bare 8 (-1) c b 0 0 false false) 9 w.heap.size ?_ hr2 ?_); (rfl))
    | ((with_reducible refine store_lit _ _ HY.out _ 11 69 ?_ ?_ ?_ ?_); (rfl); (rfl); (rfl))
    | ((with_reducible refine load_new _ _ HY2.out 11 ?_ ?_); (rfl))
    | (go_at_call 14; ((with_reducible refine (HM2.out _ (HT.out _ (grown_alloc H2.out _))).mono ?_); rintro e w3 ⟨rfl, hg3⟩; have H3 := Lib.hid (grown_trans (grown_alloc H2.out _) hg3); clear hg3 H2 hr2))
    | (go_at_call 11; ((with_reducible refine (HWK.out _ (HT.out _ H3.out)).mono ?_); rintro e w4 ⟨rfl, hg4⟩; have H4 := Lib.hid (grown_trans H3.out hg4); clear hg4 H3)))
  go_ret
  exact ⟨rfl, H4.out⟩
end Go.Proofs.YthmnjoanehepcaaDoor.nn
