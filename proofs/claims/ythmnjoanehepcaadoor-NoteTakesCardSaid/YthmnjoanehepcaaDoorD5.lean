/-
  The law NoteTakes returns true: the walk. Condition: the table of kinds lies in its variable as the program's text has it.
-/
import Derived.Test.YthmnjoanehepcaaDoorB10
import Derived.Test.YthmnjoanehepcaaDoorD6
namespace Go.Proofs.YthmnjoanehepcaaDoor.nn
open Go Go.ChangeShapes Go.WideShapes Go.ChangeAt Go.RowKit
set_option linter.unusedVariables false
set_option maxRecDepth 100000
set_option maxHeartbeats 1000000

theorem rtake_took (l : List UInt8) (hl : l.length ≤ 1000000) (w : World) : Calls Tryd.prog 18 #[S l] w fun e w' => e = .returned (.tuple #[.agg (na (took l)), .int .i64 (tookE l)]) ∧ w.grownBy w' none := by
  by_cases h : l.length = 78
  · have h1 := rtake_78 l h w
    unfold took tookE
    by_cases hk : (tk l).ok
    · rw [if_pos hk] at h1; rw [if_pos ⟨h, hk⟩, if_pos ⟨h, hk⟩]; exact h1
    · rw [if_neg hk] at h1; rw [if_neg (fun h => hk h.2), if_neg (fun h => hk h.2)]; exact h1
  · unfold took tookE
    rw [if_neg (fun h' => h h'.1), if_neg (fun h' => h h'.1)]
    exact rtake_len l hl w h
theorem longs_true (s : ByteArray) (h : 1000 < s.size) (w : World) (hT : Tab w) : Calls Tryd.prog 5 #[.string s] w fun e w' => e = .returned (.bool true) ∧ w.grownBy w' none := by
  have HWK := Lib.hid (works_any w hT)
  clear hT
  go_enter Tryd.func5, Tryd.ntmps5
  go_wp2_with (go_at_call 11; ((with_reducible refine HWK.out.mono ?_); rintro e w4 ⟨rfl, hg4⟩; have H4 := Lib.hid hg4; clear hg4))
  go_ret
  exact ⟨rfl, H4.out⟩
theorem short_true (l : List UInt8) (hl : l.length ≤ 1000) (w : World) (hT : Tab w) : Calls Tryd.prog 5 #[S l] w fun e w' => e = .returned (.bool true) ∧ w.grownBy w' none := by
  have HT := Lib.hid (fun w' (h : w.grownBy w' none) => hT.grown h)
  have HWK : Hid (∀ w', Tab w' → _) := Lib.hid fun w' h => works_any w' h
  have HTK := Lib.hid (take_took l (by omega) w hT)
  have HRT := Lib.hid (rtake_took l (by omega))
  have hsz : (ByteArray.mk l.toArray).size = l.length := by show l.toArray.size = _; simp
  generalize took l = m at *
  generalize tookE l = y at *
  have hq : ∀ w, (binOp .eql 31 (.agg (na m)) (.agg (na m))).run Tryd.prog w = .ok (.bool true) w := fun w => by rw [q31e, decide_eq_true rfl]
  clear hT
  go_enter Tryd.func5, Tryd.ntmps5
  go_wp2_with (first
    | (go_at_call 17; ((with_reducible refine HTK.out.mono ?_); rintro e w1 ⟨rfl, hg1⟩; have H1 := Lib.hid (grown_alloc hg1 (.cells (na m) 31)); clear hg1))
    | ((with_reducible refine store_new m _ 3 14 ?_ ?_ ?_ ?_); (rfl); (rfl); (rfl))
    | (go_at_call 18; ((with_reducible refine (HRT.out _).mono ?_); rintro e w2 ⟨rfl, hg2⟩; have H2 := Lib.hid (grown_alloc (grown_trans H1.out hg2) (.cells (na m) 31)); have hr1 := range_grown (range_of (heap_alloc_new w1 (.cells (na m) 31))) (grown_alloc hg2 (.cells (na m) 31)) (by simp); have hr2 := range_of (heap_alloc_new w2 (.cells (na m) 31)); clear hg2))
    | ((with_reducible refine store_new m _ 5 19 ?_ ?_ ?_ ?_); (rfl); (rfl); (rfl))
    | ((with_reducible refine load_nt m 3 w1.heap.size ?_ hr1 ?_); (rfl))
    | ((with_reducible refine load_nt m 5 w2.heap.size ?_ hr2 ?_); (rfl))
    | (go_at_call 11; ((with_reducible refine (HWK.out _ (HT.out _ H2.out)).mono ?_); rintro e w6 ⟨rfl, hg6⟩; have H6 := Lib.hid (grown_trans H2.out hg6); clear hg6)))
  go_ret
  exact ⟨rfl, H6.out⟩
theorem takes_true (s : ByteArray) (w : World) (hT : Tab w) : Calls Tryd.prog 5 #[.string s] w fun e w' => e = .returned (.bool true) ∧ w.grownBy w' none := by
  by_cases h : 1000 < s.size
  · exact longs_true s h w hT
  · obtain ⟨l, rfl⟩ : ∃ l : List UInt8, s = ⟨l.toArray⟩ := ⟨s.data.toList, by simp⟩
    have hl : l.length ≤ 1000 := by
      have : (ByteArray.mk l.toArray).size = l.length := by show l.toArray.size = _; simp
      omega
    exact short_true l hl w hT
end Go.Proofs.YthmnjoanehepcaaDoor.nn
