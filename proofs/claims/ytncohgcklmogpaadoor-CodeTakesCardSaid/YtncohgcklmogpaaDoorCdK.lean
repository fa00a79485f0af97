/-
  What the document's own Take answers: just what Take of package code does; and what works answers. No condition but the bounds that each theorem names.
-/
import Derived.Test.YtncohgcklmogpaaDoorCdJ
namespace Go.Proofs.YtncohgcklmogpaaDoor.cd
open Go Go.ChangeShapes Go.WideShapes Go.ChangeAt Go.RowKit
set_option linter.unusedVariables false
set_option maxRecDepth 1000000

theorem tok_small {x : Nat} (ho : x / 67108864 < 22) : tok x = decide (wd (rc x) = x) := by unfold tok; simp [ho]
/-- The same answer, in the words of Take. -/
theorem to_tk {x : Nat} {c : Cd} {w : World} (h : (may c && decide (wd c = x)) = tok x) (h2 : tok x = true → c = rc x)
    (H : Calls Tryd.prog 14 #[.int .u32 (x : Int)] w fun e w' => e = .returned (.tuple #[.agg (ca (if may c && decide (wd c = x) then c else zc)), .int .i64 (terr (may c && decide (wd c = x)))]) ∧ w.grownBy w' none) :
    Calls Tryd.prog 14 #[.int .u32 (x : Int)] w fun e w' => e = .returned (.tuple #[.agg (ca (tk x)), .int .i64 (terr (tok x))]) ∧ w.grownBy w' none := by
  rw [h] at H
  have e : (if tok x then c else zc) = tk x := by
    unfold tk
    cases ht : tok x
    · rfl
    · rw [if_pos rfl, if_pos rfl]; exact h2 ht
  rwa [e] at H
theorem to_same {x : Nat} {c : Cd} (ho : x / 67108864 < 22) (e : rc x = c) : (may c && decide (wd c = x)) = tok x ∧ (tok x = true → c = rc x) := by
  subst e
  rw [tok_small ho, rc_may x ho]
  exact ⟨rfl, fun _ => rfl⟩
theorem lo14 {x : Nat} (h : x % 16384 < 8192) : rd 8191 16384 x = ((x % 16384 : Nat) : Int) := by unfold rd; rw [if_neg (by omega)]
theorem hi14 {x : Nat} (h : ¬ x % 16384 < 8192) : rd 8191 16384 x = ((x % 16384 : Nat) : Int) - 16384 := by unfold rd; rw [if_pos (by omega)]; omega
theorem lo22 {x : Nat} (h : x % 4194304 < 2097152) : rd 2097151 4194304 x = ((x % 4194304 : Nat) : Int) := by unfold rd; rw [if_neg (by omega)]
theorem hi22 {x : Nat} (h : ¬ x % 4194304 < 2097152) : rd 2097151 4194304 x = ((x % 4194304 : Nat) : Int) - 4194304 := by unfold rd; rw [if_pos (by omega)]; omega
theorem rtake_any (x : Nat) (w : World) (hx : x < 4294967296) : Calls Tryd.prog 14 #[.int .u32 (x : Int)] w fun e w' => e = .returned (.tuple #[.agg (ca (tk x)), .int .i64 (terr (tok x))]) ∧ w.grownBy w' none := by
  have D := dg x hx
  have B : x / 67108864 < 64 ∧ x / 4194304 % 16 < 16 ∧ x / 262144 % 16 < 16 ∧ x / 16384 % 16 < 16 ∧ x % 4194304 < 4194304 ∧ x % 16384 < 16384 ∧ x < 4294967296 := by omega
  by_cases ho : x / 67108864 < 22
  · have hr : rf (x / 67108864) = fm (x / 67108864) := by unfold rf; rw [if_pos ho]
    rcases form_cases (fm_lt (x / 67108864)) with q | q | q | q | q | q | q <;> rw [q] at hr
    · have s := to_same ho (rc_0 q)
      exact to_tk s.1 s.2 (rtake_0 x _ _ _ _ _ _ _ _ _ w D B hr _ _ _ rfl (fun _ => rfl) rfl)
    · have s := to_same ho (rc_1 q)
      exact to_tk s.1 s.2 (rtake_1 x _ _ _ _ _ _ _ _ _ w D B hr _ _ _ rfl (fun _ => rfl) rfl)
    · by_cases hs : x % 16384 < 8192
      · have s := to_same ho ((rc_2 q).trans (by rw [lo14 hs]))
        exact to_tk s.1 s.2 (rtake_2a x _ _ _ _ _ _ _ _ _ w D B hr hs _ _ _ rfl (fun _ => rfl) rfl)
      · have s := to_same ho ((rc_2 q).trans (by rw [hi14 hs]))
        exact to_tk s.1 s.2 (rtake_2b x _ _ _ _ _ _ _ _ _ w D B hr (by omega) _ _ _ rfl (fun _ => rfl) rfl)
    · by_cases hs : x % 4194304 < 2097152
      · have s := to_same ho ((rc_3 q).trans (by rw [lo22 hs]))
        exact to_tk s.1 s.2 (rtake_3a x _ _ _ _ _ _ _ _ _ w D B hr hs _ _ _ rfl (fun _ => rfl) rfl)
      · have s := to_same ho ((rc_3 q).trans (by rw [hi22 hs]))
        exact to_tk s.1 s.2 (rtake_3b x _ _ _ _ _ _ _ _ _ w D B hr (by omega) _ _ _ rfl (fun _ => rfl) rfl)
    · by_cases hs : x % 4194304 < 2097152
      · have s := to_same ho ((rc_4 q).trans (by rw [lo22 hs]))
        exact to_tk s.1 s.2 (rtake_4a x _ _ _ _ _ _ _ _ _ w D B hr hs _ _ _ rfl (fun _ => rfl) rfl)
      · have s := to_same ho ((rc_4 q).trans (by rw [hi22 hs]))
        exact to_tk s.1 s.2 (rtake_4b x _ _ _ _ _ _ _ _ _ w D B hr (by omega) _ _ _ rfl (fun _ => rfl) rfl)
    · have hm : may ⟨x / 67108864, 0, 0, 0, ((x % 4194304 : Nat) : Int)⟩ = decide _ := may_dec (c := ⟨x / 67108864, 0, 0, 0, ((x % 4194304 : Nat) : Int)⟩) 5 q ho
      simp only [us] at hm
      have e5 := rc_5 q
      refine to_tk ?_ ?_ (rtake_5 x _ _ _ _ _ _ _ _ _ w D B hr _ _ _ rfl (fun _ => rfl) rfl)
      · rw [tok_small ho, e5]
        by_cases hs : x % 4194304 ≤ 255
        · rw [hm, decide_eq_true (by omega), show x % 256 = x % 4194304 by omega, Bool.true_and]
        · rw [hm, decide_eq_false (by omega), Bool.false_and]
          refine (decide_eq_false fun h => ?_).symm
          unfold wd nn at h
          simp only at h
          rw [if_neg (by omega)] at h
          omega
      · rw [tok_small ho, e5]
        intro h
        have h := of_decide_eq_true h
        unfold wd nn at h
        simp only at h
        rw [if_neg (by omega)] at h
        simp only [Cd.mk.injEq, true_and]
        omega
    · have s := to_same ho (rc_6 q)
      exact to_tk s.1 s.2 (rtake_6 x _ _ _ _ _ _ _ _ _ w D B hr _ _ _ rfl (fun _ => rfl) rfl)
  · have hr : rf (x / 67108864) = 1 := by unfold rf; rw [if_neg ho]
    have hm : may ⟨x / 67108864, ((x / 4194304 % 16 : Nat) : Int), ((x / 262144 % 16 : Nat) : Int), ((x / 16384 % 16 : Nat) : Int), 0⟩ = false := decide_eq_false fun h => ho h.1
    have ht : tok x = false := decide_eq_false fun h => ho h.1
    refine to_tk ?_ ?_ (rtake_1 x _ _ _ _ _ _ _ _ _ w D B hr _ _ _ rfl (fun _ => rfl) rfl)
    · rw [hm, ht]; rfl
    · rw [ht]; intro h; cases h
end Go.Proofs.YtncohgcklmogpaaDoor.cd
