/-
  Which notes fit a plan, as plain data. No condition.
-/
import Derived.Test.YtinogiidiommkaaGreatDoorNax
namespace Go.Proofs.YtinogiidiommkaaGreatDoor.tt
open Go
set_option linter.unusedVariables false

/-- A note that fits a plan. -/
def fits (c : Cfg) (n : Nt) : Prop := n.ok ∧ (n.f < c.co ∧ n.t < c.co) ∧ n.b < c.data
instance (c : Cfg) (n : Nt) : Decidable (fits c n) := by unfold fits; infer_instance
theorem ok_ends {n : Nt} (h : n.ok) : (-1 ≤ n.f ∧ n.f ≤ 15) ∧ (-1 ≤ n.t ∧ n.t ≤ 15) := by
  have hr := (rule_ok n h.1 h.2.1).1 h
  have h1 := hr.at_
  have h2 := hr.core
  cases hT : tH n.k <;> rw [hT] at h1 h2 <;> simp at h1 h2 <;> omega
theorem ok_net {n : Nt} (h : n.ok) : 0 ≤ net n.k ∧ net n.k < 3 := by
  unfold net
  rw [if_pos h.1]
  split
  · omega
  · split <;> omega
end Go.Proofs.YtinogiidiommkaaGreatDoor.tt
