/-
  The document's rule for a note, as a list of conditions. No condition.
-/
import Derived.Test.YtoemkhmbeiindaaDoorNa4
namespace Go.Proofs.YtoemkhmbeiindaaDoor.tt
open Go Go.ChangeShapes Go.WideShapes Go.ChangeAt Go.RowKit
set_option linter.unusedVariables false

/-- The document's conditions. -/
structure Nt.Rule (n : Nt) (T S : Bool) : Prop where
  at_ : (if T then n.t else n.f) = -1
  core : 0 ≤ (if T then n.f else n.t) ∧ (if T then n.f else n.t) < 16
  st : S = false → n.st = 0
  s6 : n.k = 6 → 1 ≤ n.s ∧ n.s ≤ 3
  s0 : n.k ≠ 6 → n.s = 0
  q : n.k ≠ 3 → n.q = false
  h36 : n.k = 3 ∨ n.k = 6 → n.h = true
  h369 : n.h = true → n.k = 3 ∨ n.k = 6 ∨ n.k = 9
  d : n.h = false → n.d = zd
theorem nt_eq (x y : Nt) : (x = y) ↔ (x.k = y.k ∧ x.f = y.f ∧ x.t = y.t ∧ x.b = y.b ∧ x.st = y.st ∧ x.s = y.s ∧ x.h = y.h ∧ x.q = y.q ∧ x.d = y.d) :=
  ⟨fun h => by subst h; simp, fun ⟨h1, h2, h3, h4, h5, h6, h7, h8, h9⟩ => Nt.ext h1 h2 h3 h4 h5 h6 h7 h8 h9⟩
theorem rule_ok (n : Nt) (hk : 1 ≤ n.k ∧ n.k ≤ 11) (hb : 0 ≤ n.b ∧ n.b < 256) : n.ok ↔ n.Rule (tH n.k) (sT n.k) := by
  have hR : n.Rule (tH n.k) (sT n.k) ↔ ((if tH n.k then n.t else n.f) = -1 ∧ (0 ≤ (if tH n.k then n.f else n.t) ∧ (if tH n.k then n.f else n.t) < 16) ∧ (sT n.k = false → n.st = 0) ∧ (n.k = 6 → 1 ≤ n.s ∧ n.s ≤ 3) ∧ (n.k ≠ 6 → n.s = 0) ∧ (n.k ≠ 3 → n.q = false) ∧ (n.k = 3 ∨ n.k = 6 → n.h = true) ∧ (n.h = true → n.k = 3 ∨ n.k = 6 ∨ n.k = 9) ∧ (n.h = false → n.d = zd)) :=
    ⟨fun ⟨a, b, c, d, e, f, g, h, i⟩ => ⟨a, b, c, d, e, f, g, h, i⟩, fun ⟨a, b, c, d, e, f, g, h, i⟩ => ⟨a, b, c, d, e, f, g, h, i⟩⟩
  rw [hR]
  clear hR
  unfold Nt.ok
  obtain ⟨k, f, t, b, st, s, h, q, d, hd⟩ := n
  simp only at hk hb ⊢
  rcases kinds11 hk with rfl | rfl | rfl | rfl | rfl | rfl | rfl | rfl | rfl | rfl | rfl
  all_goals
    cases h <;> cases q <;> simp [nt_eq, usd, uses, coreOf, tH, sT, bare, hb] <;> (try omega)
  all_goals (constructor <;> (intro h; simp_all))
end Go.Proofs.YtoemkhmbeiindaaDoor.tt
