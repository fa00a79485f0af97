/-
  What Take of package code answers. The tables are as the program's text lays them (Tab).
-/
import Derived.Test.YtmfckkioccmblaaDoorCdE
namespace Go.Proofs.YtmfckkioccmblaaDoor.cd
open Go Go.ChangeShapes Go.WideShapes Go.ChangeAt Go.RowKit
set_option linter.unusedVariables false
set_option linter.unusedSimpArgs false
set_option maxRecDepth 1000000

theorem keep8 {w : World} {k : Nat} {a0 a1 a2 a3 a4 a5 a6 a7 : Value} {u : TypeId} {fs : Nat × Nat} (hC : w.heap[k]? = some (.cells #[a0, a1, a2, a3, a4, a5, a6, a7] u fs)) (w' : World) (hg : w.grownBy w' none) :
    (w'.cell? ⟨k, 0, none⟩ = some a0 ∧ w'.cell? ⟨k, 1, none⟩ = some a1 ∧ w'.cell? ⟨k, 2, none⟩ = some a2 ∧ w'.cell? ⟨k, 3, none⟩ = some a3) ∧ w'.cell? ⟨k, 4, none⟩ = some a4 ∧ w'.cell? ⟨k, 5, none⟩ = some a5 ∧ w'.cell? ⟨k, 6, none⟩ = some a6 ∧ w'.cell? ⟨k, 7, none⟩ = some a7 := by
  have h := row_grown hC hg
  exact ⟨⟨cell_of_row _ _ 0 _ _ _ h, cell_of_row _ _ 1 _ _ _ h, cell_of_row _ _ 2 _ _ _ h, cell_of_row _ _ 3 _ _ _ h⟩, cell_of_row _ _ 4 _ _ _ h, cell_of_row _ _ 5 _ _ _ h, cell_of_row _ _ 6 _ _ _ h, cell_of_row _ _ 7 _ _ _ h⟩
/-- A function whose results are an instruction's variable and an error. -/
theorem ret2c {fn : Func} {p u : Tmp} (h : fn.results = #[.cell p 28, .tmp u]) {tmps : Array Value} {w : World} {g : Nat} {t : TypeId} {c : Cd} {x : Value} {fr : Nat × Nat} {Q : Ending → World → Prop}
    (hp : tmps.getD p undef = .pointer (some ⟨g, 0, none⟩)) (hu : tmps.getD u undef = x) (hg : w.heap[g]? = some (.cells (ca c) t fr)) (hQ : Q (.returned (.tuple #[.agg (ca c), x])) w) : bodyPost Tryd.prog fn Q .ret { tmps := tmps, defers := [] } w := by
  refine bodyPost_ret (v := .tuple #[.agg (ca c), x]) ?_ rfl hQ
  have hl := run_loadVar_row (P := Tryd.prog) w g t 28 (ca c) fr _ hg Tryd.underlying28 rfl (infoC _ _ _ _ _)
  have hp' : tmps[p]?.getD undef = .pointer (some ⟨g, 0, none⟩) := by simpa using hp
  have hu' : tmps[u]?.getD undef = x := by simpa using hu
  simp [results, h, hp', hu', asAddr, hl]
end Go.Proofs.YtmfckkioccmblaaDoor.cd
