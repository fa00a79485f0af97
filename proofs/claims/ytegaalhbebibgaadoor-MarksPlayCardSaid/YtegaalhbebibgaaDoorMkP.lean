/-
  How a script of calls lies as a law's argument: definitions. No condition.
-/
import Derived.Test.YtegaalhbebibgaaDoorMkD
namespace Go.Proofs.YtegaalhbebibgaaDoor.mrk
open Go Go.RowKit
set_option linter.unusedVariables false

/-- A call of a script: its kind, its block, a kind of notes. -/
structure OpX where
  kd : Int
  b : Int
  x : Int
deriving Inhabited
def OpsAt (w : World) (ad : Option Addr) (os : List OpX) : Prop := ∀ (k : Nat) (q : OpX), os[k]? = some q → ∃ g off, ad = some ⟨g, off, none⟩ ∧ w.cell? ⟨g, off + k * 3, none⟩ = some (.int .i64 q.kd) ∧ w.cell? ⟨g, off + k * 3 + 1, none⟩ = some (.int .i64 q.b) ∧ w.cell? ⟨g, off + k * 3 + 2, none⟩ = some (.int .u8 q.x)
theorem OpsAt.grown {w w' : World} {ad : Option Addr} {os : List OpX} (h : OpsAt w ad os) (hg : w.grownBy w' none) : OpsAt w' ad os := fun k q hk => by
  obtain ⟨g, off, e, h0, h1, h2⟩ := h k q hk
  exact ⟨g, off, e, hg.cell h0 (by simp), hg.cell h1 (by simp), hg.cell h2 (by simp)⟩
end Go.Proofs.YtegaalhbebibgaaDoor.mrk
