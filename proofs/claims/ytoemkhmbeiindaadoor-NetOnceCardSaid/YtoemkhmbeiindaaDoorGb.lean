/-
  slices.Equal of two slices of the same notes says yes: a contract. No condition but what the theorem names.
-/
import Derived.Test.YtoemkhmbeiindaaDoorGa
namespace Go.Proofs.YtoemkhmbeiindaaDoor.tt
open Go Go.ChangeShapes Go.WideShapes Go.ChangeAt Go.RowKit Go.Shelf
set_option linter.unusedVariables false

/-- A load of a note in a region that draws its order, from anywhere in a block. -/
theorem namedO : ∃ (t : TypeId) (m : Nat), Hid (Op.load 37 = Op.load t) ∧ (∀ w, (isAgg t).run Tryd.prog w = .ok true w) ∧ (∀ w, (sizeOf t).run Tryd.prog w = .ok m w) ∧
    ∀ (g o : Nat) (n : Nt) (w : World), w.rangeAt g o (nt n) → (loadCellsFrom ⟨g, o, none⟩ 0 m #[]).run Tryd.prog w = .ok (na n) w :=
  ⟨37, 24, Lib.hid rfl, Tryd.isAgg37, Tryd.sizeOf37, fun g o n w h => by
    have := run_loadCells_list (P := Tryd.prog) w ⟨g, o, none⟩ (nt n) (fun j v hv => by rw [add_lit]; exact h j v hv)
    simpa [loadCells, nt_len, na] using this⟩
set_option maxRecDepth 100000 in
set_option maxHeartbeats 1000000 in
theorem equal_yes (v1 v2 : Value) (ns : List Nt) (w : World) (h1 : NSl w v1 ns) (h2 : NSl w v2 ns) (hl : ns.length ≤ 65536) :
    Calls Tryd.prog 24 #[v1, v2] w fun e w' => e = .returned (.bool true) ∧ w.grownBy w' none := by
  obtain ⟨ad1, cap1, rfl⟩ := h1.form
  obtain ⟨ad2, cap2, rfl⟩ := h2.form
  obtain ⟨q, hq⟩ : ∃ q, q = ns.length := ⟨_, rfl⟩
  have HQ := Lib.hid hq
  rw [← hq] at h1 h2 hl ⊢
  have H1 := Lib.hid h1
  have H2 := Lib.hid h2
  have HLL := Lib.hid hl
  clear h1 h2 hq hl
  go_enter Tryd.func24, Tryd.ntmps24
  go_wp2_with fail
  go_loopw [13] (fun i wr => ∃ j : Nat, j ≤ q ∧ i = .int .i64 (j : Int) ∧ w.grownBy wr none) (fun i _ => q - (intOf i).toNat)
  case atStart => exact ⟨0, Nat.zero_le _, rfl, grown_refl _ _⟩
  case round =>
    obtain ⟨j, hj, rfl, hg⟩ := hrel
    have HG := Lib.hid hg
    clear hg
    by_cases hlt : j < q
    · obtain ⟨x, hx⟩ : ∃ x, ns[j]? = some x := ⟨_, List.getElem?_eq_getElem (by have := HQ.out; omega)⟩
      obtain ⟨g1, o1, rfl, _, hr1⟩ := nsl_at (by have := H1.out.grown HG.out; rw [HQ.out] at this; exact this) j x hx
      obtain ⟨g2, o2, rfl, _, hr2⟩ := nsl_at (by have := H2.out.grown HG.out; rw [HQ.out] at this; exact this) j x hx
      obtain ⟨t', mm, HTT, hagg, hsize, hld⟩ := namedO
      have hl1 : ∀ n, (loadCellsFrom ⟨g1, o1 + j * 24, none⟩ 0 mm #[]).run Tryd.prog (wr.drewN n) = .ok (na x) (wr.drewN n) := fun n => hld g1 (o1 + j * 24) x _ (range_grown hr1 (grown_drewN (grown_refl _ none) n) (by simp))
      have hl2 : ∀ n, (loadCellsFrom ⟨g2, o2 + j * 24, none⟩ 0 mm #[]).run Tryd.prog (wr.drewN n) = .ok (na x) (wr.drewN n) := fun n => hld g2 (o2 + j * 24) x _ (range_grown hr2 (grown_drewN (grown_refl _ none) n) (by simp))
      have hq : ∀ w, (binOp .neq 37 (.agg (na x)) (.agg (na x))).run Tryd.prog w = .ok (.bool false) w := fun w => by rw [q31n, decide_eq_true rfl]; rfl
      have hll := HLL.out
      clear hr1 hr2 hld hx
      go_wp2_with fail
      rw [HTT.out]
      go_quiet (fail)
      go_wp2_with fail
      go_roundw
      case rel => exact ⟨j + 1, by omega, by go_num, grown_trans HG.out (grown_drewN (grown_refl _ _) _)⟩
      case measure => simp [intOf]; omega
    · go_wp2_with fail
      go_ret
      exact ⟨rfl, HG.out⟩
end Go.Proofs.YtoemkhmbeiindaaDoor.tt
