/-
  What registers as an argument read as. No condition.
-/
import Derived.Test.YtmfckkioccmblaaDoorCdR
import Derived.Test.YtmfckkioccmblaaDoorStS
import Derived.Deep.Grids
namespace Go.Proofs.YtmfckkioccmblaaDoor.sg
open Go Go.ChangeShapes Go.WideShapes Go.ChangeAt Go.RowKit Go.Proofs.YtmfckkioccmblaaDoor.cd
set_option linter.unusedVariables false

theorem cellsW : Tryd.prog.cellsOf 22 = 1 := by kernel_rfl
theorem cellsR : Tryd.prog.cellsOf 23 = 16 := by kernel_rfl
section
variable {H : Type} {enc : TypeId × Value → H} {W : World} {d : DataW H} {p : List MemPlace}
theorem regs_at {v : Value} {base : Nat} (hv : Value.okWide Tryd.prog W .any base 23 v) (h : DataW.Trod enc Tryd.prog W 0 (fun _ => true) true 23 v d p) :
    ∃ x : List Int, v = .agg (row x) ∧ x.length = 16 ∧ ∀ y ∈ x, (Lit.int .u32 y).wf = true := by
  unfold Value.okWide at hv
  rw [Tryd.underlying23] at hv
  obtain ⟨cs, rfl, hsz, _⟩ := hv
  rw [cellsR] at hsz
  obtain ⟨fuel, hf⟩ := h
  obtain ⟨xs, m, hm, hx, hl, hxl, hat⟩ := DataW.trod_array Tryd.underlying23 hf
  rw [cellsW] at hat
  have each : ∀ i, i < 16 → ∃ z : Int, cs[i]? = some (.int .u32 z) ∧ (Lit.int .u32 z).wf = true := fun i hi => by
    have h1 := hat i hi
    have hc : ((cs.toList.drop (i * 1)).take 1) = [cs[i]] := by
      rw [Nat.mul_one, List.take_one, List.head?_drop]
      simp [hsz, hi]
    rw [show (Value.agg cs).cells.toList = cs.toList from rfl, hc, List.getElem?_eq_getElem (by omega)] at h1
    obtain ⟨z, e, _, hw⟩ := DataW.trod_int Tryd.underlying22 h1
    refine ⟨z, ?_, hw⟩
    rw [Array.getElem?_eq_getElem (by omega)]
    simpa using e
  obtain ⟨q, hq⟩ := Go.Deep.choose_lt each
  refine ⟨(List.range 16).map q, ?_, by simp, fun y hy => ?_⟩
  · congr 1
    apply Array.ext_getElem?
    intro i
    rw [row_get]
    by_cases hi : i < 16
    · rw [(hq i hi).1]; simp [List.getElem?_range hi, U]
    · rw [Array.getElem?_eq_none (by omega), List.getElem?_eq_none (by simp; omega)]; rfl
  · obtain ⟨i, hi, rfl⟩ := List.mem_map.1 hy
    exact (hq i (List.mem_range.1 hi)).2
end
end Go.Proofs.YtmfckkioccmblaaDoor.sg
