/-
  What the listed variable (the library's table for trailing zeros) gives a walk: its cells; and that the heap which the program's own initialiser leaves meets the condition. No condition.
-/
import Derived.Test.YtplebmafdfciaaaDoorEnR
import Derived.ProofKit
import Derived.LaidMore
import Derived.OpenShut
import Derived.Stop.Joined
namespace Go.Proofs.YtplebmafdfciaaaDoor.en
open Go Go.ChangeShapes Go.WideShapes Go.ChangeAt Go.RowKit
open Go.Proofs.YtplebmafdfciaaaDoor.mm (Tab)
set_option linter.unusedVariables false

def laid1 : List (String × DataW Unit) := Rows.entryKnownRow.laid
theorem gTab : (laid1.head?.bind fun x => Tryd.prog.globalNamed x.1) = some 0 := by kernel_rfl
theorem tTab : (Tryd.prog.globals[0]?).map (·.type) = some 55 := by kernel_rfl

theorem door_met (os : Os) (args : Array Value) : laidMetH Tryd.prog laid1 ((World.doorLaid Tryd.prog 400 os).forCall (fun _ _ => 0) ⟨#[], args, []⟩).memory :=
  laidMetH_of_parts3 (fuel := 8) (laidMet_of_run' 8 (by kernel_rfl) (by kernel_rfl)) (by kernel_rfl) (by kernel_rfl)

theorem tdatum : (Rows.laid_math_bits_deBruijn32tab : DataW Unit) = .agg (Lib.deBruijn32tab.map fun n : Nat => .lit (.int .u8 (n : Int))) := by rfl

theorem tab_of_laid {W : World} (h : laidMetH Tryd.prog laid1 W) : Tab W := by
  rw [MakeChecks.laidMetH_plain _ _ _ (by kernel_rfl)] at h
  obtain ⟨ps, ⟨g0, t0, cs0, f0, p0, q0, hg0, ht0, hv0, hd0, _, _⟩, _⟩ := h
  obtain rfl := Option.some.inj (gTab.symm.trans hg0)
  obtain rfl := Option.some.inj (tTab.symm.trans ht0)
  obtain ⟨xs, m1, rfl, hx1, hlen, hn3, hel⟩ := DataW.trod_array Tryd.underlying55 hd0
  have c5 : Tryd.prog.cellsOf 5 = 1 := by kernel_rfl
  rw [tdatum] at hx1
  simp only [Prod.mk.injEq, DataW.agg.injEq] at hx1
  intro j hj
  have h0 := hel j hj
  have hxj : xs[j]? = some xs[j] := List.getElem?_eq_getElem (by omega)
  rw [hxj] at h0
  obtain ⟨k, e1, e2, _⟩ := DataW.trod_int Tryd.underlying5 h0
  have hmj : (xs.map (·.1))[j]? = some xs[j].1 := by rw [List.getElem?_map, hxj]; rfl
  rw [← hx1.1, List.getElem?_map, Option.map_eq_some_iff] at hmj
  obtain ⟨n, hn, hnx⟩ := hmj
  rw [e2] at hnx
  have hk : k = (n : Int) := by simpa using hnx.symm
  subst hk
  have hv := World.var?_cell hg0 hv0 j
  have hcs : cs0[j]? = some (.int .u8 (n : Int)) := by
    rw [c5, Nat.mul_one] at e1
    have := congrArg (fun l : List Value => l[0]?) e1
    simpa using this
  rw [hv, hcs]
  have : Lib.deBruijn32tab.getD j 0 = n := by rw [List.getD_eq_getElem?_getD, hn]; rfl
  rw [this]
end Go.Proofs.YtplebmafdfciaaaDoor.en
