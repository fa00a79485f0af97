/-
  The document's examples: what a near is in their course. No condition.
-/
import Derived.Test.YtljkohknhphcfaaGreatDoorNlK1
namespace Go.Proofs.YtljkohknhphcfaaGreatDoor.nl
open Go Go.ChangeShapes Go.WideShapes Go.ChangeAt Go.RowKit Go.Shelf
open Go.Proofs.YtljkohknhphcfaaGreatDoor.nr
open Go.Proofs.YtljkohknhphcfaaGreatDoor.tt (Cfg Nt na nt zn bare zd fits row tyne lt_of U Tab TabK grown_refl grown_trans grown_alloc grown_setCells grown_drew grown_drewN yes Sl Next flat)
open Go.Proofs.YtljkohknhphcfaaGreatDoor.kk (Ln St zl la ln cfind cdrop cuse cgoes cwrite cturn cput setAt setOf live fF Shp Cac Kept)
open Go.Proofs.YtljkohknhphcfaaGreatDoor.bk (Bk rem kills puts putE fd fl Nd Rg dead fresh BkAt)
open Go.Proofs.YtljkohknhphcfaaGreatDoor.mrk (Ms rdS wrS meets addE Dom MkAt)
open Go.Proofs.YtljkohknhphcfaaGreatDoor.de (Dl sT gE rF aD LAt)
open Go.Proofs.YtljkohknhphcfaaGreatDoor.oo (ref)
set_option linter.unusedVariables false
set_option maxRecDepth 1000000
set_option maxHeartbeats 4000000


def seven : List Int := [7, 0, 0, 0, 0, 0, 0, 0, 0, 0, 0, 0, 0, 0, 0, 0]
def putN3 : Nt := ⟨3, 0, -1, 3, 0, 0, true, false, seven, rfl⟩
def ackN3 : Nt := ⟨9, 0, -1, 3, 0, 0, true, false, seven, rfl⟩
def k4 : Nr := askS P2 k3 5 false
def k5 : Nr := takeS P2 k4 (givenN 5 1)
def k6 : Nr := takeS P2 k5 (dnN 5 3)
def k7 : Nr := takeS P2 k6 (dnN 8 3)
theorem I4 : Inv P2 k4 := I3.askS P2_ok 5 false
theorem I5 : Inv P2 k5 := I4.takeS P2_ok
theorem I6 : Inv P2 k6 := I5.takeS P2_ok
theorem I7 : Inv P2 k7 := I6.takeS P2_ok
theorem e5 : askE P2 k3 5 false = 0 := by decide +kernel
theorem r5 : askR P2 k3 5 false = false := by decide +kernel
theorem g5 : goesOut P2 k3 5 false = true := by decide +kernel
theorem b5 : back P2 k3 5 = true := by decide +kernel
theorem gb5 : (gone P2 k3 5).1.b = 3 := by decide +kernel
theorem gd5 : (gone P2 k3 5).1.d = seven := by decide +kernel
theorem ma5 : k3.ms.any 3 = false := by decide +kernel
theorem o5 : askO P2 k3 5 false = [putN3, upN 1 5] := by
  have hp : putN P2 k3 (gone P2 k3 5).1 = putN3 := by
    refine tt.Nt.ext rfl rfl rfl gb5 rfl rfl rfl ?_ gd5
    show k3.ms.any (gone P2 k3 5).1.b = false
    rw [gb5]; exact ma5
  unfold askO; rw [g5, b5, hp]; rfl
theorem e6 : takeE P2 k4 (givenN 5 1) = 0 := by decide +kernel
theorem o6 : takeO P2 k4 (givenN 5 1) = [upN 11 5] := by unfold takeO; rw [e6]; rfl
theorem q6 : takeG P2 k4 (givenN 5 1) = false := by decide +kernel
theorem e7 : askE P2 k5 3 false = 110 := by decide +kernel
theorem r7 : askR P2 k5 3 false = false := by decide +kernel
theorem g7 : goesOut P2 k5 3 false = false := by decide +kernel
theorem o7 : askO P2 k5 3 false = [] := by unfold askO; rw [g7]; rfl
theorem s7 : askS P2 k5 3 false = k5 := by unfold askS; rw [g7]; rfl
theorem e8 : takeE P2 k5 (dnN 5 3) = 0 := by decide +kernel
theorem q8 : takeG P2 k5 (dnN 5 3) = false := by decide +kernel
theorem f8 : rfs k5 (dnN 5 3) = false := by decide +kernel
theorem hf8 : hf P2 k5 3 = true := by decide +kernel
theorem hd8 : hdat P2 k5 3 = seven := by decide +kernel
theorem o8 : takeO P2 k5 (dnN 5 3) = [ackN3] := by
  have ha : ackN P2 k5 (dnN 5 3) = ackN3 := by
    rw [ackN_eq]
    exact tt.Nt.ext rfl rfl rfl rfl rfl rfl hf8 rfl hd8
  unfold takeO; rw [e8, f8, ha]; rfl
theorem e9 : takeE P2 k6 (dnN 8 3) = 0 := by decide +kernel
theorem q9 : takeG P2 k6 (dnN 8 3) = false := by decide +kernel
theorem o9 : takeO P2 k6 (dnN 8 3) = [] := by unfold takeO; rw [e9]; rfl
theorem e10 : askE P2 k7 3 false = 0 := by decide +kernel
theorem r10 : askR P2 k7 3 false = false := by decide +kernel
theorem g10 : goesOut P2 k7 3 false = true := by decide +kernel
theorem b10 : back P2 k7 3 = false := by decide +kernel
theorem o10 : askO P2 k7 3 false = [upN 1 3] := by unfold askO; rw [g10, b10]; rfl
/-- The state of the examples: the near; the notes' variables. -/
structure Sn (w W : World) (L : LL) (k : Nr) (Ns : List (Nat × Nt)) : Prop where
  own : Own w W L P2 k
  ns : ∀ p ∈ Ns, W.heap[p.1]? = some (on p.2)
section
variable {w W W' : World} {L : LL} {k k' : Nr} {Ns : List (Nat × Nt)} (s : Sn w W L k Ns)
include s
theorem Sn.grown (hg : W.grownBy W' none) : Sn w W' L k Ns := ⟨s.own.grown hg, fun p hp => (hg.block _ (lt_of (s.ns p hp)) (by simp)).trans (s.ns p hp)⟩
theorem Sn.far (o : Own w W' L P2 k') (f : Far L W W') : Sn w W' L k' Ns := ⟨o, fun p hp => f.cs _ _ _ _ (s.ns p hp) (by decide)⟩
theorem Sn.rangeN {g : Nat} {n : Nt} (hm : (g, n) ∈ Ns) : W.rangeAt g 0 (nt n) := tt.range_of (s.ns _ hm)
theorem Sn.one (n : Nt) : Sn w (W.alloc (.cells (na n) 37)) L k Ns ∧ OutN w (W.alloc (.cells (na n) 37)) (.slice (some ⟨W.heap.size, 0, none⟩) 1 1) [n] := ⟨s.grown (grown_alloc (grown_refl _ _) _), (own_one s.own n).2⟩
theorem Sn.two (m n : Nt) : Sn w (W.alloc (.cells (nt m ++ nt n).toArray 37)) L k Ns ∧ OutN w (W.alloc (.cells (nt m ++ nt n).toArray 37)) (.slice (some ⟨W.heap.size, 0, none⟩) 2 2) [m, n] := by
  refine ⟨s.grown (grown_alloc (grown_refl _ _) _), ⟨.inr ⟨W.heap.size, 0, 2, (nt m ++ nt n).toArray, rfl, heap_alloc_new _ _, ?_, Nat.le_refl _, by unfold maxLen; omega, ?_, fun j x hx => ?_⟩, fun g hg => ?_⟩⟩
  · simp [flat, tt.nt_len]
  · simp [tt.nt_len]
  · rw [Nat.zero_add, List.getElem?_toArray]
    simpa [flat] using hx
  · simp [Value.ownBlock] at hg
    subst hg
    exact s.own.old.size
end
end Go.Proofs.YtljkohknhphcfaaGreatDoor.nl
