/-
  A core's side of the caches as plain data: what it has, what Ask, Load, Store, Take answer and make of it; what holds of each. No condition but what each theorem names.
-/
import Derived.Test.YtinogiidiommkaaGreatDoorCaz
import Derived.Test.YtinogiidiommkaaGreatDoorBkx
import Derived.Test.YtinogiidiommkaaGreatDoorMkB
import Derived.Test.YtinogiidiommkaaGreatDoorDex
import Derived.Test.YtinogiidiommkaaGreatDoorFi
namespace Go.Proofs.YtinogiidiommkaaGreatDoor.nr
open Go
open Go.Proofs.YtinogiidiommkaaGreatDoor.tt (Cfg Nt bare zd fits)
open Go.Proofs.YtinogiidiommkaaGreatDoor.kk (Ln St zl cfind cdrop cuse cgoes cwrite cturn cput setAt setOf live fF upd del Shp)
open Go.Proofs.YtinogiidiommkaaGreatDoor.bk (Bk rem kills puts putE fd fl Nd Rg dead fresh)
open Go.Proofs.YtinogiidiommkaaGreatDoor.mrk (Ms rdS wrS meets addE Dom)
open Go.Proofs.YtinogiidiommkaaGreatDoor.de (Dl sT gE rF aD)
open Go.Proofs.YtinogiidiommkaaGreatDoor.oo (ref)
set_option linter.unusedVariables false

/-- Of which core of which plan; its data blocks, its backs at most. -/
structure Pm where
  c : Cfg
  core : Int
  N : Nat
  m : Nat
/-- What it has: its cache, its backs, its marks, its deal; the ask that it waits for, and whether it does. -/
structure Nr where
  ss : List St
  bs : List Bk
  ms : Ms
  d : Dl
  ask : Nt
  wt : Bool

section
variable (P : Pm) (k : Nr)
/-- Its line of a block. -/
def line (b : Int) : Option Ln := fF P.c k.ss b
def rdy (b : Int) (wr : Bool) : Bool := (cfind P.c k.ss b).2 && (!wr || decide ((cfind P.c k.ss b).1.s ≠ 1))
/-- What would have to go for a block; whether it goes back. -/
def gone (b : Int) : Ln × Bool := cgoes P.c k.ss b
def back (b : Int) : Bool := (gone P k b).2 && decide ((gone P k b).1.s ≠ 1)
def askE (b : Int) (wr : Bool) : Int := if b < 0 ∨ (P.N : Int) ≤ b then 2 else if k.wt = true then 8 else if rdy P k b wr = true then 0 else if (bk.look k.bs b).isSome = true then 110 else if back P k b = true ∧ k.bs.length = P.m then 110 else 0
def goesOut (b : Int) (wr : Bool) : Bool := decide (askE P k b wr = 0) && !rdy P k b wr
def askN (b : Int) (wr : Bool) : Nt := bare (if wr = true then 2 else 1) P.core (-1) b (sT k.d) 0 false false
def putN (v : Ln) : Nt := ⟨3, P.core, -1, v.b, 0, 0, true, k.ms.any v.b, v.d, v.h⟩
def askO (b : Int) (wr : Bool) : List Nt := if goesOut P k b wr = true then (if back P k b = true then [putN P k (gone P k b).1, askN P k b wr] else [askN P k b wr]) else []
def askR (b : Int) (wr : Bool) : Bool := decide (askE P k b wr = 0) && rdy P k b wr
def askS (b : Int) (wr : Bool) : Nr := if goesOut P k b wr = true then
  { ss := if (gone P k b).2 = true then (cdrop P.c k.ss (gone P k b).1.b).1 else k.ss, bs := if back P k b = true then puts P.N P.m k.bs (gone P k b).1.b (gone P k b).1.d (gone P k b).1.h else k.bs, ms := k.ms, d := k.d, ask := askN P k b wr, wt := true } else k
def loadE (b i : Int) : Int := if (cfind P.c k.ss b).2 = false then 4 else if i < 0 ∨ 15 < i then 5 else 0
def loadV (b i : Int) : Int := if loadE P k b i = 0 then (cfind P.c k.ss b).1.d.getD i.toNat 0 else 0
def loadS (b i : Int) : Nr := if loadE P k b i = 0 then { k with ss := (cuse P.c k.ss b).1, ms := if 0 < k.d.de then rdS P.N k.ms b else k.ms } else k
def storeE (b i x : Int) : Int := (cwrite P.c k.ss b i x).2
def storeV (b i x : Int) : Int := if storeE P k b i x = 0 then (cfind P.c k.ss b).1.d.getD i.toNat 0 else 0
def storeS (b i x : Int) : Nr := if storeE P k b i x = 0 then { k with ss := (cwrite P.c k.ss b i x).1, ms := if 0 < k.d.de then wrS P.N k.ms b else k.ms } else k
/-- It awaits an answer about that block. -/
def aw (n : Nt) : Bool := k.wt && decide (k.ask.b = n.b)
/-- The state is one that it asked for. -/
def fitsAsk (n : Nt) : Bool := (!decide (k.ask.k = 2) || decide (n.s = 3)) && (!decide (k.ask.k = 1) || !decide (n.s = 3))
def takeE (n : Nt) : Int := if ¬ (fits P.c n ∧ n.t = P.core) then 2 else if n.k = 6 then (if aw k n = true ∧ fitsAsk k n = true then 0 else 8) else if n.k = 7 then (if aw k n = true then 0 else 8) else if n.k = 8 then (if (bk.look k.bs n.b).isSome = true then 0 else 8) else 0
def met (n : Nt) : Bool := meets k.ms n.k n.b
def rfs (n : Nt) : Bool := ref (sT k.d) (met k n)
def refN (n : Nt) : Nt := bare 10 P.core (-1) n.b (sT k.d) 0 false false
def doneN (n : Nt) : Nt := bare 11 P.core (-1) n.b 0 0 false false
/-- Its line of a block goes out with an answer. -/
def has (b : Int) : Bool := (cfind P.c k.ss b).2 && decide ((cfind P.c k.ss b).1.s ≠ 1)
def ackN (n : Nt) : Nt := if has P k n.b = true then ⟨9, P.core, -1, n.b, 0, 0, true, false, (cfind P.c k.ss n.b).1.d, (cfind P.c k.ss n.b).1.h⟩ else match bk.look k.bs n.b with
  | some x => if x.l = true then ⟨9, P.core, -1, n.b, 0, 0, true, false, x.d, x.hd⟩ else bare 9 P.core (-1) n.b 0 0 false false
  | none => bare 9 P.core (-1) n.b 0 0 false false
def takeO (n : Nt) : List Nt := if takeE P k n ≠ 0 then [] else if n.k = 6 then [doneN P n] else if n.k = 7 ∨ n.k = 8 then [] else if rfs k n = true then [refN P k n] else [ackN P k n]
def takeG (n : Nt) : Bool := decide (takeE P k n = 0) && (decide (n.k = 7) && rF k.d n.st)
def lineOf (n : Nt) : Ln := ⟨n.b, n.s, n.d, n.hd⟩
def takeS (n : Nt) : Nr := if takeE P k n ≠ 0 then k else if n.k = 6 then { k with ss := (cput P.c k.ss (lineOf n)).1, wt := false } else if n.k = 7 then { k with wt := false } else if n.k = 8 then { k with bs := rem k.bs n.b } else
  if rfs k n = true then { k with d := aD k.d (met k n) n.st } else
  { k with d := aD k.d (met k n) n.st, bs := if has P k n.b = false ∧ fl (bk.look k.bs n.b) = true then kills k.bs n.b else k.bs, ss := if n.k = 5 then (cdrop P.c k.ss n.b).1 else (cturn P.c k.ss n.b 1).1 }
def clrS : Nr := { k with ms := Ms.zero }
end
def newS (P : Pm) : Nr := ⟨kk.empty P.c, [], Ms.zero, de.nw P.c.ne, bare 0 0 0 0 0 0 false false, false⟩

/-- A plan and a core that may be. -/
structure Pok (P : Pm) : Prop where
  may : P.c.may
  data : P.c.data = (P.N : Int)
  backs : P.c.ba = (P.m : Int)
  c0 : 0 ≤ P.core
  c1 : P.core < P.c.co
/-- What holds of each. -/
structure Inv (P : Pm) (k : Nr) : Prop where
  shp : Shp P.c k.ss
  ch : kk.Inv P.c k.ss
  dat : ∀ b, (line P k b).isSome = true → 0 ≤ b ∧ b < (P.N : Int)
  nd : Nd k.bs
  rg : Rg (P.N : Int) k.bs
  bl : k.bs.length ≤ P.m
  dom : Dom (P.N : Int) k.ms
  dl : de.Inv k.d
  ak : k.wt = true → (0 ≤ k.ask.b ∧ k.ask.b < (P.N : Int)) ∧ (k.ask.k = 1 ∨ k.ask.k = 2)
  rm : k.wt = true → (cgoes P.c k.ss k.ask.b).2 = false ∧ bk.look k.bs k.ask.b = none
  ap : ∀ b, (line P k b).isSome = true → bk.look k.bs b = none

section
variable {P : Pm} {k : Nr}
theorem cf2 (b : Int) : (cfind P.c k.ss b).2 = (line P k b).isSome := by rw [kk.cfind_fF]; rfl
theorem cf1 (b : Int) : (cfind P.c k.ss b).1 = (line P k b).getD zl := by rw [kk.cfind_fF]; rfl
theorem Pok.small (h : Pok P) : P.N ≤ 256 := by
  have := h.may.fits.bl
  have h2 := h.data
  unfold Cfg.data at h2
  have h3 := h.may.fits.mul
  omega
theorem line_b {b : Int} {l : Ln} (h : line P k b = some l) : l.b = b ∧ live l = true := by
  unfold line at h
  rw [kk.fF_row] at h
  unfold kk.inRow at h
  have := List.find?_some h
  exact ⟨(kk.isOf_iff.1 this).2, (kk.isOf_iff.1 this).1⟩
theorem line_mem {b : Int} {l : Ln} (h : line P k b = some l) : l ∈ (setAt P.c k.ss b).1 := by
  unfold line at h
  rw [kk.fF_row] at h
  exact List.mem_of_find?_eq_some h
theorem Inv.lmay (I : Inv P k) {b : Int} {l : Ln} (h : line P k b = some l) : l.may := by
  obtain ⟨j, hj⟩ := List.getElem?_of_mem (line_mem h)
  exact (I.ch.set _ _ (I.shp.at_ b) j l hj (line_b h).2).2
end
end Go.Proofs.YtinogiidiommkaaGreatDoor.nr
