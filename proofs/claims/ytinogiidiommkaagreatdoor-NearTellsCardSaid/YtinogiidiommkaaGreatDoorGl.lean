/-
  A loop taken out of a code; the slots of a frame as a function. No condition.
-/
import Derived.Test.YtinogiidiommkaaGreatDoorRows
import Derived.WalkKit
import Derived.Handy
namespace Go.Proofs.YtinogiidiommkaaGreatDoor.gl
open Go
set_option linter.unusedVariables false

/-- The first loop's body of a code. -/
def firstLoop : Code → Option Code
  | .loop c => some c
  | .seq a b => match firstLoop a with
    | some c => some c
    | none => firstLoop b
  | .block _ c => firstLoop c
  | .scope c => firstLoop c
  | .cond _ a b => match firstLoop a with
    | some c => some c
    | none => firstLoop b
  | _ => none
/-- The frame's slots as a function. -/
def slots (a : Act) (i : Nat) : Value := a.tmps.getD i undef
theorem tmps_of {n : Nat} {a : Act} (h : a.tmps.size = n) : a.tmps = ((List.range n).map (slots a)).toArray := by
  subst h
  apply Array.ext
  · simp
  · intro i h1 h2
    simp [slots, Array.getElem?_eq_getElem h1]
/-- The code from a region on, as far as its own sequence goes. -/
def fromRegion (r : Nat) : Code → Option Code
  | .region i o f => if i = r then some (.region i o f) else none
  | .seq a b =>
    match a with
    | .region i _ _ => if i = r then some (.seq a b) else fromRegion r b
    | _ => match fromRegion r a with
      | some c => some c
      | none => fromRegion r b
  | .loop c => fromRegion r c
  | .block _ c => fromRegion r c
  | .scope c => fromRegion r c
  | .cond _ a b => match fromRegion r a with
    | some c => some c
    | none => fromRegion r b
  | _ => none
/-- A sequence's first part, and what follows. -/
def firstOf : Code → Code
  | .seq a _ => a
  | c => c
def restOf : Code → Code
  | .seq _ b => b
  | _ => .skip
end Go.Proofs.YtinogiidiommkaaGreatDoor.gl
