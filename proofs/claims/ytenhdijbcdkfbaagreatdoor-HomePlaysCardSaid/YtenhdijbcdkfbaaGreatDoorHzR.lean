/-
 How a bool reads as an argument: two facts. No condition.
-/
import Derived.Test.YtenhdijbcdkfbaaGreatDoorTl
import Derived.Test.YtenhdijbcdkfbaaGreatDoorHkT
namespace Go.Proofs.YtenhdijbcdkfbaaGreatDoor.hh
set_option linter.unusedVariables false
set_option linter.unusedSimpArgs false
set_option maxRecDepth 1000000
set_option maxHeartbeats 16000000
open Go Go.ChangeShapes Go.WideShapes Go.ChangeAt Go.RowKit
theorem bool_open {H:Type} {enc:TypeId × Value→H} {W:World} {d:DataW H} {p:List MemPlace} {v:Value} {base:Nat} (hv:Value.okWide Tryz.prog W .any base 4 v) (h:DataW.Trod enc Tryz.prog W 0 (fun _=>true) true 4 v d p):∃ b:Bool,v = .bool b∧d = .lit (.bool b)∧p=[]∧True:=by
 obtain ⟨fuel,hf⟩:=h
 obtain ⟨b,h1,h2⟩:=DataW.trod_bool Tryz.underlying4 hf
 simp at h2
 refine ⟨b,?_,h2.1,h2.2,trivial⟩
 have hu:=Tryz.underlying4
 cases v <;> first
  | (simp [Value.cells] at h1;rw [h1];done)
  | (unfold Value.okWide at hv;rw [hu] at hv;exact hv.elim)
theorem bool_shut {H:Type} {enc:TypeId × Value→H} {W:World} {base:Nat} {sp:Nat→Bool} {held:Bool} {b:Bool} (h:True):DataW.Trod enc Tryz.prog W base sp held 4 (.bool b) (.lit (.bool b)) []:=shut_bool Tryz.underlying4 b
end Go.Proofs.YtenhdijbcdkfbaaGreatDoor.hh
