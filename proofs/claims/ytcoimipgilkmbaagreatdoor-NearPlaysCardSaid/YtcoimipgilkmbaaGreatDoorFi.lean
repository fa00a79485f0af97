/-
 Which notes fit a plan, as plain data. No condition.
-/
import Derived.Test.YtcoimipgilkmbaaGreatDoorTl
import Derived.Test.YtcoimipgilkmbaaGreatDoorNax
namespace Go.Proofs.YtcoimipgilkmbaaGreatDoor.tt
set_option linter.unusedVariables false
set_option linter.unusedSimpArgs false
set_option maxRecDepth 1000000
set_option maxHeartbeats 16000000
open Go
def fits (c:Cfg) (n:Nt):Prop:=n.ok∧(n.f < c.co∧n.t < c.co)∧n.b < c.data
instance (c:Cfg) (n:Nt):Decidable (fits c n):=by unfold fits;infer_instance
end Go.Proofs.YtcoimipgilkmbaaGreatDoor.tt
