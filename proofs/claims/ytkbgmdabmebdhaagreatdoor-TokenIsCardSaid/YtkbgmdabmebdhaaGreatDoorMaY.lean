/- The walks of mac: Is, for seats without mac's reference. -/
import Derived.Test.YtkbgmdabmebdhaaGreatDoorMaB
import Derived.Test.YtkbgmdabmebdhaaGreatDoorMaC
namespace Go.Proofs.YtkbgmdabmebdhaaGreatDoor.mac
open Go.ChangeShapes Go.WideShapes Go.ChangeAt Go.RowKit Go.Proofs.Aid
open Go.Proofs.YtkbgmdabmebdhaaGreatDoor.oc (be be_length bz bz_append)
open Go.Proofs.YtkbgmdabmebdhaaGreatDoor.sha
set_option linter.unusedVariables false
end Go.Proofs.YtkbgmdabmebdhaaGreatDoor.mac
