/- A reader of bytes, the reference's. No condition. -/
import Derived.Test.YtkbgmdabmebdhaaDoorOcT
namespace Go.Proofs.YtkbgmdabmebdhaaDoor.oc
set_option linter.unusedSimpArgs false
set_option linter.unusedVariables false
open Go.ChangeShapes Go.WideShapes Go.ChangeAt Go.RowKit Go.Proofs.Aid
open Go.Proofs.YtkbgmdabmebdhaaDoor.texts (tc)
end Go.Proofs.YtkbgmdabmebdhaaDoor.oc
