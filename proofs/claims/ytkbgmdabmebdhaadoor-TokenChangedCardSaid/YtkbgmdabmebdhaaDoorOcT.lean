/- A reader of bytes, the package's: lists of texts. No condition. -/
import Derived.Test.YtkbgmdabmebdhaaDoorOcS
namespace Go.Proofs.YtkbgmdabmebdhaaDoor.oc
set_option linter.unusedSimpArgs false
set_option linter.unusedVariables false
open Go.ChangeShapes Go.WideShapes Go.ChangeAt Go.RowKit Go.Proofs.Aid
open Go.Proofs.YtkbgmdabmebdhaaDoor.texts (tc)
end Go.Proofs.YtkbgmdabmebdhaaDoor.oc
