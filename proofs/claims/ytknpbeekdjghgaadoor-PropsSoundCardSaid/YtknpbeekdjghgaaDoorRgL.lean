/- Entries of a registry: Join, Put and Set of the package, Set of the reference. -/
import Derived.Test.YtknpbeekdjghgaaDoorRgK
namespace Go.Proofs.YtknpbeekdjghgaaDoor.rgy
open Go.ChangeShapes Go.WideShapes Go.ChangeAt Go.RowKit Go.Proofs.Aid Go.Proofs.YtknpbeekdjghgaaDoor.name Go.Proofs.YtknpbeekdjghgaaDoor.reg
theorem may_one (x : En) : may [x] = isEntry x := by
  unfold may okAt isEntry
  simp [List.range_succ]
end Go.Proofs.YtknpbeekdjghgaaDoor.rgy
