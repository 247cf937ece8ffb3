/- Entries of a registry: Join, Put and Set of the package, Set of the reference. -/
import Derived.Test.YtjbompimlopdiaaGreatDoorRgK
namespace Go.Proofs.YtjbompimlopdiaaGreatDoor.rgy
open Go.ChangeShapes Go.WideShapes Go.ChangeAt Go.RowKit Go.Proofs.Aid Go.Proofs.YtjbompimlopdiaaGreatDoor.name Go.Proofs.YtjbompimlopdiaaGreatDoor.reg
theorem may_one (x : En) : may [x] = isEntry x := by
  unfold may okAt isEntry
  simp [List.range_succ]
end Go.Proofs.YtjbompimlopdiaaGreatDoor.rgy
