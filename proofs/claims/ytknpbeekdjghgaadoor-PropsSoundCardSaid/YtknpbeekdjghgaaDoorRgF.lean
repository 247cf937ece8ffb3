/- Entries of a registry: those under a path, and news. -/
import Derived.Test.YtknpbeekdjghgaaDoorRgE
import Derived.Deep.RegionHeld3
namespace Go.Proofs.YtknpbeekdjghgaaDoor.rgy
open Go.ChangeShapes Go.WideShapes Go.ChangeAt Go.RowKit Go.Proofs.Aid Go.Proofs.YtknpbeekdjghgaaDoor.name Go.Proofs.YtknpbeekdjghgaaDoor.reg
def underP (path : ByteArray) (e : En) : Bool := Lib.hasPrefix e.key.data.toList (path.data.toList ++ [47])
def newsP (b : List En) (e : En) : Bool := e.reg.newer (get b e.key)
end Go.Proofs.YtknpbeekdjghgaaDoor.rgy
