/- The lists of the laid variables of this seat's rows, and that the door's own heap meets them. -/
import Derived.Test.YtfkjoeibofnnoaaDoorNmL
import Derived.MakeChecks
import Derived.Lay
namespace Go.Proofs.YtfkjoeibofnnoaaDoor.nm
open Go.ChangeShapes Go.WideShapes Go.ChangeAt Go.RowKit Go.Proofs.Aid
abbrev laidTopoTells : List (String × DataW Unit) := [("unicode/utf8.acceptRanges", Rows.laid_unicode_utf8_acceptRanges), ("unicode/utf8.first", Rows.laid_unicode_utf8_first)]
theorem letsTopoTells {W : World} (h : laidMetH Tryd.prog laidTopoTells W) (hsh : W.ShapedOpen Tryd.prog) : Lets W := by
  rw [MakeChecks.laidMetH_plain _ _ _ (by kernel_rfl)] at h
  exact lets_of hsh
set_option maxRecDepth 100000 in
theorem metTopoTells (os : Os) (args : Array Value) : laidMetH Tryd.prog laidTopoTells ((World.laidAll Tryd.prog os laidTopoTells).forCall (fun _ _ => 0) ⟨#[], args, []⟩).memory := by
  rw [MakeChecks.laidMetH_plain _ _ _ (by kernel_rfl)]; exact laidMet_laidAll _ (by kernel_rfl) (by kernel_rfl)
set_option maxRecDepth 100000 in
theorem shapedTopoTells (os : Os) (args : Array Value) : ((World.laidAll Tryd.prog os laidTopoTells).forCall (fun _ _ => 0) ⟨#[], args, []⟩).Shaped Tryd.prog := World.shaped_of_ZipB (by kernel_rfl) (by kernel_rfl)
-- TopoSets: laidTopoTells
-- TopoBack: laidTopoTells
end Go.Proofs.YtfkjoeibofnnoaaDoor.nm
