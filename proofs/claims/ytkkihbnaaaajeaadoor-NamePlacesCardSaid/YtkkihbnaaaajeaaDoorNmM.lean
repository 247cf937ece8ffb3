/- The lists of the laid variables of this seat's rows, and that the door's own heap meets them. -/
import Derived.Test.YtkkihbnaaaajeaaDoorNmL
import Derived.MakeChecks
import Derived.Lay
namespace Go.Proofs.YtkkihbnaaaajeaaDoor.nm
open Go.ChangeShapes Go.WideShapes Go.ChangeAt Go.RowKit Go.Proofs.Aid
abbrev laidNameIs : List (String × DataW Unit) := [("math/bits.deBruijn32tab", Rows.laid_math_bits_deBruijn32tab), ("math/bits.deBruijn64tab", Rows.laid_math_bits_deBruijn64tab), ("internal/strconv.uint64pow10", Rows.laid_internal_strconv_uint64pow10), ("unicode/utf8.acceptRanges", Rows.laid_unicode_utf8_acceptRanges), ("strconv.ErrRange", Rows.laid_strconv_ErrRange), ("strconv.ErrSyntax", Rows.laid_strconv_ErrSyntax), ("unicode/utf8.first", Rows.laid_unicode_utf8_first)]
theorem letsNameIs {W : World} (h : laidMetH Tryd.prog laidNameIs W) (hsh : W.ShapedOpen Tryd.prog) : Lets W := by
  rw [MakeChecks.laidMetH_plain _ _ _ (by kernel_rfl)] at h
  exact lets_of h hsh (by simp) (by simp) (by simp)
set_option maxRecDepth 100000 in
theorem metNameIs (os : Os) (args : Array Value) : laidMetH Tryd.prog laidNameIs ((World.laidAll Tryd.prog os laidNameIs).forCall (fun _ _ => 0) ⟨#[], args, []⟩).memory := by
  rw [MakeChecks.laidMetH_plain _ _ _ (by kernel_rfl)]; exact laidMet_laidAll _ (by kernel_rfl) (by kernel_rfl)
set_option maxRecDepth 100000 in
theorem shapedNameIs (os : Os) (args : Array Value) : ((World.laidAll Tryd.prog os laidNameIs).forCall (fun _ _ => 0) ⟨#[], args, []⟩).Shaped Tryd.prog := World.shaped_of_ZipB (by kernel_rfl) (by kernel_rfl)
-- NamePlaces: laidNameIs
-- NameNumbers: laidNameIs
end Go.Proofs.YtkkihbnaaaajeaaDoor.nm
