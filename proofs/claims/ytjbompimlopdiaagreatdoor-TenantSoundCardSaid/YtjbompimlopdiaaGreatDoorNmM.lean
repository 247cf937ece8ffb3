/- The lists of the laid variables of this seat's rows, and that the door's own heap meets them. -/
import Derived.Test.YtjbompimlopdiaaGreatDoorNmL
import Derived.MakeChecks
import Derived.Lay
namespace Go.Proofs.YtjbompimlopdiaaGreatDoor.nm
open Go.ChangeShapes Go.WideShapes Go.ChangeAt Go.RowKit Go.Proofs.Aid
abbrev laidTenantOf : List (String × DataW Unit) := [("math/bits.deBruijn32tab", Rows.laid_math_bits_deBruijn32tab), ("math/bits.deBruijn64tab", Rows.laid_math_bits_deBruijn64tab), ("internal/strconv.uint64pow10", Rows.laid_internal_strconv_uint64pow10), ("unicode/utf8.acceptRanges", Rows.laid_unicode_utf8_acceptRanges), ("strconv.ErrRange", Rows.laid_strconv_ErrRange), ("strconv.ErrSyntax", Rows.laid_strconv_ErrSyntax), ("pantler/tenant.limits", Rows.laid_pantler_tenant_limits), ("unicode/utf8.first", Rows.laid_unicode_utf8_first)]
theorem letsTenantOf {W : World} (h : laidMetH Tryz.prog laidTenantOf W) (hsh : W.ShapedOpen Tryz.prog) : Lets W := by
  rw [MakeChecks.laidMetH_plain _ _ _ (by kernel_rfl)] at h
  exact lets_of h hsh (by simp) (by simp) (by simp) (by simp)
set_option maxRecDepth 100000 in
theorem metTenantOf (os : Os) (args : Array Value) : laidMetH Tryz.prog laidTenantOf ((World.laidAll Tryz.prog os laidTenantOf).forCall (fun _ _ => 0) ⟨#[], args, []⟩).memory := by
  rw [MakeChecks.laidMetH_plain _ _ _ (by kernel_rfl)]; exact laidMet_laidAll _ (by kernel_rfl) (by kernel_rfl)
set_option maxRecDepth 100000 in
theorem shapedTenantOf (os : Os) (args : Array Value) : ((World.laidAll Tryz.prog os laidTenantOf).forCall (fun _ _ => 0) ⟨#[], args, []⟩).Shaped Tryz.prog := World.shaped_of_ZipB (by kernel_rfl) (by kernel_rfl)
-- TenantSets: laidTenantOf
-- TenantSound: laidTenantOf
end Go.Proofs.YtjbompimlopdiaaGreatDoor.nm
