/- The lists of the laid variables of this seat's rows, and that the door's own heap meets them. -/
import Derived.Test.YtkbgmdabmebdhaaGreatDoorNmL
import Derived.MakeChecks
import Derived.Lay
namespace Go.Proofs.YtkbgmdabmebdhaaGreatDoor.nm
open Go.ChangeShapes Go.WideShapes Go.ChangeAt Go.RowKit Go.Proofs.Aid
abbrev laidTokenIs : List (String × DataW Unit) := [("math/bits.deBruijn32tab", Rows.laid_math_bits_deBruijn32tab), ("math/bits.deBruijn64tab", Rows.laid_math_bits_deBruijn64tab), ("internal/strconv.uint64pow10", Rows.laid_internal_strconv_uint64pow10), ("strconv.ErrRange", Rows.laid_strconv_ErrRange), ("strconv.ErrSyntax", Rows.laid_strconv_ErrSyntax), ("pantler/sha.first", Rows.laid_pantler_sha_first), ("pantler/sha.steps", Rows.laid_pantler_sha_steps), ("pantler/tenant.limits", Rows.laid_pantler_tenant_limits)]
theorem letsTokenIs {W : World} (h : laidMetH Tryz.prog laidTokenIs W) (hsh : W.ShapedOpen Tryz.prog) : Lets W := by
  rw [MakeChecks.laidMetH_plain _ _ _ (by kernel_rfl)] at h
  exact lets_of h hsh (by simp) (by simp) (by simp) (by simp) (by simp) (by simp)
set_option maxRecDepth 100000 in
theorem metTokenIs (os : Os) (args : Array Value) : laidMetH Tryz.prog laidTokenIs ((World.laidAll Tryz.prog os laidTokenIs).forCall (fun _ _ => 0) ⟨#[], args, []⟩).memory := by
  rw [MakeChecks.laidMetH_plain _ _ _ (by kernel_rfl)]; exact laidMet_laidAll _ (by kernel_rfl) (by kernel_rfl)
set_option maxRecDepth 100000 in
theorem shapedTokenIs (os : Os) (args : Array Value) : ((World.laidAll Tryz.prog os laidTokenIs).forCall (fun _ _ => 0) ⟨#[], args, []⟩).Shaped Tryz.prog := World.shaped_of_ZipB (by kernel_rfl) (by kernel_rfl)
end Go.Proofs.YtkbgmdabmebdhaaGreatDoor.nm
