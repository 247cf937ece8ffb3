/- What must come of package registry, whatever the arguments are. -/
import Derived.Test.YtjbompimlopdiaaGreatDoorRgS
import Derived.Test.YtjbompimlopdiaaGreatDoorRgM
namespace Go.Proofs.YtjbompimlopdiaaGreatDoor.rgy
open Go.ChangeShapes Go.WideShapes Go.ChangeAt Go.RowKit Go.Proofs.Aid Go.Proofs.YtjbompimlopdiaaGreatDoor.name Go.Proofs.YtjbompimlopdiaaGreatDoor.reg
abbrev aX : En := ⟨⟨#[97, 47, 98]⟩, ⟨1, ⟨#[110, 49]⟩, ⟨#[118]⟩⟩⟩
abbrev aY : En := ⟨⟨#[97, 47, 98]⟩, ⟨2, ⟨#[110, 50]⟩, ⟨#[119]⟩⟩⟩
abbrev aC : En := ⟨⟨#[99]⟩, ⟨1, ⟨#[]⟩, ⟨#[]⟩⟩⟩
theorem aw1 : setE [] ⟨#[110, 49]⟩ ⟨#[97, 47, 98]⟩ ⟨#[118]⟩ = (aX, 0) := by kernel_rfl
theorem aw2 : (may [] && isEntry aX) = true := by kernel_rfl
theorem aw3 : setE [aX] ⟨#[110, 50]⟩ ⟨#[97, 47, 98]⟩ ⟨#[119]⟩ = (aY, 0) := by kernel_rfl
theorem aw4 : may [aX] = true := by kernel_rfl
theorem aw5 : may [aY, aC] = true := by kernel_rfl
theorem aw6 : putsE [aX] [aY, aC] = [aY, aC] := by kernel_rfl
theorem aw7 : merge [aX] [aY, aC] = [aY, aC] := by rw [← putsE_merge (may_iff.1 aw4).2.2 (may_iff.1 aw5).2.2, aw6]
theorem aw8 : get [aY, aC] ⟨#[97, 47, 98]⟩ = ⟨2, ⟨#[110, 50]⟩, ⟨#[119]⟩⟩ := by kernel_rfl
theorem aw9 : ([aY, aC].filter (underP ⟨#[97]⟩)) = [aY] := by kernel_rfl
theorem aw10 : ([aY, aC].filter (newsP [aX])) = [aY, aC] := by kernel_rfl
theorem aw11 : ([aX].filter (newsP [aY, aC])) = [] := by kernel_rfl
theorem szX : ∀ r ∈ [aX], r.sz := by simp [En.sz]; decide
theorem szM : ∀ r ∈ [aY, aC], r.sz := by simp [En.sz]; decide
end Go.Proofs.YtjbompimlopdiaaGreatDoor.rgy
