/-
  DERIVED. GIVEN WITH THE SEED: THE CARDS: each row of YtjbompimlopdiaaGreatDoorRows.lean that lists a variable, with what it lists TIED to the program's text (the seventh form; the later family's looks); each row that meets fmt, with fmt's text TOLD by the authors' own Lean function (tested against real Go, not proved from fmt's source: count such statements apart). THE CARD IS WHAT COUNTS. Prove the row's statement (the work); the ties are given (YtjbompimlopdiaaGreatDoorTie.lean); close each card by the builder's one call (the guide's Derived/Test/ToyasCard.lean, 'card_holds'). Laid BY PROGRAM, IN A SANDBOX (cutbox-door.mjs). By AI agents, Wed Nov 11 2026. No macro, syntax, notation, axiom, sorry.
-/
import Derived.Test.YtjbompimlopdiaaGreatDoorRows
import GoSem.ClaimSeven
namespace Go.Proofs.YtjbompimlopdiaaGreatDoor
namespace Rows

/-- THE TIED CARD OF 'pantlerlaw23.TenantOf'. -/
def tenantOfCard : Claim7 := { stood := { row := tenantOfRow, standIns := [], harness := (true, "cae7e68687ae8fd3c2f7b53fa91f642a6d353232a27281b3b1c3b02125ca3dc7"), looks := true }, kinds := [], alts := [], laidByText := true, laidKinds := [.data, .data, .data, .data, .sentinel, .sentinel, .wider, .pinned], laidTests := true, laidLooks := .later }
def TenantOfCardSaid : Prop := Claim7.holds Tryz.pinned (.plain (OpenSpec.ofChange tenantOfSpec)) tenantOfCard

/-- THE TIED CARD OF 'pantlerlaw23.TenantSets'. -/
def tenantSetsCard : Claim7 := { stood := { row := tenantSetsRow, standIns := [], harness := (true, "cae7e68687ae8fd3c2f7b53fa91f642a6d353232a27281b3b1c3b02125ca3dc7"), looks := true }, kinds := [], alts := [], laidByText := true, laidKinds := [.data, .data, .data, .data, .sentinel, .sentinel, .wider, .pinned], laidTests := true, laidLooks := .later }
def TenantSetsCardSaid : Prop := Claim7.holds Tryz.pinned (.plain (OpenSpec.ofChange tenantSetsSpec)) tenantSetsCard

/-- THE TIED CARD OF 'pantlerlaw23.TenantSound'. -/
def tenantSoundCard : Claim7 := { stood := { row := tenantSoundRow, standIns := [], harness := (true, "cae7e68687ae8fd3c2f7b53fa91f642a6d353232a27281b3b1c3b02125ca3dc7"), looks := true }, kinds := [], alts := [], laidByText := true, laidKinds := [.data, .data, .data, .data, .sentinel, .sentinel, .wider, .pinned], laidTests := true, laidLooks := .later }
def TenantSoundCardSaid : Prop := Claim7.holds Tryz.pinned (.plain (OpenSpec.ofChange tenantSoundSpec)) tenantSoundCard

/-- THE SECOND FORM's CARD OF 'pantlerlaw23.TenantOf'. -/
def tenantOfUptoCard : Claim7 := { stood := { row := tenantOfUptoRow, standIns := [], harness := (true, "cae7e68687ae8fd3c2f7b53fa91f642a6d353232a27281b3b1c3b02125ca3dc7"), looks := true }, kinds := [], alts := [], laidByText := true, laidKinds := [.data, .data, .data, .data, .sentinel, .sentinel, .wider, .pinned], laidTests := true, laidLooks := .later }
def TenantOfUptoCardSaid : Prop := Claim7.holds Tryz.pinned (.plain (OpenSpec.upto tenantOfSpec)) tenantOfUptoCard

/-- THE SECOND FORM's CARD OF 'pantlerlaw23.TenantSets'. -/
def tenantSetsUptoCard : Claim7 := { stood := { row := tenantSetsUptoRow, standIns := [], harness := (true, "cae7e68687ae8fd3c2f7b53fa91f642a6d353232a27281b3b1c3b02125ca3dc7"), looks := true }, kinds := [], alts := [], laidByText := true, laidKinds := [.data, .data, .data, .data, .sentinel, .sentinel, .wider, .pinned], laidTests := true, laidLooks := .later }
def TenantSetsUptoCardSaid : Prop := Claim7.holds Tryz.pinned (.plain (OpenSpec.upto tenantSetsSpec)) tenantSetsUptoCard

/-- THE SECOND FORM's CARD OF 'pantlerlaw23.TenantSound'. -/
def tenantSoundUptoCard : Claim7 := { stood := { row := tenantSoundUptoRow, standIns := [], harness := (true, "cae7e68687ae8fd3c2f7b53fa91f642a6d353232a27281b3b1c3b02125ca3dc7"), looks := true }, kinds := [], alts := [], laidByText := true, laidKinds := [.data, .data, .data, .data, .sentinel, .sentinel, .wider, .pinned], laidTests := true, laidLooks := .later }
def TenantSoundUptoCardSaid : Prop := Claim7.holds Tryz.pinned (.plain (OpenSpec.upto tenantSoundSpec)) tenantSoundUptoCard
end Rows
end Go.Proofs.YtjbompimlopdiaaGreatDoor
