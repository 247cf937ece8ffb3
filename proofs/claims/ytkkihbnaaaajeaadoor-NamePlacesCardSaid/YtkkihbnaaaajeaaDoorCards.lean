/-
  DERIVED. GIVEN WITH THE SEED: THE CARDS: each row of YtkkihbnaaaajeaaDoorRows.lean that lists a variable, with what it lists TIED to the program's text (the seventh form; the later family's looks); each row that meets fmt, with fmt's text TOLD by the authors' own Lean function (tested against real Go, not proved from fmt's source: count such statements apart). THE CARD IS WHAT COUNTS. Prove the row's statement (the work); the ties are given (YtkkihbnaaaajeaaDoorTie.lean); close each card by the builder's one call (the guide's Derived/Test/ToyasCard.lean, 'card_holds'). Laid BY PROGRAM, IN A SANDBOX (cutbox-door.mjs). By AI agents, Wed Nov 11 2026. No macro, syntax, notation, axiom, sorry.
-/
import Derived.Test.YtkkihbnaaaajeaaDoorRows
import GoSem.ClaimSeven
namespace Go.Proofs.YtkkihbnaaaajeaaDoor
namespace Rows

/-- THE TIED CARD OF 'pantlerlaw05.NameIs'. -/
def nameIsCard : Claim7 := { stood := { row := nameIsRow, standIns := [], harness := (true, "895a4f627fed1af55f9ea742e89fdf219da32449ae06e599472157d2406393fc"), looks := true }, kinds := [], alts := [], laidByText := true, laidKinds := [.data, .data, .data, .data, .sentinel, .sentinel, .pinned], laidTests := true, laidLooks := .later }
def NameIsCardSaid : Prop := Claim7.holds Tryd.pinned (.plain (OpenSpec.ofChange nameIsSpec)) nameIsCard

/-- THE TIED CARD OF 'pantlerlaw05.NamePlaces'. -/
def namePlacesCard : Claim7 := { stood := { row := namePlacesRow, standIns := [], harness := (true, "895a4f627fed1af55f9ea742e89fdf219da32449ae06e599472157d2406393fc"), looks := true }, kinds := [], alts := [], laidByText := true, laidKinds := [.data, .data, .data, .data, .sentinel, .sentinel, .pinned], laidTests := true, laidLooks := .later }
def NamePlacesCardSaid : Prop := Claim7.holds Tryd.pinned (.plain (OpenSpec.ofChange namePlacesSpec)) namePlacesCard

/-- THE TIED CARD OF 'pantlerlaw05.NameNumbers'. -/
def nameNumbersCard : Claim7 := { stood := { row := nameNumbersRow, standIns := [], harness := (true, "895a4f627fed1af55f9ea742e89fdf219da32449ae06e599472157d2406393fc"), looks := true }, kinds := [], alts := [], laidByText := true, laidKinds := [.data, .data, .data, .data, .sentinel, .sentinel, .pinned], laidTests := true, laidLooks := .later }
def NameNumbersCardSaid : Prop := Claim7.holds Tryd.pinned (.plain (OpenSpec.ofChange nameNumbersSpec)) nameNumbersCard

/-- THE SECOND FORM's CARD OF 'pantlerlaw05.NameIs'. -/
def nameIsUptoCard : Claim7 := { stood := { row := nameIsUptoRow, standIns := [], harness := (true, "895a4f627fed1af55f9ea742e89fdf219da32449ae06e599472157d2406393fc"), looks := true }, kinds := [], alts := [], laidByText := true, laidKinds := [.data, .data, .data, .data, .sentinel, .sentinel, .pinned], laidTests := true, laidLooks := .later }
def NameIsUptoCardSaid : Prop := Claim7.holds Tryd.pinned (.plain (OpenSpec.upto nameIsSpec)) nameIsUptoCard

/-- THE SECOND FORM's CARD OF 'pantlerlaw05.NamePlaces'. -/
def namePlacesUptoCard : Claim7 := { stood := { row := namePlacesUptoRow, standIns := [], harness := (true, "895a4f627fed1af55f9ea742e89fdf219da32449ae06e599472157d2406393fc"), looks := true }, kinds := [], alts := [], laidByText := true, laidKinds := [.data, .data, .data, .data, .sentinel, .sentinel, .pinned], laidTests := true, laidLooks := .later }
def NamePlacesUptoCardSaid : Prop := Claim7.holds Tryd.pinned (.plain (OpenSpec.upto namePlacesSpec)) namePlacesUptoCard

/-- THE SECOND FORM's CARD OF 'pantlerlaw05.NameNumbers'. -/
def nameNumbersUptoCard : Claim7 := { stood := { row := nameNumbersUptoRow, standIns := [], harness := (true, "895a4f627fed1af55f9ea742e89fdf219da32449ae06e599472157d2406393fc"), looks := true }, kinds := [], alts := [], laidByText := true, laidKinds := [.data, .data, .data, .data, .sentinel, .sentinel, .pinned], laidTests := true, laidLooks := .later }
def NameNumbersUptoCardSaid : Prop := Claim7.holds Tryd.pinned (.plain (OpenSpec.upto nameNumbersSpec)) nameNumbersUptoCard
end Rows
end Go.Proofs.YtkkihbnaaaajeaaDoor
