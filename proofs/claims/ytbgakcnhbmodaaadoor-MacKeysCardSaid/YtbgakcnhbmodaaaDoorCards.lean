/-
  DERIVED. GIVEN WITH THE SEED: THE CARDS: each row of YtbgakcnhbmodaaaDoorRows.lean that lists a variable, with what it lists TIED to the program's text (the seventh form; the later family's looks); each row that meets fmt, with fmt's text TOLD by the authors' own Lean function (tested against real Go, not proved from fmt's source: count such statements apart). THE CARD IS WHAT COUNTS. Prove the row's statement (the work); the ties are given (YtbgakcnhbmodaaaDoorTie.lean); close each card by the builder's one call (the guide's Derived/Test/ToyasCard.lean, 'card_holds'). Laid BY PROGRAM, IN A SANDBOX (cutbox-door.mjs). By AI agents, Wed Nov 11 2026. No macro, syntax, notation, axiom, sorry.
-/
import Derived.Test.YtbgakcnhbmodaaaDoorRows
import GoSem.ClaimSeven
namespace Go.Proofs.YtbgakcnhbmodaaaDoor
namespace Rows

/-- THE TIED CARD OF 'pantlerlaw03.MacIs'. -/
def macIsCard : Claim7 := { stood := { row := macIsRow, standIns := [], harness := (true, "84a6e0394d2ae5db518a1922739ef74f52620b5773d5fca72f4a8cd39f0ebde5"), looks := false }, kinds := [], alts := [], laidByText := true, laidKinds := [.data, .data], laidTests := true, laidLooks := .later }
def MacIsCardSaid : Prop := Claim7.holds Tryd.pinned (.plain (OpenSpec.ofChange macIsSpec)) macIsCard

/-- THE TIED CARD OF 'pantlerlaw03.MacTells'. -/
def macTellsCard : Claim7 := { stood := { row := macTellsRow, standIns := [], harness := (true, "84a6e0394d2ae5db518a1922739ef74f52620b5773d5fca72f4a8cd39f0ebde5"), looks := false }, kinds := [], alts := [], laidByText := true, laidKinds := [.data, .data], laidTests := true, laidLooks := .later }
def MacTellsCardSaid : Prop := Claim7.holds Tryd.pinned (.plain (OpenSpec.ofChange macTellsSpec)) macTellsCard

/-- THE TIED CARD OF 'pantlerlaw03.MacChanged'. -/
def macChangedCard : Claim7 := { stood := { row := macChangedRow, standIns := [], harness := (true, "84a6e0394d2ae5db518a1922739ef74f52620b5773d5fca72f4a8cd39f0ebde5"), looks := false }, kinds := [], alts := [], laidByText := true, laidKinds := [.data, .data], laidTests := true, laidLooks := .later }
def MacChangedCardSaid : Prop := Claim7.holds Tryd.pinned (.plain (OpenSpec.ofChange macChangedSpec)) macChangedCard

/-- THE TIED CARD OF 'pantlerlaw03.MacKeys'. -/
def macKeysCard : Claim7 := { stood := { row := macKeysRow, standIns := [], harness := (true, "84a6e0394d2ae5db518a1922739ef74f52620b5773d5fca72f4a8cd39f0ebde5"), looks := false }, kinds := [], alts := [], laidByText := true, laidKinds := [.data, .data], laidTests := true, laidLooks := .later }
def MacKeysCardSaid : Prop := Claim7.holds Tryd.pinned (.plain (OpenSpec.ofChange macKeysSpec)) macKeysCard

/-- THE SECOND FORM's CARD OF 'pantlerlaw03.MacIs'. -/
def macIsUptoCard : Claim7 := { stood := { row := macIsUptoRow, standIns := [], harness := (true, "84a6e0394d2ae5db518a1922739ef74f52620b5773d5fca72f4a8cd39f0ebde5"), looks := false }, kinds := [], alts := [], laidByText := true, laidKinds := [.data, .data], laidTests := true, laidLooks := .later }
def MacIsUptoCardSaid : Prop := Claim7.holds Tryd.pinned (.plain (OpenSpec.upto macIsSpec)) macIsUptoCard

/-- THE SECOND FORM's CARD OF 'pantlerlaw03.MacTells'. -/
def macTellsUptoCard : Claim7 := { stood := { row := macTellsUptoRow, standIns := [], harness := (true, "84a6e0394d2ae5db518a1922739ef74f52620b5773d5fca72f4a8cd39f0ebde5"), looks := false }, kinds := [], alts := [], laidByText := true, laidKinds := [.data, .data], laidTests := true, laidLooks := .later }
def MacTellsUptoCardSaid : Prop := Claim7.holds Tryd.pinned (.plain (OpenSpec.upto macTellsSpec)) macTellsUptoCard

/-- THE SECOND FORM's CARD OF 'pantlerlaw03.MacChanged'. -/
def macChangedUptoCard : Claim7 := { stood := { row := macChangedUptoRow, standIns := [], harness := (true, "84a6e0394d2ae5db518a1922739ef74f52620b5773d5fca72f4a8cd39f0ebde5"), looks := false }, kinds := [], alts := [], laidByText := true, laidKinds := [.data, .data], laidTests := true, laidLooks := .later }
def MacChangedUptoCardSaid : Prop := Claim7.holds Tryd.pinned (.plain (OpenSpec.upto macChangedSpec)) macChangedUptoCard

/-- THE SECOND FORM's CARD OF 'pantlerlaw03.MacKeys'. -/
def macKeysUptoCard : Claim7 := { stood := { row := macKeysUptoRow, standIns := [], harness := (true, "84a6e0394d2ae5db518a1922739ef74f52620b5773d5fca72f4a8cd39f0ebde5"), looks := false }, kinds := [], alts := [], laidByText := true, laidKinds := [.data, .data], laidTests := true, laidLooks := .later }
def MacKeysUptoCardSaid : Prop := Claim7.holds Tryd.pinned (.plain (OpenSpec.upto macKeysSpec)) macKeysUptoCard
end Rows
end Go.Proofs.YtbgakcnhbmodaaaDoor
