/-
  DERIVED. GIVEN WITH THE SEED: THE CARDS: each row of YtfabhpppfmlppaaDoorRows.lean that lists a variable, with what it lists TIED to the program's text (the seventh form; the later family's looks); each row that meets fmt, with fmt's text TOLD by the authors' own Lean function (tested against real Go, not proved from fmt's source: count such statements apart). THE CARD IS WHAT COUNTS. Prove the row's statement (the work); the ties are given (YtfabhpppfmlppaaDoorTie.lean); close each card by the builder's one call (the guide's Derived/Test/ToyasCard.lean, 'card_holds'). Laid BY PROGRAM, IN A SANDBOX (cutbox-door.mjs). By AI agents, Wed Nov 11 2026. No macro, syntax, notation, axiom, sorry.
-/
import Derived.Test.YtfabhpppfmlppaaDoorRows
import GoSem.ClaimSeven
namespace Go.Proofs.YtfabhpppfmlppaaDoor
namespace Rows

/-- THE TIED CARD OF 'pantlerlaw02.ShaIs'. -/
def shaIsCard : Claim7 := { stood := { row := shaIsRow, standIns := [], harness := (true, "15caf5f4a73272f5ecd7d669efb88db56630e4710212f993b7cd1653be9526ee"), looks := false }, kinds := [], alts := [], laidByText := true, laidKinds := [.data, .data], laidTests := true, laidLooks := .later }
def ShaIsCardSaid : Prop := Claim7.holds Tryd.pinned (.plain (OpenSpec.ofChange shaIsSpec)) shaIsCard

/-- THE TIED CARD OF 'pantlerlaw02.ShaLists'. -/
def shaListsCard : Claim7 := { stood := { row := shaListsRow, standIns := [], harness := (true, "15caf5f4a73272f5ecd7d669efb88db56630e4710212f993b7cd1653be9526ee"), looks := false }, kinds := [], alts := [], laidByText := true, laidKinds := [.data, .data], laidTests := true, laidLooks := .later }
def ShaListsCardSaid : Prop := Claim7.holds Tryd.pinned (.plain (OpenSpec.ofChange shaListsSpec)) shaListsCard

/-- THE TIED CARD OF 'pantlerlaw02.ShaApart'. -/
def shaApartCard : Claim7 := { stood := { row := shaApartRow, standIns := [], harness := (true, "15caf5f4a73272f5ecd7d669efb88db56630e4710212f993b7cd1653be9526ee"), looks := false }, kinds := [], alts := [], laidByText := true, laidKinds := [.data, .data], laidTests := true, laidLooks := .later }
def ShaApartCardSaid : Prop := Claim7.holds Tryd.pinned (.plain (OpenSpec.ofChange shaApartSpec)) shaApartCard

/-- THE SECOND FORM's CARD OF 'pantlerlaw02.ShaIs'. -/
def shaIsUptoCard : Claim7 := { stood := { row := shaIsUptoRow, standIns := [], harness := (true, "15caf5f4a73272f5ecd7d669efb88db56630e4710212f993b7cd1653be9526ee"), looks := false }, kinds := [], alts := [], laidByText := true, laidKinds := [.data, .data], laidTests := true, laidLooks := .later }
def ShaIsUptoCardSaid : Prop := Claim7.holds Tryd.pinned (.plain (OpenSpec.upto shaIsSpec)) shaIsUptoCard

/-- THE SECOND FORM's CARD OF 'pantlerlaw02.ShaLists'. -/
def shaListsUptoCard : Claim7 := { stood := { row := shaListsUptoRow, standIns := [], harness := (true, "15caf5f4a73272f5ecd7d669efb88db56630e4710212f993b7cd1653be9526ee"), looks := false }, kinds := [], alts := [], laidByText := true, laidKinds := [.data, .data], laidTests := true, laidLooks := .later }
def ShaListsUptoCardSaid : Prop := Claim7.holds Tryd.pinned (.plain (OpenSpec.upto shaListsSpec)) shaListsUptoCard

/-- THE SECOND FORM's CARD OF 'pantlerlaw02.ShaApart'. -/
def shaApartUptoCard : Claim7 := { stood := { row := shaApartUptoRow, standIns := [], harness := (true, "15caf5f4a73272f5ecd7d669efb88db56630e4710212f993b7cd1653be9526ee"), looks := false }, kinds := [], alts := [], laidByText := true, laidKinds := [.data, .data], laidTests := true, laidLooks := .later }
def ShaApartUptoCardSaid : Prop := Claim7.holds Tryd.pinned (.plain (OpenSpec.upto shaApartSpec)) shaApartUptoCard
end Rows
end Go.Proofs.YtfabhpppfmlppaaDoor
