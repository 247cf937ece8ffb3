/-
  DERIVED. GIVEN WITH THE SEED: THE CARDS: each row of YtcapahehfokihaaDoorRows.lean that lists a variable, with what it lists TIED to the program's text (the seventh form; the later family's looks); each row that meets fmt, with fmt's text TOLD by the authors' own Lean function (tested against real Go, not proved from fmt's source: count such statements apart). THE CARD IS WHAT COUNTS. Prove the row's statement (the work); the ties are given (YtcapahehfokihaaDoorTie.lean); close each card by the builder's one call (the guide's Derived/Test/ToyasCard.lean, 'card_holds'). Laid BY PROGRAM, IN A SANDBOX (cutbox-door.mjs). By AI agents, Wed Nov 11 2026. No macro, syntax, notation, axiom, sorry.
-/
import Derived.Test.YtcapahehfokihaaDoorRows
import GoSem.ClaimSeven
namespace Go.Proofs.YtcapahehfokihaaDoor
namespace Rows

/-- THE TIED CARD OF 'pantlerlaw22.AccessOf'. -/
def accessOfCard : Claim7 := { stood := { row := accessOfRow, standIns := [], harness := (true, "e85ca2f480ceb8641fe00065c2d73201f15e913b28e973a8cbed1b1eaecd404e"), looks := false }, kinds := [], alts := [], laidByText := true, laidKinds := [.data], laidTests := true, laidLooks := .later }
def AccessOfCardSaid : Prop := Claim7.holds Tryd.pinned (.plain (OpenSpec.ofChange accessOfSpec)) accessOfCard

/-- THE TIED CARD OF 'pantlerlaw22.AccessSet'. -/
def accessSetCard : Claim7 := { stood := { row := accessSetRow, standIns := [], harness := (true, "e85ca2f480ceb8641fe00065c2d73201f15e913b28e973a8cbed1b1eaecd404e"), looks := false }, kinds := [], alts := [], laidByText := true, laidKinds := [.data], laidTests := true, laidLooks := .later }
def AccessSetCardSaid : Prop := Claim7.holds Tryd.pinned (.plain (OpenSpec.ofChange accessSetSpec)) accessSetCard

/-- THE TIED CARD OF 'pantlerlaw22.AccessLetters'. -/
def accessLettersCard : Claim7 := { stood := { row := accessLettersRow, standIns := [], harness := (true, "e85ca2f480ceb8641fe00065c2d73201f15e913b28e973a8cbed1b1eaecd404e"), looks := false }, kinds := [], alts := [], laidByText := true, laidKinds := [.data], laidTests := true, laidLooks := .later }
def AccessLettersCardSaid : Prop := Claim7.holds Tryd.pinned (.plain (OpenSpec.ofChange accessLettersSpec)) accessLettersCard

/-- THE TIED CARD OF 'pantlerlaw22.AccessOwn'. -/
def accessOwnCard : Claim7 := { stood := { row := accessOwnRow, standIns := [], harness := (true, "e85ca2f480ceb8641fe00065c2d73201f15e913b28e973a8cbed1b1eaecd404e"), looks := false }, kinds := [], alts := [], laidByText := true, laidKinds := [.data], laidTests := true, laidLooks := .later }
def AccessOwnCardSaid : Prop := Claim7.holds Tryd.pinned (.plain (OpenSpec.ofChange accessOwnSpec)) accessOwnCard

/-- THE SECOND FORM's CARD OF 'pantlerlaw22.AccessOf'. -/
def accessOfUptoCard : Claim7 := { stood := { row := accessOfUptoRow, standIns := [], harness := (true, "e85ca2f480ceb8641fe00065c2d73201f15e913b28e973a8cbed1b1eaecd404e"), looks := false }, kinds := [], alts := [], laidByText := true, laidKinds := [.data], laidTests := true, laidLooks := .later }
def AccessOfUptoCardSaid : Prop := Claim7.holds Tryd.pinned (.plain (OpenSpec.upto accessOfSpec)) accessOfUptoCard

/-- THE SECOND FORM's CARD OF 'pantlerlaw22.AccessSet'. -/
def accessSetUptoCard : Claim7 := { stood := { row := accessSetUptoRow, standIns := [], harness := (true, "e85ca2f480ceb8641fe00065c2d73201f15e913b28e973a8cbed1b1eaecd404e"), looks := false }, kinds := [], alts := [], laidByText := true, laidKinds := [.data], laidTests := true, laidLooks := .later }
def AccessSetUptoCardSaid : Prop := Claim7.holds Tryd.pinned (.plain (OpenSpec.upto accessSetSpec)) accessSetUptoCard

/-- THE SECOND FORM's CARD OF 'pantlerlaw22.AccessLetters'. -/
def accessLettersUptoCard : Claim7 := { stood := { row := accessLettersUptoRow, standIns := [], harness := (true, "e85ca2f480ceb8641fe00065c2d73201f15e913b28e973a8cbed1b1eaecd404e"), looks := false }, kinds := [], alts := [], laidByText := true, laidKinds := [.data], laidTests := true, laidLooks := .later }
def AccessLettersUptoCardSaid : Prop := Claim7.holds Tryd.pinned (.plain (OpenSpec.upto accessLettersSpec)) accessLettersUptoCard

/-- THE SECOND FORM's CARD OF 'pantlerlaw22.AccessOwn'. -/
def accessOwnUptoCard : Claim7 := { stood := { row := accessOwnUptoRow, standIns := [], harness := (true, "e85ca2f480ceb8641fe00065c2d73201f15e913b28e973a8cbed1b1eaecd404e"), looks := false }, kinds := [], alts := [], laidByText := true, laidKinds := [.data], laidTests := true, laidLooks := .later }
def AccessOwnUptoCardSaid : Prop := Claim7.holds Tryd.pinned (.plain (OpenSpec.upto accessOwnSpec)) accessOwnUptoCard
end Rows
end Go.Proofs.YtcapahehfokihaaDoor
