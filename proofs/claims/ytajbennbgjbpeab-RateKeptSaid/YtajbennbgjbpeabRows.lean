/-
  No cell of these rows narrows 'for every input' (looked for: loops, veiled, ifaces, maps, wideKeys, modest, calm, conditions, laid).
  DERIVED. THE GIVEN ROWS OF THIS SEAT. 3 by the template 'for every input the law returns true; each argument reads behind the call as it read before'; 0 by the template 'total and deterministic' (their statements: YtajbennbgjbpeabTotals.lean).
  GIVEN WITH THE SEED: the statements are not yours to turn. If you find one false, say at which input.
  Laid BY PROGRAM, IN A SANDBOX (cutbox-rows.mjs): the forced cells as the released guide's own fill.sh prints them over the translation 598547370e2b4fa5… (all of the seat's roots in one cut). By AI agents, Wed Nov 11 2026. No macro, syntax, notation, axiom, sorry.
-/
import Derived.Test.YtajbennbgjbpeabChecked
import GoSem.Claim
import GoSem.ClaimJoined
import GoSem.ClaimMapViews
import Derived.JoinedTies
import Derived.KernelRfl
namespace Go.Proofs.Ytajbennbgjbpeab
/- THE CELL 'sum', in the pinned program and in every row, IS THE sha256 OF THE DUMP (.gsa) THAT YtajbennbgjbpeabProg.lean LOADS. Nothing in Lean hashes anything: it is a label: what it is worth is what the hold of that sum in a sandbox is worth. -/
noncomputable def Try.pinned : Pinned := { name := "ytajbennbgjbpeab", sum := "598547370e2b4fa502c39ed621bf22acc06c35b86b1bdf5c8ed61cebc5442f52", checked := Try.checked }
namespace Rows
def none {H : Type} : Left H := { results := [], args := [] }

/-- 'pantlerlaw30.RateIs': WHATEVER THE INPUT: true; the input reads as it did. -/
def rateIsSpec : ChangeSpec := { name := "rateIs", fn := fun _ => fun
  | [d1, d2] => { results := [.lit (.bool true)], args := [d1, d2] }
  | _ => none }
def rateIsRow : OpenClaim := { program := "ytajbennbgjbpeab", sum := "598547370e2b4fa502c39ed621bf22acc06c35b86b1bdf5c8ed61cebc5442f52", func := "pantler/pantlerlaw30.RateIs", spec := "rateIs", apart := false }
def RateIsSaid : Prop := rateIsRow.holds Try.pinned (OpenSpec.ofChange rateIsSpec)

/-- ITS FALSE NEIGHBOUR: 'it returns false'. Refute it at one input. -/
def rateIsWrong : ChangeSpec := { name := "rateIs", fn := fun _ => fun
  | [d1, d2] => { results := [.lit (.bool false)], args := [d1, d2] }
  | _ => none }
def RateIsWrongFalsely : Prop := rateIsRow.holds Try.pinned (OpenSpec.ofChange rateIsWrong)

/-- 'pantlerlaw30.RateKept': WHATEVER THE INPUT: true; the input reads as it did. -/
def rateKeptSpec : ChangeSpec := { name := "rateKept", fn := fun _ => fun
  | [d1, d2, d3] => { results := [.lit (.bool true)], args := [d1, d2, d3] }
  | _ => none }
def rateKeptRow : OpenClaim := { program := "ytajbennbgjbpeab", sum := "598547370e2b4fa502c39ed621bf22acc06c35b86b1bdf5c8ed61cebc5442f52", func := "pantler/pantlerlaw30.RateKept", spec := "rateKept", apart := false }
def RateKeptSaid : Prop := rateKeptRow.holds Try.pinned (OpenSpec.ofChange rateKeptSpec)

/-- ITS FALSE NEIGHBOUR: 'it returns false'. Refute it at one input. -/
def rateKeptWrong : ChangeSpec := { name := "rateKept", fn := fun _ => fun
  | [d1, d2, d3] => { results := [.lit (.bool false)], args := [d1, d2, d3] }
  | _ => none }
def RateKeptWrongFalsely : Prop := rateKeptRow.holds Try.pinned (OpenSpec.ofChange rateKeptWrong)

/-- 'pantlerlaw54.PairingIs': WHATEVER THE INPUT: true; the input reads as it did. -/
def pairingIsSpec : ChangeSpec := { name := "pairingIs", fn := fun _ => fun
  | [d1, d2, d3] => { results := [.lit (.bool true)], args := [d1, d2, d3] }
  | _ => none }
def pairingIsRow : OpenClaim := { program := "ytajbennbgjbpeab", sum := "598547370e2b4fa502c39ed621bf22acc06c35b86b1bdf5c8ed61cebc5442f52", func := "pantler/pantlerlaw54.PairingIs", spec := "pairingIs", unfollowed := true, recurses := true, apart := false }
def PairingIsSaid : Prop := pairingIsRow.holds Try.pinned (OpenSpec.ofChange pairingIsSpec)

/-- ITS FALSE NEIGHBOUR: 'it returns false'. Refute it at one input. -/
def pairingIsWrong : ChangeSpec := { name := "pairingIs", fn := fun _ => fun
  | [d1, d2, d3] => { results := [.lit (.bool false)], args := [d1, d2, d3] }
  | _ => none }
def PairingIsWrongFalsely : Prop := pairingIsRow.holds Try.pinned (OpenSpec.ofChange pairingIsWrong)

/- THE SECOND FORM. 'bulk': how many values and letters a reading holds, each counted each time it is reached (what is shared counts as often as it is met; a slice's spare places count too). A statement '..UptoSaid' is the law's where the arguments, and the package variables that the reading takes, are together of bulk at most 1048576: NARROWER than '..Said'. Prove '..Said' where nothing that the law and all that it calls make is longer than what came in: it says more and counts as full. Else prove '..UptoSaid'. A law counts once. -/
mutual
def uptoBulk {H : Type} : DataW H → Nat
  | .lit (.string bytes) => bytes.length + 1
  | .lit _ => 1
  | .nil => 1
  | .ptr d => uptoBulk d + 1
  | .slice elems spare => uptoBulkAll elems + uptoBulkAll spare + 1
  | .agg parts => uptoBulkAll parts + 1
  | .iface _ d => uptoBulk d + 1
  | .map entries => uptoBulkEntries entries + 1
  | .held _ => 1
def uptoBulkAll {H : Type} : List (DataW H) → Nat
  | [] => 0
  | d :: r => uptoBulk d + uptoBulkAll r
def uptoBulkEntries {H : Type} : List (Lit × DataW H) → Nat
  | [] => 0
  | x :: r => uptoBulkEntry x + uptoBulkEntries r
def uptoBulkEntry {H : Type} : Lit × DataW H → Nat
  | (.string bytes, d) => bytes.length + uptoBulk d + 1
  | (_, d) => uptoBulk d + 1
 end
def uptoSmall : (H : Type) → List (DataW H) → Bool := fun _ ds => decide (uptoBulkAll ds ≤ 1048576)
def OpenSpec.upto (s : _root_.Go.ChangeSpec) : _root_.Go.OpenSpec := { _root_.Go.OpenSpec.ofChange s with cond := some uptoSmall }

/-- 'pantlerlaw30.RateIs', WHERE WHAT IT READS IS OF BULK AT MOST 1048576: true; the input reads as it did. -/
def rateIsUptoRow : OpenClaim := { program := "ytajbennbgjbpeab", sum := "598547370e2b4fa502c39ed621bf22acc06c35b86b1bdf5c8ed61cebc5442f52", func := "pantler/pantlerlaw30.RateIs", spec := "rateIs", apart := false, narrowed := true }
def RateIsUptoSaid : Prop := rateIsUptoRow.holds Try.pinned (OpenSpec.upto rateIsSpec)

/-- 'pantlerlaw30.RateKept', WHERE WHAT IT READS IS OF BULK AT MOST 1048576: true; the input reads as it did. -/
def rateKeptUptoRow : OpenClaim := { program := "ytajbennbgjbpeab", sum := "598547370e2b4fa502c39ed621bf22acc06c35b86b1bdf5c8ed61cebc5442f52", func := "pantler/pantlerlaw30.RateKept", spec := "rateKept", apart := false, narrowed := true }
def RateKeptUptoSaid : Prop := rateKeptUptoRow.holds Try.pinned (OpenSpec.upto rateKeptSpec)

/-- 'pantlerlaw54.PairingIs', WHERE WHAT IT READS IS OF BULK AT MOST 1048576: true; the input reads as it did. -/
def pairingIsUptoRow : OpenClaim := { program := "ytajbennbgjbpeab", sum := "598547370e2b4fa502c39ed621bf22acc06c35b86b1bdf5c8ed61cebc5442f52", func := "pantler/pantlerlaw54.PairingIs", spec := "pairingIs", unfollowed := true, recurses := true, apart := false, narrowed := true }
def PairingIsUptoSaid : Prop := pairingIsUptoRow.holds Try.pinned (OpenSpec.upto pairingIsSpec)

end Rows
end Go.Proofs.Ytajbennbgjbpeab
