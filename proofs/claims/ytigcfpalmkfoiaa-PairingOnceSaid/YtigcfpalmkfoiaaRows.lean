/-
  No cell of these rows narrows 'for every input' (looked for: loops, veiled, ifaces, maps, wideKeys, modest, calm, conditions, laid).
  DERIVED. THE GIVEN ROWS OF THIS SEAT. 3 by the template 'for every input the law returns true; each argument reads behind the call as it read before'; 0 by the template 'total and deterministic' (their statements: YtigcfpalmkfoiaaTotals.lean).
  GIVEN WITH THE SEED: the statements are not yours to turn. If you find one false, say at which input.
  Laid BY PROGRAM, IN A SANDBOX (cutbox-rows.mjs): the forced cells as the released guide's own fill.sh prints them over the translation 3dffc34aaf3fe5b1… (all of the seat's roots in one cut). By AI agents, Wed Nov 11 2026. No macro, syntax, notation, axiom, sorry.
-/
import Derived.Test.YtigcfpalmkfoiaaChecked
import GoSem.Claim
import GoSem.ClaimJoined
import GoSem.ClaimMapViews
import Derived.JoinedTies
import Derived.KernelRfl
namespace Go.Proofs.Ytigcfpalmkfoiaa
/- THE CELL 'sum', in the pinned program and in every row, IS THE sha256 OF THE DUMP (.gsa) THAT YtigcfpalmkfoiaaProg.lean LOADS. Nothing in Lean hashes anything: it is a label: what it is worth is what the hold of that sum in a sandbox is worth. -/
noncomputable def Try.pinned : Pinned := { name := "ytigcfpalmkfoiaa", sum := "3dffc34aaf3fe5b1ec16658569ccd1f52a01b7011912a795ab7de02f02eba4e8", checked := Try.checked }
namespace Rows
def none {H : Type} : Left H := { results := [], args := [] }

/-- 'pantlerlaw54.PairingIs': WHATEVER THE INPUT: true; the input reads as it did. -/
def pairingIsSpec : ChangeSpec := { name := "pairingIs", fn := fun _ => fun
  | [d1, d2, d3] => { results := [.lit (.bool true)], args := [d1, d2, d3] }
  | _ => none }
def pairingIsRow : OpenClaim := { program := "ytigcfpalmkfoiaa", sum := "3dffc34aaf3fe5b1ec16658569ccd1f52a01b7011912a795ab7de02f02eba4e8", func := "pantler/pantlerlaw54.PairingIs", spec := "pairingIs", unfollowed := true, recurses := true, apart := false }
def PairingIsSaid : Prop := pairingIsRow.holds Try.pinned (OpenSpec.ofChange pairingIsSpec)

/-- ITS FALSE NEIGHBOUR: 'it returns false'. Refute it at one input. -/
def pairingIsWrong : ChangeSpec := { name := "pairingIs", fn := fun _ => fun
  | [d1, d2, d3] => { results := [.lit (.bool false)], args := [d1, d2, d3] }
  | _ => none }
def PairingIsWrongFalsely : Prop := pairingIsRow.holds Try.pinned (OpenSpec.ofChange pairingIsWrong)

/-- 'pantlerlaw54.PairingRounds': WHATEVER THE INPUT: true; the input reads as it did. -/
def pairingRoundsSpec : ChangeSpec := { name := "pairingRounds", fn := fun _ => fun
  | [d] => { results := [.lit (.bool true)], args := [d] }
  | _ => none }
def pairingRoundsRow : OpenClaim := { program := "ytigcfpalmkfoiaa", sum := "3dffc34aaf3fe5b1ec16658569ccd1f52a01b7011912a795ab7de02f02eba4e8", func := "pantler/pantlerlaw54.PairingRounds", spec := "pairingRounds", unfollowed := true, recurses := true, apart := false }
def PairingRoundsSaid : Prop := pairingRoundsRow.holds Try.pinned (OpenSpec.ofChange pairingRoundsSpec)

/-- ITS FALSE NEIGHBOUR: 'it returns false'. Refute it at one input. -/
def pairingRoundsWrong : ChangeSpec := { name := "pairingRounds", fn := fun _ => fun
  | [d] => { results := [.lit (.bool false)], args := [d] }
  | _ => none }
def PairingRoundsWrongFalsely : Prop := pairingRoundsRow.holds Try.pinned (OpenSpec.ofChange pairingRoundsWrong)

/-- 'pantlerlaw54.PairingOnce': WHATEVER THE INPUT: true; the input reads as it did. -/
def pairingOnceSpec : ChangeSpec := { name := "pairingOnce", fn := fun _ => fun
  | [d] => { results := [.lit (.bool true)], args := [d] }
  | _ => none }
def pairingOnceRow : OpenClaim := { program := "ytigcfpalmkfoiaa", sum := "3dffc34aaf3fe5b1ec16658569ccd1f52a01b7011912a795ab7de02f02eba4e8", func := "pantler/pantlerlaw54.PairingOnce", spec := "pairingOnce", unfollowed := true, recurses := true, apart := false }
def PairingOnceSaid : Prop := pairingOnceRow.holds Try.pinned (OpenSpec.ofChange pairingOnceSpec)

/-- ITS FALSE NEIGHBOUR: 'it returns false'. Refute it at one input. -/
def pairingOnceWrong : ChangeSpec := { name := "pairingOnce", fn := fun _ => fun
  | [d] => { results := [.lit (.bool false)], args := [d] }
  | _ => none }
def PairingOnceWrongFalsely : Prop := pairingOnceRow.holds Try.pinned (OpenSpec.ofChange pairingOnceWrong)

/- THE SECOND FORM. 'bulk': how many values and letters a reading holds, each counted each time it is reached (what is shared counts as often as it is met; a slice's spare places count too). A statement '..UptoSaid' is the law's where the arguments, and the package variables that the reading takes, are together of bulk at most 1048576: NARROWER than '..Said'. Prove '..Said' where nothing that the law and all that it calls make is longer than what came in: it says more and counts as full. Else prove '..UptoSaid'. A law counts once. -/
mutual
def uptoBulk {H : Type} : DataW H → Nat
  | .lit (.string bytes) => bytes.length + 1
  | .lit _ => 1
  | .nil => 1
  | .ptr d => uptoBulk d + 1
  | .slice elems spare => uptoBulkAll elems + uptoBulkAll spare + 1
  | .agg parts => uptoBulkAll parts + 1
  | .iface _ d => uptoBulk d + 1
  | .map entries => uptoBulkEntries entries + 1
  | .held _ => 1
def uptoBulkAll {H : Type} : List (DataW H) → Nat
  | [] => 0
  | d :: r => uptoBulk d + uptoBulkAll r
def uptoBulkEntries {H : Type} : List (Lit × DataW H) → Nat
  | [] => 0
  | x :: r => uptoBulkEntry x + uptoBulkEntries r
def uptoBulkEntry {H : Type} : Lit × DataW H → Nat
  | (.string bytes, d) => bytes.length + uptoBulk d + 1
  | (_, d) => uptoBulk d + 1
 end
def uptoSmall : (H : Type) → List (DataW H) → Bool := fun _ ds => decide (uptoBulkAll ds ≤ 1048576)
def OpenSpec.upto (s : _root_.Go.ChangeSpec) : _root_.Go.OpenSpec := { _root_.Go.OpenSpec.ofChange s with cond := some uptoSmall }

/-- 'pantlerlaw54.PairingIs', WHERE WHAT IT READS IS OF BULK AT MOST 1048576: true; the input reads as it did. -/
def pairingIsUptoRow : OpenClaim := { program := "ytigcfpalmkfoiaa", sum := "3dffc34aaf3fe5b1ec16658569ccd1f52a01b7011912a795ab7de02f02eba4e8", func := "pantler/pantlerlaw54.PairingIs", spec := "pairingIs", unfollowed := true, recurses := true, apart := false, narrowed := true }
def PairingIsUptoSaid : Prop := pairingIsUptoRow.holds Try.pinned (OpenSpec.upto pairingIsSpec)

/-- 'pantlerlaw54.PairingRounds', WHERE WHAT IT READS IS OF BULK AT MOST 1048576: true; the input reads as it did. -/
def pairingRoundsUptoRow : OpenClaim := { program := "ytigcfpalmkfoiaa", sum := "3dffc34aaf3fe5b1ec16658569ccd1f52a01b7011912a795ab7de02f02eba4e8", func := "pantler/pantlerlaw54.PairingRounds", spec := "pairingRounds", unfollowed := true, recurses := true, apart := false, narrowed := true }
def PairingRoundsUptoSaid : Prop := pairingRoundsUptoRow.holds Try.pinned (OpenSpec.upto pairingRoundsSpec)

/-- 'pantlerlaw54.PairingOnce', WHERE WHAT IT READS IS OF BULK AT MOST 1048576: true; the input reads as it did. -/
def pairingOnceUptoRow : OpenClaim := { program := "ytigcfpalmkfoiaa", sum := "3dffc34aaf3fe5b1ec16658569ccd1f52a01b7011912a795ab7de02f02eba4e8", func := "pantler/pantlerlaw54.PairingOnce", spec := "pairingOnce", unfollowed := true, recurses := true, apart := false, narrowed := true }
def PairingOnceUptoSaid : Prop := pairingOnceUptoRow.holds Try.pinned (OpenSpec.upto pairingOnceSpec)

end Rows
end Go.Proofs.Ytigcfpalmkfoiaa
