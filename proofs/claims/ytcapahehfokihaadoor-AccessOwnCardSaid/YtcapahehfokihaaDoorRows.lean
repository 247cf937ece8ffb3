/-
  NARROWER THAN 'FOR EVERY INPUT', by the rows' own cells (each row's printed sentence says how): AccessOf: laid · AccessSet: laid · AccessLetters: laid · AccessOwn: laid.
  DERIVED. THE GIVEN ROWS OF THIS SEAT. 4 by the template 'for every input the law returns true; each argument reads behind the call as it read before'; 0 by the template 'total and deterministic' (their statements: YtcapahehfokihaaDoorTotals.lean).
  GIVEN WITH THE SEED: the statements are not yours to turn. If you find one false, say at which input.
  Laid BY PROGRAM, IN A SANDBOX (cutbox-rows.mjs): the forced cells as the released guide's own fill.sh prints them over the translation e8b2cc23f0935373… (all of the seat's roots in one cut). By AI agents, Wed Nov 11 2026. No macro, syntax, notation, axiom, sorry.
-/
import Derived.Test.YtcapahehfokihaaDoorChecked
import GoSem.Claim
import GoSem.ClaimJoined
import GoSem.ClaimMapViews
import Derived.JoinedTies
import Derived.KernelRfl
namespace Go.Proofs.YtcapahehfokihaaDoor
/- THE CELL 'sum', in the pinned program and in every row, IS THE sha256 OF THE DUMP (.gsa) THAT YtcapahehfokihaaDoorProg.lean LOADS. Nothing in Lean hashes anything: it is a label: what it is worth is what the hold of that sum in a sandbox is worth. -/
noncomputable def Tryd.pinned : Pinned := { name := "ytcapahehfokihaadoor", sum := "e8b2cc23f0935373c6af8a23156ca47ae446614e6491fa7f6da3c7e3e2dcacaf", checked := Tryd.checked }
namespace Rows
def none {H : Type} : Left H := { results := [], args := [] }

/- WHAT THE LISTED PACKAGE-LEVEL VARIABLES READ AS WHEN THE CALL BEGINS. Each datum BY PROGRAM (the guide's laid-datum.mjs) off the statement by which the dump's own 'gosem.cut.vars' lays the variable. In a bare row this is a premise. The card (YtcapahehfokihaaDoorCards.lean) ties it to the program's text. -/
def laid_pantler_access_letters {H : Type} : DataW H := .agg [.lit (.string [114]), .lit (.string [119]), .lit (.string [108])]

/-- 'pantlerlaw22.AccessOf': WHATEVER THE INPUT: true; the input reads as it did. -/
def accessOfSpec : ChangeSpec := { name := "accessOf", fn := fun _ => fun
  | [d1, d2] => { results := [.lit (.bool true)], args := [d1, d2] }
  | _ => none }
def accessOfRow : OpenClaim := { program := "ytcapahehfokihaadoor", sum := "e8b2cc23f0935373c6af8a23156ca47ae446614e6491fa7f6da3c7e3e2dcacaf", func := "pantler/pantlerlaw22.AccessOf", spec := "accessOf", inPlace := ["internal/abi.NoEscape", "internal/bytealg.MakeNoZero"], named := ["pantler/access.letters"], apart := false, laid := [("pantler/access.letters", laid_pantler_access_letters)] }
def AccessOfSaid : Prop := accessOfRow.holds Tryd.pinned (OpenSpec.ofChange accessOfSpec)

/-- ITS FALSE NEIGHBOUR: 'it returns false'. Refute it at one input. -/
def accessOfWrong : ChangeSpec := { name := "accessOf", fn := fun _ => fun
  | [d1, d2] => { results := [.lit (.bool false)], args := [d1, d2] }
  | _ => none }
def AccessOfWrongFalsely : Prop := accessOfRow.holds Tryd.pinned (OpenSpec.ofChange accessOfWrong)

/-- 'pantlerlaw22.AccessSet': WHATEVER THE INPUT: true; the input reads as it did. -/
def accessSetSpec : ChangeSpec := { name := "accessSet", fn := fun _ => fun
  | [d1, d2, d3] => { results := [.lit (.bool true)], args := [d1, d2, d3] }
  | _ => none }
def accessSetRow : OpenClaim := { program := "ytcapahehfokihaadoor", sum := "e8b2cc23f0935373c6af8a23156ca47ae446614e6491fa7f6da3c7e3e2dcacaf", func := "pantler/pantlerlaw22.AccessSet", spec := "accessSet", inPlace := ["internal/abi.NoEscape", "internal/bytealg.MakeNoZero"], named := ["pantler/access.letters"], apart := false, laid := [("pantler/access.letters", laid_pantler_access_letters)] }
def AccessSetSaid : Prop := accessSetRow.holds Tryd.pinned (OpenSpec.ofChange accessSetSpec)

/-- ITS FALSE NEIGHBOUR: 'it returns false'. Refute it at one input. -/
def accessSetWrong : ChangeSpec := { name := "accessSet", fn := fun _ => fun
  | [d1, d2, d3] => { results := [.lit (.bool false)], args := [d1, d2, d3] }
  | _ => none }
def AccessSetWrongFalsely : Prop := accessSetRow.holds Tryd.pinned (OpenSpec.ofChange accessSetWrong)

/-- 'pantlerlaw22.AccessLetters': WHATEVER THE INPUT: true; the input reads as it did. -/
def accessLettersSpec : ChangeSpec := { name := "accessLetters", fn := fun _ => fun
  | [d1, d2] => { results := [.lit (.bool true)], args := [d1, d2] }
  | _ => none }
def accessLettersRow : OpenClaim := { program := "ytcapahehfokihaadoor", sum := "e8b2cc23f0935373c6af8a23156ca47ae446614e6491fa7f6da3c7e3e2dcacaf", func := "pantler/pantlerlaw22.AccessLetters", spec := "accessLetters", inPlace := ["internal/abi.NoEscape", "internal/bytealg.MakeNoZero"], named := ["pantler/access.letters"], apart := false, laid := [("pantler/access.letters", laid_pantler_access_letters)] }
def AccessLettersSaid : Prop := accessLettersRow.holds Tryd.pinned (OpenSpec.ofChange accessLettersSpec)

/-- ITS FALSE NEIGHBOUR: 'it returns false'. Refute it at one input. -/
def accessLettersWrong : ChangeSpec := { name := "accessLetters", fn := fun _ => fun
  | [d1, d2] => { results := [.lit (.bool false)], args := [d1, d2] }
  | _ => none }
def AccessLettersWrongFalsely : Prop := accessLettersRow.holds Tryd.pinned (OpenSpec.ofChange accessLettersWrong)

/-- 'pantlerlaw22.AccessOwn': WHATEVER THE INPUT: true; the input reads as it did. -/
def accessOwnSpec : ChangeSpec := { name := "accessOwn", fn := fun _ => fun
  | [d1, d2, d3] => { results := [.lit (.bool true)], args := [d1, d2, d3] }
  | _ => none }
def accessOwnRow : OpenClaim := { program := "ytcapahehfokihaadoor", sum := "e8b2cc23f0935373c6af8a23156ca47ae446614e6491fa7f6da3c7e3e2dcacaf", func := "pantler/pantlerlaw22.AccessOwn", spec := "accessOwn", inPlace := ["internal/abi.NoEscape", "internal/bytealg.MakeNoZero"], named := ["pantler/access.letters"], apart := false, laid := [("pantler/access.letters", laid_pantler_access_letters)] }
def AccessOwnSaid : Prop := accessOwnRow.holds Tryd.pinned (OpenSpec.ofChange accessOwnSpec)

/-- ITS FALSE NEIGHBOUR: 'it returns false'. Refute it at one input. -/
def accessOwnWrong : ChangeSpec := { name := "accessOwn", fn := fun _ => fun
  | [d1, d2, d3] => { results := [.lit (.bool false)], args := [d1, d2, d3] }
  | _ => none }
def AccessOwnWrongFalsely : Prop := accessOwnRow.holds Tryd.pinned (OpenSpec.ofChange accessOwnWrong)

/- THE SECOND FORM. 'bulk': how many values and letters a reading holds, each counted each time it is reached (what is shared counts as often as it is met; a slice's spare places count too). A statement '..UptoSaid' is the law's where the arguments, and the package variables that the reading takes, are together of bulk at most 1048576: NARROWER than '..Said'. Prove '..Said' where nothing that the law and all that it calls make is longer than what came in: it says more and counts as full. Else prove '..UptoSaid'. A law counts once. -/
mutual
def uptoBulk {H : Type} : DataW H → Nat
  | .lit (.string bytes) => bytes.length + 1
  | .lit _ => 1
  | .nil => 1
  | .ptr d => uptoBulk d + 1
  | .slice elems spare => uptoBulkAll elems + uptoBulkAll spare + 1
  | .agg parts => uptoBulkAll parts + 1
  | .iface _ d => uptoBulk d + 1
  | .map entries => uptoBulkEntries entries + 1
  | .held _ => 1
def uptoBulkAll {H : Type} : List (DataW H) → Nat
  | [] => 0
  | d :: r => uptoBulk d + uptoBulkAll r
def uptoBulkEntries {H : Type} : List (Lit × DataW H) → Nat
  | [] => 0
  | x :: r => uptoBulkEntry x + uptoBulkEntries r
def uptoBulkEntry {H : Type} : Lit × DataW H → Nat
  | (.string bytes, d) => bytes.length + uptoBulk d + 1
  | (_, d) => uptoBulk d + 1
 end
def uptoSmall : (H : Type) → List (DataW H) → Bool := fun _ ds => decide (uptoBulkAll ds ≤ 1048576)
def OpenSpec.upto (s : _root_.Go.ChangeSpec) : _root_.Go.OpenSpec := { _root_.Go.OpenSpec.ofChange s with cond := some uptoSmall }

/-- 'pantlerlaw22.AccessOf', WHERE WHAT IT READS IS OF BULK AT MOST 1048576: true; the input reads as it did. -/
def accessOfUptoRow : OpenClaim := { program := "ytcapahehfokihaadoor", sum := "e8b2cc23f0935373c6af8a23156ca47ae446614e6491fa7f6da3c7e3e2dcacaf", func := "pantler/pantlerlaw22.AccessOf", spec := "accessOf", inPlace := ["internal/abi.NoEscape", "internal/bytealg.MakeNoZero"], named := ["pantler/access.letters"], apart := false, laid := [("pantler/access.letters", laid_pantler_access_letters)], narrowed := true }
def AccessOfUptoSaid : Prop := accessOfUptoRow.holds Tryd.pinned (OpenSpec.upto accessOfSpec)

/-- 'pantlerlaw22.AccessSet', WHERE WHAT IT READS IS OF BULK AT MOST 1048576: true; the input reads as it did. -/
def accessSetUptoRow : OpenClaim := { program := "ytcapahehfokihaadoor", sum := "e8b2cc23f0935373c6af8a23156ca47ae446614e6491fa7f6da3c7e3e2dcacaf", func := "pantler/pantlerlaw22.AccessSet", spec := "accessSet", inPlace := ["internal/abi.NoEscape", "internal/bytealg.MakeNoZero"], named := ["pantler/access.letters"], apart := false, laid := [("pantler/access.letters", laid_pantler_access_letters)], narrowed := true }
def AccessSetUptoSaid : Prop := accessSetUptoRow.holds Tryd.pinned (OpenSpec.upto accessSetSpec)

/-- 'pantlerlaw22.AccessLetters', WHERE WHAT IT READS IS OF BULK AT MOST 1048576: true; the input reads as it did. -/
def accessLettersUptoRow : OpenClaim := { program := "ytcapahehfokihaadoor", sum := "e8b2cc23f0935373c6af8a23156ca47ae446614e6491fa7f6da3c7e3e2dcacaf", func := "pantler/pantlerlaw22.AccessLetters", spec := "accessLetters", inPlace := ["internal/abi.NoEscape", "internal/bytealg.MakeNoZero"], named := ["pantler/access.letters"], apart := false, laid := [("pantler/access.letters", laid_pantler_access_letters)], narrowed := true }
def AccessLettersUptoSaid : Prop := accessLettersUptoRow.holds Tryd.pinned (OpenSpec.upto accessLettersSpec)

/-- 'pantlerlaw22.AccessOwn', WHERE WHAT IT READS IS OF BULK AT MOST 1048576: true; the input reads as it did. -/
def accessOwnUptoRow : OpenClaim := { program := "ytcapahehfokihaadoor", sum := "e8b2cc23f0935373c6af8a23156ca47ae446614e6491fa7f6da3c7e3e2dcacaf", func := "pantler/pantlerlaw22.AccessOwn", spec := "accessOwn", inPlace := ["internal/abi.NoEscape", "internal/bytealg.MakeNoZero"], named := ["pantler/access.letters"], apart := false, laid := [("pantler/access.letters", laid_pantler_access_letters)], narrowed := true }
def AccessOwnUptoSaid : Prop := accessOwnUptoRow.holds Tryd.pinned (OpenSpec.upto accessOwnSpec)

end Rows
end Go.Proofs.YtcapahehfokihaaDoor
