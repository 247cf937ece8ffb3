/- A reader of bytes, the package's: its memory, and what its calls leave. No condition. -/
import Derived.Test.YtbgakcnhbmodaaaDoorKit
import Derived.Test.YtbgakcnhbmodaaaDoorOcM
import Derived.Lib.Hide
import Derived.Deep.QuietTactic
import Derived.BigQuiet
namespace Go.Proofs.YtbgakcnhbmodaaaDoor.oc
set_option linter.unusedSimpArgs false
set_option linter.unusedVariables false
open Go.ChangeShapes Go.WideShapes Go.ChangeAt Go.RowKit Go.Proofs.Aid
/-- What a reader has left; none: it is bad. -/
abbrev St := Option ByteArray
def takeS (n : Int) : St → ByteArray × St
  | none => (⟨#[]⟩, none)
  | some s => if n ≤ s.size then (s.extract 0 n.toNat, some (s.extract n.toNat s.size)) else (⟨#[]⟩, none)
def numS (m : Nat) (st : St) : Int × St := (numB (takeS m st).1.data.toList, (takeS m st).2)
def countS (most : Int) (st : St) : Int × St := if (numS 4 st).1 > most then (0, none) else numS 4 st
def textS (st : St) : ByteArray × St := takeS (countS 1048576 st).1 (countS 1048576 st).2
def runS : Nat → St → List ByteArray × St
  | 0, st => ([], st)
  | n + 1, st => match (runS n st).2 with
    | none => runS n st
    | some s => ((runS n st).1 ++ [(textS (some s)).1], (textS (some s)).2)
def textsS (st : St) : List ByteArray × St :=
  match (runS (countS 65536 st).1.toNat (countS 65536 st).2).2 with
  | none => ([], none)
  | some s => ((runS (countS 65536 st).1.toNat (countS 65536 st).2).1, some s)
/-- A pointer, to block b or to nowhere. -/
abbrev pv (o : Option Nat) : Value := .pointer (o.map fun b => ⟨b, 0, none⟩)
abbrev stC : St → Array Value
  | none => #[.string ⟨#[]⟩, .bool false]
  | some s => #[.string s, .bool true]
def szS : St → Prop
  | none => True
  | some s => s.size ≤ 9223372036854775807
theorem grown_refl (w : World) (o : Option Nat) : w.grownBy w o := World.grownBy.refl w o
theorem grown_step {a b c : World} {o : Option Nat} (h : a.grownBy b o) (k : b.grownBy c o) : a.grownBy c o :=
  ⟨k.os.trans h.os, k.tape.trans h.tape, k.output.trans h.output, Nat.le_trans h.size k.size, fun i hi hne => (k.block i (Nat.lt_of_lt_of_le hi h.size) hne).trans (h.block i hi hne)⟩
theorem szS_take {n : Int} {st : St} (h : szS st) : szS (takeS n st).2 ∧ (takeS n st).1.size ≤ 9223372036854775807 := by
  have h0 : (⟨#[]⟩ : ByteArray).size ≤ 9223372036854775807 := by decide
  cases st with
  | none => exact ⟨trivial, h0⟩
  | some s =>
    have h : s.size ≤ 9223372036854775807 := h
    by_cases hn : n ≤ s.size
    · have e : takeS n (some s) = (s.extract 0 n.toNat, some (s.extract n.toNat s.size)) := if_pos hn
      rw [e]
      refine ⟨?_, ?_⟩
      · show (s.extract _ _).size ≤ _
        rw [ByteArray.size_extract]; omega
      · show (s.extract _ _).size ≤ _
        rw [ByteArray.size_extract]; omega
    · have e : takeS n (some s) = (⟨#[]⟩, none) := if_neg hn
      rw [e]; exact ⟨trivial, h0⟩
theorem wrap_byte (c : UInt8) : wrap64 (c.toNat : Int) = c.toNat := by
  have := byte_lt c
  unfold wrap64; omega
theorem wrap64_eq (x : Int) : wrap64 x = IntKind.i64.wrap x := by
  unfold wrap64; rw [IntKind.wrap_i64]
theorem take_snoc (s : ByteArray) (k : Nat) (h : k < s.size) : s.data.toList.take (k + 1) = s.data.toList.take k ++ [s[k]] := by
  rw [List.take_succ_eq_append_getElem (by simpa using h)]; rfl
end Go.Proofs.YtbgakcnhbmodaaaDoor.oc
