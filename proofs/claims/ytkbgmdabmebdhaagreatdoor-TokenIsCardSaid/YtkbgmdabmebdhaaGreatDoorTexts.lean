/- Rows of texts. -/
import Derived.Test.YtkbgmdabmebdhaaGreatDoorKit
import Derived.Lib.Hide
import Derived.Deep.QuietTactic
import Derived.BigQuiet
import Derived.WalkSpells
namespace Go.Proofs.YtkbgmdabmebdhaaGreatDoor.texts
open Go.ChangeShapes Go.WideShapes Go.ChangeAt Go.RowKit Go.Proofs.Aid
abbrev tc (s : ByteArray) : List Value := [.string s]
theorem texts_of {w : World} {B n : Nat} {A : Option Addr} {os : List R9} (h : Reads w B 1 A n (os.flatMap R9.cells)) : Reads w B 1 A n ((os.map R9.v).flatMap tc) := by
  rw [List.flatMap_map]; exact h
def memB (xs : List ByteArray) (s : ByteArray) : Bool := xs.any fun x => decide (x = s)
theorem memB_iff {xs : List ByteArray} {s : ByteArray} : memB xs s = true ↔ s ∈ xs := by
  unfold memB; rw [List.any_eq_true]; constructor
  · rintro ⟨x, hx, e⟩; rw [decide_eq_true_eq] at e; rwa [← e]
  · intro h; exact ⟨s, h, by simp⟩
theorem memB_no {xs : List ByteArray} {s : ByteArray} : memB xs s = false ↔ s ∉ xs := by rw [← memB_iff]; simp
theorem ret_bool {a b : Bool} (h : a = b) : Ending.returned (.bool a) = .returned (.bool b) := by rw [h]
theorem ret_int {k : IntKind} {a b : Int} (h : a = b) : Ending.returned (.int k a) = .returned (.int k b) := by rw [h]
end Go.Proofs.YtkbgmdabmebdhaaGreatDoor.texts
