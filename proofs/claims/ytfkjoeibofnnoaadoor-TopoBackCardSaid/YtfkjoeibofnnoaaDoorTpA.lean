/- What the register of a member has, and the member that a register tells: the package's and the reference's. -/
import Derived.Test.YtfkjoeibofnnoaaDoorNmS
namespace Go.Proofs.YtfkjoeibofnnoaaDoor.tp
set_option linter.unusedSimpArgs false
open Go.ChangeShapes Go.WideShapes Go.ChangeAt Go.RowKit Go.Proofs.Aid
open Go.Proofs.YtfkjoeibofnnoaaDoor.name (isName)
open Go.Proofs.YtfkjoeibofnnoaaDoor.nm (Lets joinS partsS PartsIs)
open Go.Proofs.YtfkjoeibofnnoaaDoor.texts (tc)
structure Mb where
  n : ByteArray
  r : ByteArray
  z : ByteArray
  u : Bool
def Mb.cells (m : Mb) : List Value := [.string m.n, .string m.r, .string m.z, .bool m.u]
@[reducible] def Mb.val (m : Mb) : Value := .agg #[.string m.n, .string m.r, .string m.z, .bool m.u]
theorem Mb.len (m : Mb) : m.cells.length = 4 := rfl
def Mb.zero : Mb := ⟨⟨#[]⟩, ⟨#[]⟩, ⟨#[]⟩, false⟩
abbrev sUp : ByteArray := ⟨#[117, 112]⟩
abbrev sDown : ByteArray := ⟨#[100, 111, 119, 110]⟩
theorem ret_bool {a b : Bool} (h : a = b) : Ending.returned (.bool a) = .returned (.bool b) := by rw [h]
def st (u : Bool) : ByteArray := if u then sUp else sDown
def valueV (r z : ByteArray) (u : Bool) : ByteArray := joinS [r, z, st u]
theorem value_cat (r z : ByteArray) (u : Bool) : ((((r ++ ⟨#[47]⟩) ++ z) ++ ⟨#[47]⟩) ++ st u) = valueV r z u := by
  apply ByteArray.ext
  apply Array.toList_inj.1
  simp [valueV, joinS, Lib.join]
theorem value_list (r z : ByteArray) (u : Bool) : (valueV r z u).data.toList = r.data.toList ++ [47] ++ z.data.toList ++ [47] ++ (st u).data.toList := by
  simp [valueV, joinS, Lib.join]
theorem st_size (u : Bool) : (st u).size ≤ 4 := by cases u <;> decide
theorem value_size (r z : ByteArray) (u : Bool) : (valueV r z u).size ≤ 6 + r.size + z.size := by
  show (valueV r z u).data.size ≤ _
  rw [← Array.length_toList, value_list]
  have := st_size u
  have h2 : (st u).data.toList.length = (st u).size := by simp
  simp only [List.length_append, h2]
  simp
  omega
/-- What the register has, and whether it may. -/
def valR (r z : ByteArray) (u : Bool) : Ending := if isName r.data.toList && isName z.data.toList then .returned (.tuple #[.string (valueV r z u), .int .i64 0]) else .returned (.tuple #[.string ⟨#[]⟩, .int .i64 1])
/-- The member that a register tells. -/
def memOk (node v : ByteArray) : Bool :=
  match partsS v with
  | [a, b, c] => isName node.data.toList && isName a.data.toList && isName b.data.toList && (decide (c = sUp) || decide (c = sDown))
  | _ => false
def memV (node v : ByteArray) : Mb :=
  match partsS v with
  | [a, b, c] => ⟨node, a, b, decide (c = sUp)⟩
  | _ => Mb.zero
def mem (node v : ByteArray) : Option Mb := if memOk node v then some (memV node v) else none
def memR (node v : ByteArray) : Ending := .returned (.tuple #[((mem node v).getD Mb.zero).val, .bool (mem node v).isSome])
end Go.Proofs.YtfkjoeibofnnoaaDoor.tp
