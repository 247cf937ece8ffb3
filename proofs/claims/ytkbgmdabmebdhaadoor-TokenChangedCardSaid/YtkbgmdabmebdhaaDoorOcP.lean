/- The bytes of numbers and texts, the reference's. No condition. -/
import Derived.Test.YtkbgmdabmebdhaaDoorOcQ
import Derived.Laws.IdiomStrings
namespace Go.Proofs.YtkbgmdabmebdhaaDoor.oc
set_option linter.unusedSimpArgs false
set_option linter.unusedVariables false
open Go.ChangeShapes Go.WideShapes Go.ChangeAt Go.RowKit Go.Proofs.Aid
open Go.Proofs.YtkbgmdabmebdhaaDoor.texts (tc)
/-- Bytes as a text. -/
def bz (l : List UInt8) : ByteArray := ⟨l.toArray⟩
theorem bz_append (a b : List UInt8) : bz a ++ bz b = bz (a ++ b) := by
  apply ByteArray.ext
  apply Array.toList_inj.1
  simp [bz]
theorem bz_str (a : List UInt8) (s : ByteArray) : bz a ++ s = bz (a ++ s.data.toList) := by
  apply ByteArray.ext
  apply Array.toList_inj.1
  simp [bz]
theorem bz_size (a : List UInt8) : (bz a).size = a.length := by
  show a.toArray.size = _; simp
theorem and255 (n : Int) : bits .and .i64 n 255 = n % 256 := by
  show IntKind.i64.wrap ((BitVec.ofInt 64 n &&& BitVec.ofInt 64 255).toNat : Int) = _
  rw [BitVec.toNat_and]
  have e1 := toNat_two64 n
  have e2 : (BitVec.ofInt 64 255).toNat = 2 ^ 8 - 1 := by decide
  rw [e2, Nat.and_two_pow_sub_one_eq_mod]
  generalize (BitVec.ofInt 64 n).toNat = A at *
  simp only [IntKind.wrap_i64]
  omega
theorem bAt_zero (n : Int) : bAt n 0 = n % 256 := by simp [bAt]
theorem be_one (n : Int) : be 1 n = [UInt8.ofNat (n % 256).toNat] := by simp [be, bAt_zero]
theorem be_at (n : Int) (j : Nat) (h : j < 8) : (be 8 n).take (j + 1) = (be 8 n).take j ++ be 1 (n / 2 ^ (56 - 8 * j) % 256) := by
  rw [List.take_succ_eq_append_getElem (by rw [be_length]; exact h)]
  congr 1
  rw [be_one]
  simp only [be, List.getElem_map, List.getElem_range]
  have e : 8 * (8 - 1 - j) = 56 - 8 * j := by omega
  simp only [bAt, e]
  congr 2
  omega
theorem be_half (n : Int) : be 4 n = (be 8 n).drop 4 := rfl
theorem bz_te (s : ByteArray) : bz (be 4 s.size) ++ s = bz (teB s) := bz_str _ _
theorem bz_tes (l : List ByteArray) (k : Nat) (h : k < l.length) : bz (be 4 l.length ++ (l.take k).flatMap teB) ++ bz (teB l[k]) = bz (be 4 l.length ++ (l.take (k + 1)).flatMap teB) := by
  rw [flat_take l k h, bz_append, List.append_assoc]
end Go.Proofs.YtkbgmdabmebdhaaDoor.oc
