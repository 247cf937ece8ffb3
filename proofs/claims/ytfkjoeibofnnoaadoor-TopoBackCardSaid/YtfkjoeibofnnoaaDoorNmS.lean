/- A place split into its bucket and its key: the program's and the reference's. -/
import Derived.Test.YtfkjoeibofnnoaaDoorNmR
import Derived.Lib.CutLaws
namespace Go.Proofs.YtfkjoeibofnnoaaDoor.nm
open Go.ChangeShapes Go.WideShapes Go.ChangeAt Go.RowKit Go.Proofs.Aid Go.Proofs.YtfkjoeibofnnoaaDoor.seg Go.Proofs.YtfkjoeibofnnoaaDoor.name Go.Proofs.YtfkjoeibofnnoaaDoor.texts
def cutA (s : ByteArray) : ByteArray := ⟨(Lib.cut s.data.toList [47]).1.toArray⟩
def cutB (s : ByteArray) : ByteArray := ⟨(Lib.cut s.data.toList [47]).2.1.toArray⟩
def cutF (s : ByteArray) : Bool := (Lib.cut s.data.toList [47]).2.2
def splitOk (s : ByteArray) : Bool := cutF s && isName (cutA s).data.toList && isKey (cutB s).size
def splitA (s : ByteArray) : ByteArray := if splitOk s then cutA s else ⟨#[]⟩
def splitB (s : ByteArray) : ByteArray := if splitOk s then cutB s else ⟨#[]⟩
def splitR (s : ByteArray) : Ending := .returned (.tuple #[.string (splitA s), .string (splitB s), .bool (splitOk s)])
theorem splitR_yes {s : ByteArray} (h : splitOk s = true) : splitR s = .returned (.tuple #[.string (cutA s), .string (cutB s), .bool true]) := by simp [splitR, splitA, splitB, h]
theorem splitR_no {s : ByteArray} (h : splitOk s = false) : splitR s = .returned (.tuple #[.string ⟨#[]⟩, .string ⟨#[]⟩, .bool false]) := by simp [splitR, splitA, splitB, h]
theorem cut_le (l : List UInt8) : (Lib.cut l [47]).1.length ≤ l.length ∧ (Lib.cut l [47]).2.1.length ≤ l.length := by
  unfold Lib.cut
  split
  · simp only [List.length_take, List.length_drop]; omega
  · simp
theorem cutA_size (s : ByteArray) : (cutA s).size ≤ s.size := by
  have := (cut_le s.data.toList).1
  show (cutA s).data.size ≤ s.data.size
  simp only [cutA, List.size_toArray]
  simpa using this
theorem cutB_size (s : ByteArray) : (cutB s).size ≤ s.size := by
  have := (cut_le s.data.toList).2
  show (cutB s).data.size ≤ s.data.size
  simp only [cutB, List.size_toArray]
  simpa using this
theorem index_first : ∀ (l : List UInt8) (i : Nat), (∀ j, j < i → l[j]? ≠ some 47) → l[i]? = some 47 → Lib.index l [47] = i
  | [], i, _, h => by simp at h
  | c :: r, 0, _, h => by
    have : c = 47 := by simpa using h
    subst this
    exact index_slash r
  | c :: r, i + 1, hj, h => by
    have hc : c ≠ 47 := fun e => hj 0 (by omega) (by rw [e]; rfl)
    have ih := index_first r i (fun j hji => by have := hj (j + 1) (by omega); simpa using this) (by simpa using h)
    rw [index_other r hc, ih]
    have : ¬ ((i : Int) == -1) = true := by
      intro e
      have := eq_of_beq e
      omega
    rw [if_neg this]
    omega
theorem index_none : ∀ (l : List UInt8), (∀ j : Nat, l[j]? ≠ some 47) → Lib.index l [47] = -1
  | [], _ => rfl
  | c :: r, hj => by
    have hc : c ≠ 47 := fun e => hj 0 (by rw [e]; rfl)
    have ih := index_none r (fun j => by have := hj (j + 1); simpa using this)
    rw [index_other r hc, ih]; rfl
theorem cut_first {s : ByteArray} {i : Nat} (hi : i < s.size) (hj : ∀ j, j < i → s.data.toList[j]? ≠ some 47) (h : (s[i]'hi).toNat = 47) : cutA s = s.extract 0 i ∧ cutB s = s.extract (i + 1) s.size ∧ cutF s = true := by
  have h0 : s.data.toList[i]? = some 47 := by
    rw [List.getElem?_eq_getElem (by simpa using hi)]
    have : s[i] = 47 := UInt8.toNat_inj.1 h
    exact congrArg some this
  have := Lib.cutB_hit s ⟨#[47]⟩ i (index_first _ i hj h0)
  exact this
theorem cut_none {s : ByteArray} (hj : ∀ j : Nat, s.data.toList[j]? ≠ some 47) : cutF s = false := (Lib.cutB_miss s ⟨#[47]⟩ (index_none _ hj)).2.2
theorem not_yet {s : ByteArray} {k : Nat} (hk : k < s.size) (h : ∀ j, j < k → s.data.toList[j]? ≠ some 47) (h47 : ¬ (s[k]'hk).toNat = 47) : ∀ j, j < k + 1 → s.data.toList[j]? ≠ some 47 := fun j hj => by
  by_cases e : j < k
  · exact h j e
  · have : j = k := by omega
    subst this
    rw [List.getElem?_eq_getElem (by simpa using hk)]
    intro e2
    apply h47
    have : s[j] = 47 := Option.some.inj e2
    rw [this]; rfl
end Go.Proofs.YtfkjoeibofnnoaaDoor.nm
