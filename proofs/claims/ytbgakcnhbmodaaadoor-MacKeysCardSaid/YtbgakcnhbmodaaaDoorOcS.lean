/- A reader of bytes, the package's: numbers, texts, lists. No condition. -/
import Derived.Test.YtbgakcnhbmodaaaDoorOcR
import Derived.Test.YtbgakcnhbmodaaaDoorTexts
import Derived.Shelf.Abstract
import Derived.Laws.EntriesVeiled
namespace Go.Proofs.YtbgakcnhbmodaaaDoor.oc
set_option linter.unusedSimpArgs false
set_option linter.unusedVariables false
open Go.ChangeShapes Go.WideShapes Go.ChangeAt Go.RowKit Go.Proofs.Aid
open Go.Proofs.YtbgakcnhbmodaaaDoor.texts (tc)
theorem numS_sz {m : Nat} {st : St} (h : szS st) : szS (numS m st).2 := (szS_take h).1
theorem takeS_len {m : Nat} {st : St} : (takeS m st).1.data.toList.length ≤ m := by
  cases st with
  | none => exact Nat.zero_le _
  | some s =>
    by_cases hl : (m : Int) ≤ s.size
    · have e : takeS m (some s) = (s.extract 0 (m : Int).toNat, some (s.extract (m : Int).toNat s.size)) := if_pos hl
      rw [e]
      simp; omega
    · have e : takeS m (some s) = (⟨#[]⟩, none) := if_neg hl
      rw [e]; exact Nat.zero_le _
theorem numS_four (st : St) : 0 ≤ (numS 4 st).1 ∧ (numS 4 st).1 < 4294967296 := by
  have := numB_four (takeS ((4 : Nat) : Int) st).1.data.toList takeS_len
  unfold numS
  show 0 ≤ numB _ ∧ numB _ < _
  rw [this.1]; exact this.2
theorem countS_bd (most : Int) (st : St) (h : 0 ≤ most) : 0 ≤ (countS most st).1 ∧ (countS most st).1 ≤ most := by
  have := numS_four st
  unfold countS
  split
  · exact ⟨Int.le_refl _, h⟩
  · exact ⟨this.1, by omega⟩
theorem countS_sz {most : Int} {st : St} (h : szS st) : szS (countS most st).2 := by
  unfold countS
  split
  · trivial
  · exact numS_sz h
theorem textS_sz {st : St} (h : szS st) : szS (textS st).2 ∧ (textS st).1.size ≤ 9223372036854775807 := szS_take (countS_sz h)
theorem runS_succ (k : Nat) (st : St) (s : ByteArray) (h : (runS k st).2 = some s) : runS (k + 1) st = ((runS k st).1 ++ [(textS (some s)).1], (textS (some s)).2) := by
  rw [runS, h]
theorem runS_stuck (k : Nat) (st : St) (h : (runS k st).2 = none) : ∀ j, runS (k + j) st = runS k st
  | 0 => rfl
  | j + 1 => by
    have ih := runS_stuck k st h j
    rw [← Nat.add_assoc, runS, ih, h]
theorem runS_sz {st : St} (h : szS st) : ∀ k, szS (runS k st).2
  | 0 => h
  | k + 1 => by
    have ih := runS_sz h k
    rw [runS]
    split
    · exact ih
    · rename_i s hs
      rw [hs] at ih
      exact (textS_sz ih).1
theorem infoT : (Tryd.prog.info? 9).map (fun i => (i.zero, i.size, i.bytes)) = some (some (.string ⟨#[]⟩), 1, 16) := by kernel_rfl
/-- What the list is when k texts were asked for: where the reader is bad, those of all. -/
def Ran (st0 : St) (n k : Nat) (L : List ByteArray) (st : St) : Prop := runS k st0 = (L, st) ∧ L.length = k ∧ k ≤ n
theorem Ran.next {st0 : St} {n k : Nat} {L : List ByteArray} {s : ByteArray} (h : Ran st0 n k L (some s)) (hk : k < n) : Ran st0 n (k + 1) (L ++ [(textS (some s)).1]) (textS (some s)).2 := by
  obtain ⟨h1, h2, h3⟩ := h
  refine ⟨?_, by simp [h2], by omega⟩
  rw [runS_succ k st0 s (by rw [h1]), h1]
theorem Ran.stop {st0 : St} {n k : Nat} {L : List ByteArray} (h : Ran st0 n k L none) : runS n st0 = (L, none) := by
  obtain ⟨h1, h2, h3⟩ := h
  have := runS_stuck k st0 (by rw [h1]) (n - k)
  rw [← h1, ← this]; congr 1; omega
theorem Ran.end_ {st0 st : St} {n : Nat} {L : List ByteArray} (h : Ran st0 n n L st) : runS n st0 = (L, st) := h.1
theorem grown_far {a b c : World} {o row : Option Nat} (h : a.grownBy b o) (k : b.grownBy c row) (hr : ∀ g, row = some g → a.heap.size ≤ g) : a.grownBy c o :=
  ⟨k.os.trans h.os, k.tape.trans h.tape, k.output.trans h.output, Nat.le_trans h.size k.size, fun i hi hne => (k.block i (Nat.lt_of_lt_of_le hi h.size) (fun e => by have := hr i e.symm; omega)).trans (h.block i hi hne)⟩
def slen : Value → Nat
  | .slice _ n _ => n
  | _ => 0
theorem one_t (s : ByteArray) : ∀ u ∈ tc s, u.oneCell' = true := by intro u hu; simp [tc] at hu; subst hu; rfl
def Enters (F : FuncId) : Prop := ∀ (args : Array Value) (w : World), (callFunc F args).run Tryd.prog w = .ok (.enter F args) w
abbrev bound (F : FuncId) (o : Option Nat) : Value := .func (.func F) #[pv o] #[]
theorem len_of {v : Value} {w : World} {base : Nat} {e : TypeId} {size : Nat} {α : Type} {f : α → List Value} {L : List α} (h : Row w base e size f v L) : slen v = L.length := by
  obtain ⟨A, c, rfl⟩ := h.form; rfl
end Go.Proofs.YtbgakcnhbmodaaaDoor.oc
