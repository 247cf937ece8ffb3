/- More walks of package register: Check, Next, and whether a register has few bytes. -/
import Derived.Test.YtkkihbnaaaajeaaDoorRegA
import Derived.Test.YtkkihbnaaaajeaaDoorNameIs
namespace Go.Proofs.YtkkihbnaaaajeaaDoor.reg
open Go.ChangeShapes Go.WideShapes Go.ChangeAt Go.RowKit Go.Proofs.Aid Go.Proofs.YtkkihbnaaaajeaaDoor.name
def Rg.may (r : Rg) : Prop := 1 ≤ r.n ∧ r.n ≤ 9007199254740992 ∧ (r.by_.size = 0 ∨ isName r.by_.data.toList = true) ∧ r.value.size ≤ 256
instance (r : Rg) : Decidable r.may := by unfold Rg.may; infer_instance
def Rg.check (r : Rg) : Int := if r.may then 0 else 1
theorem check_bad {r : Rg} (h : ¬ r.may) : r.check = 1 := if_neg h
theorem check_ok {r : Rg} (h : r.may) : r.check = 0 := if_pos h
theorem nil_of {s : ByteArray} (h : s.size = 0) : s = ByteArray.empty := by
  apply ByteArray.ext; apply Array.eq_empty_of_size_eq_zero; exact h
theorem not_nil {s : ByteArray} (h : ¬ s.size = 0) : ¬ s.toList = [] := fun e => h (by rw [Lib.toList_data] at e; have := congrArg List.length e; simpa using this)
theorem isName_nil : isName [] = false := rfl
def Rg.zero : Rg := ⟨0, ByteArray.empty, ByteArray.empty⟩
def Rg.isZero (r : Rg) : Prop := r.n = 0 ∧ r.by_.toList = [] ∧ r.value.toList = []
instance (r : Rg) : Decidable r.isZero := by unfold Rg.isZero; infer_instance
def Rg.next (a : Rg) (s t : ByteArray) : Rg × Int :=
  if (¬ a.isZero ∧ ¬ a.may) ∨ isName s.data.toList = false ∨ 256 < t.size then (Rg.zero, 1) else if a.n = 9007199254740992 then (Rg.zero, 4) else (⟨a.n + 1, s, t⟩, 0)
theorem bel3 {W w1 : World} (h : Below W.heap.size W w1) (x y z : Value) : Below W.heap.size W (((w1.setCell ⟨W.heap.size + 1, 0, none⟩ x).setCell ⟨W.heap.size + 1, 1, none⟩ y).setCell ⟨W.heap.size + 1, 2, none⟩ z) :=
  ((h.setCell (p := ⟨W.heap.size + 1, 0, none⟩) (by simp) _).setCell (p := ⟨W.heap.size + 1, 1, none⟩) (by simp) _).setCell (p := ⟨W.heap.size + 1, 2, none⟩) (by simp) _
end Go.Proofs.YtkkihbnaaaajeaaDoor.reg
