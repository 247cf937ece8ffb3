/- More walks of package register: Check, Next, and whether a register has few bytes. -/
import Derived.Test.YtfkjoeibofnnoaaDoorRegA
import Derived.Test.YtfkjoeibofnnoaaDoorNameIs
namespace Go.Proofs.YtfkjoeibofnnoaaDoor.reg
open Go.ChangeShapes Go.WideShapes Go.ChangeAt Go.RowKit Go.Proofs.Aid Go.Proofs.YtfkjoeibofnnoaaDoor.name
def Rg.may (r : Rg) : Prop := 1 ≤ r.n ∧ r.n ≤ 9007199254740992 ∧ (r.by_.size = 0 ∨ isName r.by_.data.toList = true) ∧ r.value.size ≤ 256
instance (r : Rg) : Decidable r.may := by unfold Rg.may; infer_instance
def Rg.check (r : Rg) : Int := if r.may then 0 else 1
theorem check_bad {r : Rg} (h : ¬ r.may) : r.check = 1 := if_neg h
theorem check_ok {r : Rg} (h : r.may) : r.check = 0 := if_pos h
theorem nil_of {s : ByteArray} (h : s.size = 0) : s = ByteArray.empty := by
  apply ByteArray.ext; apply Array.eq_empty_of_size_eq_zero; exact h
theorem not_nil {s : ByteArray} (h : ¬ s.size = 0) : ¬ s.toList = [] := fun e => h (by rw [Lib.toList_data] at e; have := congrArg List.length e; simpa using this)
theorem isName_nil : isName [] = false := rfl
def Rg.zero : Rg := ⟨0, ByteArray.empty, ByteArray.empty⟩
def Rg.isZero (r : Rg) : Prop := r.n = 0 ∧ r.by_.toList = [] ∧ r.value.toList = []
instance (r : Rg) : Decidable r.isZero := by unfold Rg.isZero; infer_instance
def Rg.next (a : Rg) (s t : ByteArray) : Rg × Int :=
  if (¬ a.isZero ∧ ¬ a.may) ∨ isName s.data.toList = false ∨ 256 < t.size then (Rg.zero, 1) else if a.n = 9007199254740992 then (Rg.zero, 4) else (⟨a.n + 1, s, t⟩, 0)
structure MX (W : World) (B : Nat) (n : Int) (b v : ByteArray) (w' : World) : Prop where
  b0 : Blk w' (B) 44 #[.int .i64 n, .string b, .string v]
  b1 : Blk w' (B + 1) 44 #[.int .i64 0, .string ByteArray.empty, .string ByteArray.empty]
  low : Below (B) W w'
theorem MX.of {W : World} {B : Nat} {n : Int} {b v : ByteArray} {w' : World} (h : MX W B n b v w') : w'.cell? ⟨B, 0, none⟩ = some (.int .i64 n) ∧ w'.cell? ⟨B, 1, none⟩ = some (.string b) ∧ w'.cell? ⟨B, 2, none⟩ = some (.string v) ∧ w'.cell? ⟨B + 1, 0, none⟩ = some (.int .i64 0) ∧ w'.cell? ⟨B + 1, 1, none⟩ = some (.string ByteArray.empty) ∧ w'.cell? ⟨B + 1, 2, none⟩ = some (.string ByteArray.empty) ∧ Hid (MX W B n b v w') :=
  ⟨by rw [h.b0.cell]; rfl, by rw [h.b0.cell]; rfl, by rw [h.b0.cell]; rfl, by rw [h.b1.cell]; rfl, by rw [h.b1.cell]; rfl, by rw [h.b1.cell]; rfl, h⟩
theorem MX.step0 {W : World} {B : Nat} {n : Int} {b v : ByteArray} {W0 w' : World} (hb : Below W0.heap.size W0 w') (h : MX W B n b v W0) : MX W B n b v w' :=
  ⟨h.b0.below hb h.b0.lt, h.b1.below hb h.b1.lt, h.low.trans (hb.mono (by have := h.b0.lt; have := h.low.size; omega))⟩
theorem MX.step {W : World} {B : Nat} {n : Int} {b v : ByteArray} {W0 w' : World} (hb : Below W0.heap.size W0 w') (h : Hid (MX W B n b v W0)) : w'.cell? ⟨B, 0, none⟩ = some (.int .i64 n) ∧ w'.cell? ⟨B, 1, none⟩ = some (.string b) ∧ w'.cell? ⟨B, 2, none⟩ = some (.string v) ∧ w'.cell? ⟨B + 1, 0, none⟩ = some (.int .i64 0) ∧ w'.cell? ⟨B + 1, 1, none⟩ = some (.string ByteArray.empty) ∧ w'.cell? ⟨B + 1, 2, none⟩ = some (.string ByteArray.empty) ∧ Hid (MX W B n b v w') :=
  MX.of (MX.step0 hb h)
theorem MX.drew {W : World} {B : Nat} {n : Int} {b v : ByteArray} {W0 : World} (h : Hid (MX W B n b v W0)) : W0.drew.cell? ⟨B, 0, none⟩ = some (.int .i64 n) ∧ W0.drew.cell? ⟨B, 1, none⟩ = some (.string b) ∧ W0.drew.cell? ⟨B, 2, none⟩ = some (.string v) ∧ W0.drew.cell? ⟨B + 1, 0, none⟩ = some (.int .i64 0) ∧ W0.drew.cell? ⟨B + 1, 1, none⟩ = some (.string ByteArray.empty) ∧ W0.drew.cell? ⟨B + 1, 2, none⟩ = some (.string ByteArray.empty) ∧ Hid (MX W B n b v W0.drew) :=
  MX.of ⟨h.b0, h.b1, h.low.drew⟩
theorem MX.alloc {W : World} {B : Nat} {n : Int} {b v : ByteArray} {W0 : World} (h : Hid (MX W B n b v W0)) (x : Obj) : (W0.alloc x).cell? ⟨B, 0, none⟩ = some (.int .i64 n) ∧ (W0.alloc x).cell? ⟨B, 1, none⟩ = some (.string b) ∧ (W0.alloc x).cell? ⟨B, 2, none⟩ = some (.string v) ∧ (W0.alloc x).cell? ⟨B + 1, 0, none⟩ = some (.int .i64 0) ∧ (W0.alloc x).cell? ⟨B + 1, 1, none⟩ = some (.string ByteArray.empty) ∧ (W0.alloc x).cell? ⟨B + 1, 2, none⟩ = some (.string ByteArray.empty) ∧ Hid (MX W B n b v (W0.alloc x)) :=
  MX.of ⟨h.b0.alloc x, h.b1.alloc x, h.low.alloc (by have := h.b0.lt; have := h.low.size; omega) x⟩
theorem MX.new (W : World) (n : Int) (b v : ByteArray) : MX W W.heap.size n b v ((W.alloc (.cells #[.int .i64 n, .string b, .string v] 44)).alloc (.cells #[.int .i64 0, .string ByteArray.empty, .string ByteArray.empty] 44)) :=
  ⟨(Blk.new _ _ _).alloc _, by simpa using Blk.new (W.alloc (.cells #[.int .i64 n, .string b, .string v] 44)) 44 #[.int .i64 0, .string ByteArray.empty, .string ByteArray.empty], ((Below.refl _ _).alloc (Nat.le_refl _) _).alloc (by simp) _⟩
theorem bel3 {W w1 : World} (h : Below W.heap.size W w1) (x y z : Value) : Below W.heap.size W (((w1.setCell ⟨W.heap.size + 1, 0, none⟩ x).setCell ⟨W.heap.size + 1, 1, none⟩ y).setCell ⟨W.heap.size + 1, 2, none⟩ z) :=
  ((h.setCell (p := ⟨W.heap.size + 1, 0, none⟩) (by simp) _).setCell (p := ⟨W.heap.size + 1, 1, none⟩) (by simp) _).setCell (p := ⟨W.heap.size + 1, 2, none⟩) (by simp) _
end Go.Proofs.YtfkjoeibofnnoaaDoor.reg
