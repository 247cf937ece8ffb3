/- The walks of package register. -/
import Derived.Test.YtjbompimlopdiaaGreatDoorOpen
import Derived.Test.YtjbompimlopdiaaGreatDoorShelf
import Derived.Lib.Hide
import Derived.Lib.Bytealg
import Derived.Deep.RegionHeld3
import Derived.Deep.QuietTactic
import Derived.BigQuiet
import Derived.WalkSpells
namespace Go.Proofs.YtjbompimlopdiaaGreatDoor.reg
open Go.ChangeShapes Go.WideShapes Go.ChangeAt Go.RowKit Go.Proofs.Aid
theorem ret_int {k : IntKind} {a b : Int} (h : a = b) : Ending.returned (.int k a) = .returned (.int k b) := by rw [h]
theorem ret_bool {a b : Bool} (h : a = b) : Ending.returned (.bool a) = .returned (.bool b) := by rw [h]
def cmpI (a b : Int) : Int := if a < b then -1 else if b < a then 1 else 0
def or3 (a b c : Int) : Int := if a ≠ 0 then a else if b ≠ 0 then b else c
structure Rg where
  n : Int
  by_ : ByteArray
  value : ByteArray
  deriving DecidableEq
@[reducible] def Rg.val (r : Rg) : Value := .agg #[.int .i64 r.n, .string r.by_, .string r.value]
def Rg.comp (a b : Rg) : Int := or3 (cmpI a.n b.n) (Lib.compareBytes a.by_.data.toList b.by_.data.toList) (Lib.compareBytes a.value.data.toList b.value.data.toList)
def Rg.newer (a b : Rg) : Bool := decide (0 < a.comp b)
structure MN (W : World) (B : Nat) (an bn : Int) (ab av bb bv : ByteArray) (w' : World) : Prop where
  b0 : Blk w' (B) 36 #[.int .i64 an, .string ab, .string av]
  b1 : Blk w' (B + 1) 36 #[.int .i64 bn, .string bb, .string bv]
  low : Below (B) W w'
theorem MN.of {W : World} {B : Nat} {an bn : Int} {ab av bb bv : ByteArray} {w' : World} (h : MN W B an bn ab av bb bv w') : w'.cell? ⟨B, 0, none⟩ = some (.int .i64 an) ∧ w'.cell? ⟨B, 1, none⟩ = some (.string ab) ∧ w'.cell? ⟨B, 2, none⟩ = some (.string av) ∧ w'.cell? ⟨B + 1, 0, none⟩ = some (.int .i64 bn) ∧ w'.cell? ⟨B + 1, 1, none⟩ = some (.string bb) ∧ w'.cell? ⟨B + 1, 2, none⟩ = some (.string bv) ∧ Hid (MN W B an bn ab av bb bv w') :=
  ⟨by rw [h.b0.cell]; rfl, by rw [h.b0.cell]; rfl, by rw [h.b0.cell]; rfl, by rw [h.b1.cell]; rfl, by rw [h.b1.cell]; rfl, by rw [h.b1.cell]; rfl, h⟩
theorem MN.step0 {W : World} {B : Nat} {an bn : Int} {ab av bb bv : ByteArray} {W0 w' : World} (hb : Below W0.heap.size W0 w') (h : MN W B an bn ab av bb bv W0) : MN W B an bn ab av bb bv w' :=
  ⟨h.b0.below hb h.b0.lt, h.b1.below hb h.b1.lt, h.low.trans (hb.mono (by have := h.b0.lt; have := h.low.size; omega))⟩
theorem MN.step {W : World} {B : Nat} {an bn : Int} {ab av bb bv : ByteArray} {W0 w' : World} (hb : Below W0.heap.size W0 w') (h : Hid (MN W B an bn ab av bb bv W0)) : w'.cell? ⟨B, 0, none⟩ = some (.int .i64 an) ∧ w'.cell? ⟨B, 1, none⟩ = some (.string ab) ∧ w'.cell? ⟨B, 2, none⟩ = some (.string av) ∧ w'.cell? ⟨B + 1, 0, none⟩ = some (.int .i64 bn) ∧ w'.cell? ⟨B + 1, 1, none⟩ = some (.string bb) ∧ w'.cell? ⟨B + 1, 2, none⟩ = some (.string bv) ∧ Hid (MN W B an bn ab av bb bv w') :=
  MN.of (MN.step0 hb h)
theorem MN.drew {W : World} {B : Nat} {an bn : Int} {ab av bb bv : ByteArray} {W0 : World} (h : Hid (MN W B an bn ab av bb bv W0)) : W0.drew.cell? ⟨B, 0, none⟩ = some (.int .i64 an) ∧ W0.drew.cell? ⟨B, 1, none⟩ = some (.string ab) ∧ W0.drew.cell? ⟨B, 2, none⟩ = some (.string av) ∧ W0.drew.cell? ⟨B + 1, 0, none⟩ = some (.int .i64 bn) ∧ W0.drew.cell? ⟨B + 1, 1, none⟩ = some (.string bb) ∧ W0.drew.cell? ⟨B + 1, 2, none⟩ = some (.string bv) ∧ Hid (MN W B an bn ab av bb bv W0.drew) :=
  MN.of ⟨h.b0, h.b1, h.low.drew⟩
theorem MN.alloc {W : World} {B : Nat} {an bn : Int} {ab av bb bv : ByteArray} {W0 : World} (h : Hid (MN W B an bn ab av bb bv W0)) (x : Obj) : (W0.alloc x).cell? ⟨B, 0, none⟩ = some (.int .i64 an) ∧ (W0.alloc x).cell? ⟨B, 1, none⟩ = some (.string ab) ∧ (W0.alloc x).cell? ⟨B, 2, none⟩ = some (.string av) ∧ (W0.alloc x).cell? ⟨B + 1, 0, none⟩ = some (.int .i64 bn) ∧ (W0.alloc x).cell? ⟨B + 1, 1, none⟩ = some (.string bb) ∧ (W0.alloc x).cell? ⟨B + 1, 2, none⟩ = some (.string bv) ∧ Hid (MN W B an bn ab av bb bv (W0.alloc x)) :=
  MN.of ⟨h.b0.alloc x, h.b1.alloc x, h.low.alloc (by have := h.b0.lt; have := h.low.size; omega) x⟩
theorem MN.new (W : World) (an bn : Int) (ab av bb bv : ByteArray) : MN W W.heap.size an bn ab av bb bv ((W.alloc (.cells #[.int .i64 an, .string ab, .string av] 36)).alloc (.cells #[.int .i64 bn, .string bb, .string bv] 36)) :=
  ⟨(Blk.new _ _ _).alloc _, by simpa using Blk.new (W.alloc (.cells #[.int .i64 an, .string ab, .string av] 36)) 36 #[.int .i64 bn, .string bb, .string bv], ((Below.refl _ _).alloc (Nat.le_refl _) _).alloc (by simp) _⟩
def Rg.join (a b : Rg) : Rg := if b.newer a then b else a
end Go.Proofs.YtjbompimlopdiaaGreatDoor.reg
