/- Entries of a registry: their cells, their keys, whether they may be, and a key's register. -/
import Derived.Test.YtfkjoeibofnnoaaDoorRegF
import Derived.Test.YtfkjoeibofnnoaaDoorKit
import Derived.IntWalk
namespace Go.Proofs.YtfkjoeibofnnoaaDoor.rgy
open Go.ChangeShapes Go.WideShapes Go.ChangeAt Go.RowKit Go.Proofs.Aid Go.Proofs.YtfkjoeibofnnoaaDoor.name Go.Proofs.YtfkjoeibofnnoaaDoor.reg
structure En where
  key : ByteArray
  reg : Rg
  deriving DecidableEq
def En.cells (e : En) : List Value := [.string e.key, .int .i64 e.reg.n, .string e.reg.by_, .string e.reg.value]
@[reducible] def En.val (e : En) : Value := .agg #[.string e.key, .int .i64 e.reg.n, .string e.reg.by_, .string e.reg.value]
theorem En.len (e : En) : e.cells.length = 4 := rfl
def En.sz (e : En) : Prop := e.key.size ≤ maxLen ∧ e.reg.by_.size ≤ maxLen ∧ e.reg.value.size ≤ maxLen
theorem elemE {w : World} {B : Nat} {A : Option Addr} {rs : List En} (h : Reads w B 4 A rs.length (rs.flatMap En.cells)) {i : Nat} (hi : i < rs.length) :
    ∃ ad, A = some ad ∧ ad.block < B ∧ w.cell? (ad.add (i * 4)) = some (.string rs[i].key) ∧ w.cell? ⟨(ad.add (i * 4)).block, (ad.add (i * 4)).off + 1, none⟩ = some (.int .i64 rs[i].reg.n) ∧ w.cell? ⟨(ad.add (i * 4)).block, (ad.add (i * 4)).off + 2, none⟩ = some (.string rs[i].reg.by_) ∧ w.cell? ⟨(ad.add (i * 4)).block, (ad.add (i * 4)).off + 3, none⟩ = some (.string rs[i].reg.value) := by
  obtain ⟨ad, e, hb, hc⟩ := h.elem En.len hi
  have x1 : ∀ j, (⟨(ad.add (i * 4)).block, (ad.add (i * 4)).off + (j + 1), none⟩ : Addr) = ad.add (i * 4 + (j + 1)) := fun j => by rw [← add_of_add]; rfl
  refine ⟨ad, e, hb, by simpa using hc 0 _ rfl, ?_, ?_, ?_⟩
  · rw [x1]; exact hc 1 _ rfl
  · rw [x1]; exact hc 2 _ rfl
  · rw [x1]; exact hc 3 _ rfl
def isKey (s : ByteArray) : Bool := decide (1 ≤ s.size) && decide (s.size ≤ 128)
def lt (a b : ByteArray) : Bool := Op.bytesLess a.toList b.toList
def okAt (l : List En) (i : Nat) : Bool := isKey (l.getD i ⟨ByteArray.empty, Rg.zero⟩).key && decide (l.getD i ⟨ByteArray.empty, Rg.zero⟩).reg.may && (decide (i = 0) || lt (l.getD (i - 1) ⟨ByteArray.empty, Rg.zero⟩).key (l.getD i ⟨ByteArray.empty, Rg.zero⟩).key)
def may (l : List En) : Bool := decide (l.length ≤ 4096) && (List.range l.length).all (okAt l)
def chk (l : List En) : Int := if may l then 0 else 1
theorem chk_no {l : List En} (h : may l = false) : chk l = 1 := by unfold chk; rw [h]; rfl
theorem chk_ok {l : List En} (h : may l = true) : chk l = 0 := by unfold chk; rw [h]; rfl
theorem may_no {l : List En} {i : Nat} (h : i < l.length) (hk : okAt l i = false) : may l = false := by
  unfold may
  have : (List.range l.length).all (okAt l) = false := by
    rw [List.all_eq_false]; exact ⟨i, by simpa using h, by simp [hk]⟩
  rw [this, Bool.and_false]
theorem may_yes {l : List En} (h : l.length ≤ 4096) (hk : ∀ j, j < l.length → okAt l j = true) : may l = true := by
  unfold may
  rw [decide_eq_true h, Bool.true_and, List.all_eq_true]
  intro j hj; exact hk j (by simpa using hj)
theorem okAt_eq {l : List En} {i : Nat} (h : i < l.length) (h' : i - 1 < l.length) : okAt l i = (isKey l[i].key && decide l[i].reg.may && (decide (i = 0) || lt l[i - 1].key l[i].key)) := by
  unfold okAt; simp [h, h']
/-- An entry in a block of the call's own, and one cell of what lay before. -/
structure XP (w0 : World) (ty : TypeId) (k : ByteArray) (n : Int) (b v : ByteArray) (p : Addr) (u : Value) (w' : World) : Prop where
  blk : Blk w' w0.heap.size ty #[.string k, .int .i64 n, .string b, .string v]
  old : w0.cell? p = some u
  hp : p.block < w0.heap.size
  low : Below w0.heap.size w0 w'
section
variable {w0 w' w1 : World} {ty : TypeId} {k b v : ByteArray} {n : Int} {p : Addr} {u : Value}
theorem XP.of (h : XP w0 ty k n b v p u w') : w'.cell? ⟨w0.heap.size, 0, none⟩ = some (.string k) ∧ w'.cell? ⟨w0.heap.size, 1, none⟩ = some (.int .i64 n) ∧ w'.cell? ⟨w0.heap.size, 2, none⟩ = some (.string b) ∧ w'.cell? ⟨w0.heap.size, 3, none⟩ = some (.string v) ∧ w'.cell? p = some u ∧ Hid (XP w0 ty k n b v p u w') :=
  ⟨by rw [h.blk.cell]; rfl, by rw [h.blk.cell]; rfl, by rw [h.blk.cell]; rfl, by rw [h.blk.cell]; rfl, (h.low.cell h.hp).trans h.old, h⟩
theorem XP.drew (h : Hid (XP w0 ty k n b v p u w')) : w'.drew.cell? ⟨w0.heap.size, 0, none⟩ = some (.string k) ∧ w'.drew.cell? ⟨w0.heap.size, 1, none⟩ = some (.int .i64 n) ∧ w'.drew.cell? ⟨w0.heap.size, 2, none⟩ = some (.string b) ∧ w'.drew.cell? ⟨w0.heap.size, 3, none⟩ = some (.string v) ∧ w'.drew.cell? p = some u ∧ Hid (XP w0 ty k n b v p u w'.drew) :=
  XP.of ⟨h.blk, h.old, h.hp, h.low.drew⟩
theorem XP.step (h : Hid (XP w0 ty k n b v p u w')) (hb : Below w'.heap.size w' w1) : w1.cell? ⟨w0.heap.size, 0, none⟩ = some (.string k) ∧ w1.cell? ⟨w0.heap.size, 1, none⟩ = some (.int .i64 n) ∧ w1.cell? ⟨w0.heap.size, 2, none⟩ = some (.string b) ∧ w1.cell? ⟨w0.heap.size, 3, none⟩ = some (.string v) ∧ w1.cell? p = some u ∧ Hid (XP w0 ty k n b v p u w1) :=
  XP.of ⟨h.blk.below hb h.blk.lt, h.old, h.hp, h.low.trans (hb.mono h.low.size)⟩
theorem XP.new (w0 : World) (ty : TypeId) (k : ByteArray) (n : Int) (b v : ByteArray) (hc : w0.cell? p = some u) (hp : p.block < w0.heap.size) : XP w0 ty k n b v p u (w0.alloc (.cells #[.string k, .int .i64 n, .string b, .string v] ty)) :=
  ⟨Blk.new _ _ _, hc, hp, (Below.refl _ _).alloc (Nat.le_refl _) _⟩
end
end Go.Proofs.YtfkjoeibofnnoaaDoor.rgy
