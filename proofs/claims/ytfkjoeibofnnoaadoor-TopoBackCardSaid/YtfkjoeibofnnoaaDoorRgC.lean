/- Entries of a registry: by the reference, whether they may be; whether two lists are the same. -/
import Derived.Test.YtfkjoeibofnnoaaDoorRgB
import Derived.Deep.QuietTactic
import Derived.BigQuiet
namespace Go.Proofs.YtfkjoeibofnnoaaDoor.rgy
open Go.ChangeShapes Go.WideShapes Go.ChangeAt Go.RowKit Go.Proofs.Aid Go.Proofs.YtfkjoeibofnnoaaDoor.name Go.Proofs.YtfkjoeibofnnoaaDoor.reg
theorem set3' {w : World} {g : Nat} {ty : TypeId} {a0 a1 a2 x y z : Value} (hb : Blk w g ty #[a0, a1, a2]) : Blk (((w.setCell ⟨g, 0, none⟩ x).setCell ⟨g, 1, none⟩ y).setCell ⟨g, 2, none⟩ z) g ty #[x, y, z] :=
  ((hb.set_ 0 x).set_ 1 y).set_ 2 z
def isEntry (e : En) : Bool := isKey e.key && decide e.reg.may
/-- An entry, and one cell, of what lay before. -/
structure XO (w0 : World) (p q : Addr) (k : ByteArray) (n : Int) (b v : ByteArray) (u : Value) (w' : World) : Prop where
  c0 : w0.cell? p = some (.string k)
  c1 : w0.cell? ⟨p.block, p.off + 1, none⟩ = some (.int .i64 n)
  c2 : w0.cell? ⟨p.block, p.off + 2, none⟩ = some (.string b)
  c3 : w0.cell? ⟨p.block, p.off + 3, none⟩ = some (.string v)
  old : w0.cell? q = some u
  hp : p.block < w0.heap.size
  hq : q.block < w0.heap.size
  low : Below w0.heap.size w0 w'
section
variable {w0 w' w1 : World} {k b v : ByteArray} {n : Int} {p q : Addr} {u : Value}
theorem XO.of (h : XO w0 p q k n b v u w') : w'.cell? p = some (.string k) ∧ w'.cell? ⟨p.block, p.off + 1, none⟩ = some (.int .i64 n) ∧ w'.cell? ⟨p.block, p.off + 2, none⟩ = some (.string b) ∧ w'.cell? ⟨p.block, p.off + 3, none⟩ = some (.string v) ∧ w'.cell? q = some u ∧ Hid (XO w0 p q k n b v u w') :=
  ⟨(h.low.cell h.hp).trans h.c0, (h.low.cell (p := ⟨p.block, p.off + 1, none⟩) h.hp).trans h.c1, (h.low.cell (p := ⟨p.block, p.off + 2, none⟩) h.hp).trans h.c2, (h.low.cell (p := ⟨p.block, p.off + 3, none⟩) h.hp).trans h.c3, (h.low.cell h.hq).trans h.old, h⟩
theorem XO.drew (h : Hid (XO w0 p q k n b v u w')) : w'.drew.cell? p = some (.string k) ∧ w'.drew.cell? ⟨p.block, p.off + 1, none⟩ = some (.int .i64 n) ∧ w'.drew.cell? ⟨p.block, p.off + 2, none⟩ = some (.string b) ∧ w'.drew.cell? ⟨p.block, p.off + 3, none⟩ = some (.string v) ∧ w'.drew.cell? q = some u ∧ Hid (XO w0 p q k n b v u w'.drew) :=
  XO.of ⟨h.c0, h.c1, h.c2, h.c3, h.old, h.hp, h.hq, h.low.drew⟩
theorem XO.step (h : Hid (XO w0 p q k n b v u w')) (hb : Below w'.heap.size w' w1) : w1.cell? p = some (.string k) ∧ w1.cell? ⟨p.block, p.off + 1, none⟩ = some (.int .i64 n) ∧ w1.cell? ⟨p.block, p.off + 2, none⟩ = some (.string b) ∧ w1.cell? ⟨p.block, p.off + 3, none⟩ = some (.string v) ∧ w1.cell? q = some u ∧ Hid (XO w0 p q k n b v u w1) :=
  XO.of ⟨h.c0, h.c1, h.c2, h.c3, h.old, h.hp, h.hq, h.low.trans (hb.mono h.low.size)⟩
end
theorem okAt_eq2 {l : List En} {i : Nat} (h : i < l.length) (h' : i - 1 < l.length) : okAt l i = (isEntry l[i] && (decide (i = 0) || lt l[i - 1].key l[i].key)) := okAt_eq h h'
end Go.Proofs.YtfkjoeibofnnoaaDoor.rgy
