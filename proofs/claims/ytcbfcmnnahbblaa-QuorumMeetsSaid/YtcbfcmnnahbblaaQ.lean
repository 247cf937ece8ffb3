/- Two arrays of four rows beside the law's own blocks. -/
import Derived.Test.YtcbfcmnnahbblaaN
import Derived.Test.YtcbfcmnnahbblaaL
import Derived.Test.YtcbfcmnnahbblaaP
namespace Go.Proofs.Ytcbfcmnnahbblaa.quorum
open Go.ChangeShapes Go.WideShapes Go.ChangeAt Go.RowKit Go.Proofs.Aid Go.Proofs.Ytcbfcmnnahbblaa.texts
structure QM (W : World) (p l : Nat) (n0 n1 : Int) (pn pr pw qr qw : Int) (ps pm pb : Bool) (w' : World) : Prop where
  b0 : Blk w' (p) 23 #[.int .i64 pn, .int .i64 pr, .int .i64 pw, .int .i64 qr, .int .i64 qw, .bool ps, .bool pm, .bool pb]
  b1 : Blk w' (l) 35 #[.int .i64 n0, .int .i64 n1]
  low : Below (p) W w'
theorem QM.of {W : World} {p l : Nat} {n0 n1 : Int} {pn pr pw qr qw : Int} {ps pm pb : Bool} {w' : World} (h : QM W p l n0 n1 pn pr pw qr qw ps pm pb w') : w'.cell? ⟨p, 0, none⟩ = some (.int .i64 pn) ∧ w'.cell? ⟨p, 1, none⟩ = some (.int .i64 pr) ∧ w'.cell? ⟨p, 2, none⟩ = some (.int .i64 pw) ∧ w'.cell? ⟨p, 3, none⟩ = some (.int .i64 qr) ∧ w'.cell? ⟨p, 4, none⟩ = some (.int .i64 qw) ∧ w'.cell? ⟨p, 5, none⟩ = some (.bool ps) ∧ w'.cell? ⟨p, 6, none⟩ = some (.bool pm) ∧ w'.cell? ⟨p, 7, none⟩ = some (.bool pb) ∧ w'.cell? ⟨l, 0, none⟩ = some (.int .i64 n0) ∧ w'.cell? ⟨l, 1, none⟩ = some (.int .i64 n1) ∧ Hid (QM W p l n0 n1 pn pr pw qr qw ps pm pb w') :=
  ⟨by rw [h.b0.cell]; rfl, by rw [h.b0.cell]; rfl, by rw [h.b0.cell]; rfl, by rw [h.b0.cell]; rfl, by rw [h.b0.cell]; rfl, by rw [h.b0.cell]; rfl, by rw [h.b0.cell]; rfl, by rw [h.b0.cell]; rfl, by rw [h.b1.cell]; rfl, by rw [h.b1.cell]; rfl, h⟩
theorem QM.step0 {W : World} {p l : Nat} {n0 n1 : Int} {pn pr pw qr qw : Int} {ps pm pb : Bool} {W0 w' : World} (hb : Below W0.heap.size W0 w') (h : QM W p l n0 n1 pn pr pw qr qw ps pm pb W0) : QM W p l n0 n1 pn pr pw qr qw ps pm pb w' :=
  ⟨h.b0.below hb h.b0.lt, h.b1.below hb h.b1.lt, h.low.trans (hb.mono (by have := h.b0.lt; have := h.low.size; omega))⟩
theorem QM.step {W : World} {p l : Nat} {n0 n1 : Int} {pn pr pw qr qw : Int} {ps pm pb : Bool} {W0 w' : World} (hb : Below W0.heap.size W0 w') (h : Hid (QM W p l n0 n1 pn pr pw qr qw ps pm pb W0)) : w'.cell? ⟨p, 0, none⟩ = some (.int .i64 pn) ∧ w'.cell? ⟨p, 1, none⟩ = some (.int .i64 pr) ∧ w'.cell? ⟨p, 2, none⟩ = some (.int .i64 pw) ∧ w'.cell? ⟨p, 3, none⟩ = some (.int .i64 qr) ∧ w'.cell? ⟨p, 4, none⟩ = some (.int .i64 qw) ∧ w'.cell? ⟨p, 5, none⟩ = some (.bool ps) ∧ w'.cell? ⟨p, 6, none⟩ = some (.bool pm) ∧ w'.cell? ⟨p, 7, none⟩ = some (.bool pb) ∧ w'.cell? ⟨l, 0, none⟩ = some (.int .i64 n0) ∧ w'.cell? ⟨l, 1, none⟩ = some (.int .i64 n1) ∧ Hid (QM W p l n0 n1 pn pr pw qr qw ps pm pb w') :=
  QM.of (QM.step0 hb h)
theorem QM.drew {W : World} {p l : Nat} {n0 n1 : Int} {pn pr pw qr qw : Int} {ps pm pb : Bool} {W0 : World} (h : Hid (QM W p l n0 n1 pn pr pw qr qw ps pm pb W0)) : W0.drew.cell? ⟨p, 0, none⟩ = some (.int .i64 pn) ∧ W0.drew.cell? ⟨p, 1, none⟩ = some (.int .i64 pr) ∧ W0.drew.cell? ⟨p, 2, none⟩ = some (.int .i64 pw) ∧ W0.drew.cell? ⟨p, 3, none⟩ = some (.int .i64 qr) ∧ W0.drew.cell? ⟨p, 4, none⟩ = some (.int .i64 qw) ∧ W0.drew.cell? ⟨p, 5, none⟩ = some (.bool ps) ∧ W0.drew.cell? ⟨p, 6, none⟩ = some (.bool pm) ∧ W0.drew.cell? ⟨p, 7, none⟩ = some (.bool pb) ∧ W0.drew.cell? ⟨l, 0, none⟩ = some (.int .i64 n0) ∧ W0.drew.cell? ⟨l, 1, none⟩ = some (.int .i64 n1) ∧ Hid (QM W p l n0 n1 pn pr pw qr qw ps pm pb W0.drew) :=
  QM.of ⟨h.b0, h.b1, h.low.drew⟩
theorem QM.alloc {W : World} {p l : Nat} {n0 n1 : Int} {pn pr pw qr qw : Int} {ps pm pb : Bool} {W0 : World} (h : Hid (QM W p l n0 n1 pn pr pw qr qw ps pm pb W0)) (x : Obj) : (W0.alloc x).cell? ⟨p, 0, none⟩ = some (.int .i64 pn) ∧ (W0.alloc x).cell? ⟨p, 1, none⟩ = some (.int .i64 pr) ∧ (W0.alloc x).cell? ⟨p, 2, none⟩ = some (.int .i64 pw) ∧ (W0.alloc x).cell? ⟨p, 3, none⟩ = some (.int .i64 qr) ∧ (W0.alloc x).cell? ⟨p, 4, none⟩ = some (.int .i64 qw) ∧ (W0.alloc x).cell? ⟨p, 5, none⟩ = some (.bool ps) ∧ (W0.alloc x).cell? ⟨p, 6, none⟩ = some (.bool pm) ∧ (W0.alloc x).cell? ⟨p, 7, none⟩ = some (.bool pb) ∧ (W0.alloc x).cell? ⟨l, 0, none⟩ = some (.int .i64 n0) ∧ (W0.alloc x).cell? ⟨l, 1, none⟩ = some (.int .i64 n1) ∧ Hid (QM W p l n0 n1 pn pr pw qr qw ps pm pb (W0.alloc x)) :=
  QM.of ⟨h.b0.alloc x, h.b1.alloc x, h.low.alloc (by have := h.b0.lt; have := h.low.size; omega) x⟩
theorem QM.rd {W : World} {p l : Nat} {n0 n1 pn pr pw qr qw : Int} {ps pm pb : Bool} {w' : World} {s n : Nat} {A : Option Addr} {L : List Value} (h : Reads W p s A n L) (hq : Hid (QM W p l n0 n1 pn pr pw qr qw ps pm pb w')) : Reads w' w'.heap.size s A n L :=
  Reads.more (h.below hq.out.low) (by have := hq.out.b0.lt; omega)
theorem QM.start (W : World) (n0 n1 pn pr pw qr qw : Int) (ps pm pb : Bool) : QM W W.heap.size (W.heap.size + 1) n0 n1 pn pr pw qr qw ps pm pb ((W.alloc (.cells #[.int .i64 pn, .int .i64 pr, .int .i64 pw, .int .i64 qr, .int .i64 qw, .bool ps, .bool pm, .bool pb] 23)).alloc (.cells #[.int .i64 n0, .int .i64 n1] 35)) := by
  have B1 := Blk.new W 23 #[.int .i64 pn, .int .i64 pr, .int .i64 pw, .int .i64 qr, .int .i64 qw, .bool ps, .bool pm, .bool pb]
  have B2 := Blk.new (W.alloc (.cells #[.int .i64 pn, .int .i64 pr, .int .i64 pw, .int .i64 qr, .int .i64 qw, .bool ps, .bool pm, .bool pb] 23)) 35 #[.int .i64 n0, .int .i64 n1]
  rw [World.size_alloc] at B2
  exact ⟨B1.alloc _, B2, below_lit2 W _ _⟩
theorem QM.fin {W w2 w3 : World} {g l : Nat} {n0 n1 pn pr pw qr qw : Int} {ps pm pb : Bool} (hg : Hid (W.heap.size = g)) (h : Hid (QM W g l n0 n1 pn pr pw qr qw ps pm pb w2)) (hb : Below w2.heap.size w2 w3) : Hid (Below W.heap.size W w3) := by
  have := h.out.low.trans (hb.mono (by have := h.out.b0.lt; omega))
  rw [hg.out]; exact this
theorem QM.drewN {W w : World} {g l : Nat} {n0 n1 pn pr pw qr qw : Int} {ps pm pb : Bool} (h : Hid (QM W g l n0 n1 pn pr pw qr qw ps pm pb w)) (q : Nat) : Hid (QM W g l n0 n1 pn pr pw qr qw ps pm pb (w.drewN q)) := ⟨h.out.b0.drewN q, h.out.b1.drewN q, below_drewN h.out.low q⟩
theorem grown_set (w : World) (a : Addr) (u : Value) : w.grownBy (w.setCell a u) (some a.block) := by
  refine ⟨rfl, rfl, rfl, by simp, fun k _ hk => Below.heap_setCell w a u k (fun e => hk (by rw [e]))⟩
/-- A block that the law made, no less than g. -/
structure NB (g b : Nat) (cs : Array Value) (w : World) : Prop where
  blk : Blk w b 39 cs
  ge : g ≤ b
theorem NB.new {W X : World} {g l : Nat} {n0 n1 pn pr pw qr qw : Int} {ps pm pb : Bool} {cs : Array Value} (h : Hid (QM W g l n0 n1 pn pr pw qr qw ps pm pb (X.alloc (.cells cs 39)))) : Hid (NB g X.heap.size cs (X.alloc (.cells cs 39))) := by
  refine ⟨Blk.new X 39 cs, ?_⟩
  have := h.out.b0.lt
  rw [World.size_alloc] at this
  omega
theorem NB.alloc {g b : Nat} {cs : Array Value} {w : World} (h : Hid (NB g b cs w)) (o : Obj) : Hid (NB g b cs (w.alloc o)) := ⟨h.out.blk.alloc o, h.out.ge⟩
theorem NB.below {g b : Nat} {cs : Array Value} {w w' : World} (h : Hid (NB g b cs w)) (hb : Below w.heap.size w w') : Hid (NB g b cs w') := ⟨h.out.blk.below hb h.out.blk.lt, h.out.ge⟩
theorem NB.drew {g b : Nat} {cs : Array Value} {w : World} (h : Hid (NB g b cs w)) : Hid (NB g b cs w.drew) := ⟨h.out.blk, h.out.ge⟩
theorem NB.of {g b : Nat} {x0 x1 x2 x3 : Value} {w : World} (h : Hid (NB g b #[x0, x1, x2, x3] w)) : w.cell? ⟨b, 0, none⟩ = some x0 ∧ w.cell? ⟨b, 1, none⟩ = some x1 ∧ w.cell? ⟨b, 2, none⟩ = some x2 ∧ w.cell? ⟨b, 3, none⟩ = some x3 ∧ w.frozen? ⟨b, 0, none⟩ = false ∧ w.frozen? ⟨b, 1, none⟩ = false ∧ w.frozen? ⟨b, 2, none⟩ = false ∧ w.frozen? ⟨b, 3, none⟩ = false :=
  ⟨h.out.blk.cell 0, h.out.blk.cell 1, h.out.blk.cell 2, h.out.blk.cell 3, h.out.blk.frozen 0, h.out.blk.frozen 1, h.out.blk.frozen 2, h.out.blk.frozen 3⟩
abbrev set4 (w : World) (b : Nat) (x0 x1 x2 x3 : Value) : World := (((w.setCell ⟨b, 0, none⟩ x0).setCell ⟨b, 1, none⟩ x1).setCell ⟨b, 2, none⟩ x2).setCell ⟨b, 3, none⟩ x3
theorem NB.put {g b : Nat} {y0 y1 y2 y3 : Value} {w : World} (h : Hid (NB g b #[y0, y1, y2, y3] w)) (x0 x1 x2 x3 : Value) : Hid (NB g b #[x0, x1, x2, x3] (set4 w b x0 x1 x2 x3)) :=
  ⟨(((h.out.blk.set_ 0 x0).set_ 1 x1).set_ 2 x2).set_ 3 x3, h.out.ge⟩
theorem NB.far {g b b' : Nat} {cs : Array Value} {w : World} (h : Hid (NB g b cs w)) (hne : b ≠ b') (x0 x1 x2 x3 : Value) : Hid (NB g b cs (set4 w b' x0 x1 x2 x3)) :=
  ⟨(((h.out.blk.far (p := ⟨b', 0, none⟩) hne x0).far (p := ⟨b', 1, none⟩) hne x1).far (p := ⟨b', 2, none⟩) hne x2).far (p := ⟨b', 3, none⟩) hne x3, h.out.ge⟩
theorem QM.put {W w : World} {g l b : Nat} {n0 n1 pn pr pw qr qw : Int} {ps pm pb : Bool} {cs : Array Value} (h : Hid (QM W g l n0 n1 pn pr pw qr qw ps pm pb w)) (hB : Hid (NB g b cs w)) (x0 x1 x2 x3 : Value) : Hid (QM W g l n0 n1 pn pr pw qr qw ps pm pb (set4 w b x0 x1 x2 x3)) := by
  have e1 : g ≠ b := h.out.b0.ne_ hB.out.blk (by decide)
  have e2 : l ≠ b := h.out.b1.ne_ hB.out.blk (by decide)
  exact ⟨(((h.out.b0.far (p := ⟨b, 0, none⟩) e1 x0).far (p := ⟨b, 1, none⟩) e1 x1).far (p := ⟨b, 2, none⟩) e1 x2).far (p := ⟨b, 3, none⟩) e1 x3,
    (((h.out.b1.far (p := ⟨b, 0, none⟩) e2 x0).far (p := ⟨b, 1, none⟩) e2 x1).far (p := ⟨b, 2, none⟩) e2 x2).far (p := ⟨b, 3, none⟩) e2 x3,
    (((h.out.low.setCell (p := ⟨b, 0, none⟩) hB.out.ge x0).setCell (p := ⟨b, 1, none⟩) hB.out.ge x1).setCell (p := ⟨b, 2, none⟩) hB.out.ge x2).setCell (p := ⟨b, 3, none⟩) hB.out.ge x3⟩
theorem Rows4.set1 {L : Nat → List ByteArray} {A0 A1 A2 A3 : Option Addr} {c0 c1 c2 c3 : Nat} {w : World} {b : Nat} {cs : Array Value} (h : Rows4 L A0 A1 A2 A3 c0 c1 c2 c3 w) (hB : Blk w b 39 cs) (i : Nat) (u : Value) : Rows4 L A0 A1 A2 A3 c0 c1 c2 c3 (w.setCell ⟨b, i, none⟩ u) :=
  h.kept (grown_set w ⟨b, i, none⟩ u) (fun v xs hr q hq e => own_blk_ne hr hB (by decide) (by rw [hq]; exact e.symm))
theorem Rows4.put {L : Nat → List ByteArray} {A0 A1 A2 A3 : Option Addr} {c0 c1 c2 c3 : Nat} {w : World} {g b : Nat} {cs : Array Value} (h : Hid (Rows4 L A0 A1 A2 A3 c0 c1 c2 c3 w)) (hB : Hid (NB g b cs w)) (x0 x1 x2 x3 : Value) : Hid (Rows4 L A0 A1 A2 A3 c0 c1 c2 c3 (set4 w b x0 x1 x2 x3)) :=
  (((h.out.set1 hB.out.blk 0 x0).set1 (hB.out.blk.set_ 0 x0) 1 x1).set1 ((hB.out.blk.set_ 0 x0).set_ 1 x1) 2 x2).set1 (((hB.out.blk.set_ 0 x0).set_ 1 x1).set_ 2 x2) 3 x3
theorem Rows4.alloc' {L : Nat → List ByteArray} {A0 A1 A2 A3 : Option Addr} {c0 c1 c2 c3 : Nat} {w : World} (h : Hid (Rows4 L A0 A1 A2 A3 c0 c1 c2 c3 w)) (o : Obj) : Hid (Rows4 L A0 A1 A2 A3 c0 c1 c2 c3 (w.alloc o)) := h.out.below (below_lit w o)
theorem Rows4.below' {L : Nat → List ByteArray} {A0 A1 A2 A3 : Option Addr} {c0 c1 c2 c3 : Nat} {w w' : World} (h : Hid (Rows4 L A0 A1 A2 A3 c0 c1 c2 c3 w)) (hb : Below w.heap.size w w') : Hid (Rows4 L A0 A1 A2 A3 c0 c1 c2 c3 w') := h.out.below hb
end Go.Proofs.Ytcbfcmnnahbblaa.quorum
