/- Mac: a byte of a sum changed: plain words. -/
import Derived.Test.YtbgakcnhbmodaaaDoorMaE
import Derived.Laws.IdiomStrings
namespace Go.Proofs.YtbgakcnhbmodaaaDoor.mac
open Go.ChangeShapes Go.WideShapes Go.ChangeAt Go.RowKit Go.Proofs.Aid
open Go.Proofs.YtbgakcnhbmodaaaDoor.oc (be be_length bz bz_append)
open Go.Proofs.YtbgakcnhbmodaaaDoor.sha
set_option linter.unusedVariables false
/-- A row of bytes whose mark lies behind its bytes. -/
def BkF (w : World) (g : Nat) (l : List UInt8) : Prop := ∃ (cs : Array Value) (fz : Nat × Nat), w.heap[g]? = some (.cells cs 5 fz) ∧ l.length ≤ fz.1 ∧ l.length ≤ cs.size ∧ ∀ i (h : i < l.length), cs[i]? = some (.int .u8 ((l[i]).toNat : Int))
section
variable {w w' : World} {g : Nat} {l : List UInt8}
theorem BkF.lt (h : BkF w g l) : g < w.heap.size := by
  obtain ⟨cs, fz, hh, _⟩ := h
  rcases Nat.lt_or_ge g w.heap.size with hlt | hge
  · exact hlt
  · rw [Array.getElem?_eq_none hge] at hh; cases hh
theorem BkF.cell (h : BkF w g l) {i : Nat} (hi : i < l.length) : w.cell? ⟨g, i, none⟩ = some (.int .u8 ((l[i]).toNat : Int)) := by
  obtain ⟨cs, fz, hh, _, _, hc⟩ := h
  rw [cell_of_row w g i cs _ fz hh]
  exact hc i hi
theorem BkF.frozen (h : BkF w g l) {i : Nat} (hi : i < l.length) : w.frozen? ⟨g, i, none⟩ = false := by
  obtain ⟨cs, fz, hh, hf, _, _⟩ := h
  obtain ⟨a, b⟩ := fz
  simp only at hf
  simp [World.frozen?, hh]
  omega
theorem BkF.below {B : Nat} (h : BkF w g l) (hb : Below B w w') (hg : g < B) : BkF w' g l := by
  obtain ⟨cs, fz, hh, r⟩ := h
  exact ⟨cs, fz, (hb.block g hg).trans hh, r⟩
theorem BkF.drew (h : BkF w g l) : BkF w.drew g l := h
theorem BkF.set_ (h : BkF w g l) {i : Nat} (hi : i < l.length) (y : UInt8) : BkF (w.setCell ⟨g, i, none⟩ (.int .u8 (y.toNat : Int))) g (l.set i y) := by
  obtain ⟨cs, fz, hh, hf, hs, hc⟩ := h
  refine ⟨cs.setIfInBounds i (.int .u8 (y.toNat : Int)), fz, by simp [World.setCell, Array.getElem?_modify, hh], by simpa using hf, by simpa using hs, fun j hj => ?_⟩
  have hj2 : j < l.length := by simpa using hj
  rw [Array.getElem?_setIfInBounds]
  by_cases e : i = j
  · subst e
    simp [show i < cs.size by omega]
  · rw [if_neg e, hc j hj2]
    simp [e]
end
theorem BkF.conv {w : World} (s : ByteArray) (cap : Nat) (fz : Nat × Nat) (hf : s.size ≤ fz.1) : BkF (w.alloc (.cells (bytesRow s cap) 5 fz)) w.heap.size s.data.toList := by
  refine ⟨bytesRow s cap, fz, heap_alloc_new w _, by simpa using hf, ?_, fun i hi => ?_⟩
  · rw [bytesRow, Array.size_append]; simp
  · have hi2 : i < s.data.size := by simpa using hi
    rw [bytesRow, Array.getElem?_append_left (by simpa using hi), Array.getElem?_map, Array.getElem?_eq_getElem hi2]
    simp
theorem BkF.back {w : World} {g : Nat} {l : List UInt8} (h : BkF w g l) (cap : Nat) : (convert 27 9 (.slice (some ⟨g, 0, none⟩) l.length cap)).run Tryd.prog w = .ok (.string (bz l)) w :=
  run_convert_bytes_back (P := Tryd.prog) w 27 9 5 ⟨g, 0, none⟩ cap l Tryd.underlying27 Tryd.underlying5 Tryd.underlying9 (fun j hj => by
    have e : (⟨g, 0, none⟩ : Addr).add j = ⟨g, j, none⟩ := by unfold Addr.add; split <;> simp_all
    rw [e]; exact h.cell hj)
theorem xor_back {x a : UInt8} (h : x ^^^ a = x) : a = 0 := by
  have h1 : x ^^^ (x ^^^ a) = x ^^^ x := by rw [h]
  rwa [← UInt8.xor_assoc, UInt8.xor_self, UInt8.zero_xor] at h1
theorem set_ne {l : List UInt8} {i : Nat} (hi : i < l.length) {a : UInt8} (ha : a ≠ 0) : l.set i (l[i] ^^^ a) ≠ l := fun e => by
  have h1 : (l.set i (l[i] ^^^ a))[i]? = l[i]? := by rw [e]
  simp [hi] at h1
  exact ha (xor_back h1)
theorem set_same {l : List UInt8} {i : Nat} (hi : i < l.length) : l.set i (l[i] ^^^ 0) = l := by
  rw [UInt8.xor_zero]; exact List.set_getElem_self hi
theorem and31 : ∀ c : Fin 256, bits .and .u8 (c.val : Int) 31 = ((c.val % 32 : Nat) : Int) := by decide +kernel
theorem bz_inj {a b : List UInt8} (h : bz a = bz b) : a = b := congrArg (fun z : ByteArray => z.data.toList) h
/-- While the changed sum is asked. -/
structure Ch (w0 : World) (gx gb : Nat) (a0 a1 : Int) (l : List UInt8) (w' : World) : Prop where
  hx : Blk w' gx 26 #[.int .u8 a0, .int .u8 a1]
  hb : BkF w' gb l
  m : w0.heap.size ≤ gx
  n : l.length = 32
  low : Below w0.heap.size w0 w'
theorem Ch.next {w0 w1 w2 : World} {gx gb : Nat} {a0 a1 : Int} {l : List UInt8} (h : Ch w0 gx gb a0 a1 l w1) (hb : Below w1.heap.size w1 w2) : Ch w0 gx gb a0 a1 l w2 :=
  ⟨h.hx.below hb h.hx.lt, h.hb.below hb h.hb.lt, h.m, h.n, h.low.trans (hb.mono h.low.size)⟩
theorem Ch.drew {w0 w1 : World} {gx gb : Nat} {a0 a1 : Int} {l : List UInt8} (h : Ch w0 gx gb a0 a1 l w1) : Ch w0 gx gb a0 a1 l w1.drew := ⟨h.hx.drew, h.hb.drew, h.m, h.n, h.low.drew⟩
theorem Ch.all {w0 w1 : World} {gx gb cap : Nat} {a0 a1 : Int} {l : List UInt8} (h : Ch w0 gx gb a0 a1 l w1) : w1.cell? ⟨gx, 1, none⟩ = some (.int .u8 a1) ∧ (convert 27 9 (.slice (some ⟨gb, 0, none⟩) 32 cap)).run Tryd.prog w1 = .ok (.string (bz l)) w1 ∧ Hid (Ch w0 gx gb a0 a1 l w1) :=
  ⟨by rw [h.hx.cell]; rfl, by have := h.hb.back cap; rwa [h.n] at this, h⟩
theorem Ch.dall {w0 w1 : World} {gx gb cap : Nat} {a0 a1 : Int} {l : List UInt8} (h : Hid (Ch w0 gx gb a0 a1 l w1)) : w1.drew.cell? ⟨gx, 1, none⟩ = some (.int .u8 a1) ∧ (convert 27 9 (.slice (some ⟨gb, 0, none⟩) 32 cap)).run Tryd.prog w1.drew = .ok (.string (bz l)) w1.drew ∧ Hid (Ch w0 gx gb a0 a1 l w1.drew) := h.out.drew.all
theorem Ch.nall {w0 w1 w2 : World} {gx gb cap : Nat} {a0 a1 : Int} {l : List UInt8} (hb : Below w1.heap.size w1 w2) (h : Hid (Ch w0 gx gb a0 a1 l w1)) : w2.cell? ⟨gx, 1, none⟩ = some (.int .u8 a1) ∧ (convert 27 9 (.slice (some ⟨gb, 0, none⟩) 32 cap)).run Tryd.prog w2 = .ok (.string (bz l)) w2 ∧ Hid (Ch w0 gx gb a0 a1 l w2) := (h.out.next hb).all
end Go.Proofs.YtbgakcnhbmodaaaDoor.mac
