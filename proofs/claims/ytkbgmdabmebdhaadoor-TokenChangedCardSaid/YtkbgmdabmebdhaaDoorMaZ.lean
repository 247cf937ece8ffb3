/- A row of bytes that came of a string, a byte of it changed: plain words; for seats without mac's law. -/
import Derived.Test.YtkbgmdabmebdhaaDoorMaY
import Derived.Laws.IdiomStrings
namespace Go.Proofs.YtkbgmdabmebdhaaDoor.mac
open Go.ChangeShapes Go.WideShapes Go.ChangeAt Go.RowKit Go.Proofs.Aid
open Go.Proofs.YtkbgmdabmebdhaaDoor.oc (be be_length bz bz_append)
open Go.Proofs.YtkbgmdabmebdhaaDoor.sha
set_option linter.unusedVariables false
/-- A row of bytes whose mark lies behind its bytes. -/
def BkF (w : World) (g : Nat) (l : List UInt8) : Prop := ∃ (cs : Array Value) (fz : Nat × Nat), w.heap[g]? = some (.cells cs 5 fz) ∧ l.length ≤ fz.1 ∧ l.length ≤ cs.size ∧ ∀ i (h : i < l.length), cs[i]? = some (.int .u8 ((l[i]).toNat : Int))
section
variable {w w' : World} {g : Nat} {l : List UInt8}
theorem BkF.lt (h : BkF w g l) : g < w.heap.size := by
  obtain ⟨cs, fz, hh, _⟩ := h
  rcases Nat.lt_or_ge g w.heap.size with hlt | hge
  · exact hlt
  · rw [Array.getElem?_eq_none hge] at hh; cases hh
theorem BkF.cell (h : BkF w g l) {i : Nat} (hi : i < l.length) : w.cell? ⟨g, i, none⟩ = some (.int .u8 ((l[i]).toNat : Int)) := by
  obtain ⟨cs, fz, hh, _, _, hc⟩ := h
  rw [cell_of_row w g i cs _ fz hh]
  exact hc i hi
theorem BkF.frozen (h : BkF w g l) {i : Nat} (hi : i < l.length) : w.frozen? ⟨g, i, none⟩ = false := by
  obtain ⟨cs, fz, hh, hf, _, _⟩ := h
  obtain ⟨a, b⟩ := fz
  simp only at hf
  simp [World.frozen?, hh]
  omega
theorem BkF.below {B : Nat} (h : BkF w g l) (hb : Below B w w') (hg : g < B) : BkF w' g l := by
  obtain ⟨cs, fz, hh, r⟩ := h
  exact ⟨cs, fz, (hb.block g hg).trans hh, r⟩
theorem BkF.drew (h : BkF w g l) : BkF w.drew g l := h
theorem BkF.set_ (h : BkF w g l) {i : Nat} (hi : i < l.length) (y : UInt8) : BkF (w.setCell ⟨g, i, none⟩ (.int .u8 (y.toNat : Int))) g (l.set i y) := by
  obtain ⟨cs, fz, hh, hf, hs, hc⟩ := h
  refine ⟨cs.setIfInBounds i (.int .u8 (y.toNat : Int)), fz, by simp [World.setCell, Array.getElem?_modify, hh], by simpa using hf, by simpa using hs, fun j hj => ?_⟩
  have hj2 : j < l.length := by simpa using hj
  rw [Array.getElem?_setIfInBounds]
  by_cases e : i = j
  · subst e
    simp [show i < cs.size by omega]
  · rw [if_neg e, hc j hj2]
    simp [e]
end
theorem BkF.conv {w : World} (s : ByteArray) (cap : Nat) (fz : Nat × Nat) (hf : s.size ≤ fz.1) : BkF (w.alloc (.cells (bytesRow s cap) 5 fz)) w.heap.size s.data.toList := by
  refine ⟨bytesRow s cap, fz, heap_alloc_new w _, by simpa using hf, ?_, fun i hi => ?_⟩
  · rw [bytesRow, Array.size_append]; simp
  · have hi2 : i < s.data.size := by simpa using hi
    rw [bytesRow, Array.getElem?_append_left (by simpa using hi), Array.getElem?_map, Array.getElem?_eq_getElem hi2]
    simp
theorem BkF.back {w : World} {g : Nat} {l : List UInt8} (h : BkF w g l) (cap : Nat) : (convert 32 9 (.slice (some ⟨g, 0, none⟩) l.length cap)).run Tryd.prog w = .ok (.string (bz l)) w :=
  run_convert_bytes_back (P := Tryd.prog) w 32 9 5 ⟨g, 0, none⟩ cap l Tryd.underlying32 Tryd.underlying5 Tryd.underlying9 (fun j hj => by
    have e : (⟨g, 0, none⟩ : Addr).add j = ⟨g, j, none⟩ := by unfold Addr.add; split <;> simp_all
    rw [e]; exact h.cell hj)
theorem xor_back {x a : UInt8} (h : x ^^^ a = x) : a = 0 := by
  have h1 : x ^^^ (x ^^^ a) = x ^^^ x := by rw [h]
  rwa [← UInt8.xor_assoc, UInt8.xor_self, UInt8.zero_xor] at h1
theorem set_ne {l : List UInt8} {i : Nat} (hi : i < l.length) {a : UInt8} (ha : a ≠ 0) : l.set i (l[i] ^^^ a) ≠ l := fun e => by
  have h1 : (l.set i (l[i] ^^^ a))[i]? = l[i]? := by rw [e]
  simp [hi] at h1
  exact ha (xor_back h1)
theorem set_same {l : List UInt8} {i : Nat} (hi : i < l.length) : l.set i (l[i] ^^^ 0) = l := by
  rw [UInt8.xor_zero]; exact List.set_getElem_self hi
theorem and31 : ∀ c : Fin 256, bits .and .u8 (c.val : Int) 31 = ((c.val % 32 : Nat) : Int) := by decide +kernel
theorem bz_inj {a b : List UInt8} (h : bz a = bz b) : a = b := congrArg (fun z : ByteArray => z.data.toList) h
theorem u8_in {b : Int} (h : (Lit.int .u8 b).wf = true) : 0 ≤ b ∧ b ≤ 255 := by
  simpa [Lit.wf, IntKind.min, IntKind.max, IntKind.signed, IntKind.bits] using h
end Go.Proofs.YtkbgmdabmebdhaaDoor.mac
