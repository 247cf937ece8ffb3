/- The cells of each type among the arguments, and that what reads as a type is made of them. No condition. -/
import Derived.Test.YtkbgmdabmebdhaaDoorRows
import Derived.Test.YtkbgmdabmebdhaaDoorAid
import Derived.WalkKit
import Derived.ProofKit
import Derived.OpenShut
import Derived.ShutString
import Derived.ChangeOld
import Derived.Carry
import Derived.Deep.Slices
namespace Go.Proofs.Aid
open Go.RowKit Go.WideShapes Go.ChangeShapes

theorem okWide_array {P : Program} {W : World} {r : Reach} {b : Nat} {t e : TypeId} {n : Nat} {v : Value} (ht : P.underlying t = some (.array n e)) (h : Value.okWide P W r b t v) : ∃ cs, v = .agg cs ∧ cs.size = P.cellsOf t := by
  simp only [Value.okWide, ht] at h
  obtain ⟨cs, h1, h2, _⟩ := h
  exact ⟨cs, h1, h2⟩
theorem cells_at {w : World} {a : Addr} {k m : Nat} {cs : List Value} (h : w.cells? 0 (a.add k) m = some cs) : ∀ j u, cs[j]? = some u → w.cell? (a.add (k + j)) = some u := by
  obtain ⟨_, hl, hc⟩ := World.cells?_some h
  intro j u hu
  have hj : j < m := by
    rw [← hl]
    rcases Nat.lt_or_ge j cs.length with h | h
    · exact h
    · rw [List.getElem?_eq_none h] at hu; cases hu
  rw [← add_of_add, hc j hj, hu]
theorem block_lt {w : World} {a : Addr} {u : Value} (h : w.cell? a = some u) : a.block < w.heap.size := by
  rcases Nat.lt_or_ge a.block w.heap.size with h1 | h1
  · exact h1
  · unfold World.cell? at h
    rw [Array.getElem?_eq_none h1] at h
    simp at h
theorem flat_len {α β : Type} (F : Nat → α) (c : α → List β) (size : Nat) (hs : ∀ r, (c r).length = size) (n : Nat) : (((List.range n).map F).flatMap c).length = n * size := by
  induction n with
  | zero => simp
  | succ n ih => rw [List.range_succ, List.map_append, List.flatMap_append, List.length_append, ih]; simp [hs, Nat.succ_mul]
theorem flat_at {α β : Type} (F : Nat → α) (c : α → List β) (size : Nat) (hs : ∀ r, (c r).length = size) (n q : Nat) (u : β) (h : (((List.range n).map F).flatMap c)[q]? = some u) :
    ∃ i j, i < n ∧ q = i * size + j ∧ (c (F i))[j]? = some u := by
  induction n with
  | zero => simp at h
  | succ n ih =>
    rw [List.range_succ, List.map_append, List.flatMap_append, List.getElem?_append] at h
    split at h
    · obtain ⟨i, j, hi, hq, hu⟩ := ih h
      exact ⟨i, j, by omega, hq, hu⟩
    · rename_i hge
      rw [flat_len F c size hs] at hge h
      refine ⟨n, q - n * size, by omega, by omega, by simpa using h⟩
theorem reads_of {α : Type} {w : World} {a : Addr} {n size : Nat} {F : Nat → α} {c : α → List Value} (hsz : 0 < size) (hs : ∀ r, (c r).length = size)
    (h : ∀ i, i < n → ∀ j u, (c (F i))[j]? = some u → w.cell? (a.add (i * size + j)) = some u) : Reads w w.heap.size size (some a) n (((List.range n).map F).flatMap c) := by
  refine ⟨flat_len F c size hs n, fun hn => ⟨a, rfl, ?_, fun q u hu => ?_⟩⟩
  · have hl := hs (F 0)
    have := h 0 hn 0 ((c (F 0))[0]'(by omega)) (List.getElem?_eq_getElem (by omega))
    have hb := block_lt this
    rwa [block_of_add] at hb
  · obtain ⟨i, j, hi, rfl, hu2⟩ := flat_at F c size hs n q u hu
    exact h i hi j u hu2
theorem list3 {α : Type} {l : List α} (h : l.length = 3) : ∃ z0 z1 z2, l = [z0, z1, z2] := by
  match l, h with
  | [z0, z1, z2], _ => exact ⟨z0, z1, z2, rfl⟩
end Go.Proofs.Aid
set_option maxRecDepth 20000
namespace Go.Proofs.YtkbgmdabmebdhaaDoor
open Go.ChangeShapes Go.WideShapes Go.ChangeAt Go.RowKit Go.Proofs.Aid
set_option linter.unusedVariables false
set_option linter.unusedSimpArgs false
abbrev Opn (w : World) (t : TypeId) (cs : List Value) : Prop := ∃ (H : Type) (enc : TypeId × Value → H) (fuel : Nat) (y : DataW H × List MemPlace), DataW.trod enc Tryd.prog w 0 (fun _ => true) true fuel t cs = some y
theorem c3 : Tryd.prog.cellsOf 3 = 1 := by kernel_rfl
theorem c5 : Tryd.prog.cellsOf 5 = 1 := by kernel_rfl
theorem c9 : Tryd.prog.cellsOf 9 = 1 := by kernel_rfl
theorem c22 : Tryd.prog.cellsOf 22 = 3 := by kernel_rfl
structure R9 where
  v : ByteArray
instance : Inhabited R9 := ⟨⟨ByteArray.empty⟩⟩
def R9.cells (r : R9) : List Value := [.string r.v]
theorem R9.len (r : R9) : r.cells.length = 1 := rfl
def R9.ok (r : R9) (w : World) : Prop := r.v.size ≤ maxLen
@[reducible] def R9.val (r : R9) : Value := .string r.v
theorem o9 {w : World} {cs : List Value} (h : Opn w 9 cs) : ∃ r : R9, cs = r.cells ∧ r.ok w := by
  obtain ⟨H, enc, fuel, y, h⟩ := h
  obtain ⟨x, rfl, _, hw⟩ := DataW.trod_string Tryd.underlying9 h
  exact ⟨⟨x⟩, rfl, hw⟩
abbrev V9 (w : World) (v : Value) : Prop := ∃ r : R9, v = r.val ∧ r.ok w
theorem v9 {w : World} {v : Value} {b : Nat} (ho : Value.okWide Tryd.prog w .any b 9 v) (h : Opn w 9 v.cells.toList) : V9 w v := by
  obtain ⟨H, enc, fuel, y, h⟩ := h
  obtain ⟨d, p⟩ := y
  obtain ⟨x, rfl, hx⟩ := Go.ChangeMaps.open_string Tryd.underlying9 ho (ps := p) ⟨fuel, h⟩
  exact ⟨⟨x⟩, rfl, hx.2.2⟩
structure R22 where
  x0 : ByteArray
  x1 : ByteArray
  x2 : ByteArray
instance : Inhabited R22 := ⟨⟨ByteArray.empty, ByteArray.empty, ByteArray.empty⟩⟩
def R22.cells (r : R22) : List Value := [.string r.x0, .string r.x1, .string r.x2]
theorem R22.len (r : R22) : r.cells.length = 3 := rfl
def R22.ok (r : R22) (w : World) : Prop := r.x0.size ≤ maxLen ∧ r.x1.size ≤ maxLen ∧ r.x2.size ≤ maxLen
@[reducible] def R22.val (r : R22) : Value := .agg #[.string r.x0, .string r.x1, .string r.x2]
theorem o22 {w : World} {cs : List Value} (h : Opn w 22 cs) : ∃ r : R22, cs = r.cells ∧ r.ok w := by
  obtain ⟨H, enc, fuel, y, h⟩ := h
  obtain ⟨xs, g, _, _, hlen, hxs, hf⟩ := DataW.trod_array Tryd.underlying22 h
  rw [c22] at hlen
  obtain ⟨z0, z1, z2, rfl⟩ := list3 hlen
  have h0 := hf 0 (by decide)
  rw [List.getElem?_eq_getElem (show 0 < xs.length by rw [hxs]; decide)] at h0
  obtain ⟨r0, e0, k0⟩ := o9 (w := w) (cs := [z0]) ⟨H, enc, _, _, by simpa [c9] using h0⟩
  simp only [R9.cells, List.cons.injEq, and_true] at e0
  have h1 := hf 1 (by decide)
  rw [List.getElem?_eq_getElem (show 1 < xs.length by rw [hxs]; decide)] at h1
  obtain ⟨r1, e1, k1⟩ := o9 (w := w) (cs := [z1]) ⟨H, enc, _, _, by simpa [c9] using h1⟩
  simp only [R9.cells, List.cons.injEq, and_true] at e1
  have h2 := hf 2 (by decide)
  rw [List.getElem?_eq_getElem (show 2 < xs.length by rw [hxs]; decide)] at h2
  obtain ⟨r2, e2, k2⟩ := o9 (w := w) (cs := [z2]) ⟨H, enc, _, _, by simpa [c9] using h2⟩
  simp only [R9.cells, List.cons.injEq, and_true] at e2
  refine ⟨⟨r0.v, r1.v, r2.v⟩, by simp [R22.cells, e0, e1, e2], ⟨k0, k1, k2⟩⟩
abbrev V22 (w : World) (v : Value) : Prop := ∃ r : R22, v = r.val ∧ r.ok w
theorem v22 {w : World} {v : Value} {b : Nat} (ho : Value.okWide Tryd.prog w .any b 22 v) (h : Opn w 22 v.cells.toList) : V22 w v := by
  obtain ⟨cs, rfl, _⟩ := okWide_array Tryd.underlying22 ho
  obtain ⟨r, e, ok⟩ := o22 h
  refine ⟨r, ?_, ok⟩
  have : cs = r.cells.toArray := by rw [← e]; rfl
  rw [this]; rfl
structure R3 where
  v : Int
instance : Inhabited R3 := ⟨⟨0⟩⟩
def R3.cells (r : R3) : List Value := [.int .i64 r.v]
theorem R3.len (r : R3) : r.cells.length = 1 := rfl
def R3.ok (r : R3) (w : World) : Prop := (Lit.int .i64 r.v).wf = true
@[reducible] def R3.val (r : R3) : Value := .int .i64 r.v
theorem o3 {w : World} {cs : List Value} (h : Opn w 3 cs) : ∃ r : R3, cs = r.cells ∧ r.ok w := by
  obtain ⟨H, enc, fuel, y, h⟩ := h
  obtain ⟨x, rfl, _, hw⟩ := DataW.trod_int Tryd.underlying3 h
  exact ⟨⟨x⟩, rfl, hw⟩
abbrev V3 (w : World) (v : Value) : Prop := ∃ r : R3, v = r.val ∧ r.ok w
theorem v3 {w : World} {v : Value} {b : Nat} (ho : Value.okWide Tryd.prog w .any b 3 v) (h : Opn w 3 v.cells.toList) : V3 w v := by
  obtain ⟨H, enc, fuel, y, h⟩ := h
  obtain ⟨d, p⟩ := y
  obtain ⟨x, rfl, hx⟩ := open_int Tryd.underlying3 ho (ps := p) ⟨fuel, h⟩
  exact ⟨⟨x⟩, rfl, hx.2.2⟩
structure R5 where
  v : Int
instance : Inhabited R5 := ⟨⟨0⟩⟩
def R5.cells (r : R5) : List Value := [.int .u8 r.v]
theorem R5.len (r : R5) : r.cells.length = 1 := rfl
def R5.ok (r : R5) (w : World) : Prop := (Lit.int .u8 r.v).wf = true
@[reducible] def R5.val (r : R5) : Value := .int .u8 r.v
theorem o5 {w : World} {cs : List Value} (h : Opn w 5 cs) : ∃ r : R5, cs = r.cells ∧ r.ok w := by
  obtain ⟨H, enc, fuel, y, h⟩ := h
  obtain ⟨x, rfl, _, hw⟩ := DataW.trod_int Tryd.underlying5 h
  exact ⟨⟨x⟩, rfl, hw⟩
abbrev V5 (w : World) (v : Value) : Prop := ∃ r : R5, v = r.val ∧ r.ok w
theorem v5 {w : World} {v : Value} {b : Nat} (ho : Value.okWide Tryd.prog w .any b 5 v) (h : Opn w 5 v.cells.toList) : V5 w v := by
  obtain ⟨H, enc, fuel, y, h⟩ := h
  obtain ⟨d, p⟩ := y
  obtain ⟨x, rfl, hx⟩ := open_int Tryd.underlying5 ho (ps := p) ⟨fuel, h⟩
  exact ⟨⟨x⟩, rfl, hx.2.2⟩
end Go.Proofs.YtkbgmdabmebdhaaDoor
