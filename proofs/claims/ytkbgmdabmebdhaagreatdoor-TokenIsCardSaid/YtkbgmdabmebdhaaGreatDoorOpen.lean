/- The cells of each type among the arguments, and that what reads as a type is made of them. No condition. -/
import Derived.Test.YtkbgmdabmebdhaaGreatDoorRows
import Derived.Test.YtkbgmdabmebdhaaGreatDoorAid
import Derived.WalkKit
import Derived.ProofKit
import Derived.OpenShut
import Derived.ShutString
import Derived.ChangeOld
import Derived.Carry
import Derived.Deep.Slices
namespace Go.Proofs.Aid
open Go.RowKit Go.WideShapes Go.ChangeShapes

theorem okWide_array {P : Program} {W : World} {r : Reach} {b : Nat} {t e : TypeId} {n : Nat} {v : Value} (ht : P.underlying t = some (.array n e)) (h : Value.okWide P W r b t v) : ∃ cs, v = .agg cs ∧ cs.size = P.cellsOf t := by
  simp only [Value.okWide, ht] at h
  obtain ⟨cs, h1, h2, _⟩ := h
  exact ⟨cs, h1, h2⟩
theorem cells_at {w : World} {a : Addr} {k m : Nat} {cs : List Value} (h : w.cells? 0 (a.add k) m = some cs) : ∀ j u, cs[j]? = some u → w.cell? (a.add (k + j)) = some u := by
  obtain ⟨_, hl, hc⟩ := World.cells?_some h
  intro j u hu
  have hj : j < m := by
    rw [← hl]
    rcases Nat.lt_or_ge j cs.length with h | h
    · exact h
    · rw [List.getElem?_eq_none h] at hu; cases hu
  rw [← add_of_add, hc j hj, hu]
theorem block_lt {w : World} {a : Addr} {u : Value} (h : w.cell? a = some u) : a.block < w.heap.size := by
  rcases Nat.lt_or_ge a.block w.heap.size with h1 | h1
  · exact h1
  · unfold World.cell? at h
    rw [Array.getElem?_eq_none h1] at h
    simp at h
theorem flat_len {α β : Type} (F : Nat → α) (c : α → List β) (size : Nat) (hs : ∀ r, (c r).length = size) (n : Nat) : (((List.range n).map F).flatMap c).length = n * size := by
  induction n with
  | zero => simp
  | succ n ih => rw [List.range_succ, List.map_append, List.flatMap_append, List.length_append, ih]; simp [hs, Nat.succ_mul]
theorem flat_at {α β : Type} (F : Nat → α) (c : α → List β) (size : Nat) (hs : ∀ r, (c r).length = size) (n q : Nat) (u : β) (h : (((List.range n).map F).flatMap c)[q]? = some u) :
    ∃ i j, i < n ∧ q = i * size + j ∧ (c (F i))[j]? = some u := by
  induction n with
  | zero => simp at h
  | succ n ih =>
    rw [List.range_succ, List.map_append, List.flatMap_append, List.getElem?_append] at h
    split at h
    · obtain ⟨i, j, hi, hq, hu⟩ := ih h
      exact ⟨i, j, by omega, hq, hu⟩
    · rename_i hge
      rw [flat_len F c size hs] at hge h
      refine ⟨n, q - n * size, by omega, by omega, by simpa using h⟩
theorem reads_of {α : Type} {w : World} {a : Addr} {n size : Nat} {F : Nat → α} {c : α → List Value} (hsz : 0 < size) (hs : ∀ r, (c r).length = size)
    (h : ∀ i, i < n → ∀ j u, (c (F i))[j]? = some u → w.cell? (a.add (i * size + j)) = some u) : Reads w w.heap.size size (some a) n (((List.range n).map F).flatMap c) := by
  refine ⟨flat_len F c size hs n, fun hn => ⟨a, rfl, ?_, fun q u hu => ?_⟩⟩
  · have hl := hs (F 0)
    have := h 0 hn 0 ((c (F 0))[0]'(by omega)) (List.getElem?_eq_getElem (by omega))
    have hb := block_lt this
    rwa [block_of_add] at hb
  · obtain ⟨i, j, hi, rfl, hu2⟩ := flat_at F c size hs n q u hu
    exact h i hi j u hu2
theorem list2 {α : Type} {l : List α} (h : l.length = 2) : ∃ z0 z1, l = [z0, z1] := by
  match l, h with
  | [z0, z1], _ => exact ⟨z0, z1, rfl⟩
theorem list3 {α : Type} {l : List α} (h : l.length = 3) : ∃ z0 z1 z2, l = [z0, z1, z2] := by
  match l, h with
  | [z0, z1, z2], _ => exact ⟨z0, z1, z2, rfl⟩
theorem list4 {α : Type} {l : List α} (h : l.length = 4) : ∃ z0 z1 z2 z3, l = [z0, z1, z2, z3] := by
  match l, h with
  | [z0, z1, z2, z3], _ => exact ⟨z0, z1, z2, z3, rfl⟩
end Go.Proofs.Aid
set_option maxRecDepth 20000
namespace Go.Proofs.YtkbgmdabmebdhaaGreatDoor
open Go.ChangeShapes Go.WideShapes Go.ChangeAt Go.RowKit Go.Proofs.Aid
set_option linter.unusedVariables false
set_option linter.unusedSimpArgs false
abbrev Opn (w : World) (t : TypeId) (cs : List Value) : Prop := ∃ (H : Type) (enc : TypeId × Value → H) (fuel : Nat) (y : DataW H × List MemPlace), DataW.trod enc Tryz.prog w 0 (fun _ => true) true fuel t cs = some y
theorem c3 : Tryz.prog.cellsOf 3 = 1 := by kernel_rfl
theorem c9 : Tryz.prog.cellsOf 9 = 1 := by kernel_rfl
theorem c22 : Tryz.prog.cellsOf 22 = 1 := by kernel_rfl
theorem c23 : Tryz.prog.cellsOf 23 = 3 := by kernel_rfl
theorem c24 : Tryz.prog.cellsOf 24 = 2 := by kernel_rfl
theorem c35 : Tryz.prog.cellsOf 35 = 3 := by kernel_rfl
theorem c37 : Tryz.prog.cellsOf 37 = 4 := by kernel_rfl
structure R9 where
  v : ByteArray
instance : Inhabited R9 := ⟨⟨ByteArray.empty⟩⟩
def R9.cells (r : R9) : List Value := [.string r.v]
theorem R9.len (r : R9) : r.cells.length = 1 := rfl
def R9.ok (r : R9) (w : World) : Prop := r.v.size ≤ maxLen
@[reducible] def R9.val (r : R9) : Value := .string r.v
theorem o9 {w : World} {cs : List Value} (h : Opn w 9 cs) : ∃ r : R9, cs = r.cells ∧ r.ok w := by
  obtain ⟨H, enc, fuel, y, h⟩ := h
  obtain ⟨x, rfl, _, hw⟩ := DataW.trod_string Tryz.underlying9 h
  exact ⟨⟨x⟩, rfl, hw⟩
abbrev V9 (w : World) (v : Value) : Prop := ∃ r : R9, v = r.val ∧ r.ok w
theorem v9 {w : World} {v : Value} {b : Nat} (ho : Value.okWide Tryz.prog w .any b 9 v) (h : Opn w 9 v.cells.toList) : V9 w v := by
  obtain ⟨H, enc, fuel, y, h⟩ := h
  obtain ⟨d, p⟩ := y
  obtain ⟨x, rfl, hx⟩ := Go.ChangeMaps.open_string Tryz.underlying9 ho (ps := p) ⟨fuel, h⟩
  exact ⟨⟨x⟩, rfl, hx.2.2⟩
structure R3 where
  v : Int
instance : Inhabited R3 := ⟨⟨0⟩⟩
def R3.cells (r : R3) : List Value := [.int .i64 r.v]
theorem R3.len (r : R3) : r.cells.length = 1 := rfl
def R3.ok (r : R3) (w : World) : Prop := (Lit.int .i64 r.v).wf = true
@[reducible] def R3.val (r : R3) : Value := .int .i64 r.v
theorem o3 {w : World} {cs : List Value} (h : Opn w 3 cs) : ∃ r : R3, cs = r.cells ∧ r.ok w := by
  obtain ⟨H, enc, fuel, y, h⟩ := h
  obtain ⟨x, rfl, _, hw⟩ := DataW.trod_int Tryz.underlying3 h
  exact ⟨⟨x⟩, rfl, hw⟩
abbrev V3 (w : World) (v : Value) : Prop := ∃ r : R3, v = r.val ∧ r.ok w
theorem v3 {w : World} {v : Value} {b : Nat} (ho : Value.okWide Tryz.prog w .any b 3 v) (h : Opn w 3 v.cells.toList) : V3 w v := by
  obtain ⟨H, enc, fuel, y, h⟩ := h
  obtain ⟨d, p⟩ := y
  obtain ⟨x, rfl, hx⟩ := open_int Tryz.underlying3 ho (ps := p) ⟨fuel, h⟩
  exact ⟨⟨x⟩, rfl, hx.2.2⟩
structure R35 where
  n : Int
  by_ : ByteArray
  value : ByteArray
instance : Inhabited R35 := ⟨⟨0, ByteArray.empty, ByteArray.empty⟩⟩
def R35.cells (r : R35) : List Value := [.int .i64 r.n, .string r.by_, .string r.value]
theorem R35.len (r : R35) : r.cells.length = 3 := rfl
def R35.ok (r : R35) (w : World) : Prop := (Lit.int .i64 r.n).wf = true ∧ r.by_.size ≤ maxLen ∧ r.value.size ≤ maxLen
@[reducible] def R35.val (r : R35) : Value := .agg #[.int .i64 r.n, .string r.by_, .string r.value]
theorem o35 {w : World} {cs : List Value} (h : Opn w 35 cs) : ∃ r : R35, cs = r.cells ∧ r.ok w := by
  obtain ⟨H, enc, fuel, y, h⟩ := h
  obtain ⟨xs, g, _, _, hlen, hxs, hf⟩ := DataW.trod_struct Tryz.underlying35 h
  rw [c35] at hlen
  obtain ⟨z0, z1, z2, rfl⟩ := list3 hlen
  have h0 := hf 0 _ rfl
  rw [List.getElem?_eq_getElem (show 0 < xs.length by rw [hxs]; decide)] at h0
  obtain ⟨r0, e0, k0⟩ := o3 (w := w) (cs := [z0]) ⟨H, enc, _, _, by simpa [c3] using h0⟩
  simp only [R3.cells, List.cons.injEq, and_true] at e0
  have h1 := hf 1 _ rfl
  rw [List.getElem?_eq_getElem (show 1 < xs.length by rw [hxs]; decide)] at h1
  obtain ⟨r1, e1, k1⟩ := o9 (w := w) (cs := [z1]) ⟨H, enc, _, _, by simpa [c9] using h1⟩
  simp only [R9.cells, List.cons.injEq, and_true] at e1
  have h2 := hf 2 _ rfl
  rw [List.getElem?_eq_getElem (show 2 < xs.length by rw [hxs]; decide)] at h2
  obtain ⟨r2, e2, k2⟩ := o9 (w := w) (cs := [z2]) ⟨H, enc, _, _, by simpa [c9] using h2⟩
  simp only [R9.cells, List.cons.injEq, and_true] at e2
  refine ⟨⟨r0.v, r1.v, r2.v⟩, by simp [R35.cells, e0, e1, e2], ⟨k0, k1, k2⟩⟩
abbrev V35 (w : World) (v : Value) : Prop := ∃ r : R35, v = r.val ∧ r.ok w
theorem v35 {w : World} {v : Value} {b : Nat} (ho : Value.okWide Tryz.prog w .any b 35 v) (h : Opn w 35 v.cells.toList) : V35 w v := by
  obtain ⟨cs, rfl, _⟩ := okWide_struct Tryz.underlying35 ho
  obtain ⟨r, e, ok⟩ := o35 h
  refine ⟨r, ?_, ok⟩
  have : cs = r.cells.toArray := by rw [← e]; rfl
  rw [this]; rfl
structure R37 where
  key_ : ByteArray
  regN : Int
  regBy : ByteArray
  regValue : ByteArray
instance : Inhabited R37 := ⟨⟨ByteArray.empty, 0, ByteArray.empty, ByteArray.empty⟩⟩
def R37.cells (r : R37) : List Value := [.string r.key_, .int .i64 r.regN, .string r.regBy, .string r.regValue]
theorem R37.len (r : R37) : r.cells.length = 4 := rfl
def R37.ok (r : R37) (w : World) : Prop := r.key_.size ≤ maxLen ∧ (Lit.int .i64 r.regN).wf = true ∧ r.regBy.size ≤ maxLen ∧ r.regValue.size ≤ maxLen
@[reducible] def R37.val (r : R37) : Value := .agg #[.string r.key_, .int .i64 r.regN, .string r.regBy, .string r.regValue]
theorem o37 {w : World} {cs : List Value} (h : Opn w 37 cs) : ∃ r : R37, cs = r.cells ∧ r.ok w := by
  obtain ⟨H, enc, fuel, y, h⟩ := h
  obtain ⟨xs, g, _, _, hlen, hxs, hf⟩ := DataW.trod_struct Tryz.underlying37 h
  rw [c37] at hlen
  obtain ⟨z0, z1, z2, z3, rfl⟩ := list4 hlen
  have h0 := hf 0 _ rfl
  rw [List.getElem?_eq_getElem (show 0 < xs.length by rw [hxs]; decide)] at h0
  obtain ⟨r0, e0, k0⟩ := o9 (w := w) (cs := [z0]) ⟨H, enc, _, _, by simpa [c9] using h0⟩
  simp only [R9.cells, List.cons.injEq, and_true] at e0
  have h1 := hf 1 _ rfl
  rw [List.getElem?_eq_getElem (show 1 < xs.length by rw [hxs]; decide)] at h1
  obtain ⟨r1, e1, k1⟩ := o35 (w := w) (cs := [z1, z2, z3]) ⟨H, enc, _, _, by simpa [c35] using h1⟩
  simp only [R35.cells, List.cons.injEq, and_true] at e1
  refine ⟨⟨r0.v, r1.n, r1.by_, r1.value⟩, by simp [R37.cells, e0, e1], ⟨k0, k1.1, k1.2.1, k1.2.2⟩⟩
abbrev V37 (w : World) (v : Value) : Prop := ∃ r : R37, v = r.val ∧ r.ok w
theorem v37 {w : World} {v : Value} {b : Nat} (ho : Value.okWide Tryz.prog w .any b 37 v) (h : Opn w 37 v.cells.toList) : V37 w v := by
  obtain ⟨cs, rfl, _⟩ := okWide_struct Tryz.underlying37 ho
  obtain ⟨r, e, ok⟩ := o37 h
  refine ⟨r, ?_, ok⟩
  have : cs = r.cells.toArray := by rw [← e]; rfl
  rw [this]; rfl
/-- type 22: a slice of 37 -/
theorem s22 {w : World} {v : Value} (h : Opn w 22 [v]) : ∃ (a : Option Addr) (n cap : Nat) (rs : List R37), v = .slice a n cap ∧ n ≤ cap ∧ cap ≤ maxLen ∧ rs.length = n ∧ Reads w w.heap.size 4 a n (rs.flatMap R37.cells) ∧ ∀ r ∈ rs, r.ok w := by
  obtain ⟨H, enc, fuel, y, h⟩ := h
  rcases Go.Deep.open_slice Tryz.underlying22 h with ⟨hc, _⟩ | ⟨a, n, cap, m, g, D, Pl, hc, _, hl, hm, hmm, _, hi⟩
  · injection hc with hc; subst hc
    exact ⟨none, 0, 0, [], rfl, Nat.le_refl _, Nat.zero_le _, rfl, Reads.none_, fun r hr => by cases hr⟩
  · injection hc with hc; subst hc
    simp at hmm; subst hmm
    obtain ⟨F, hF⟩ := Go.Deep.choose_lt (α := R37) (n := n) (p := fun i r => (∀ j u, r.cells[j]? = some u → w.cell? (a.add (i * 4 + j)) = some u) ∧ r.ok w) (fun i hin => by
      obtain ⟨cs', h1, h2⟩ := hi i (by omega)
      obtain ⟨r, rfl, ok⟩ := o37 ⟨H, enc, _, _, h2⟩
      refine ⟨r, ?_, ok⟩
      rw [c37] at h1
      exact cells_at h1)
    refine ⟨some a, n, _, (List.range n).map F, rfl, hl, hm, by simp, reads_of (size := 4) (by decide) (fun r => R37.len r) (fun i hin => (hF i hin).1), fun r hr => ?_⟩
    obtain ⟨i, hin, rfl⟩ := List.mem_map.1 hr
    exact (hF i (by simpa using hin)).2
abbrev V22 (w : World) (v : Value) : Prop := Opn w 22 [v]
theorem v22 {w : World} {v : Value} {b : Nat} (ho : Value.okWide Tryz.prog w .any b 22 v) (h : Opn w 22 v.cells.toList) : V22 w v := by
  obtain ⟨a, l, c, rfl⟩ := okWide_slice Tryz.underlying22 ho
  simpa [Value.cells] using h
structure R22 where
  v : Value
instance : Inhabited R22 := ⟨⟨.nilIface⟩⟩
def R22.cells (r : R22) : List Value := [r.v]
theorem R22.len (r : R22) : r.cells.length = 1 := rfl
def R22.ok (r : R22) (w : World) : Prop := Opn w 22 [r.v]
theorem o22 {w : World} {cs : List Value} (h : Opn w 22 cs) : ∃ r : R22, cs = r.cells ∧ r.ok w := by
  have h' := h
  obtain ⟨H, enc, fuel, y, h⟩ := h
  rcases Go.Deep.open_slice Tryz.underlying22 h with ⟨rfl, _⟩ | ⟨a, n, cap, m, g, D, Pl, rfl, _⟩
  · exact ⟨⟨_⟩, rfl, h'⟩
  · exact ⟨⟨_⟩, rfl, h'⟩
structure R23 where
  x0 : ByteArray
  x1 : ByteArray
  x2 : ByteArray
instance : Inhabited R23 := ⟨⟨ByteArray.empty, ByteArray.empty, ByteArray.empty⟩⟩
def R23.cells (r : R23) : List Value := [.string r.x0, .string r.x1, .string r.x2]
theorem R23.len (r : R23) : r.cells.length = 3 := rfl
def R23.ok (r : R23) (w : World) : Prop := r.x0.size ≤ maxLen ∧ r.x1.size ≤ maxLen ∧ r.x2.size ≤ maxLen
@[reducible] def R23.val (r : R23) : Value := .agg #[.string r.x0, .string r.x1, .string r.x2]
theorem o23 {w : World} {cs : List Value} (h : Opn w 23 cs) : ∃ r : R23, cs = r.cells ∧ r.ok w := by
  obtain ⟨H, enc, fuel, y, h⟩ := h
  obtain ⟨xs, g, _, _, hlen, hxs, hf⟩ := DataW.trod_array Tryz.underlying23 h
  rw [c23] at hlen
  obtain ⟨z0, z1, z2, rfl⟩ := list3 hlen
  have h0 := hf 0 (by decide)
  rw [List.getElem?_eq_getElem (show 0 < xs.length by rw [hxs]; decide)] at h0
  obtain ⟨r0, e0, k0⟩ := o9 (w := w) (cs := [z0]) ⟨H, enc, _, _, by simpa [c9] using h0⟩
  simp only [R9.cells, List.cons.injEq, and_true] at e0
  have h1 := hf 1 (by decide)
  rw [List.getElem?_eq_getElem (show 1 < xs.length by rw [hxs]; decide)] at h1
  obtain ⟨r1, e1, k1⟩ := o9 (w := w) (cs := [z1]) ⟨H, enc, _, _, by simpa [c9] using h1⟩
  simp only [R9.cells, List.cons.injEq, and_true] at e1
  have h2 := hf 2 (by decide)
  rw [List.getElem?_eq_getElem (show 2 < xs.length by rw [hxs]; decide)] at h2
  obtain ⟨r2, e2, k2⟩ := o9 (w := w) (cs := [z2]) ⟨H, enc, _, _, by simpa [c9] using h2⟩
  simp only [R9.cells, List.cons.injEq, and_true] at e2
  refine ⟨⟨r0.v, r1.v, r2.v⟩, by simp [R23.cells, e0, e1, e2], ⟨k0, k1, k2⟩⟩
abbrev V23 (w : World) (v : Value) : Prop := ∃ r : R23, v = r.val ∧ r.ok w
theorem v23 {w : World} {v : Value} {b : Nat} (ho : Value.okWide Tryz.prog w .any b 23 v) (h : Opn w 23 v.cells.toList) : V23 w v := by
  obtain ⟨cs, rfl, _⟩ := okWide_array Tryz.underlying23 ho
  obtain ⟨r, e, ok⟩ := o23 h
  refine ⟨r, ?_, ok⟩
  have : cs = r.cells.toArray := by rw [← e]; rfl
  rw [this]; rfl
structure R24 where
  x0 : Int
  x1 : Int
instance : Inhabited R24 := ⟨⟨0, 0⟩⟩
def R24.cells (r : R24) : List Value := [.int .i64 r.x0, .int .i64 r.x1]
theorem R24.len (r : R24) : r.cells.length = 2 := rfl
def R24.ok (r : R24) (w : World) : Prop := (Lit.int .i64 r.x0).wf = true ∧ (Lit.int .i64 r.x1).wf = true
@[reducible] def R24.val (r : R24) : Value := .agg #[.int .i64 r.x0, .int .i64 r.x1]
theorem o24 {w : World} {cs : List Value} (h : Opn w 24 cs) : ∃ r : R24, cs = r.cells ∧ r.ok w := by
  obtain ⟨H, enc, fuel, y, h⟩ := h
  obtain ⟨xs, g, _, _, hlen, hxs, hf⟩ := DataW.trod_array Tryz.underlying24 h
  rw [c24] at hlen
  obtain ⟨z0, z1, rfl⟩ := list2 hlen
  have h0 := hf 0 (by decide)
  rw [List.getElem?_eq_getElem (show 0 < xs.length by rw [hxs]; decide)] at h0
  obtain ⟨r0, e0, k0⟩ := o3 (w := w) (cs := [z0]) ⟨H, enc, _, _, by simpa [c3] using h0⟩
  simp only [R3.cells, List.cons.injEq, and_true] at e0
  have h1 := hf 1 (by decide)
  rw [List.getElem?_eq_getElem (show 1 < xs.length by rw [hxs]; decide)] at h1
  obtain ⟨r1, e1, k1⟩ := o3 (w := w) (cs := [z1]) ⟨H, enc, _, _, by simpa [c3] using h1⟩
  simp only [R3.cells, List.cons.injEq, and_true] at e1
  refine ⟨⟨r0.v, r1.v⟩, by simp [R24.cells, e0, e1], ⟨k0, k1⟩⟩
abbrev V24 (w : World) (v : Value) : Prop := ∃ r : R24, v = r.val ∧ r.ok w
theorem v24 {w : World} {v : Value} {b : Nat} (ho : Value.okWide Tryz.prog w .any b 24 v) (h : Opn w 24 v.cells.toList) : V24 w v := by
  obtain ⟨cs, rfl, _⟩ := okWide_array Tryz.underlying24 ho
  obtain ⟨r, e, ok⟩ := o24 h
  refine ⟨r, ?_, ok⟩
  have : cs = r.cells.toArray := by rw [← e]; rfl
  rw [this]; rfl
end Go.Proofs.YtkbgmdabmebdhaaGreatDoor
