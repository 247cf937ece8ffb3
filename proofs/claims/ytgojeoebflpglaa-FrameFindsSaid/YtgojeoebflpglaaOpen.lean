/- The cells of each type among the arguments, and that what reads as a type is made of them. No condition. -/
import Derived.Test.YtgojeoebflpglaaRows
import Derived.Test.YtgojeoebflpglaaAid
import Derived.WalkKit
import Derived.ProofKit
import Derived.OpenShut
import Derived.ShutString
import Derived.ChangeOld
import Derived.Carry
import Derived.Deep.Slices
namespace Go.Proofs.Aid
open Go.RowKit Go.WideShapes Go.ChangeShapes

theorem okWide_array {P : Program} {W : World} {r : Reach} {b : Nat} {t e : TypeId} {n : Nat} {v : Value} (ht : P.underlying t = some (.array n e)) (h : Value.okWide P W r b t v) : ∃ cs, v = .agg cs ∧ cs.size = P.cellsOf t := by
  simp only [Value.okWide, ht] at h
  obtain ⟨cs, h1, h2, _⟩ := h
  exact ⟨cs, h1, h2⟩
theorem cells_at {w : World} {a : Addr} {k m : Nat} {cs : List Value} (h : w.cells? 0 (a.add k) m = some cs) : ∀ j u, cs[j]? = some u → w.cell? (a.add (k + j)) = some u := by
  obtain ⟨_, hl, hc⟩ := World.cells?_some h
  intro j u hu
  have hj : j < m := by
    rw [← hl]
    rcases Nat.lt_or_ge j cs.length with h | h
    · exact h
    · rw [List.getElem?_eq_none h] at hu; cases hu
  rw [← add_of_add, hc j hj, hu]
theorem block_lt {w : World} {a : Addr} {u : Value} (h : w.cell? a = some u) : a.block < w.heap.size := by
  rcases Nat.lt_or_ge a.block w.heap.size with h1 | h1
  · exact h1
  · unfold World.cell? at h
    rw [Array.getElem?_eq_none h1] at h
    simp at h
theorem flat_len {α β : Type} (F : Nat → α) (c : α → List β) (size : Nat) (hs : ∀ r, (c r).length = size) (n : Nat) : (((List.range n).map F).flatMap c).length = n * size := by
  induction n with
  | zero => simp
  | succ n ih => rw [List.range_succ, List.map_append, List.flatMap_append, List.length_append, ih]; simp [hs, Nat.succ_mul]
theorem flat_at {α β : Type} (F : Nat → α) (c : α → List β) (size : Nat) (hs : ∀ r, (c r).length = size) (n q : Nat) (u : β) (h : (((List.range n).map F).flatMap c)[q]? = some u) :
    ∃ i j, i < n ∧ q = i * size + j ∧ (c (F i))[j]? = some u := by
  induction n with
  | zero => simp at h
  | succ n ih =>
    rw [List.range_succ, List.map_append, List.flatMap_append, List.getElem?_append] at h
    split at h
    · obtain ⟨i, j, hi, hq, hu⟩ := ih h
      exact ⟨i, j, by omega, hq, hu⟩
    · rename_i hge
      rw [flat_len F c size hs] at hge h
      refine ⟨n, q - n * size, by omega, by omega, by simpa using h⟩
theorem reads_of {α : Type} {w : World} {a : Addr} {n size : Nat} {F : Nat → α} {c : α → List Value} (hsz : 0 < size) (hs : ∀ r, (c r).length = size)
    (h : ∀ i, i < n → ∀ j u, (c (F i))[j]? = some u → w.cell? (a.add (i * size + j)) = some u) : Reads w w.heap.size size (some a) n (((List.range n).map F).flatMap c) := by
  refine ⟨flat_len F c size hs n, fun hn => ⟨a, rfl, ?_, fun q u hu => ?_⟩⟩
  · have hl := hs (F 0)
    have := h 0 hn 0 ((c (F 0))[0]'(by omega)) (List.getElem?_eq_getElem (by omega))
    have hb := block_lt this
    rwa [block_of_add] at hb
  · obtain ⟨i, j, hi, rfl, hu2⟩ := flat_at F c size hs n q u hu
    exact h i hi j u hu2
theorem list2 {α : Type} {l : List α} (h : l.length = 2) : ∃ z0 z1, l = [z0, z1] := by
  match l, h with
  | [z0, z1], _ => exact ⟨z0, z1, rfl⟩
end Go.Proofs.Aid
set_option maxRecDepth 20000
namespace Go.Proofs.Ytgojeoebflpglaa
open Go.ChangeShapes Go.WideShapes Go.ChangeAt Go.RowKit Go.Proofs.Aid
set_option linter.unusedVariables false
set_option linter.unusedSimpArgs false
abbrev Opn (w : World) (t : TypeId) (cs : List Value) : Prop := ∃ (H : Type) (enc : TypeId × Value → H) (fuel : Nat) (y : DataW H × List MemPlace), DataW.trod enc Try.prog w 0 (fun _ => true) true fuel t cs = some y
theorem c9 : Try.prog.cellsOf 9 = 1 := by kernel_rfl
theorem c22 : Try.prog.cellsOf 22 = 1 := by kernel_rfl
theorem c31 : Try.prog.cellsOf 31 = 1 := by kernel_rfl
theorem c33 : Try.prog.cellsOf 33 = 2 := by kernel_rfl
theorem c34 : Try.prog.cellsOf 34 = 1 := by kernel_rfl
structure R9 where
  v : ByteArray
instance : Inhabited R9 := ⟨⟨ByteArray.empty⟩⟩
def R9.cells (r : R9) : List Value := [.string r.v]
theorem R9.len (r : R9) : r.cells.length = 1 := rfl
def R9.ok (r : R9) (w : World) : Prop := r.v.size ≤ maxLen
@[reducible] def R9.val (r : R9) : Value := .string r.v
theorem o9 {w : World} {cs : List Value} (h : Opn w 9 cs) : ∃ r : R9, cs = r.cells ∧ r.ok w := by
  obtain ⟨H, enc, fuel, y, h⟩ := h
  obtain ⟨x, rfl, _, hw⟩ := DataW.trod_string Try.underlying9 h
  exact ⟨⟨x⟩, rfl, hw⟩
abbrev V9 (w : World) (v : Value) : Prop := ∃ r : R9, v = r.val ∧ r.ok w
theorem v9 {w : World} {v : Value} {b : Nat} (ho : Value.okWide Try.prog w .any b 9 v) (h : Opn w 9 v.cells.toList) : V9 w v := by
  obtain ⟨H, enc, fuel, y, h⟩ := h
  obtain ⟨d, p⟩ := y
  obtain ⟨x, rfl, hx⟩ := Go.ChangeMaps.open_string Try.underlying9 ho (ps := p) ⟨fuel, h⟩
  exact ⟨⟨x⟩, rfl, hx.2.2⟩
/-- type 22: a slice of 9 -/
theorem s22 {w : World} {v : Value} (h : Opn w 22 [v]) : ∃ (a : Option Addr) (n cap : Nat) (rs : List R9), v = .slice a n cap ∧ n ≤ cap ∧ cap ≤ maxLen ∧ rs.length = n ∧ Reads w w.heap.size 1 a n (rs.flatMap R9.cells) ∧ ∀ r ∈ rs, r.ok w := by
  obtain ⟨H, enc, fuel, y, h⟩ := h
  rcases Go.Deep.open_slice Try.underlying22 h with ⟨hc, _⟩ | ⟨a, n, cap, m, g, D, Pl, hc, _, hl, hm, hmm, _, hi⟩
  · injection hc with hc; subst hc
    exact ⟨none, 0, 0, [], rfl, Nat.le_refl _, Nat.zero_le _, rfl, Reads.none_, fun r hr => by cases hr⟩
  · injection hc with hc; subst hc
    simp at hmm; subst hmm
    obtain ⟨F, hF⟩ := Go.Deep.choose_lt (α := R9) (n := n) (p := fun i r => (∀ j u, r.cells[j]? = some u → w.cell? (a.add (i * 1 + j)) = some u) ∧ r.ok w) (fun i hin => by
      obtain ⟨cs', h1, h2⟩ := hi i (by omega)
      obtain ⟨r, rfl, ok⟩ := o9 ⟨H, enc, _, _, h2⟩
      refine ⟨r, ?_, ok⟩
      rw [c9] at h1
      exact cells_at h1)
    refine ⟨some a, n, _, (List.range n).map F, rfl, hl, hm, by simp, reads_of (size := 1) (by decide) (fun r => R9.len r) (fun i hin => (hF i hin).1), fun r hr => ?_⟩
    obtain ⟨i, hin, rfl⟩ := List.mem_map.1 hr
    exact (hF i (by simpa using hin)).2
abbrev V22 (w : World) (v : Value) : Prop := Opn w 22 [v]
theorem v22 {w : World} {v : Value} {b : Nat} (ho : Value.okWide Try.prog w .any b 22 v) (h : Opn w 22 v.cells.toList) : V22 w v := by
  obtain ⟨a, l, c, rfl⟩ := okWide_slice Try.underlying22 ho
  simpa [Value.cells] using h
structure R22 where
  v : Value
instance : Inhabited R22 := ⟨⟨.nilIface⟩⟩
def R22.cells (r : R22) : List Value := [r.v]
theorem R22.len (r : R22) : r.cells.length = 1 := rfl
def R22.ok (r : R22) (w : World) : Prop := Opn w 22 [r.v]
theorem o22 {w : World} {cs : List Value} (h : Opn w 22 cs) : ∃ r : R22, cs = r.cells ∧ r.ok w := by
  have h' := h
  obtain ⟨H, enc, fuel, y, h⟩ := h
  rcases Go.Deep.open_slice Try.underlying22 h with ⟨rfl, _⟩ | ⟨a, n, cap, m, g, D, Pl, rfl, _⟩
  · exact ⟨⟨_⟩, rfl, h'⟩
  · exact ⟨⟨_⟩, rfl, h'⟩
structure R31 where
  v : Int
instance : Inhabited R31 := ⟨⟨0⟩⟩
def R31.cells (r : R31) : List Value := [.int .u16 r.v]
theorem R31.len (r : R31) : r.cells.length = 1 := rfl
def R31.ok (r : R31) (w : World) : Prop := (Lit.int .u16 r.v).wf = true
@[reducible] def R31.val (r : R31) : Value := .int .u16 r.v
theorem o31 {w : World} {cs : List Value} (h : Opn w 31 cs) : ∃ r : R31, cs = r.cells ∧ r.ok w := by
  obtain ⟨H, enc, fuel, y, h⟩ := h
  obtain ⟨x, rfl, _, hw⟩ := DataW.trod_int Try.underlying31 h
  exact ⟨⟨x⟩, rfl, hw⟩
abbrev V31 (w : World) (v : Value) : Prop := ∃ r : R31, v = r.val ∧ r.ok w
theorem v31 {w : World} {v : Value} {b : Nat} (ho : Value.okWide Try.prog w .any b 31 v) (h : Opn w 31 v.cells.toList) : V31 w v := by
  obtain ⟨H, enc, fuel, y, h⟩ := h
  obtain ⟨d, p⟩ := y
  obtain ⟨x, rfl, hx⟩ := open_int Try.underlying31 ho (ps := p) ⟨fuel, h⟩
  exact ⟨⟨x⟩, rfl, hx.2.2⟩
structure R33 where
  x0 : Int
  x1 : Int
instance : Inhabited R33 := ⟨⟨0, 0⟩⟩
def R33.cells (r : R33) : List Value := [.int .u16 r.x0, .int .u16 r.x1]
theorem R33.len (r : R33) : r.cells.length = 2 := rfl
def R33.ok (r : R33) (w : World) : Prop := (Lit.int .u16 r.x0).wf = true ∧ (Lit.int .u16 r.x1).wf = true
@[reducible] def R33.val (r : R33) : Value := .agg #[.int .u16 r.x0, .int .u16 r.x1]
theorem o33 {w : World} {cs : List Value} (h : Opn w 33 cs) : ∃ r : R33, cs = r.cells ∧ r.ok w := by
  obtain ⟨H, enc, fuel, y, h⟩ := h
  obtain ⟨xs, g, _, _, hlen, hxs, hf⟩ := DataW.trod_array Try.underlying33 h
  rw [c33] at hlen
  obtain ⟨z0, z1, rfl⟩ := list2 hlen
  have h0 := hf 0 (by decide)
  rw [List.getElem?_eq_getElem (show 0 < xs.length by rw [hxs]; decide)] at h0
  obtain ⟨r0, e0, k0⟩ := o31 (w := w) (cs := [z0]) ⟨H, enc, _, _, by simpa [c31] using h0⟩
  simp only [R31.cells, List.cons.injEq, and_true] at e0
  have h1 := hf 1 (by decide)
  rw [List.getElem?_eq_getElem (show 1 < xs.length by rw [hxs]; decide)] at h1
  obtain ⟨r1, e1, k1⟩ := o31 (w := w) (cs := [z1]) ⟨H, enc, _, _, by simpa [c31] using h1⟩
  simp only [R31.cells, List.cons.injEq, and_true] at e1
  refine ⟨⟨r0.v, r1.v⟩, by simp [R33.cells, e0, e1], ⟨k0, k1⟩⟩
abbrev V33 (w : World) (v : Value) : Prop := ∃ r : R33, v = r.val ∧ r.ok w
theorem v33 {w : World} {v : Value} {b : Nat} (ho : Value.okWide Try.prog w .any b 33 v) (h : Opn w 33 v.cells.toList) : V33 w v := by
  obtain ⟨cs, rfl, _⟩ := okWide_array Try.underlying33 ho
  obtain ⟨r, e, ok⟩ := o33 h
  refine ⟨r, ?_, ok⟩
  have : cs = r.cells.toArray := by rw [← e]; rfl
  rw [this]; rfl
structure R34 where
  v : Int
instance : Inhabited R34 := ⟨⟨0⟩⟩
def R34.cells (r : R34) : List Value := [.int .u32 r.v]
theorem R34.len (r : R34) : r.cells.length = 1 := rfl
def R34.ok (r : R34) (w : World) : Prop := (Lit.int .u32 r.v).wf = true
@[reducible] def R34.val (r : R34) : Value := .int .u32 r.v
theorem o34 {w : World} {cs : List Value} (h : Opn w 34 cs) : ∃ r : R34, cs = r.cells ∧ r.ok w := by
  obtain ⟨H, enc, fuel, y, h⟩ := h
  obtain ⟨x, rfl, _, hw⟩ := DataW.trod_int Try.underlying34 h
  exact ⟨⟨x⟩, rfl, hw⟩
abbrev V34 (w : World) (v : Value) : Prop := ∃ r : R34, v = r.val ∧ r.ok w
theorem v34 {w : World} {v : Value} {b : Nat} (ho : Value.okWide Try.prog w .any b 34 v) (h : Opn w 34 v.cells.toList) : V34 w v := by
  obtain ⟨H, enc, fuel, y, h⟩ := h
  obtain ⟨d, p⟩ := y
  obtain ⟨x, rfl, hx⟩ := open_int Try.underlying34 ho (ps := p) ⟨fuel, h⟩
  exact ⟨⟨x⟩, rfl, hx.2.2⟩
end Go.Proofs.Ytgojeoebflpglaa
