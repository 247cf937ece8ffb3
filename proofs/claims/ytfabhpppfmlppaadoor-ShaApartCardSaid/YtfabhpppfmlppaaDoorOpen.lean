/- The cells of each type among the arguments, and that what reads as a type is made of them. No condition. -/
import Derived.Test.YtfabhpppfmlppaaDoorRows
import Derived.Test.YtfabhpppfmlppaaDoorAid
import Derived.WalkKit
import Derived.ProofKit
import Derived.OpenShut
import Derived.ShutString
import Derived.ChangeOld
import Derived.Carry
import Derived.Deep.Slices
namespace Go.Proofs.Aid
open Go.RowKit Go.WideShapes Go.ChangeShapes

theorem okWide_array {P : Program} {W : World} {r : Reach} {b : Nat} {t e : TypeId} {n : Nat} {v : Value} (ht : P.underlying t = some (.array n e)) (h : Value.okWide P W r b t v) : ∃ cs, v = .agg cs ∧ cs.size = P.cellsOf t := by
  simp only [Value.okWide, ht] at h
  obtain ⟨cs, h1, h2, _⟩ := h
  exact ⟨cs, h1, h2⟩
theorem cells_at {w : World} {a : Addr} {k m : Nat} {cs : List Value} (h : w.cells? 0 (a.add k) m = some cs) : ∀ j u, cs[j]? = some u → w.cell? (a.add (k + j)) = some u := by
  obtain ⟨_, hl, hc⟩ := World.cells?_some h
  intro j u hu
  have hj : j < m := by
    rw [← hl]
    rcases Nat.lt_or_ge j cs.length with h | h
    · exact h
    · rw [List.getElem?_eq_none h] at hu; cases hu
  rw [← add_of_add, hc j hj, hu]
theorem block_lt {w : World} {a : Addr} {u : Value} (h : w.cell? a = some u) : a.block < w.heap.size := by
  rcases Nat.lt_or_ge a.block w.heap.size with h1 | h1
  · exact h1
  · unfold World.cell? at h
    rw [Array.getElem?_eq_none h1] at h
    simp at h
theorem flat_len {α β : Type} (F : Nat → α) (c : α → List β) (size : Nat) (hs : ∀ r, (c r).length = size) (n : Nat) : (((List.range n).map F).flatMap c).length = n * size := by
  induction n with
  | zero => simp
  | succ n ih => rw [List.range_succ, List.map_append, List.flatMap_append, List.length_append, ih]; simp [hs, Nat.succ_mul]
theorem flat_at {α β : Type} (F : Nat → α) (c : α → List β) (size : Nat) (hs : ∀ r, (c r).length = size) (n q : Nat) (u : β) (h : (((List.range n).map F).flatMap c)[q]? = some u) :
    ∃ i j, i < n ∧ q = i * size + j ∧ (c (F i))[j]? = some u := by
  induction n with
  | zero => simp at h
  | succ n ih =>
    rw [List.range_succ, List.map_append, List.flatMap_append, List.getElem?_append] at h
    split at h
    · obtain ⟨i, j, hi, hq, hu⟩ := ih h
      exact ⟨i, j, by omega, hq, hu⟩
    · rename_i hge
      rw [flat_len F c size hs] at hge h
      refine ⟨n, q - n * size, by omega, by omega, by simpa using h⟩
theorem reads_of {α : Type} {w : World} {a : Addr} {n size : Nat} {F : Nat → α} {c : α → List Value} (hsz : 0 < size) (hs : ∀ r, (c r).length = size)
    (h : ∀ i, i < n → ∀ j u, (c (F i))[j]? = some u → w.cell? (a.add (i * size + j)) = some u) : Reads w w.heap.size size (some a) n (((List.range n).map F).flatMap c) := by
  refine ⟨flat_len F c size hs n, fun hn => ⟨a, rfl, ?_, fun q u hu => ?_⟩⟩
  · have hl := hs (F 0)
    have := h 0 hn 0 ((c (F 0))[0]'(by omega)) (List.getElem?_eq_getElem (by omega))
    have hb := block_lt this
    rwa [block_of_add] at hb
  · obtain ⟨i, j, hi, rfl, hu2⟩ := flat_at F c size hs n q u hu
    exact h i hi j u hu2

end Go.Proofs.Aid
set_option maxRecDepth 20000
namespace Go.Proofs.YtfabhpppfmlppaaDoor
open Go.ChangeShapes Go.WideShapes Go.ChangeAt Go.RowKit Go.Proofs.Aid
set_option linter.unusedVariables false
set_option linter.unusedSimpArgs false
abbrev Opn (w : World) (t : TypeId) (cs : List Value) : Prop := ∃ (H : Type) (enc : TypeId × Value → H) (fuel : Nat) (y : DataW H × List MemPlace), DataW.trod enc Tryd.prog w 0 (fun _ => true) true fuel t cs = some y
theorem c9 : Tryd.prog.cellsOf 9 = 1 := by kernel_rfl
theorem c25 : Tryd.prog.cellsOf 25 = 1 := by kernel_rfl
structure R9 where
  v : ByteArray
instance : Inhabited R9 := ⟨⟨ByteArray.empty⟩⟩
def R9.cells (r : R9) : List Value := [.string r.v]
theorem R9.len (r : R9) : r.cells.length = 1 := rfl
def R9.ok (r : R9) (w : World) : Prop := r.v.size ≤ maxLen
@[reducible] def R9.val (r : R9) : Value := .string r.v
theorem o9 {w : World} {cs : List Value} (h : Opn w 9 cs) : ∃ r : R9, cs = r.cells ∧ r.ok w := by
  obtain ⟨H, enc, fuel, y, h⟩ := h
  obtain ⟨x, rfl, _, hw⟩ := DataW.trod_string Tryd.underlying9 h
  exact ⟨⟨x⟩, rfl, hw⟩
abbrev V9 (w : World) (v : Value) : Prop := ∃ r : R9, v = r.val ∧ r.ok w
theorem v9 {w : World} {v : Value} {b : Nat} (ho : Value.okWide Tryd.prog w .any b 9 v) (h : Opn w 9 v.cells.toList) : V9 w v := by
  obtain ⟨H, enc, fuel, y, h⟩ := h
  obtain ⟨d, p⟩ := y
  obtain ⟨x, rfl, hx⟩ := Go.ChangeMaps.open_string Tryd.underlying9 ho (ps := p) ⟨fuel, h⟩
  exact ⟨⟨x⟩, rfl, hx.2.2⟩
/-- type 25: a slice of 9 -/
theorem s25 {w : World} {v : Value} (h : Opn w 25 [v]) : ∃ (a : Option Addr) (n cap : Nat) (rs : List R9), v = .slice a n cap ∧ n ≤ cap ∧ cap ≤ maxLen ∧ rs.length = n ∧ Reads w w.heap.size 1 a n (rs.flatMap R9.cells) ∧ ∀ r ∈ rs, r.ok w := by
  obtain ⟨H, enc, fuel, y, h⟩ := h
  rcases Go.Deep.open_slice Tryd.underlying25 h with ⟨hc, _⟩ | ⟨a, n, cap, m, g, D, Pl, hc, _, hl, hm, hmm, _, hi⟩
  · injection hc with hc; subst hc
    exact ⟨none, 0, 0, [], rfl, Nat.le_refl _, Nat.zero_le _, rfl, Reads.none_, fun r hr => by cases hr⟩
  · injection hc with hc; subst hc
    simp at hmm; subst hmm
    obtain ⟨F, hF⟩ := Go.Deep.choose_lt (α := R9) (n := n) (p := fun i r => (∀ j u, r.cells[j]? = some u → w.cell? (a.add (i * 1 + j)) = some u) ∧ r.ok w) (fun i hin => by
      obtain ⟨cs', h1, h2⟩ := hi i (by omega)
      obtain ⟨r, rfl, ok⟩ := o9 ⟨H, enc, _, _, h2⟩
      refine ⟨r, ?_, ok⟩
      rw [c9] at h1
      exact cells_at h1)
    refine ⟨some a, n, _, (List.range n).map F, rfl, hl, hm, by simp, reads_of (size := 1) (by decide) (fun r => R9.len r) (fun i hin => (hF i hin).1), fun r hr => ?_⟩
    obtain ⟨i, hin, rfl⟩ := List.mem_map.1 hr
    exact (hF i (by simpa using hin)).2
abbrev V25 (w : World) (v : Value) : Prop := Opn w 25 [v]
theorem v25 {w : World} {v : Value} {b : Nat} (ho : Value.okWide Tryd.prog w .any b 25 v) (h : Opn w 25 v.cells.toList) : V25 w v := by
  obtain ⟨a, l, c, rfl⟩ := okWide_slice Tryd.underlying25 ho
  simpa [Value.cells] using h
structure R25 where
  v : Value
instance : Inhabited R25 := ⟨⟨.nilIface⟩⟩
def R25.cells (r : R25) : List Value := [r.v]
theorem R25.len (r : R25) : r.cells.length = 1 := rfl
def R25.ok (r : R25) (w : World) : Prop := Opn w 25 [r.v]
theorem o25 {w : World} {cs : List Value} (h : Opn w 25 cs) : ∃ r : R25, cs = r.cells ∧ r.ok w := by
  have h' := h
  obtain ⟨H, enc, fuel, y, h⟩ := h
  rcases Go.Deep.open_slice Tryd.underlying25 h with ⟨rfl, _⟩ | ⟨a, n, cap, m, g, D, Pl, rfl, _⟩
  · exact ⟨⟨_⟩, rfl, h'⟩
  · exact ⟨⟨_⟩, rfl, h'⟩
end Go.Proofs.YtfabhpppfmlppaaDoor
