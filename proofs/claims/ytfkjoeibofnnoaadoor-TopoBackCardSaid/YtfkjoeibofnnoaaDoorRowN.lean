/- Rows of the call's own whose elements have several cells: an element read, one put, the row cut, what lies beyond it cleared. -/
import Derived.Test.YtfkjoeibofnnoaaDoorKit
namespace Go.Proofs.Aid
open Go.RowKit Go.WideShapes Go.ChangeShapes Go.Lib
section
variable {α : Type} {f : α → List Value} {size : Nat} {w : World} {base g n cap : Nat} {e : TypeId} {xs : List α}
theorem RowN.block (h : Row w base e size f (.slice (some ⟨g, 0, none⟩) n cap) xs) :
    n = xs.length ∧ base ≤ g ∧ n ≤ cap ∧ cap ≤ maxLen ∧ ∃ cur : Array Value, Blk w g e cur ∧ cur.size = cap * size ∧ cur.toList.take (n * size) = xs.flatMap f := by
  rcases h.2 with ⟨h1, _⟩ | ⟨g', cap', cur, h1, hb, hh, hc, hm, hz, ht⟩
  · cases h1
  · injection h1 with h1 h2 h3
    injection h1 with h1; injection h1 with h1
    subst h1 h2 h3
    exact ⟨rfl, hb, hc, hm, cur, hh, hz, ht⟩
theorem RowN.of (hf : ∀ x, (f x).length = size) (hb : base ≤ g) (hc : xs.length ≤ cap) (hm : cap ≤ maxLen) {cur : Array Value} (hh : Blk w g e cur) (hz : cur.size = cap * size) (ht : cur.toList.take (xs.length * size) = xs.flatMap f) :
    Row w base e size f (.slice (some ⟨g, 0, none⟩) xs.length cap) xs :=
  ⟨flatLen hf xs, .inr ⟨g, cap, cur, rfl, hb, hh, hc, hm, hz, ht⟩⟩
theorem RowN.cell (hf : ∀ x, (f x).length = size) (h : Row w base e size f (.slice (some ⟨g, 0, none⟩) n cap) xs) {i j : Nat} (hi : i < xs.length) (hj : j < size) : w.cell? ⟨g, i * size + j, none⟩ = (f xs[i])[j]? ∧ w.frozen? ⟨g, i * size + j, none⟩ = false := by
  obtain ⟨rfl, _, hc, _, cur, hh, hz, ht⟩ := RowN.block h
  refine ⟨?_, hh.frozen _⟩
  rw [hh.cell, ← Array.getElem?_toList]
  have hlt : i * size + j < xs.length * size := by
    have : (i + 1) * size ≤ xs.length * size := Nat.mul_le_mul_right _ hi
    rw [Nat.succ_mul] at this; omega
  have := List.getElem?_take_of_lt (l := cur.toList) hlt
  rw [ht, flatAt hf xs i j hi hj] at this
  exact this.symm
/-- So many cells of a list, from a place on, set. -/
def setAll : List Value → Nat → List Value → List Value
  | l, _, [] => l
  | l, j, u :: us => setAll (l.set j u) (j + 1) us
theorem setAll_length : ∀ (us l : List Value) (j : Nat), (setAll l j us).length = l.length
  | [], _, _ => rfl
  | _ :: us, _, _ => by rw [setAll, setAll_length us]; simp
theorem setAll_at : ∀ (us A V B : List Value), V.length = us.length → setAll (A ++ V ++ B) A.length us = A ++ us ++ B
  | [], A, V, B, h => by
    have : V = [] := List.length_eq_zero_iff.1 (by simpa using h)
    subst this; rfl
  | u :: us, A, [], B, h => by simp at h
  | u :: us, A, v :: V, B, h => by
    rw [setAll]
    have h1 : (A ++ v :: V ++ B).set A.length u = (A ++ [u]) ++ V ++ B := by simp
    have h2 : A.length + 1 = (A ++ [u]).length := by simp
    rw [h1, h2, setAll_at us (A ++ [u]) V B (by simpa using h)]
    simp
theorem setAll_take : ∀ (us l : List Value) (j m : Nat), j + us.length ≤ m → (setAll l j us).take m = setAll (l.take m) j us
  | [], _, _, _, _ => rfl
  | u :: us, l, j, m, h => by
    rw [setAll, setAll, setAll_take us _ (j + 1) m (by simp at h; omega), List.take_set]
theorem setAll_beyond : ∀ (us l : List Value) (j m : Nat), m ≤ j → (setAll l j us).take m = l.take m
  | [], _, _, _, _ => rfl
  | u :: us, l, j, m, h => by
    rw [setAll, setAll_beyond us _ (j + 1) m (by omega), List.take_set_of_le h]
theorem Blk.setCells_ : ∀ (us : List Value) {w : World} {cs : Array Value} (j : Nat), Blk w g e cs → Blk (w.setCells g j us) g e (setAll cs.toList j us).toArray
  | [], w0, cs, _, h => by
    show Blk w0 g e (cs.toList).toArray
    simpa using h
  | u :: us, _, cs, j, h => by
    have := Blk.setCells_ us (j + 1) (h.set_ j u)
    rw [Array.toList_setIfInBounds] at this
    exact this
theorem flat_split (xs : List α) {i : Nat} (hi : i < xs.length) : xs.flatMap f = (xs.take i).flatMap f ++ f xs[i] ++ (xs.drop (i + 1)).flatMap f := by
  conv => lhs; rw [← List.take_append_drop i xs, List.drop_eq_getElem_cons hi]
  rw [List.flatMap_append, List.flatMap_cons]; simp
theorem RowN.put (hf : ∀ x, (f x).length = size) (h : Row w base e size f (.slice (some ⟨g, 0, none⟩) n cap) xs) {i : Nat} (hi : i < xs.length) (y : α) :
    Row (w.setCells g (i * size) (f y)) base e size f (.slice (some ⟨g, 0, none⟩) n cap) (xs.set i y) := by
  obtain ⟨rfl, hb, hc, hm, cur, hh, hz, ht⟩ := RowN.block h
  have hl : (xs.set i y).length = xs.length := List.length_set
  have hlt : (i + 1) * size ≤ xs.length * size := Nat.mul_le_mul_right _ hi
  rw [Nat.succ_mul] at hlt
  have := RowN.of (xs := xs.set i y) (w := w.setCells g (i * size) (f y)) hf hb (by rw [hl]; exact hc) hm (Blk.setCells_ (f y) (i * size) hh) (by
    rw [List.size_toArray, setAll_length, Array.length_toList]; exact hz) (by
    rw [hl]
    show (setAll cur.toList (i * size) (f y)).take (xs.length * size) = _
    rw [setAll_take _ _ _ _ (by rw [hf]; exact hlt), ht, flat_split xs hi]
    have hA : i * size = ((xs.take i).flatMap f).length := by
      rw [flatLen hf, List.length_take, Nat.min_eq_left (by omega)]
    rw [hA, setAll_at _ _ _ _ (by rw [hf, hf]), flat_split (xs.set i y) (by rw [hl]; exact hi)]
    rw [List.take_set_of_le (Nat.le_refl _), List.getElem_set_self, List.drop_set_of_lt (by omega)])
  rw [hl] at this
  exact this
theorem RowN.cut (hf : ∀ x, (f x).length = size) (h : Row w base e size f (.slice (some ⟨g, 0, none⟩) n cap) xs) {k : Nat} (hk : k ≤ xs.length) : Row w base e size f (.slice (some ⟨g, 0, none⟩) k cap) (xs.take k) := by
  obtain ⟨rfl, hb, hc, hm, cur, hh, hz, ht⟩ := RowN.block h
  have hl : (xs.take k).length = k := by rw [List.length_take]; omega
  have := RowN.of (xs := xs.take k) (w := w) hf hb (by omega) hm hh hz (by
    rw [hl]
    have h1 : xs.flatMap f = (xs.take k).flatMap f ++ (xs.drop k).flatMap f := by rw [← List.flatMap_append, List.take_append_drop]
    have h2 : (cur.toList.take (xs.length * size)).take (k * size) = cur.toList.take (k * size) := by
      rw [List.take_take, Nat.min_eq_left (Nat.mul_le_mul_right _ hk)]
    have h3 : k * size = ((xs.take k).flatMap f).length := by rw [flatLen hf, hl]
    rw [← h2, ht, h1, h3, List.take_left'] ; rfl)
  rw [hl] at this
  exact this
theorem RowN.beyonds (hf : ∀ x, (f x).length = size) (h : Row w base e size f (.slice (some ⟨g, 0, none⟩) n cap) xs) (us : List Value) {j : Nat} (hj : n * size ≤ j) : Row (w.setCells g j us) base e size f (.slice (some ⟨g, 0, none⟩) n cap) xs := by
  obtain ⟨rfl, hb, hc, hm, cur, hh, hz, ht⟩ := RowN.block h
  exact RowN.of hf hb hc hm (Blk.setCells_ us j hh) (by rw [List.size_toArray, setAll_length, Array.length_toList]; exact hz) (by
    show (setAll cur.toList j us).take (xs.length * size) = _
    rw [setAll_beyond _ _ _ _ hj]; exact ht)
end
/-- 'clear(s)', s a slice of n > 0 elements of several cells each. -/
theorem run_clear_sliceN {P : Program} (w : World) (t e ty : TypeId) (z : Value) (ht : P.underlying t = some (.slice e)) (hv : ∀ w, (zeroValue e).run P w = .ok z w) (h1 : ∀ u ∈ z.cells.toList, u.oneCell' = true) (hz0 : 0 < z.cells.size) (b o n c : Nat) (hn : 0 < n)
    (hc : ∀ j, j < n * z.cells.size → (w.cell? ⟨b, o + j, none⟩).isSome = true) (hf : ∀ j, j < n * z.cells.size → w.frozen? ⟨b, o + j, none⟩ = false) :
    (Builtin.clear_ #[t] ty #[.slice (some ⟨b, o, none⟩) n c]).run P w = .ok (.tuple #[]) (w.setCells b o (Builtin.zeroCells z.cells n).toList) := by
  have hzl : (Builtin.zeroCells z.cells n).toList.length = n * z.cells.size := by simp [Builtin.zeroCells]
  have hst := run_storeCells_cells (P := P) b o (Builtin.zeroCells z.cells n).toList 0 w (by rw [hzl]; simpa using hc) (by rw [hzl]; simpa using hf) (by
    intro v hv'
    simp only [Builtin.zeroCells, Array.toList_map, List.mem_map] at hv'
    obtain ⟨i, -, rfl⟩ := hv'
    have hi : i % z.cells.size < z.cells.size := Nat.mod_lt _ hz0
    rw [getElem!_pos z.cells (i % z.cells.size) hi]
    exact h1 _ (by simp))
  simp only [Nat.add_zero] at hst
  obtain ⟨m, rfl⟩ : ∃ m, n = m + 1 := ⟨n - 1, by omega⟩
  simp [Builtin.clear_, run_underlying ht, hv, hst]
end Go.Proofs.Aid
