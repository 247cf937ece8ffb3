/- Plain words for rows of the call's own, whatever their elements are. No condition. -/
import Derived.Test.YteddmjfpbdihiaaAid
import Derived.Test.YteddmjfpbdihiaaOpen
import Derived.Lib.Strings
namespace Go.Proofs.Aid
open Go.RowKit Go.WideShapes Go.ChangeShapes
section
variable {α : Type} {f : α → List Value} {size : Nat}
theorem flatLen (hf : ∀ x, (f x).length = size) : ∀ xs : List α, (xs.flatMap f).length = xs.length * size
  | [] => by simp
  | x :: xs => by rw [List.flatMap_cons, List.length_append, hf, flatLen hf xs, List.length_cons, Nat.succ_mul]; omega
theorem flatAt (hf : ∀ x, (f x).length = size) : ∀ (xs : List α) (i j : Nat) (h : i < xs.length) (_ : j < size), (xs.flatMap f)[i * size + j]? = (f xs[i])[j]?
  | [], i, j, h, _ => absurd h (by simp)
  | x :: xs, 0, j, h, hj => by
    rw [List.flatMap_cons, List.getElem?_append_left (by rw [hf]; omega)]
    simp
  | x :: xs, i + 1, j, h, hj => by
    rw [List.flatMap_cons, List.getElem?_append_right (by rw [hf, Nat.succ_mul]; omega)]
    have := flatAt hf xs i j (by simpa using h) hj
    rw [hf, show (i + 1) * size + j - size = i * size + j by rw [Nat.succ_mul]; omega, this]
    simp
/-- The cells of an element of a row. -/
theorem Reads.elem {w : World} {B : Nat} {A : Option Addr} {xs : List α} (h : Reads w B size A xs.length (xs.flatMap f)) (hf : ∀ x, (f x).length = size) {i : Nat} (hi : i < xs.length) :
    ∃ ad, A = some ad ∧ ad.block < B ∧ ∀ (j : Nat) (u : Value), (f xs[i])[j]? = some u → w.cell? (ad.add (i * size + j)) = some u := by
  obtain ⟨ad, e, hb, hc⟩ := h.2 (by omega)
  refine ⟨ad, e, hb, fun j u hu => hc _ _ ?_⟩
  have hj : j < size := by
    have := (List.getElem?_eq_some_iff.1 hu).1
    rw [hf] at this; exact this
  rw [flatAt hf xs i j hi hj]; exact hu
/-- One cell an element. -/
theorem Reads.elem1 {g : α → Value} {w : World} {B : Nat} {A : Option Addr} {xs : List α} (h : Reads w B 1 A xs.length (xs.flatMap fun x => [g x])) {i : Nat} (hi : i < xs.length) :
    ∃ ad, A = some ad ∧ ad.block < B ∧ w.cell? (ad.add i) = some (g xs[i]) := by
  obtain ⟨ad, e, hb, hc⟩ := h.elem (fun _ => rfl) hi
  exact ⟨ad, e, hb, by simpa using hc 0 _ rfl⟩
theorem map_flat (g : α → Value) (xs : List α) : xs.flatMap (fun x => [g x]) = xs.map g := by
  induction xs with
  | nil => rfl
  | cons x xs ih => rw [List.flatMap_cons, ih]; rfl
/-- A row of the call's own. -/
def Row (w : World) (base : Nat) (e : TypeId) (size : Nat) (f : α → List Value) (v : Value) (xs : List α) : Prop := w.ownsRow base e size v xs.length (xs.flatMap f)
variable {w w' : World} {base : Nat} {e : TypeId} {v : Value} {xs : List α}
theorem Row.nil (w : World) (base : Nat) (e : TypeId) (size : Nat) (f : α → List Value) : Row w base e size f (.slice none 0 0) [] := World.ownsRow_nil _ _ _ _
theorem Row.own (h : Row w base e size f v xs) {g : Nat} (hg : v.ownBlock = some g) : base ≤ g ∧ g < w.heap.size := by
  rcases h.2 with ⟨q, _⟩ | ⟨g', cap, cur, q, hb, hh, _⟩
  · rw [q] at hg; cases hg
  · rw [q] at hg
    have : g' = g := by simpa [Value.ownBlock] using hg
    subst this
    exact ⟨hb, Blk.lt (t := e) hh⟩
theorem Row.form (h : Row w base e size f v xs) : ∃ A c, v = .slice A xs.length c := by
  rcases h.2 with ⟨q, q0⟩ | ⟨g', cap, cur, q, _⟩
  · exact ⟨none, 0, by rw [q, q0]⟩
  · exact ⟨_, _, q⟩
theorem Row.reads (h : Row w base e size f v xs) : ∃ A c, v = .slice A xs.length c ∧ Reads w w.heap.size size A xs.length (xs.flatMap f) := by
  have h0 := h
  rcases h.2 with ⟨q, q0⟩ | ⟨g', cap, cur, q, _⟩
  · refine ⟨none, 0, by rw [q, q0], ?_⟩
    subst q; unfold Row at h0; rw [q0]; rw [q0] at h0; exact Reads.of_own h0
  · subst q; exact ⟨_, _, rfl, Reads.of_own h0⟩
theorem Row.reads' (h : Row w base e size f v xs) : ∃ A c, v = .slice A xs.length c ∧ xs.length ≤ c ∧ Reads w w.heap.size size A xs.length (xs.flatMap f) := by
  have h0 := h
  rcases h.2 with ⟨q, q0⟩ | ⟨g', cap, cur, q, _, _, hc, _⟩
  · refine ⟨none, 0, by rw [q, q0], by omega, ?_⟩
    subst q; unfold Row at h0; rw [q0]; rw [q0] at h0; exact Reads.of_own h0
  · subst q; exact ⟨_, _, rfl, hc, Reads.of_own h0⟩
theorem Reads.take {w : World} {B : Nat} {A : Option Addr} {xs : List α} (hf : ∀ x, (f x).length = size) (h : Reads w B size A xs.length (xs.flatMap f)) {k : Nat} (hk : k ≤ xs.length) : Reads w B size A (xs.take k).length ((xs.take k).flatMap f) := by
  refine ⟨flatLen hf _, fun hn => ?_⟩
  have hl : (xs.take k).length = k := by rw [List.length_take]; omega
  obtain ⟨ad, e, hb, hc⟩ := h.2 (by omega)
  refine ⟨ad, e, hb, fun j u hu => hc j u ?_⟩
  have : xs.flatMap f = (xs.take k).flatMap f ++ (xs.drop k).flatMap f := by rw [← List.flatMap_append, List.take_append_drop]
  rw [this, List.getElem?_append_left (List.getElem?_eq_some_iff.1 hu).1]; exact hu
theorem Row.kept (h : Row w base e size f v xs) {row : Option Nat} (hg : w.grownBy w' row) (hne : ∀ g, v.ownBlock = some g → row ≠ some g) : Row w' base e size f v xs := by
  cases q : v.ownBlock with
  | none => exact World.ownsRow.kept h hg (.inl q)
  | some g => exact World.ownsRow.kept h hg (.inr (by rw [q]; exact fun e => hne g q e.symm))
theorem Row.below (h : Row w base e size f v xs) (hb : Below w.heap.size w w') : Row w' base e size f v xs := h.kept (only_of_below hb none) (fun _ _ => by simp)
theorem Row.alloc (h : Row w base e size f v xs) (o : Obj) : Row (w.alloc o) base e size f v xs := World.ownsRow.alloc h o
theorem Row.drewN (h : Row w base e size f v xs) (n : Nat) : Row (w.drewN n) base e size f v xs := h.below (below_drewN (Below.refl _ _) n)
theorem Row.drew (h : Row w base e size f v xs) : Row w.drew base e size f v xs := h.below (Below.refl _ _).drew
theorem Row.setCell (h : Row w base e size f v xs) {p : Addr} (hp : p.block < base) (u : Value) : Row (w.setCell p u) base e size f v xs := ownsRow_setCell_below h hp u
theorem Row.more (h : Row w base e size f v xs) {base' : Nat} (hb : base' ≤ base) : Row w base' e size f v xs := by
  refine ⟨h.1, ?_⟩
  rcases h.2 with q | ⟨g', cap, cur, q, hx, hh⟩
  · exact .inl q
  · exact .inr ⟨g', cap, cur, q, by omega, hh⟩
theorem low_grown {B : Nat} {W : World} (hlow : Below B W w) (hB : B ≤ base) (hz : B ≤ w.heap.size) (h : Row w base e size f v xs) (hg : w.grownBy w' v.ownBlock) : Below B W w' :=
  hlow.grown hg hz fun q hq => by have := (h.own hq).1; omega
end
section
variable {P : Program} (w : World) {α : Type} {f : α → List Value}
/-- Some bool, of which p is so; the world is as it was. -/
def SomeB (p : Bool → Prop) (w : World) (e : Ending) (w' : World) : Prop := ∃ b, e = .returned (.bool b) ∧ w' = w ∧ p b
theorem bytes_ne {x s : ByteArray} (h : x ≠ s) : (x.toList == s.toList) = false := by
  rw [beq_eq_false_iff_ne]
  intro e
  apply h; apply ByteArray.ext; apply Array.toList_inj.1; rw [← Lib.toList_data, ← Lib.toList_data]; exact e
/-- 'append(l, y)' at a row of the call's own; y lies in a block that was just laid. -/
theorem wpList_append_row {ops : Array Oper} {rest : List Oper} {o : Oper} {a : Act} {Q : Exit → Act → World → Prop} (hgd : o.guard = none) (s x : Operand) (t : TypeId)
    (ho : o.op = .call { callee := .builtin .append, args := #[s, x], argTypes := #[t, t] })
    (base : Nat) (e : TypeId) (i : TypeInfo) (z : Value) (size bytes : Nat) (ht : P.underlying t = some (.slice e)) (hi : P.info? e = some i) (hz : i.zero = some z)
    (hsize : i.size = size) (hby : i.bytes = bytes) (hzs : z.cells.size = size) (hsz : 0 < size)
    (v : Value) (xs : List α) (hs : a.eval s = v) (hown : Row w base e size f v xs) (hf : ∀ x, (f x).length = size)
    (g : Nat) (y : α) (hx : a.eval x = .slice (some ⟨g, 0, none⟩) 1 1) (hc : ∀ j u, (f y)[j]? = some u → w.cell? ⟨g, j, none⟩ = some u) (h1 : ∀ u ∈ f y, u.oneCell' = true)
    (h63 : xs.length + 1 ≤ maxLen) (hbytes : (xs.length + 1) * bytes ≤ 140737488355328) (hbase : base ≤ w.heap.size)
    (h : ∀ v' w', Row w' base e size f v' (xs ++ [y]) → w.grownBy w' v.ownBlock → wpList P ops Q rest (a.put o.dst v') w') : wpList P ops Q (o :: rest) a w := by
  refine wpList_append_own w hgd s x t ho base e i z size bytes ht hi hz hsize hby hzs hsz v xs.length (xs.flatMap f) hs hown ⟨g, 0, none⟩ 1 1 (f y) hx (by rw [hf]; omega) (fun j u hu => ?_) h1 h63 hbytes hbase (fun v' w' h2 h3 _ => h v' w' ?_ h3)
  · have := hc j u hu
    unfold Addr.add
    by_cases hj : j = 0
    · subst hj; simpa using this
    · simpa [hj] using this
  · unfold Row
    rw [List.length_append, List.flatMap_append]
    simpa using h2
/-- 'append(l, ys...)' at a row of the call's own. -/
theorem wpList_append_rows {ops : Array Oper} {rest : List Oper} {o : Oper} {a : Act} {Q : Exit → Act → World → Prop} (hgd : o.guard = none) (s x : Operand) (t : TypeId)
    (ho : o.op = .call { callee := .builtin .append, args := #[s, x], argTypes := #[t, t] })
    (base : Nat) (e : TypeId) (i : TypeInfo) (z : Value) (size bytes : Nat) (ht : P.underlying t = some (.slice e)) (hi : P.info? e = some i) (hz : i.zero = some z)
    (hsize : i.size = size) (hby : i.bytes = bytes) (hzs : z.cells.size = size) (hsz : 0 < size)
    (v : Value) (xs : List α) (hs : a.eval s = v) (hown : Row w base e size f v xs)
    (B : Nat) (A : Option Addr) (c : Nat) (ys : List α) (hx : a.eval x = .slice A ys.length c) (hr : Reads w B size A ys.length (ys.flatMap f)) (h1 : ∀ y ∈ ys, ∀ u ∈ f y, u.oneCell' = true)
    (h63 : xs.length + ys.length ≤ maxLen) (hbytes : (xs.length + ys.length) * bytes ≤ 140737488355328) (hbase : base ≤ w.heap.size)
    (h : ∀ v' w', Row w' base e size f v' (xs ++ ys) → w.grownBy w' v.ownBlock → wpList P ops Q rest (a.put o.dst v') w') : wpList P ops Q (o :: rest) a w := by
  refine wpList_append_any w hgd s x t ho base e i z size bytes ht hi hz hsize hby hzs hsz v xs.length (xs.flatMap f) hs hown B A ys.length c (ys.flatMap f) hx hr (fun u hu => ?_) h63 hbytes hbase (fun v' w' h2 h3 _ => h v' w' ?_ h3)
  · obtain ⟨y, hy, hu⟩ := List.mem_flatMap.1 hu
    exact h1 y hy u hu
  · unfold Row
    rw [List.length_append, List.flatMap_append]
    exact h2
theorem Reads.of_blk {w : World} {g : Nat} {t : TypeId} {cs : Array Value} {size : Nat} {xs : List α} (h : Blk w g t cs) (hf : ∀ x, (f x).length = size) (hcs : cs.toList = xs.flatMap f) : Reads w w.heap.size size (some ⟨g, 0, none⟩) xs.length (xs.flatMap f) := by
  refine ⟨flatLen hf xs, fun _ => ⟨_, rfl, h.lt, fun j u hu => ?_⟩⟩
  have h1 := h.cell j
  rw [← hcs] at hu
  rw [← Array.getElem?_toList, hu] at h1
  rw [← h1]
  unfold Addr.add
  by_cases hj : j = 0
  · subst hj; rfl
  · simp [hj]
theorem cells_new (w : World) (t : TypeId) (l : List Value) : ∀ j u, l[j]? = some u → (w.alloc (.cells l.toArray t)).cell? ⟨w.heap.size, j, none⟩ = some u := by
  intro j u hu
  rw [(Blk.new w t l.toArray).cell]
  simpa using hu
theorem low_row {B : Nat} {W w w' : World} {base : Nat} {e : TypeId} {size : Nat} {v : Value} {xs : List α} (hlow : Below B W w) (h : Row w base e size f v xs) (hB : B ≤ base) (hz : B ≤ w.heap.size) {o : Obj}
    (hg : (w.alloc o).grownBy w' v.ownBlock) : Below B W w' := low_grown (hlow.alloc hz o) hB (by simp; omega) (h.alloc o) hg
end
end Go.Proofs.Aid
