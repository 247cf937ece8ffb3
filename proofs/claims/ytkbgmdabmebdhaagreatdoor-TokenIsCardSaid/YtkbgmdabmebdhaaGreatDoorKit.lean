/- Plain words for rows of the call's own, whatever their elements are. No condition. -/
import Derived.Test.YtkbgmdabmebdhaaGreatDoorAid
import Derived.Test.YtkbgmdabmebdhaaGreatDoorOpen
import Derived.Lib.Strings
import Derived.Lib.SliceRun
namespace Go.Proofs.Aid
open Go.RowKit Go.WideShapes Go.ChangeShapes Go.Lib
section
variable {α : Type} {f : α → List Value} {size : Nat}
theorem flatLen (hf : ∀ x, (f x).length = size) : ∀ xs : List α, (xs.flatMap f).length = xs.length * size
  | [] => by simp
  | x :: xs => by rw [List.flatMap_cons, List.length_append, hf, flatLen hf xs, List.length_cons, Nat.succ_mul]; omega
theorem flatAt (hf : ∀ x, (f x).length = size) : ∀ (xs : List α) (i j : Nat) (h : i < xs.length) (_ : j < size), (xs.flatMap f)[i * size + j]? = (f xs[i])[j]?
  | [], i, j, h, _ => absurd h (by simp)
  | x :: xs, 0, j, h, hj => by
    rw [List.flatMap_cons, List.getElem?_append_left (by rw [hf]; omega)]
    simp
  | x :: xs, i + 1, j, h, hj => by
    rw [List.flatMap_cons, List.getElem?_append_right (by rw [hf, Nat.succ_mul]; omega)]
    have := flatAt hf xs i j (by simpa using h) hj
    rw [hf, show (i + 1) * size + j - size = i * size + j by rw [Nat.succ_mul]; omega, this]
    simp
/-- The cells of an element of a row. -/
theorem Reads.elem {w : World} {B : Nat} {A : Option Addr} {xs : List α} (h : Reads w B size A xs.length (xs.flatMap f)) (hf : ∀ x, (f x).length = size) {i : Nat} (hi : i < xs.length) :
    ∃ ad, A = some ad ∧ ad.block < B ∧ ∀ (j : Nat) (u : Value), (f xs[i])[j]? = some u → w.cell? (ad.add (i * size + j)) = some u := by
  obtain ⟨ad, e, hb, hc⟩ := h.2 (by omega)
  refine ⟨ad, e, hb, fun j u hu => hc _ _ ?_⟩
  have hj : j < size := by
    have := (List.getElem?_eq_some_iff.1 hu).1
    rw [hf] at this; exact this
  rw [flatAt hf xs i j hi hj]; exact hu
theorem Reads.more_below {w w' : World} {A : Option Addr} {n : Nat} {xs : List Value} (h : Reads w w.heap.size size A n xs) (hb : Below w.heap.size w w') : Reads w' w'.heap.size size A n xs := (h.below hb).more hb.size
/-- One cell an element. -/
theorem Reads.elem1 {g : α → Value} {w : World} {B : Nat} {A : Option Addr} {xs : List α} (h : Reads w B 1 A xs.length (xs.flatMap fun x => [g x])) {i : Nat} (hi : i < xs.length) :
    ∃ ad, A = some ad ∧ ad.block < B ∧ w.cell? (ad.add i) = some (g xs[i]) := by
  obtain ⟨ad, e, hb, hc⟩ := h.elem (fun _ => rfl) hi
  exact ⟨ad, e, hb, by simpa using hc 0 _ rfl⟩
theorem map_flat (g : α → Value) (xs : List α) : xs.flatMap (fun x => [g x]) = xs.map g := by
  induction xs with
  | nil => rfl
  | cons x xs ih => rw [List.flatMap_cons, ih]; rfl
/-- A row of the call's own. -/
def Row (w : World) (base : Nat) (e : TypeId) (size : Nat) (f : α → List Value) (v : Value) (xs : List α) : Prop := w.ownsRow base e size v xs.length (xs.flatMap f)
variable {w w' : World} {base : Nat} {e : TypeId} {v : Value} {xs : List α}
theorem Row.nil (w : World) (base : Nat) (e : TypeId) (size : Nat) (f : α → List Value) : Row w base e size f (.slice none 0 0) [] := World.ownsRow_nil _ _ _ _
theorem Row.own (h : Row w base e size f v xs) {g : Nat} (hg : v.ownBlock = some g) : base ≤ g ∧ g < w.heap.size := by
  rcases h.2 with ⟨q, _⟩ | ⟨g', cap, cur, q, hb, hh, _⟩
  · rw [q] at hg; cases hg
  · rw [q] at hg
    have : g' = g := by simpa [Value.ownBlock] using hg
    subst this
    exact ⟨hb, Blk.lt (t := e) hh⟩
theorem Row.form (h : Row w base e size f v xs) : ∃ A c, v = .slice A xs.length c := by
  rcases h.2 with ⟨q, q0⟩ | ⟨g', cap, cur, q, _⟩
  · exact ⟨none, 0, by rw [q, q0]⟩
  · exact ⟨_, _, q⟩
theorem Row.reads (h : Row w base e size f v xs) : ∃ A c, v = .slice A xs.length c ∧ Reads w w.heap.size size A xs.length (xs.flatMap f) := by
  have h0 := h
  rcases h.2 with ⟨q, q0⟩ | ⟨g', cap, cur, q, _⟩
  · refine ⟨none, 0, by rw [q, q0], ?_⟩
    subst q; unfold Row at h0; rw [q0]; rw [q0] at h0; exact Reads.of_own h0
  · subst q; exact ⟨_, _, rfl, Reads.of_own h0⟩
theorem Row.reads' (h : Row w base e size f v xs) : ∃ A c, v = .slice A xs.length c ∧ xs.length ≤ c ∧ Reads w w.heap.size size A xs.length (xs.flatMap f) := by
  have h0 := h
  rcases h.2 with ⟨q, q0⟩ | ⟨g', cap, cur, q, _, _, hc, _⟩
  · refine ⟨none, 0, by rw [q, q0], by omega, ?_⟩
    subst q; unfold Row at h0; rw [q0]; rw [q0] at h0; exact Reads.of_own h0
  · subst q; exact ⟨_, _, rfl, hc, Reads.of_own h0⟩
theorem Reads.take {w : World} {B : Nat} {A : Option Addr} {xs : List α} (hf : ∀ x, (f x).length = size) (h : Reads w B size A xs.length (xs.flatMap f)) {k : Nat} (hk : k ≤ xs.length) : Reads w B size A (xs.take k).length ((xs.take k).flatMap f) := by
  refine ⟨flatLen hf _, fun hn => ?_⟩
  have hl : (xs.take k).length = k := by rw [List.length_take]; omega
  obtain ⟨ad, e, hb, hc⟩ := h.2 (by omega)
  refine ⟨ad, e, hb, fun j u hu => hc j u ?_⟩
  have : xs.flatMap f = (xs.take k).flatMap f ++ (xs.drop k).flatMap f := by rw [← List.flatMap_append, List.take_append_drop]
  rw [this, List.getElem?_append_left (List.getElem?_eq_some_iff.1 hu).1]; exact hu
theorem Row.kept (h : Row w base e size f v xs) {row : Option Nat} (hg : w.grownBy w' row) (hne : ∀ g, v.ownBlock = some g → row ≠ some g) : Row w' base e size f v xs := by
  cases q : v.ownBlock with
  | none => exact World.ownsRow.kept h hg (.inl q)
  | some g => exact World.ownsRow.kept h hg (.inr (by rw [q]; exact fun e => hne g q e.symm))
theorem Row.below (h : Row w base e size f v xs) (hb : Below w.heap.size w w') : Row w' base e size f v xs := h.kept (only_of_below hb none) (fun _ _ => by simp)
theorem Row.alloc (h : Row w base e size f v xs) (o : Obj) : Row (w.alloc o) base e size f v xs := World.ownsRow.alloc h o
theorem Row.drewN (h : Row w base e size f v xs) (n : Nat) : Row (w.drewN n) base e size f v xs := h.below (below_drewN (Below.refl _ _) n)
theorem Row.drew (h : Row w base e size f v xs) : Row w.drew base e size f v xs := h.below (Below.refl _ _).drew
theorem Row.setCell (h : Row w base e size f v xs) {p : Addr} (hp : p.block < base) (u : Value) : Row (w.setCell p u) base e size f v xs := ownsRow_setCell_below h hp u
theorem Row.more (h : Row w base e size f v xs) {base' : Nat} (hb : base' ≤ base) : Row w base' e size f v xs := by
  refine ⟨h.1, ?_⟩
  rcases h.2 with q | ⟨g', cap, cur, q, hx, hh⟩
  · exact .inl q
  · exact .inr ⟨g', cap, cur, q, by omega, hh⟩
theorem low_grown {B : Nat} {W : World} (hlow : Below B W w) (hB : B ≤ base) (hz : B ≤ w.heap.size) (h : Row w base e size f v xs) (hg : w.grownBy w' v.ownBlock) : Below B W w' :=
  hlow.grown hg hz fun q hq => by have := (h.own hq).1; omega
end
section
variable {P : Program} (w : World) {α : Type} {f : α → List Value}
/-- Some bool, of which p is so; the world is as it was. -/
def SomeB (p : Bool → Prop) (w : World) (e : Ending) (w' : World) : Prop := ∃ b, e = .returned (.bool b) ∧ w' = w ∧ p b
theorem bytes_ne {x s : ByteArray} (h : x ≠ s) : (x.toList == s.toList) = false := by
  rw [beq_eq_false_iff_ne]
  intro e
  apply h; apply ByteArray.ext; apply Array.toList_inj.1; rw [← Lib.toList_data, ← Lib.toList_data]; exact e
/-- 'append(l, y)' at a row of the call's own; y lies in a block that was just laid. -/
theorem wpList_append_row {ops : Array Oper} {rest : List Oper} {o : Oper} {a : Act} {Q : Exit → Act → World → Prop} (hgd : o.guard = none) (s x : Operand) (t : TypeId)
    (ho : o.op = .call { callee := .builtin .append, args := #[s, x], argTypes := #[t, t] })
    (base : Nat) (e : TypeId) (i : TypeInfo) (z : Value) (size bytes : Nat) (ht : P.underlying t = some (.slice e)) (hi : P.info? e = some i) (hz : i.zero = some z)
    (hsize : i.size = size) (hby : i.bytes = bytes) (hzs : z.cells.size = size) (hsz : 0 < size)
    (v : Value) (xs : List α) (hs : a.eval s = v) (hown : Row w base e size f v xs) (hf : ∀ x, (f x).length = size)
    (g : Nat) (y : α) (hx : a.eval x = .slice (some ⟨g, 0, none⟩) 1 1) (hc : ∀ j u, (f y)[j]? = some u → w.cell? ⟨g, j, none⟩ = some u) (h1 : ∀ u ∈ f y, u.oneCell' = true)
    (h63 : xs.length + 1 ≤ maxLen) (hbytes : (xs.length + 1) * bytes ≤ 140737488355328) (hbase : base ≤ w.heap.size)
    (h : ∀ v' w', Row w' base e size f v' (xs ++ [y]) → w.grownBy w' v.ownBlock → wpList P ops Q rest (a.put o.dst v') w') : wpList P ops Q (o :: rest) a w := by
  refine wpList_append_own w hgd s x t ho base e i z size bytes ht hi hz hsize hby hzs hsz v xs.length (xs.flatMap f) hs hown ⟨g, 0, none⟩ 1 1 (f y) hx (by rw [hf]; omega) (fun j u hu => ?_) h1 h63 hbytes hbase (fun v' w' h2 h3 _ => h v' w' ?_ h3)
  · have := hc j u hu
    unfold Addr.add
    by_cases hj : j = 0
    · subst hj; simpa using this
    · simpa [hj] using this
  · unfold Row
    rw [List.length_append, List.flatMap_append]
    simpa using h2
/-- 'append(l, ys...)' at a row of the call's own. -/
theorem wpList_append_rows {ops : Array Oper} {rest : List Oper} {o : Oper} {a : Act} {Q : Exit → Act → World → Prop} (hgd : o.guard = none) (s x : Operand) (t : TypeId)
    (ho : o.op = .call { callee := .builtin .append, args := #[s, x], argTypes := #[t, t] })
    (base : Nat) (e : TypeId) (i : TypeInfo) (z : Value) (size bytes : Nat) (ht : P.underlying t = some (.slice e)) (hi : P.info? e = some i) (hz : i.zero = some z)
    (hsize : i.size = size) (hby : i.bytes = bytes) (hzs : z.cells.size = size) (hsz : 0 < size)
    (v : Value) (xs : List α) (hs : a.eval s = v) (hown : Row w base e size f v xs)
    (B : Nat) (A : Option Addr) (c : Nat) (ys : List α) (hx : a.eval x = .slice A ys.length c) (hr : Reads w B size A ys.length (ys.flatMap f)) (h1 : ∀ y ∈ ys, ∀ u ∈ f y, u.oneCell' = true)
    (h63 : xs.length + ys.length ≤ maxLen) (hbytes : (xs.length + ys.length) * bytes ≤ 140737488355328) (hbase : base ≤ w.heap.size)
    (h : ∀ v' w', Row w' base e size f v' (xs ++ ys) → w.grownBy w' v.ownBlock → wpList P ops Q rest (a.put o.dst v') w') : wpList P ops Q (o :: rest) a w := by
  refine wpList_append_any w hgd s x t ho base e i z size bytes ht hi hz hsize hby hzs hsz v xs.length (xs.flatMap f) hs hown B A ys.length c (ys.flatMap f) hx hr (fun u hu => ?_) h63 hbytes hbase (fun v' w' h2 h3 _ => h v' w' ?_ h3)
  · obtain ⟨y, hy, hu⟩ := List.mem_flatMap.1 hu
    exact h1 y hy u hu
  · unfold Row
    rw [List.length_append, List.flatMap_append]
    exact h2
/-- The same, where the length is spelled otherwise. -/
theorem wpList_append_rowsN {ops : Array Oper} {rest : List Oper} {o : Oper} {a : Act} {Q : Exit → Act → World → Prop} (hgd : o.guard = none) (s x : Operand) (t : TypeId)
    (ho : o.op = .call { callee := .builtin .append, args := #[s, x], argTypes := #[t, t] })
    (base : Nat) (e : TypeId) (i : TypeInfo) (z : Value) (size bytes : Nat) (ht : P.underlying t = some (.slice e)) (hi : P.info? e = some i) (hz : i.zero = some z)
    (hsize : i.size = size) (hby : i.bytes = bytes) (hzs : z.cells.size = size) (hsz : 0 < size)
    (v : Value) (xs : List α) (hs : a.eval s = v) (hown : Row w base e size f v xs)
    (B : Nat) (A : Option Addr) (m c : Nat) (ys : List α) (hm : ys.length = m) (hx : a.eval x = .slice A m c) (hr : Reads w B size A m (ys.flatMap f)) (h1 : ∀ y ∈ ys, ∀ u ∈ f y, u.oneCell' = true)
    (h63 : xs.length + ys.length ≤ maxLen) (hbytes : (xs.length + ys.length) * bytes ≤ 140737488355328) (hbase : base ≤ w.heap.size)
    (h : ∀ v' w', Row w' base e size f v' (xs ++ ys) → w.grownBy w' v.ownBlock → wpList P ops Q rest (a.put o.dst v') w') : wpList P ops Q (o :: rest) a w := by
  subst hm
  exact wpList_append_rows w hgd s x t ho base e i z size bytes ht hi hz hsize hby hzs hsz v xs hs hown B A c ys hx hr h1 h63 hbytes hbase h
theorem Reads.of_blk {w : World} {g : Nat} {t : TypeId} {cs : Array Value} {size : Nat} {xs : List α} (h : Blk w g t cs) (hf : ∀ x, (f x).length = size) (hcs : cs.toList = xs.flatMap f) : Reads w w.heap.size size (some ⟨g, 0, none⟩) xs.length (xs.flatMap f) := by
  refine ⟨flatLen hf xs, fun _ => ⟨_, rfl, h.lt, fun j u hu => ?_⟩⟩
  have h1 := h.cell j
  rw [← hcs] at hu
  rw [← Array.getElem?_toList, hu] at h1
  rw [← h1]
  unfold Addr.add
  by_cases hj : j = 0
  · subst hj; rfl
  · simp [hj]
/-- A slice that was written out: its block was just laid; another one was laid behind it. -/
theorem lit1 {size : Nat} (w : World) (t : TypeId) (xs : List α) (hf : ∀ x, (f x).length = size) : Reads (w.alloc (.cells (xs.flatMap f).toArray t)) (w.alloc (.cells (xs.flatMap f).toArray t)).heap.size size (some ⟨w.heap.size, 0, none⟩) xs.length (xs.flatMap f) :=
  Reads.of_blk (Blk.new w t _) hf rfl
theorem lit2 {size : Nat} (w : World) (t : TypeId) (xs : List α) (o : Obj) (hf : ∀ x, (f x).length = size) : Reads ((w.alloc (.cells (xs.flatMap f).toArray t)).alloc o) ((w.alloc (.cells (xs.flatMap f).toArray t)).alloc o).heap.size size (some ⟨w.heap.size, 0, none⟩) xs.length (xs.flatMap f) :=
  Reads.of_blk ((Blk.new w t _).alloc o) hf rfl
theorem lit3 {size : Nat} (w : World) (t : TypeId) (xs : List α) (o : Obj) (hf : ∀ x, (f x).length = size) : Reads ((w.alloc o).alloc (.cells (xs.flatMap f).toArray t)) ((w.alloc o).alloc (.cells (xs.flatMap f).toArray t)).heap.size size (some ⟨w.heap.size + 1, 0, none⟩) xs.length (xs.flatMap f) := by
  have h := Blk.new (w.alloc o) t (xs.flatMap f).toArray
  rw [World.size_alloc] at h
  exact Reads.of_blk h hf rfl
theorem below_lit (w : World) (o : Obj) : Below w.heap.size w (w.alloc o) := (Below.refl _ _).alloc (Nat.le_refl _) _
theorem below_lit2 (w : World) (o o' : Obj) : Below w.heap.size w ((w.alloc o).alloc o') := ((Below.refl _ _).alloc (Nat.le_refl _) _).alloc (by simp) _
theorem cells_new (w : World) (t : TypeId) (l : List Value) : ∀ j u, l[j]? = some u → (w.alloc (.cells l.toArray t)).cell? ⟨w.heap.size, j, none⟩ = some u := by
  intro j u hu
  rw [(Blk.new w t l.toArray).cell]
  simpa using hu
theorem low_row {B : Nat} {W w w' : World} {base : Nat} {e : TypeId} {size : Nat} {v : Value} {xs : List α} (hlow : Below B W w) (h : Row w base e size f v xs) (hB : B ≤ base) (hz : B ≤ w.heap.size) {o : Obj}
    (hg : (w.alloc o).grownBy w' v.ownBlock) : Below B W w' := low_grown (hlow.alloc hz o) hB (by simp; omega) (h.alloc o) hg
end
section
variable {α : Type} {q : α → Value} {w : World} {base g n cap : Nat} {e : TypeId} {xs : List α}
theorem Row1.block (h : Row w base e 1 (fun x => [q x]) (.slice (some ⟨g, 0, none⟩) n cap) xs) :
    n = xs.length ∧ base ≤ g ∧ n ≤ cap ∧ cap ≤ maxLen ∧ ∃ cur : Array Value, Blk w g e cur ∧ cur.size = cap ∧ cur.toList.take n = xs.map q := by
  rcases h.2 with ⟨h1, _⟩ | ⟨g', cap', cur, h1, hb, hh, hc, hm, hz, ht⟩
  · cases h1
  · injection h1 with h1 h2 h3
    injection h1 with h1; injection h1 with h1
    subst h1 h2 h3
    rw [Nat.mul_one] at hz ht
    exact ⟨rfl, hb, hc, hm, cur, hh, hz, by rw [ht, map_flat]⟩
theorem Row1.of (hb : base ≤ g) (hc : xs.length ≤ cap) (hm : cap ≤ maxLen) {cur : Array Value} (hh : Blk w g e cur) (hz : cur.size = cap) (ht : cur.toList.take xs.length = xs.map q) :
    Row w base e 1 (fun x => [q x]) (.slice (some ⟨g, 0, none⟩) xs.length cap) xs :=
  ⟨by rw [map_flat]; simp, .inr ⟨g, cap, cur, rfl, hb, hh, hc, hm, by rw [hz, Nat.mul_one], by rw [Nat.mul_one, map_flat]; exact ht⟩⟩
theorem Row1.cell (h : Row w base e 1 (fun x => [q x]) (.slice (some ⟨g, 0, none⟩) n cap) xs) {i : Nat} (hi : i < xs.length) : w.cell? ⟨g, i, none⟩ = some (q xs[i]) ∧ w.frozen? ⟨g, i, none⟩ = false := by
  obtain ⟨rfl, _, hc, _, cur, hh, hz, ht⟩ := Row1.block h
  refine ⟨?_, hh.frozen i⟩
  rw [hh.cell, ← Array.getElem?_toList]
  have := List.getElem?_take_of_lt (l := cur.toList) hi
  rw [ht] at this
  rw [← this]; simp [hi]
theorem Row1.set (h : Row w base e 1 (fun x => [q x]) (.slice (some ⟨g, 0, none⟩) n cap) xs) {i : Nat} (hi : i < xs.length) (y : α) : Row (w.setCell ⟨g, i, none⟩ (q y)) base e 1 (fun x => [q x]) (.slice (some ⟨g, 0, none⟩) n cap) (xs.set i y) := by
  obtain ⟨rfl, hb, hc, hm, cur, hh, hz, ht⟩ := Row1.block h
  have := Row1.of (xs := xs.set i y) (q := q) (w := w.setCell ⟨g, i, none⟩ (q y)) hb (by simpa using hc) hm (hh.set_ i (q y)) (by simpa using hz) (by
    rw [List.length_set, List.map_set, ← ht, Array.toList_setIfInBounds, List.take_set])
  rwa [List.length_set] at this
theorem Row1.cut (h : Row w base e 1 (fun x => [q x]) (.slice (some ⟨g, 0, none⟩) n cap) xs) {k : Nat} (hk : k ≤ xs.length) : Row w base e 1 (fun x => [q x]) (.slice (some ⟨g, 0, none⟩) k cap) (xs.take k) := by
  obtain ⟨rfl, hb, hc, hm, cur, hh, hz, ht⟩ := Row1.block h
  have hl : (xs.take k).length = k := by rw [List.length_take]; omega
  have := Row1.of (xs := xs.take k) (q := q) (w := w) hb (by omega) hm hh hz (by
    rw [hl, List.map_take, ← ht, List.take_take, Nat.min_eq_left hk])
  rwa [hl] at this
theorem Row1.beyond (h : Row w base e 1 (fun x => [q x]) (.slice (some ⟨g, 0, none⟩) n cap) xs) {j : Nat} (hj : n ≤ j) (u : Value) : Row (w.setCell ⟨g, j, none⟩ u) base e 1 (fun x => [q x]) (.slice (some ⟨g, 0, none⟩) n cap) xs := by
  obtain ⟨rfl, hb, hc, hm, cur, hh, hz, ht⟩ := Row1.block h
  exact Row1.of hb hc hm (hh.set_ j u) (by simpa using hz) (by rw [Array.toList_setIfInBounds, List.take_set_of_le hj]; exact ht)
theorem Row1.beyonds (n : Nat) : ∀ (us : List Value) (j : Nat) (w : World) (xs : List α), Row w base e 1 (fun x => [q x]) (.slice (some ⟨g, 0, none⟩) n cap) xs → n ≤ j → Row (w.setCells g j us) base e 1 (fun x => [q x]) (.slice (some ⟨g, 0, none⟩) n cap) xs
  | [], _, _, _, h, _ => h
  | u :: us, j, w, xs, h, hj => Row1.beyonds n us (j + 1) _ xs (Row1.beyond h hj u) (by omega)
theorem low_setCells {B : Nat} {W : World} (hg : B ≤ g) : ∀ (us : List Value) (j : Nat) (w : World), Below B W w → Below B W (w.setCells g j us)
  | [], _, _, h => h
  | u :: us, j, w, h => low_setCells hg us (j + 1) _ (h.setCell (p := ⟨g, j, none⟩) hg u)
end
/-- Two cells of what lay at first, in a world in which nothing of that has turned. -/
structure PQ (M : Nat) (w0 : World) (p q : Addr) (x y : Value) (w' : World) : Prop where
  c1 : w0.cell? p = some x
  c2 : w0.cell? q = some y
  hp : p.block < M
  hq : q.block < M
  low : Below M w0 w'
theorem PQ.of {M : Nat} {w0 : World} {p q : Addr} {x y : Value} {w' : World} (h : PQ M w0 p q x y w') : w'.cell? p = some x ∧ w'.cell? q = some y ∧ Hid (PQ M w0 p q x y w') :=
  ⟨(h.low.cell h.hp).trans h.c1, (h.low.cell h.hq).trans h.c2, h⟩
theorem PQ.drew {M : Nat} {w0 : World} {p q : Addr} {x y : Value} {w' : World} (h : Hid (PQ M w0 p q x y w')) : w'.drew.cell? p = some x ∧ w'.drew.cell? q = some y ∧ Hid (PQ M w0 p q x y w'.drew) :=
  PQ.of ⟨h.c1, h.c2, h.hp, h.hq, h.low.drew⟩
theorem PQ.step {M : Nat} {w0 : World} {p q : Addr} {x y : Value} {W0 w' : World} (h : Hid (PQ M w0 p q x y W0)) (hb : Below M w0 w') : w'.cell? p = some x ∧ w'.cell? q = some y ∧ Hid (PQ M w0 p q x y w') :=
  PQ.of ⟨h.c1, h.c2, h.hp, h.hq, hb⟩
/-- Three cells. -/
structure PR (M : Nat) (w0 : World) (p q r : Addr) (x y z : Value) (w' : World) : Prop where
  c1 : w0.cell? p = some x
  c2 : w0.cell? q = some y
  c3 : w0.cell? r = some z
  hp : p.block < M
  hq : q.block < M
  hr : r.block < M
  low : Below M w0 w'
theorem PR.of {M : Nat} {w0 : World} {p q r : Addr} {x y z : Value} {w' : World} (h : PR M w0 p q r x y z w') : w'.cell? p = some x ∧ w'.cell? q = some y ∧ w'.cell? r = some z ∧ Hid (PR M w0 p q r x y z w') :=
  ⟨(h.low.cell h.hp).trans h.c1, (h.low.cell h.hq).trans h.c2, (h.low.cell h.hr).trans h.c3, h⟩
theorem PR.drew {M : Nat} {w0 : World} {p q r : Addr} {x y z : Value} {w' : World} (h : Hid (PR M w0 p q r x y z w')) : w'.drew.cell? p = some x ∧ w'.drew.cell? q = some y ∧ w'.drew.cell? r = some z ∧ Hid (PR M w0 p q r x y z w'.drew) :=
  PR.of ⟨h.c1, h.c2, h.c3, h.hp, h.hq, h.hr, h.low.drew⟩
theorem PR.step {M : Nat} {w0 : World} {p q r : Addr} {x y z : Value} {W0 w' : World} (h : Hid (PR M w0 p q r x y z W0)) (hb : Below M w0 w') : w'.cell? p = some x ∧ w'.cell? q = some y ∧ w'.cell? r = some z ∧ Hid (PR M w0 p q r x y z w') :=
  PR.of ⟨h.c1, h.c2, h.c3, h.hp, h.hq, h.hr, hb⟩
section
variable {P : Program} (w : World) {α : Type} {f : α → List Value}
theorem step_append_row {ops : Array Oper} {o : Oper} {a : Act} {K : Act → World → Prop} {Q : Exit → Act → World → Prop} {E : Prop} (hgd : o.guard = none) (s x : Operand) (t : TypeId)
    (ho : o.op = .call { callee := .builtin .append, args := #[s, x], argTypes := #[t, t] })
    (base : Nat) (e : TypeId) (i : TypeInfo) (z : Value) (size bytes : Nat) (ht : P.underlying t = some (.slice e)) (hi : P.info? e = some i) (hz : i.zero = some z)
    (hsize : i.size = size) (hby : i.bytes = bytes) (hzs : z.cells.size = size) (hsz : 0 < size)
    (v : Value) (xs : List α) (hs : a.eval s = v) (hown : Row w base e size f v xs) (hf : ∀ x, (f x).length = size)
    (g : Nat) (y : α) (hx : a.eval x = .slice (some ⟨g, 0, none⟩) 1 1) (hc : ∀ j u, (f y)[j]? = some u → w.cell? ⟨g, j, none⟩ = some u) (h1 : ∀ u ∈ f y, u.oneCell' = true)
    (hlt : g < w.heap.size) (h63 : xs.length + 1 ≤ maxLen) (hbytes : (xs.length + 1) * bytes ≤ 140737488355328) (hbase : base ≤ w.heap.size)
    (h : ∀ v' w', Row w' base e size f v' (xs ++ [y]) → w.grownBy w' v.ownBlock → K (a.put o.dst v') w') : if Region.wanted o (yielded ops a.tmps) = true then Oper.wp P o a w K Q else E := by
  refine step_append_any w hgd s x t ho base e i z size bytes ht hi hz hsize hby hzs hsz v xs.length (xs.flatMap f) hs hown w.heap.size (some ⟨g, 0, none⟩) 1 1 (f y) hx ⟨by rw [hf]; omega, fun _ => ⟨_, rfl, hlt, fun j u hu => ?_⟩⟩ h1 h63 hbytes hbase (fun v' w' h2 h3 _ => h v' w' ?_ h3)
  · have := hc j u hu
    unfold Addr.add
    by_cases hj : j = 0
    · subst hj; simpa using this
    · simpa [hj] using this
  · unfold Row
    rw [List.length_append, List.flatMap_append]
    simpa using h2
theorem step_append_rowL {ops : Array Oper} {o : Oper} {a : Act} {K : Act → World → Prop} {Q : Exit → Act → World → Prop} {E : Prop} (hgd : o.guard = none) (s x : Operand) (t : TypeId)
    (ho : o.op = .call { callee := .builtin .append, args := #[s, x], argTypes := #[t, t] })
    (base : Nat) (e : TypeId) (i : TypeInfo) (z : Value) (size bytes : Nat) (ht : P.underlying t = some (.slice e)) (hi : P.info? e = some i) (hz : i.zero = some z)
    (hsize : i.size = size) (hby : i.bytes = bytes) (hzs : z.cells.size = size) (hsz : 0 < size)
    (v : Value) (xs : List α) (hs : a.eval s = v) (hown : Row w base e size f v xs) (hf : ∀ x, (f x).length = size)
    (g : Nat) (y : α) (hx : a.eval x = .slice (some ⟨g, 0, none⟩) 1 1) (hc : ∀ j u, (f y)[j]? = some u → w.cell? ⟨g, j, none⟩ = some u) (h1 : ∀ u ∈ f y, u.oneCell' = true)
    (hlt : g < w.heap.size) (h63 : xs.length + 1 ≤ maxLen) (hbytes : (xs.length + 1) * bytes ≤ 140737488355328) (hbase : base ≤ w.heap.size)
    (h : ∀ v' w', Row w' base e size f v' (xs ++ [y]) → w.grownBy w' v.ownBlock → (v'.ownBlock = v.ownBlock ∨ v'.ownBlock = some w.heap.size) → K (a.put o.dst v') w') : if Region.wanted o (yielded ops a.tmps) = true then Oper.wp P o a w K Q else E := by
  refine step_append_any w hgd s x t ho base e i z size bytes ht hi hz hsize hby hzs hsz v xs.length (xs.flatMap f) hs hown w.heap.size (some ⟨g, 0, none⟩) 1 1 (f y) hx ⟨by rw [hf]; omega, fun _ => ⟨_, rfl, hlt, fun j u hu => ?_⟩⟩ h1 h63 hbytes hbase (fun v' w' h2 h3 h4 => h v' w' ?_ h3 h4)
  · have := hc j u hu
    unfold Addr.add
    by_cases hj : j = 0
    · subst hj; simpa using this
    · simpa [hj] using this
  · unfold Row
    rw [List.length_append, List.flatMap_append]
    simpa using h2
/-- The same, with where the new slice lies. -/
theorem wpList_append_rowL {ops : Array Oper} {rest : List Oper} {o : Oper} {a : Act} {Q : Exit → Act → World → Prop} (hgd : o.guard = none) (s x : Operand) (t : TypeId)
    (ho : o.op = .call { callee := .builtin .append, args := #[s, x], argTypes := #[t, t] })
    (base : Nat) (e : TypeId) (i : TypeInfo) (z : Value) (size bytes : Nat) (ht : P.underlying t = some (.slice e)) (hi : P.info? e = some i) (hz : i.zero = some z)
    (hsize : i.size = size) (hby : i.bytes = bytes) (hzs : z.cells.size = size) (hsz : 0 < size)
    (v : Value) (xs : List α) (hs : a.eval s = v) (hown : Row w base e size f v xs) (hf : ∀ x, (f x).length = size)
    (g : Nat) (y : α) (hx : a.eval x = .slice (some ⟨g, 0, none⟩) 1 1) (hc : ∀ j u, (f y)[j]? = some u → w.cell? ⟨g, j, none⟩ = some u) (h1 : ∀ u ∈ f y, u.oneCell' = true)
    (hlt : g < w.heap.size) (h63 : xs.length + 1 ≤ maxLen) (hbytes : (xs.length + 1) * bytes ≤ 140737488355328) (hbase : base ≤ w.heap.size)
    (h : ∀ v' w', Row w' base e size f v' (xs ++ [y]) → w.grownBy w' v.ownBlock → (v'.ownBlock = v.ownBlock ∨ v'.ownBlock = some w.heap.size) → wpList P ops Q rest (a.put o.dst v') w') : wpList P ops Q (o :: rest) a w :=
  wpList_plain hgd fun _ hK => by
    have := step_append_rowL (P := P) w (ops := ops) (o := o) (a := a) (K := _) (Q := Q) (E := True) hgd s x t ho base e i z size bytes ht hi hz hsize hby hzs hsz v xs hs hown hf g y hx hc h1 hlt h63 hbytes hbase (fun v' w' h2 h3 h4 => hK _ _ (h v' w' h2 h3 h4))
    rw [if_pos (by simp [Region.wanted, hgd])] at this
    exact this
end
end Go.Proofs.Aid
