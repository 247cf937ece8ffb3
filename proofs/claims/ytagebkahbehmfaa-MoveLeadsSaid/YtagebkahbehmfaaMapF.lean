/- A map of the call's own, keyed by texts, told by a plain function. No condition. -/
import Derived.Test.YtagebkahbehmfaaKit
import Derived.Maps.OwnSet
import Derived.StringKeys
namespace Go.Proofs.Aid
open Go.RowKit Go.WideShapes Go.ChangeShapes Go.Maps Go.WideMaps
abbrev kS (s : ByteArray) : Lit := .string s.data.toList
theorem kS_inj {s t : ByteArray} (h : s ≠ t) : kS s ≠ kS t := by
  intro e
  injection e with e
  exact h (ByteArray.ext (Array.ext' e))
/-- The map in block b holds f: integers. -/
def MapF (P : Program) (k e : TypeId) (w : World) (b n : Nat) (f : ByteArray → Option Int) : Prop :=
  ∃ D : DataW Unit, w.ownsMap P k (plainElem P e) b n D ∧ IsMap D ∧ (∀ s, Maps.has D (kS s) = (f s).isSome) ∧ ∀ s i, f s = some i → D.atKey (kS s) (.lit (.int .i64 0)) = .lit (.int .i64 i)
def upd {α : Type} (f : ByteArray → Option α) (s : ByteArray) (i : Option α) : ByteArray → Option α := fun t => if t = s then i else f t
theorem upd_same {α : Type} (f : ByteArray → Option α) (s : ByteArray) (i : Option α) : upd f s i s = i := by simp [upd]
theorem upd_other {α : Type} (f : ByteArray → Option α) {s t : ByteArray} (i : Option α) (h : t ≠ s) : upd f s i t = f t := by simp [upd, h]
section
variable {P : Program} {k e : TypeId} {w w' : World} {b n : Nat} {f : ByteArray → Option Int}
theorem MapF.made (w : World) (P : Program) (k e : TypeId) : MapF P k e (w.alloc (.map #[] 0)) w.heap.size 0 (fun _ => none) :=
  ⟨.map [], World.ownsMap_made _ _ _ _, isMap_empty, fun _ => rfl, fun _ _ h => by cases h⟩
theorem MapF.kept (h : MapF P k e w b n f) {row : Option Nat} (hg : w.grownBy w' row) (hne : some b ≠ row) : MapF P k e w' b n f := by
  obtain ⟨D, h1, h2, h3, h4⟩ := h
  exact ⟨D, h1.kept hg hne, h2, h3, h4⟩
theorem MapF.alloc (h : MapF P k e w b n f) (o : Obj) : MapF P k e (w.alloc o) b n f := by
  obtain ⟨D, h1, h2, h3, h4⟩ := h
  exact ⟨D, h1.alloc o, h2, h3, h4⟩
theorem MapF.lt (h : MapF P k e w b n f) : b < w.heap.size := by
  obtain ⟨D, ⟨es, clock, hb, _⟩, _⟩ := h
  rcases Nat.lt_or_ge b w.heap.size with hlt | hge
  · exact hlt
  · rw [Array.getElem?_eq_none hge] at hb; cases hb
theorem MapF.mono (h : MapF P k e w b n f) {n' : Nat} (hn : n ≤ n') : MapF P k e w b n' f := by
  obtain ⟨D, h1, h2⟩ := h
  exact ⟨D, h1.mono hn, h2⟩
theorem MapF.below (h : MapF P k e w b n f) (hb : Below w.heap.size w w') : MapF P k e w' b n f := h.kept (only_of_below hb none) (by simp)
theorem MapF.eq {g : ByteArray → Option Int} (h : MapF P k e w b n f) (he : ∀ s, f s = g s) : MapF P k e w b n g := by
  rw [show g = f from funext fun s => (he s).symm]; exact h
variable {ops : Array Oper} {rest : List Oper} {o : Oper} {a : Act} {Q : Exit → Act → World → Prop}
theorem wpList_lookup_mapF (hg : o.guard = none) (m x : Operand) (t : TypeId) (hop : o.op = Op.lookup t m x true)
    (hk : P.underlying k = some .string) (ht : P.underlying t = some (.map k e)) (he : P.underlying e = some (.int .i64)) (hz : (zeroValue e).run P w = .ok (.int .i64 0) w) (b n : Nat) (f : ByteArray → Option Int)
    (hm : a.eval m = .map (some b)) (hown : MapF P k e w b n f) (s : ByteArray) (hx : a.eval x = .string s) (hs : s.size ≤ maxLen)
    (hK : wpList P ops Q rest (a.put o.dst (.tuple #[.int .i64 ((f s).getD 0), .bool (f s).isSome])) w) :
    wpList P ops Q (o :: rest) a w := by
  obtain ⟨D, h1, h2, h3, h4⟩ := hown
  refine wpList_lookup_own_ok_int w hg m x t hop k e .i64 (string_keyed hk) ht he hz b n D hm h1 (.string s) (kS s) hx (keyOf_string_mk hk hs) (fun c hc _ => ?_)
  rw [h3]
  cases q : f s with
  | none =>
    have := atKey_of_not_has (k := kS s) (D := D) (by rw [h3, q]; rfl) (.lit (.int .i64 0))
    rw [this] at hc
    injection hc with hc; injection hc with _ hc
    rw [q] at hK
    simpa [← hc] using hK
  | some i =>
    rw [h4 s i q] at hc
    injection hc with hc; injection hc with _ hc
    rw [q] at hK
    simpa [← hc] using hK
theorem wpList_lookup_some (hg : o.guard = none) (m x : Operand) (t : TypeId) (hop : o.op = Op.lookup t m x true)
    (hk : P.underlying k = some .string) (ht : P.underlying t = some (.map k e)) (he : P.underlying e = some (.int .i64)) (hz : (zeroValue e).run P w = .ok (.int .i64 0) w) (b n : Nat) (f : ByteArray → Option Int)
    (hm : a.eval m = .map (some b)) (hown : MapF P k e w b n f) (s : ByteArray) (hx : a.eval x = .string s) (hs : s.size ≤ maxLen) (i : Int) (hf : f s = some i)
    (hK : wpList P ops Q rest (a.put o.dst (.tuple #[.int .i64 i, .bool true])) w) :
    wpList P ops Q (o :: rest) a w := wpList_lookup_mapF hg m x t hop hk ht he hz b n f hm hown s hx hs (by rw [hf]; exact hK)
theorem wpList_lookup_none (hg : o.guard = none) (m x : Operand) (t : TypeId) (hop : o.op = Op.lookup t m x true)
    (hk : P.underlying k = some .string) (ht : P.underlying t = some (.map k e)) (he : P.underlying e = some (.int .i64)) (hz : (zeroValue e).run P w = .ok (.int .i64 0) w) (b n : Nat) (f : ByteArray → Option Int)
    (hm : a.eval m = .map (some b)) (hown : MapF P k e w b n f) (s : ByteArray) (hx : a.eval x = .string s) (hs : s.size ≤ maxLen) (hf : f s = none)
    (hK : wpList P ops Q rest (a.put o.dst (.tuple #[.int .i64 0, .bool false])) w) :
    wpList P ops Q (o :: rest) a w := wpList_lookup_mapF hg m x t hop hk ht he hz b n f hm hown s hx hs (by rw [hf]; exact hK)
theorem isKey_kS (s : ByteArray) : WideAt.IsKeyLit (kS s) := by simp [WideAt.IsKeyLit, kS]
theorem wpList_store_mapF (hg : o.guard = none) (m x v : Operand) (t : TypeId) (hop : o.op = Op.mapUpdate t m x v)
    (hk : P.underlying k = some .string) (ht : P.underlying t = some (.map k e)) (he : P.underlying e = some (.int .i64)) (b n : Nat) (f : ByteArray → Option Int)
    (hm : a.eval m = .map (some b)) (hown : MapF P k e w b n f) (hn : n < maxLen) (s : ByteArray) (i : Int) (hx : a.eval x = .string s) (hv : a.eval v = .int .i64 i) (hs : s.size ≤ maxLen) (hi : (Lit.int .i64 i).wf = true)
    (hK : ∀ w', MapF P k e w' b (n + 1) (upd f s (some i)) → w.grownBy w' (some b) → wpList P ops Q rest (a.put o.dst undef) w') :
    wpList P ops Q (o :: rest) a w := by
  obtain ⟨D, h1, h2, h3, h4⟩ := hown
  refine wpList_mapUpdate_own w hg m x v t hop k e (string_keyed hk) ht (plainElem P e) b n D hm h1 hn (.string s) (.int .i64 i) (kS s) hx hv (keyOf_string_mk hk hs) (.lit (.int .i64 i)) [] (plainElem_int he hi) (fun w' r1 r2 => ?_)
  refine hK w' ⟨_, r1, h2.put _ _, fun t => ?_, fun t j hj => ?_⟩ r2
  · by_cases q : t = s
    · subst q; rw [upd_same, has_put_same h2 (isKey_kS t)]; rfl
    · rw [upd_other _ _ q, has_put_other (kS_inj q), h3]
  · by_cases q : t = s
    · subst q; rw [upd_same] at hj; injection hj with hj; subst hj
      exact atKey_put_same h2 (isKey_kS t) _ _
    · rw [upd_other _ _ q] at hj
      rw [atKey_put_other (kS_inj q)]; exact h4 t j hj
theorem wpList_delete_mapF (hg : o.guard = none) (m x : Operand) (t : TypeId) (hop : o.op = Op.call { callee := Callee.builtin Builtin.delete, args := #[m, x], argTypes := #[t, k] })
    (hk : P.underlying k = some .string) (ht : P.underlying t = some (.map k e)) (b n : Nat) (f : ByteArray → Option Int)
    (hm : a.eval m = .map (some b)) (hown : MapF P k e w b n f) (s : ByteArray) (hx : a.eval x = .string s) (hs : s.size ≤ maxLen)
    (hK : ∀ w', MapF P k e w' b n (upd f s none) → w.grownBy w' (some b) → wpList P ops Q rest (a.put o.dst (.tuple #[])) w') :
    wpList P ops Q (o :: rest) a w := by
  obtain ⟨D, h1, h2, h3, h4⟩ := hown
  refine wpList_delete_own w hg m x t k hop e (string_keyed hk) ht (plainElem P e) b n D hm h1 (.string s) (kS s) hx (keyOf_string_mk hk hs) (fun w' r1 r2 => ?_)
  refine hK w' ⟨_, r1, h2.del _, fun t => ?_, fun t j hj => ?_⟩ r2.grown
  · by_cases q : t = s
    · subst q; rw [upd_same, has_del_same]; rfl
    · rw [upd_other _ _ q, has_del_other (kS_inj q), h3]
  · by_cases q : t = s
    · subst q; rw [upd_same] at hj; cases hj
    · rw [upd_other _ _ q] at hj
      rw [atKey_del_other (kS_inj q)]; exact h4 t j hj
end
/-- A set of texts. -/
def SetF (P : Program) (k : TypeId) (w : World) (b n : Nat) (f : ByteArray → Bool) : Prop :=
  ∃ D : DataW Unit, w.ownsMap P k unitElem b n D ∧ IsMap D ∧ ∀ s, Maps.has D (kS s) = f s
section
variable {P : Program} {k e : TypeId} {w w' : World} {b n : Nat} {f : ByteArray → Bool}
theorem SetF.made (w : World) (P : Program) (k : TypeId) : SetF P k (w.alloc (.map #[] 0)) w.heap.size 0 (fun _ => false) :=
  ⟨.map [], World.ownsMap_made _ _ _ _, isMap_empty, fun _ => rfl⟩
theorem SetF.kept (h : SetF P k w b n f) {row : Option Nat} (hg : w.grownBy w' row) (hne : some b ≠ row) : SetF P k w' b n f := by
  obtain ⟨D, h1, h2, h3⟩ := h
  exact ⟨D, h1.kept hg hne, h2, h3⟩
theorem SetF.alloc (h : SetF P k w b n f) (o : Obj) : SetF P k (w.alloc o) b n f := by
  obtain ⟨D, h1, h2, h3⟩ := h
  exact ⟨D, h1.alloc o, h2, h3⟩
theorem SetF.below (h : SetF P k w b n f) (hb : Below w.heap.size w w') : SetF P k w' b n f := h.kept (only_of_below hb none) (by simp)
theorem SetF.lt (h : SetF P k w b n f) : b < w.heap.size := by
  obtain ⟨D, ⟨es, clock, hb, _⟩, _⟩ := h
  rcases Nat.lt_or_ge b w.heap.size with hlt | hge
  · exact hlt
  · rw [Array.getElem?_eq_none hge] at hb; cases hb
theorem SetF.eq {g : ByteArray → Bool} (h : SetF P k w b n f) (he : ∀ s, f s = g s) : SetF P k w b n g := by
  rw [show g = f from funext fun s => (he s).symm]; exact h
variable {ops : Array Oper} {rest : List Oper} {o : Oper} {a : Act} {Q : Exit → Act → World → Prop}
theorem wpList_lookup_setF (hg : o.guard = none) (m x : Operand) (t : TypeId) (hop : o.op = Op.lookup t m x true)
    (hk : P.underlying k = some .string) (ht : P.underlying t = some (.map k e)) (hz : (zeroValue e).run P w = .ok (.agg #[]) w) (b n : Nat) (f : ByteArray → Bool)
    (hm : a.eval m = .map (some b)) (hown : SetF P k w b n f) (s : ByteArray) (hx : a.eval x = .string s) (hs : s.size ≤ maxLen)
    (hK : wpList P ops Q rest (a.put o.dst (.tuple #[.agg #[], .bool (f s)])) w) :
    wpList P ops Q (o :: rest) a w := by
  obtain ⟨D, h1, h2, h3⟩ := hown
  refine wpList_lookup_own_unit w hg m x t hop k e (string_keyed hk) ht hz b n D hm h1 (.string s) (kS s) hx (keyOf_string_mk hk hs) ?_
  rw [h3]; exact hK
theorem wpList_store_setF (hg : o.guard = none) (m x v : Operand) (t : TypeId) (hop : o.op = Op.mapUpdate t m x v)
    (hk : P.underlying k = some .string) (ht : P.underlying t = some (.map k e)) (b n : Nat) (f : ByteArray → Bool)
    (hm : a.eval m = .map (some b)) (hown : SetF P k w b n f) (hn : n < maxLen) (s : ByteArray) (hx : a.eval x = .string s) (hv : a.eval v = .agg #[]) (hs : s.size ≤ maxLen)
    (hK : ∀ w', SetF P k w' b (n + 1) (fun t => if t = s then true else f t) → w.grownBy w' (some b) → wpList P ops Q rest (a.put o.dst undef) w') :
    wpList P ops Q (o :: rest) a w := by
  obtain ⟨D, h1, h2, h3⟩ := hown
  refine wpList_mapUpdate_own w hg m x v t hop k e (string_keyed hk) ht unitElem b n D hm h1 hn (.string s) (.agg #[]) (kS s) hx hv (keyOf_string_mk hk hs) (.agg []) [] unitElem_mk (fun w' r1 r2 => ?_)
  refine hK w' ⟨_, r1, h2.put _ _, fun t => ?_⟩ r2
  by_cases q : t = s
  · subst q; simp only [if_true]; exact has_put_same h2 (isKey_kS t) _
  · simp only [if_neg q]; rw [has_put_other (kS_inj q), h3]
end
end Go.Proofs.Aid
