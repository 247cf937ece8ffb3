/- Tables of zeros and ones in one block of the call's own; the zero values of the law's two tables. -/
import Derived.Test.YtigcfpalmkfoiaaPgG
import Derived.Test.YtigcfpalmkfoiaaPgS
namespace Go.Proofs.Ytigcfpalmkfoiaa.pg
open Go.ChangeShapes Go.WideShapes Go.ChangeAt Go.RowKit Go.Proofs.Aid
def zMet : Array Value := Array.replicate 4096 (.int .i64 0)
def zBusy : Array Value := Array.replicate 64 (.int .i64 0)
theorem zero_met (w : World) : (zeroValue 32).run Try.prog w = .ok (.agg zMet) w := by kernel_rfl
theorem zero_busy (w : World) : (zeroValue 31).run Try.prog w = .ok (.agg zBusy) w := by kernel_rfl
def Tab (W : World) (g : Nat) (T : TypeId) (N : Nat) (m : Nat) : Prop := ∃ cs : Array Value, Blk W g T cs ∧ cs.size = N ∧ ∀ i, i < N → cs[i]? = some (.int .i64 (if m.testBit i then 1 else 0))
section
variable {W W' : World} {g : Nat} {T : TypeId} {N m : Nat}
theorem Tab.lt (h : Tab W g T N m) : g < W.heap.size := by obtain ⟨cs, hb, _⟩ := h; exact hb.lt
theorem Tab.cell (h : Tab W g T N m) {i : Nat} (hi : i < N) : W.cell? ⟨g, i, none⟩ = some (.int .i64 (if m.testBit i then 1 else 0)) := by
  obtain ⟨cs, hb, hs, hc⟩ := h
  rw [hb.cell]; exact hc i hi
theorem Tab.zero (h : Tab W g T N m) {i : Nat} (hi : i < N) (hb : m.testBit i = false) : W.cell? ⟨g, i, none⟩ = some (.int .i64 0) := by
  rw [h.cell hi, hb]; rfl
theorem Tab.one (h : Tab W g T N m) {i : Nat} (hi : i < N) (hb : m.testBit i = true) : W.cell? ⟨g, i, none⟩ = some (.int .i64 1) := by
  rw [h.cell hi, hb]; rfl
theorem Tab.frozen (h : Tab W g T N m) (i : Nat) : W.frozen? ⟨g, i, none⟩ = false := by obtain ⟨cs, hb, _⟩ := h; exact hb.frozen i
theorem Tab.set_ (h : Tab W g T N m) {i : Nat} (hi : i < N) : Tab (W.setCell ⟨g, i, none⟩ (.int .i64 1)) g T N (m ||| 2 ^ i) := by
  obtain ⟨cs, hb, hs, hc⟩ := h
  refine ⟨_, hb.set_ i _, by simpa using hs, fun j hj => ?_⟩
  rw [Array.getElem?_setIfInBounds, Nat.testBit_or, Nat.testBit_two_pow]
  by_cases e : i = j
  · subst e; simp [hs, hi]
  · rw [if_neg e, hc j hj]; simp [e]
theorem Tab.far (h : Tab W g T N m) {p : Addr} (hp : g ≠ p.block) (u : Value) : Tab (W.setCell p u) g T N m := by
  obtain ⟨cs, hb, r⟩ := h; exact ⟨cs, hb.far hp u, r⟩
theorem Tab.alloc (h : Tab W g T N m) (o : Obj) : Tab (W.alloc o) g T N m := by
  obtain ⟨cs, hb, r⟩ := h; exact ⟨cs, hb.alloc o, r⟩
theorem Tab.below {B : Nat} (h : Tab W g T N m) (hb : Below B W W') (hg : g < B) : Tab W' g T N m := by
  obtain ⟨cs, hk, r⟩ := h; exact ⟨cs, hk.below hb hg, r⟩
theorem Tab.drewN (h : Tab W g T N m) (n : Nat) : Tab (W.drewN n) g T N m := by
  obtain ⟨cs, hk, r⟩ := h; exact ⟨cs, hk.drewN n, r⟩
theorem Tab.new (W : World) (T : TypeId) (N : Nat) : Tab (W.alloc (.cells (Array.replicate N (.int .i64 0)) T)) W.heap.size T N 0 :=
  ⟨_, Blk.new W T _, by simp, fun i hi => by simp [hi]⟩
end
theorem stepP_some {n : Nat} {m b : Nat} {p : Int × Int} {s : Nat × Nat} (h : stepP n (m, b) p = some s) : ∃ x y : Nat, p = ((x : Int), (y : Int)) ∧ x < y ∧ y < n ∧ b.testBit x = false ∧ b.testBit y = false ∧ m.testBit (x * 64 + y) = false ∧ s = (m ||| 2 ^ (x * 64 + y), (b ||| 2 ^ x) ||| 2 ^ y) := by
  unfold stepP at h
  split at h
  · rename_i hc
    simp only [Bool.and_eq_true, decide_eq_true_eq, Bool.not_eq_true'] at hc
    obtain ⟨⟨⟨⟨⟨h1, h2⟩, h3⟩, h4⟩, h5⟩, h6⟩ := hc
    obtain ⟨p1, p2⟩ := p
    exact ⟨p1.toNat, p2.toNat, by simp only [Prod.mk.injEq]; exact ⟨by simp at h1; omega, by simp at h1 h2; omega⟩, by simp at h1 h2; omega, by simp at h1 h2 h3; omega, h4, h5, h6, (Option.some.inj h).symm⟩
  · cases h
end Go.Proofs.Ytigcfpalmkfoiaa.pg
