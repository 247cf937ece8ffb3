/- Entries of a registry: a key's register, by the package and by the reference. -/
import Derived.Test.YtfkjoeibofnnoaaDoorRgA
namespace Go.Proofs.YtfkjoeibofnnoaaDoor.rgy
open Go.ChangeShapes Go.WideShapes Go.ChangeAt Go.RowKit Go.Proofs.Aid Go.Proofs.YtfkjoeibofnnoaaDoor.name Go.Proofs.YtfkjoeibofnnoaaDoor.reg
def look (l : List En) (s : ByteArray) : Option Rg := (l.find? fun e => decide (e.key = s)).map En.reg
def get (l : List En) (s : ByteArray) : Rg := (look l s).getD Rg.zero
theorem look_found {l : List En} {s : ByteArray} {k : Nat} (h : k < l.length) (hk : l[k].key = s) (hj : ∀ j (_ : j < l.length), j < k → l[j].key ≠ s) : look l s = some l[k].reg := by
  unfold look
  rw [show l.find? (fun e => decide (e.key = s)) = some l[k] from by
    rw [List.find?_eq_some_iff_getElem]
    exact ⟨by simpa using hk, k, h, rfl, fun j hjk => by simpa using hj j (by omega) hjk⟩]
  rfl
theorem look_none {l : List En} {s : ByteArray} (hj : ∀ j (_ : j < l.length), l[j].key ≠ s) : look l s = none := by
  unfold look
  rw [show l.find? (fun e => decide (e.key = s)) = none from by
    rw [List.find?_eq_none]
    intro x hx
    obtain ⟨j, h, rfl⟩ := List.getElem_of_mem hx
    simpa using hj j h]
  rfl
theorem get_found {l : List En} {s : ByteArray} {k : Nat} (h : k < l.length) (hk : l[k].key = s) (hj : ∀ j (_ : j < l.length), j < k → l[j].key ≠ s) : get l s = l[k].reg := by
  unfold get; rw [look_found h hk hj]; rfl
theorem get_none {l : List En} {s : ByteArray} (hj : ∀ j (_ : j < l.length), l[j].key ≠ s) : get l s = Rg.zero := by
  unfold get; rw [look_none hj]; rfl
theorem next_ne {l : List En} {s : ByteArray} {k : Nat} (h : k < l.length) (hI : ∀ j (_ : j < l.length), j < k → l[j].key ≠ s) (hx : l[k].key ≠ s) : ∀ j (_ : j < l.length), j < k + 1 → l[j].key ≠ s := fun j hj hjk => by
  by_cases e : j < k
  · exact hI j hj e
  · have : j = k := by omega
    subst this; exact hx
theorem bytes_eq {x s : ByteArray} (h : x = s) : (x.toList == s.toList) = true := by subst h; simp
theorem set3 {w : World} {g : Nat} {ty : TypeId} {a0 a1 a2 x y z : Value} (hb : Blk w g ty #[a0, a1, a2]) (o : Obj) : Blk ((((w.setCell ⟨g, 0, none⟩ x).setCell ⟨g, 1, none⟩ y).setCell ⟨g, 2, none⟩ z).alloc o) g ty #[x, y, z] :=
  (((hb.set_ 0 x).set_ 1 y).set_ 2 z).alloc o
end Go.Proofs.YtfkjoeibofnnoaaDoor.rgy
