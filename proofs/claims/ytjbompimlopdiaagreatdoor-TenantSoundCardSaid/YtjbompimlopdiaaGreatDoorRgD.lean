/- Entries of a registry: whether two lists are the same. -/
import Derived.Test.YtjbompimlopdiaaGreatDoorRgC
namespace Go.Proofs.YtjbompimlopdiaaGreatDoor.rgy
open Go.ChangeShapes Go.WideShapes Go.ChangeAt Go.RowKit Go.Proofs.Aid Go.Proofs.YtjbompimlopdiaaGreatDoor.name Go.Proofs.YtjbompimlopdiaaGreatDoor.reg
theorem data_eq {a b : ByteArray} (h : a.toList = b.toList) : a = b := by
  apply ByteArray.ext; apply Array.toList_inj.1; rw [← Lib.toList_data, ← Lib.toList_data]; exact h
theorem neqE_at {x y : En} (h : ¬ x = y) (w : World) : (binOp .neq 38 x.val y.val).run Tryz.prog w = .ok (.bool true) w := by
  obtain ⟨k, n, b, v⟩ := x
  obtain ⟨k2, m, c, u⟩ := y
  go_simp
  intro h0 h1 h2 h3
  refine h ?_
  rw [data_eq h0, h1, data_eq h2, data_eq h3]
theorem neqE_same (x : En) (w : World) : (binOp .neq 38 x.val x.val).run Tryz.prog w = .ok (.bool false) w := by
  obtain ⟨k, n, b, v⟩ := x
  go_simp
theorem same_no {xs ys : List En} {k : Nat} (h1 : k < xs.length) (h2 : k < ys.length) (h : ¬ xs[k] = ys[k]) : decide (xs = ys) = false := by
  rw [decide_eq_false_iff_not]; rintro rfl; exact h rfl
theorem same_yes {xs ys : List En} (hl : xs.length = ys.length) (h : ∀ j (h1 : j < xs.length) (h2 : j < ys.length), xs[j] = ys[j]) : decide (xs = ys) = true := by
  rw [decide_eq_true_eq]; exact List.ext_getElem hl fun j h1 h2 => h j h1 h2
end Go.Proofs.YtjbompimlopdiaaGreatDoor.rgy
