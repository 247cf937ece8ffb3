/- Entries of a registry: Join and Put of the package. -/
import Derived.Test.YtjbompimlopdiaaGreatDoorRgJ
import Derived.WalkMore
import Derived.Deep.LoopGhost
namespace Go.Proofs.YtjbompimlopdiaaGreatDoor.rgy
open Go.ChangeShapes Go.WideShapes Go.ChangeAt Go.RowKit Go.Proofs.Aid Go.Proofs.YtjbompimlopdiaaGreatDoor.name Go.Proofs.YtjbompimlopdiaaGreatDoor.reg
def merge : List En → List En → List En
  | [], q => q
  | x :: p, [] => x :: p
  | x :: p, y :: q => if lt x.key y.key then x :: merge p (y :: q) else if lt y.key x.key then y :: merge (x :: p) q else ⟨x.key, x.reg.join y.reg⟩ :: merge p q
termination_by p q => p.length + q.length
theorem merge_nil (q : List En) : merge [] q = q := by rw [merge]
theorem merge_right (p : List En) : merge p [] = p := by cases p <;> rw [merge]
theorem merge_lt {x y : En} {p q : List En} (h : lt x.key y.key = true) : merge (x :: p) (y :: q) = x :: merge p (y :: q) := by rw [merge, if_pos h]
theorem merge_gt {x y : En} {p q : List En} (h : lt x.key y.key = false) (h2 : lt y.key x.key = true) : merge (x :: p) (y :: q) = y :: merge (x :: p) q := by rw [merge, if_neg (by simp [h]), if_pos h2]
theorem merge_eq {x y : En} {p q : List En} (h : lt x.key y.key = false) (h2 : lt y.key x.key = false) : merge (x :: p) (y :: q) = ⟨x.key, x.reg.join y.reg⟩ :: merge p q := by rw [merge, if_neg (by simp [h]), if_neg (by simp [h2])]
def lenAt (w : World) (g : Nat) : Nat := match w.cell? ⟨g, 0, none⟩ with | some (.slice _ n _) => n | _ => 0
theorem lenAt_of {w : World} {g n c : Nat} {A : Option Addr} {t : TypeId} (h : Blk w g t #[.slice A n c]) : lenAt w g = n := by
  unfold lenAt; rw [h.cell]; rfl
/-- The box g has a slice of the entries p, which lie below B. -/
structure Rest (B : Nat) (g : Nat) (p : List En) (A : Option Addr) (c : Nat) (w : World) : Prop where
  blk : Blk w g 22 #[.slice A p.length c]
  cap : p.length ≤ c
  rd : Reads w B 4 A p.length (p.flatMap En.cells)
theorem Rest.next {B g : Nat} {x : En} {p : List En} {A : Option Addr} {c : Nat} {w w' : World} (h : Rest B g (x :: p) A c w) (hB : B ≤ g) (hb : Blk w' g 22 #[.slice (cutA A c) ((x :: p).length - 1) (c - 1)]) (hg : w.grownBy w' (some g)) (hBz : B ≤ w.heap.size) : Rest B g p (cutA A c) (c - 1) w' := by
  refine ⟨by simpa using hb, by have := h.cap; simp at this; omega, ?_⟩
  have h1 := Reads.dropL En.len h.rd (k := 1) (cap := c) (by simp) h.cap
  simp only [List.drop_one, List.tail_cons] at h1
  have h2 := h1.grown hg hBz (fun q hq => by injection hq with hq; omega)
  unfold cutA
  simpa using h2
theorem Rest.grown {B g : Nat} {p : List En} {A : Option Addr} {c : Nat} {w w' : World} {row : Option Nat} (h : Rest B g p A c w) (hg : w.grownBy w' row) (hBz : B ≤ w.heap.size) (hr : ∀ q, row = some q → B ≤ q ∧ q ≠ g) : Rest B g p A c w' :=
  ⟨h.blk.grown hg (fun e => (hr g e.symm).2 rfl), h.cap, h.rd.grown hg hBz (fun q hq => (hr q hq).1)⟩
theorem Rest.below {B g : Nat} {p : List En} {A : Option Addr} {c : Nat} {w w' : World} (h : Rest B g p A c w) (hb : Below w.heap.size w w') (hBz : B ≤ w.heap.size) : Rest B g p A c w' :=
  ⟨h.blk.below hb h.blk.lt, h.cap, h.rd.below (hb.mono hBz)⟩
end Go.Proofs.YtjbompimlopdiaaGreatDoor.rgy
