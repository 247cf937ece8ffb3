/- Entries of a registry: Join of the package takes the first entry of a list. -/
import Derived.Test.YtjbompimlopdiaaGreatDoorRgI
namespace Go.Proofs.YtjbompimlopdiaaGreatDoor.rgy
open Go.ChangeShapes Go.WideShapes Go.ChangeAt Go.RowKit Go.Proofs.Aid Go.Proofs.YtjbompimlopdiaaGreatDoor.name Go.Proofs.YtjbompimlopdiaaGreatDoor.reg
def cutA (A : Option Addr) (c : Nat) : Option Addr := if c = 1 then A else A.map (·.add (1 * 4))
/-- The first entry is taken: the box has the rest. -/
def TakeE (w : World) (g : Nat) (A : Option Addr) (n c : Nat) (x : En) (e : Ending) (w' : World) : Prop :=
  e = .returned x.val ∧ Blk w' g 22 #[.slice (cutA A c) (n - 1) (c - 1)] ∧ w.grownBy w' (some g)
end Go.Proofs.YtjbompimlopdiaaGreatDoor.rgy
