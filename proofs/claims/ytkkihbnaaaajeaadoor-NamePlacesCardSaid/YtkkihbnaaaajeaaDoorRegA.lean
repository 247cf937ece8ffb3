/- The walks of package register. -/
import Derived.Test.YtkkihbnaaaajeaaDoorOpen
import Derived.Test.YtkkihbnaaaajeaaDoorShelf
import Derived.Lib.Hide
import Derived.Lib.Bytealg
import Derived.Deep.RegionHeld3
import Derived.Deep.QuietTactic
import Derived.BigQuiet
import Derived.WalkSpells
namespace Go.Proofs.YtkkihbnaaaajeaaDoor.reg
open Go.ChangeShapes Go.WideShapes Go.ChangeAt Go.RowKit Go.Proofs.Aid
theorem ret_int {k : IntKind} {a b : Int} (h : a = b) : Ending.returned (.int k a) = .returned (.int k b) := by rw [h]
theorem ret_bool {a b : Bool} (h : a = b) : Ending.returned (.bool a) = .returned (.bool b) := by rw [h]
def cmpI (a b : Int) : Int := if a < b then -1 else if b < a then 1 else 0
def or3 (a b c : Int) : Int := if a ≠ 0 then a else if b ≠ 0 then b else c
structure Rg where
  n : Int
  by_ : ByteArray
  value : ByteArray
  deriving DecidableEq
@[reducible] def Rg.val (r : Rg) : Value := .agg #[.int .i64 r.n, .string r.by_, .string r.value]
def Rg.comp (a b : Rg) : Int := or3 (cmpI a.n b.n) (Lib.compareBytes a.by_.data.toList b.by_.data.toList) (Lib.compareBytes a.value.data.toList b.value.data.toList)
def Rg.newer (a b : Rg) : Bool := decide (0 < a.comp b)
def Rg.join (a b : Rg) : Rg := if b.newer a then b else a
end Go.Proofs.YtkkihbnaaaajeaaDoor.reg
