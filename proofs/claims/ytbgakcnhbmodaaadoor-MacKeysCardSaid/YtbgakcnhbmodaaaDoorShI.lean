/- The walks of sha: the digits. -/
import Derived.Test.YtbgakcnhbmodaaaDoorShH
namespace Go.Proofs.YtbgakcnhbmodaaaDoor.sha
open Go.ChangeShapes Go.WideShapes Go.ChangeAt Go.RowKit Go.Proofs.Aid
open Go.Proofs.YtbgakcnhbmodaaaDoor.oc (be self be_length)
open Go.Lib (byteCells)
set_option linter.unusedVariables false
theorem Bl.below {b : Nat} {p : Value} {bs : List UInt8} {w w' : World} (h : Bl b p bs w) (hb : Below w.heap.size w w') : Bl b p bs w' := by
  obtain ⟨v, h1, h2⟩ := h
  exact ⟨v, h1.below hb h1.lt, h2.kept (only_of_below hb none) (by cases v.ownBlock <;> simp)⟩
theorem Bw.below {b : Nat} {bs : List UInt8} {w w' : World} (h : Bw b bs w) (hb : Below w.heap.size w w') : Bw b bs w' := h.imp (Bl.below · hb) (Bl.below · hb)
end Go.Proofs.YtbgakcnhbmodaaaDoor.sha
