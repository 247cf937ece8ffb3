/- What the library's package variables hold, for the walks of numbers and of cut texts; a start that meets the condition. -/
import Derived.Test.YtfkjoeibofnnoaaDoorRows
import Derived.Test.YtfkjoeibofnnoaaDoorAid
import Derived.Test.YtfkjoeibofnnoaaDoorOpen
import Derived.Lib.LaidTab
import Derived.Stop.LaidErr
import Derived.Lib.ItoaNum
import Derived.WalkSmall
import Derived.LaidMore
import Derived.Stop.Joined
import Derived.OpenShut
import Derived.ProofKit
import Derived.Shelf.Vars
namespace Go.Proofs.YtfkjoeibofnnoaaDoor.nm
open Go.ChangeShapes Go.WideShapes Go.ChangeAt Go.RowKit Go.Proofs.Aid
theorem star : "*" ++ "errors.errorString" = "*errors.errorString" := by decide
theorem var_lt {P : Program} {w : World} {n : String} {g : Nat} {cs : Array Value} (hg : P.globalNamed n = some g) (h : w.var? P n = some cs) : g < w.heap.size := by
  unfold World.var? at h
  simp only [hg, Option.bind_some] at h
  rcases Nat.lt_or_ge g w.heap.size with h' | h'
  · exact h'
  · rw [Array.getElem?_eq_none h'] at h; simp at h
/-- The variables' blocks lie below. -/
structure Over (B : Nat) : Prop where
  m : 0 < B
theorem Over.mono {B B' : Nat} (h : Over B) (hB : B ≤ B') : Over B' := by
  constructor
  · exact Nat.lt_of_lt_of_le h.m hB
/-- What the walks read. -/
structure Lets (w : World) : Prop where
  low : Over w.heap.size
  len : ∃ m, w.cell? ⟨0, 0, none⟩ = some (.int .i64 m)
theorem Lets.below {w w' : World} {B : Nat} (h : Lets w) (hb : Below B w w') (hB : Over B) : Lets w' := by
  constructor
  · exact h.low.mono hb.size
  · obtain ⟨m, e⟩ := h.len
    exact ⟨m, (hb.cell (p := ⟨0, 0, none⟩) hB.m).trans e⟩
theorem Lets.next {w w' : World} (h : Lets w) (hb : Below w.heap.size w w') : Lets w' := h.below hb h.low
theorem gM : Tryd.prog.globalNamed "internal/bytealg.MaxLen" = some 0 := by kernel_rfl
theorem gMType : (Tryd.prog.globals[0]?).map (·.type) = some 3 := by kernel_rfl
theorem laid_mem {P : Program} {W : World} {x : String × DataW Unit} : ∀ {l : List (String × DataW Unit)}, laidMet P l W → x ∈ l → ∃ r, laidMet P (x :: r) W
  | [], _, h => by cases h
  | y :: l, hm, h => by
    rcases List.mem_cons.1 h with rfl | h
    · exact ⟨l, hm⟩
    · exact laid_mem hm.tail h
open Go.RowKit
open Go.RowKit
theorem len_of {W : World} (hsh : W.ShapedOpen Tryd.prog) : ∃ m, W.cell? ⟨0, 0, none⟩ = some (.int .i64 m) := cell_of_shapedOpen_int hsh (t := 3) (zero := #[.int .i64 0]) (by decide +kernel) (by kernel_rfl) rfl (by kernel_rfl) (by kernel_rfl) Tryd.underlying3
open Go.RowKit
open Go.RowKit
theorem lets_of {W : World} (hsh : W.ShapedOpen Tryd.prog) : Lets W := by
  exact ⟨⟨block_lt (len_of hsh).choose_spec⟩, len_of hsh⟩
end Go.Proofs.YtfkjoeibofnnoaaDoor.nm
