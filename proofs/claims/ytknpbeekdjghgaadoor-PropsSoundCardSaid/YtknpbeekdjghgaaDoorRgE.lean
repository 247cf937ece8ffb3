/- Entries of a registry: those under a path, and news, by the package. -/
import Derived.Test.YtknpbeekdjghgaaDoorRgD
import Derived.Shelf.Abstract
import Derived.Laws.EntriesVeiled
namespace Go.Proofs.YtknpbeekdjghgaaDoor.rgy
open Go.ChangeShapes Go.WideShapes Go.ChangeAt Go.RowKit Go.Proofs.Aid Go.Proofs.YtknpbeekdjghgaaDoor.name Go.Proofs.YtknpbeekdjghgaaDoor.reg
theorem infoE : (Tryd.prog.info? 34).map (fun i => (i.zero, i.size, i.bytes)) = some (some (.agg #[.string ⟨#[]⟩, .int .i64 0, .string ⟨#[]⟩, .string ⟨#[]⟩]), 4, 56) := by kernel_rfl
def keepE (p : En → Bool) (xs : List En) (k : Nat) : List En := (xs.take k).filter p
theorem keepE_yes {p : En → Bool} {xs : List En} {k : Nat} (h : k < xs.length) (hp : p xs[k] = true) : keepE p xs (k + 1) = keepE p xs k ++ [xs[k]] := by
  unfold keepE; rw [List.take_succ_eq_append_getElem h, List.filter_append]; simp [hp]
theorem keepE_no {p : En → Bool} {xs : List En} {k : Nat} (h : k < xs.length) (hp : p xs[k] = false) : keepE p xs (k + 1) = keepE p xs k := by
  unfold keepE; rw [List.take_succ_eq_append_getElem h, List.filter_append]; simp [hp]
theorem keepE_all (p : En → Bool) (xs : List En) : keepE p xs xs.length = xs.filter p := by unfold keepE; rw [List.take_length]
theorem keepE_len (p : En → Bool) (xs : List En) (k : Nat) : (keepE p xs k).length ≤ k := by
  unfold keepE; exact Nat.le_trans (List.length_filter_le _ _) (List.length_take_le _ _)
def Enters (F : FuncId) : Prop := ∀ (args : Array Value) (w : World), (callFunc F args).run Tryd.prog w = .ok (.enter F args) w
def PredE (B : Nat) (w0 : World) (F : FuncId) (p : Addr) (f : En → Bool) : Prop := ∀ (w : World) (x : En), x.sz → Below B w0 w → Calls Tryd.prog F #[x.val, .pointer (some p)] w fun e w' => e = .returned (.bool (f x)) ∧ Below w.heap.size w w'
/-- A row of entries of the call's own is returned. -/
def RowE (w : World) (xs : List En) (e : Ending) (w' : World) : Prop := ∃ v, e = .returned v ∧ Row w' w.heap.size 34 4 En.cells v xs ∧ Below w.heap.size w w'
theorem one_E (x : En) : ∀ u ∈ x.cells, u.oneCell' = true := by simp [En.cells, Value.oneCell']
end Go.Proofs.YtknpbeekdjghgaaDoor.rgy
