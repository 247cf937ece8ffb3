/- The walk of the reference's Next. -/
import Derived.Test.YtfkjoeibofnnoaaDoorRegE
namespace Go.Proofs.YtfkjoeibofnnoaaDoor.reg
open Go.ChangeShapes Go.WideShapes Go.ChangeAt Go.RowKit Go.Proofs.Aid Go.Proofs.YtfkjoeibofnnoaaDoor.name
def Rg.few (r : Rg) : Bool := decide (r.by_.size ≤ 100) && decide (r.value.size ≤ 300)
theorem few_any (r : Rg) (W : World) (hb : r.by_.size ≤ maxLen) (hv : r.value.size ≤ maxLen) : Calls Tryd.prog 25 #[r.val] W fun e w' => e = .returned (.bool r.few) ∧ Below W.heap.size W w' := by
  obtain ⟨n, b, v⟩ := r
  simp only at hb hv
  unfold maxLen at hb hv
  have hF := Lib.hid (show Rg.few ⟨n, b, v⟩ = (decide (b.size ≤ 100) && decide (v.size ≤ 300)) from rfl)
  show Calls Tryd.prog 25 #[.agg #[.int .i64 n, .string b, .string v]] W _
  by_cases h1 : b.size ≤ 100
  · by_cases h2 : v.size ≤ 300
    all_goals
      go_enter Tryd.func25, Tryd.ntmps25
      go_wp2
      go_ret
      exact ⟨ret_bool (by rw [hF.out]; simp [h1, h2] <;> omega), (Below.refl _ _).alloc (Nat.le_refl _) _⟩
  · go_enter Tryd.func25, Tryd.ntmps25
    go_wp2
    go_ret
    exact ⟨ret_bool (by rw [hF.out]; simp [h1] <;> omega), (Below.refl _ _).alloc (Nat.le_refl _) _⟩
end Go.Proofs.YtfkjoeibofnnoaaDoor.reg
