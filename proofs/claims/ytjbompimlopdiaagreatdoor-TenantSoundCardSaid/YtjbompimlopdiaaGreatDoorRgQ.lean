/- RegistryIs: whether any entries may be, what any key has, and which lie under any path. -/
import Derived.Test.YtjbompimlopdiaaGreatDoorRgP
namespace Go.Proofs.YtjbompimlopdiaaGreatDoor.rgy
open Go.ChangeShapes Go.WideShapes Go.ChangeAt Go.RowKit Go.Proofs.Aid Go.Proofs.YtjbompimlopdiaaGreatDoor.name Go.Proofs.YtjbompimlopdiaaGreatDoor.reg
def toE (r : R38) : En := ⟨r.key_, ⟨r.regN, r.regBy, r.regValue⟩⟩
theorem ents {w : World} {v : Value} (h : V22 w v) : ∃ (A : Option Addr) (c : Nat) (xs : List En), v = .slice A xs.length c ∧ xs.length ≤ c ∧ c ≤ maxLen ∧ Reads w w.heap.size 4 A xs.length (xs.flatMap En.cells) ∧ ∀ r ∈ xs, r.sz := by
  obtain ⟨A, n, cap, rs, rfl, h1, h2, rfl, hr, hok⟩ := s22 h
  refine ⟨A, cap, rs.map toE, by rw [List.length_map], by rw [List.length_map]; exact h1, h2, ?_, ?_⟩
  · rw [List.length_map, List.flatMap_map]; exact hr
  · intro x hx
    obtain ⟨r, hr, rfl⟩ := List.mem_map.1 hx
    exact ⟨(hok r hr).1, (hok r hr).2.2.1, (hok r hr).2.2.2⟩
theorem eqlR_same (r : Rg) (w : World) : (binOp .eql 36 r.val r.val).run Tryz.prog w = .ok (.bool true) w := by
  obtain ⟨n, b, v⟩ := r
  go_simp
end Go.Proofs.YtjbompimlopdiaaGreatDoor.rgy
