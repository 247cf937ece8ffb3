/- The two tables of sha: what the listed variables hold, for the walks; a start that meets the condition. -/
import Derived.Test.YtkbgmdabmebdhaaGreatDoorShC
import Derived.Test.YtkbgmdabmebdhaaGreatDoorRows
import Derived.Test.YtkbgmdabmebdhaaGreatDoorOpen
import Derived.Lib.LaidTab
import Derived.LaidMore
import Derived.Stop.Joined
import Derived.OpenShut
import Derived.ProofKit
import Derived.MakeChecks
import Derived.Shelf.Vars
import Derived.Stop.LaidErr
namespace Go.Proofs.YtkbgmdabmebdhaaGreatDoor.sha
open Go.ChangeShapes Go.WideShapes Go.ChangeAt Go.RowKit Go.Proofs.Aid
abbrev laidL : List (String × DataW Unit) := [("pantler/sha.first", Rows.laid_pantler_sha_first), ("pantler/sha.steps", Rows.laid_pantler_sha_steps)]
theorem gF : Tryz.prog.globalNamed "pantler/sha.first" = some 1 := by kernel_rfl
theorem gFT : (Tryz.prog.globals[1]?).map (·.type) = some 103 := by kernel_rfl
theorem gS : Tryz.prog.globalNamed "pantler/sha.steps" = some 2 := by kernel_rfl
theorem gST : (Tryz.prog.globals[2]?).map (·.type) = some 111 := by kernel_rfl
theorem eF : (Rows.laid_pantler_sha_first : DataW Unit) = Lib.tabData .u32 (h0.list.map fun n : Nat => (n : Int)) := by kernel_rfl
theorem eS : (Rows.laid_pantler_sha_steps : DataW Unit) = Lib.tabData .u32 (kTab.map fun n : Nat => (n : Int)) := by kernel_rfl
theorem tab_cell {P : Program} {w : World} {name : String} {g : Nat} {l : List Nat} (hg : P.globalNamed name = some g) (h : Lib.TabIs P w name .u32 (l.map fun n : Nat => (n : Int))) {i : Nat} (hi : i < l.length) : w.cell? ⟨g, i, none⟩ = some (.int .u32 ((l.getD i 0 : Nat) : Int)) := by
  rw [World.var?_cell hg h i]
  simp [hi]
theorem lets_of {W : World} (h : laidMetH Tryz.prog laidL W) : Lets W := by
  rw [MakeChecks.laidMetH_plain _ _ _ (by kernel_rfl)] at h
  have h2 := h.tail
  replace h : laidMet Tryz.prog [("pantler/sha.first", Rows.laid_pantler_sha_first), ("pantler/sha.steps", Rows.laid_pantler_sha_steps)] W := h
  rw [eF] at h
  rw [eS] at h2
  have t1 := Lib.tabIs_of_head gF gFT Tryz.underlying103 Tryz.underlying102 (by kernel_rfl) (by kernel_rfl) h
  have t2 := Lib.tabIs_of_head gS gST Tryz.underlying111 Tryz.underlying102 (by kernel_rfl) (by kernel_rfl) h2
  exact ⟨fun i hi => tab_cell gF t1 hi, fun i hi => tab_cell gS t2 hi⟩
theorem laid_mem {P : Program} {W : World} {x : String × DataW Unit} : ∀ {l : List (String × DataW Unit)}, laidMet P l W → x ∈ l → ∃ r, laidMet P (x :: r) W
  | [], _, h => by cases h
  | y :: l, hm, h => by
    rcases List.mem_cons.1 h with rfl | h
    · exact ⟨l, hm⟩
    · exact laid_mem hm.tail h
theorem lets_mem {l : List (String × DataW Unit)} {W : World} (h : laidMet Tryz.prog l W) (h1 : ("pantler/sha.first", Rows.laid_pantler_sha_first) ∈ l) (h2 : ("pantler/sha.steps", Rows.laid_pantler_sha_steps) ∈ l) : Lets W := by
  obtain ⟨r1, k1⟩ := laid_mem h h1
  obtain ⟨r2, k2⟩ := laid_mem h h2
  rw [eF] at k1
  rw [eS] at k2
  have t1 := Lib.tabIs_of_head gF gFT Tryz.underlying103 Tryz.underlying102 (by kernel_rfl) (by kernel_rfl) k1
  have t2 := Lib.tabIs_of_head gS gST Tryz.underlying111 Tryz.underlying102 (by kernel_rfl) (by kernel_rfl) k2
  exact ⟨fun i hi => tab_cell gF t1 hi, fun i hi => tab_cell gS t2 hi⟩
end Go.Proofs.YtkbgmdabmebdhaaGreatDoor.sha
