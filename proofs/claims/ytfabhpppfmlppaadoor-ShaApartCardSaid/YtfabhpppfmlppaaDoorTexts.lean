/- Rows of texts. -/
import Derived.Test.YtfabhpppfmlppaaDoorKit
import Derived.Lib.Hide
import Derived.Deep.QuietTactic
import Derived.BigQuiet
import Derived.WalkSpells
namespace Go.Proofs.YtfabhpppfmlppaaDoor.texts
open Go.ChangeShapes Go.WideShapes Go.ChangeAt Go.RowKit Go.Proofs.Aid
abbrev tc (s : ByteArray) : List Value := [.string s]
theorem texts_of {w : World} {B n : Nat} {A : Option Addr} {os : List R9} (h : Reads w B 1 A n (os.flatMap R9.cells)) : Reads w B 1 A n ((os.map R9.v).flatMap tc) := by
  rw [List.flatMap_map]; exact h
def memB (xs : List ByteArray) (s : ByteArray) : Bool := xs.any fun x => decide (x = s)
theorem memB_iff {xs : List ByteArray} {s : ByteArray} : memB xs s = true ↔ s ∈ xs := by
  unfold memB; rw [List.any_eq_true]; constructor
  · rintro ⟨x, hx, e⟩; rw [decide_eq_true_eq] at e; rwa [← e]
  · intro h; exact ⟨s, h, by simp⟩
theorem memB_no {xs : List ByteArray} {s : ByteArray} : memB xs s = false ↔ s ∉ xs := by rw [← memB_iff]; simp
theorem ret_bool {a b : Bool} (h : a = b) : Ending.returned (.bool a) = .returned (.bool b) := by rw [h]
theorem ret_int {k : IntKind} {a b : Int} (h : a = b) : Ending.returned (.int k a) = .returned (.int k b) := by rw [h]
set_option maxHeartbeats 1000000 in
theorem sameTexts_same (w : World) (A B : Option Addr) (ca cb : Nat) (xs : List ByteArray) (hl : xs.length ≤ 1099511627776) (h1 : Reads w w.heap.size 1 A xs.length (xs.flatMap tc)) (h2 : Reads w w.heap.size 1 B xs.length (xs.flatMap tc)) :
    Calls Tryd.prog 15 #[.slice A xs.length ca, .slice B xs.length cb] w fun e w' => e = .returned (.bool true) ∧ Below w.heap.size w w' := by
  have H1 := Lib.hid h1
  have H2 := Lib.hid h2
  clear h1 h2
  go_enter Tryd.func15, Tryd.ntmps15
  go_wp2_with fail
  go_loopw [5] (fun iv w' => ∃ k : Nat, k ≤ xs.length ∧ iv = .int .i64 k ∧ Hid (Below w.heap.size w w')) (fun iv _ => xs.length - (intOf iv).toNat)
  case atStart => exact ⟨0, by omega, rfl, Below.refl _ _⟩
  case round =>
    obtain ⟨k, hk, rfl, hb⟩ := hrel
    by_cases hlt : k < xs.length
    · obtain ⟨a1, q1, -, c1⟩ := (H1.out.below hb.out).elem1 hlt
      obtain ⟨a2, q2, -, c2⟩ := (H2.out.below hb.out).elem1 hlt
      subst q1 q2
      generalize xs[k] = x at *
      go_wp2_with fail
      go_quiet (fail)
      have hb2 : ∀ n, Hid (Below w.heap.size w (World.drewN _ n)) := fun n => below_drewN hb.out n
      go_wp2
      go_roundw
      case rel => exact ⟨k + 1, by omega, by go_num, hb2 _⟩
      case measure => simp [intOf]; omega
    · go_wp2
      go_ret
      exact ⟨rfl, hb.out⟩
end Go.Proofs.YtfabhpppfmlppaaDoor.texts
