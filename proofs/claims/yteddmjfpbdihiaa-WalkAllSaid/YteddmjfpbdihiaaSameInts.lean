/- The walk of the reference's SameInts at two lists that are the same. -/
import Derived.Test.YteddmjfpbdihiaaKit
import Derived.Lib.Hide
import Derived.Deep.QuietTactic
import Derived.BigQuiet
import Derived.WalkSpells
import Derived.Test.YteddmjfpbdihiaaOpen
namespace Go.Proofs.Yteddmjfpbdihiaa.ints
open Go.ChangeShapes Go.WideShapes Go.ChangeAt Go.RowKit Go.Proofs.Aid
abbrev i64c (x : Int) : List Value := [.int .i64 x]
set_option maxHeartbeats 1000000 in
theorem sameInts_same (w : World) (A B : Option Addr) (ca cb : Nat) (xs : List Int) (hl : xs.length ≤ 1099511627776) (h1 : Reads w w.heap.size 1 A xs.length (xs.flatMap i64c)) (h2 : Reads w w.heap.size 1 B xs.length (xs.flatMap i64c)) :
    Calls Try.prog 8 #[.slice A xs.length ca, .slice B xs.length cb] w fun e w' => e = .returned (.bool true) ∧ Below w.heap.size w w' := by
  have H1 := Lib.hid h1
  have H2 := Lib.hid h2
  clear h1 h2
  go_enter Try.func8, Try.ntmps8
  go_wp2_with fail
  go_loopw [5] (fun iv w' => ∃ k : Nat, k ≤ xs.length ∧ iv = .int .i64 k ∧ Hid (Below w.heap.size w w')) (fun iv _ => xs.length - (intOf iv).toNat)
  case atStart => exact ⟨0, by omega, rfl, Below.refl _ _⟩
  case round =>
    obtain ⟨k, hk, rfl, hb⟩ := hrel
    by_cases hlt : k < xs.length
    · obtain ⟨a1, q1, -, c1⟩ := (H1.out.below hb.out).elem1 hlt
      obtain ⟨a2, q2, -, c2⟩ := (H2.out.below hb.out).elem1 hlt
      subst q1 q2
      generalize xs[k] = x at *
      go_wp2_with fail
      go_quiet (fail)
      have hb2 : ∀ n, Hid (Below w.heap.size w (World.drewN _ n)) := fun n => below_drewN hb.out n
      go_wp2
      go_roundw
      case rel => exact ⟨k + 1, by omega, by go_num, hb2 _⟩
      case measure => simp [intOf]; omega
    · go_wp2
      go_ret
      exact ⟨rfl, hb.out⟩
end Go.Proofs.Yteddmjfpbdihiaa.ints
