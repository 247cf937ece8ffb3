/- Rows of texts. -/
import Derived.Test.YtagebkahbehmfaaKit
import Derived.Lib.Hide
import Derived.Deep.QuietTactic
import Derived.BigQuiet
import Derived.WalkSpells
namespace Go.Proofs.Ytagebkahbehmfaa.texts
open Go.ChangeShapes Go.WideShapes Go.ChangeAt Go.RowKit Go.Proofs.Aid
abbrev tc (s : ByteArray) : List Value := [.string s]
theorem texts_of {w : World} {B n : Nat} {A : Option Addr} {os : List R9} (h : Reads w B 1 A n (os.flatMap R9.cells)) : Reads w B 1 A n ((os.map R9.v).flatMap tc) := by
  rw [List.flatMap_map]; exact h
def memB (xs : List ByteArray) (s : ByteArray) : Bool := xs.any fun x => decide (x = s)
theorem memB_iff {xs : List ByteArray} {s : ByteArray} : memB xs s = true ↔ s ∈ xs := by
  unfold memB; rw [List.any_eq_true]; constructor
  · rintro ⟨x, hx, e⟩; rw [decide_eq_true_eq] at e; rwa [← e]
  · intro h; exact ⟨s, h, by simp⟩
theorem memB_no {xs : List ByteArray} {s : ByteArray} : memB xs s = false ↔ s ∉ xs := by rw [← memB_iff]; simp
theorem ret_bool {a b : Bool} (h : a = b) : Ending.returned (.bool a) = .returned (.bool b) := by rw [h]
theorem ret_int {k : IntKind} {a b : Int} (h : a = b) : Ending.returned (.int k a) = .returned (.int k b) := by rw [h]
set_option maxHeartbeats 1000000 in
theorem sameTexts_same (w : World) (A B : Option Addr) (ca cb : Nat) (xs : List ByteArray) (hl : xs.length ≤ 1099511627776) (h1 : Reads w w.heap.size 1 A xs.length (xs.flatMap tc)) (h2 : Reads w w.heap.size 1 B xs.length (xs.flatMap tc)) :
    Calls Try.prog 14 #[.slice A xs.length ca, .slice B xs.length cb] w fun e w' => e = .returned (.bool true) ∧ Below w.heap.size w w' := by
  have H1 := Lib.hid h1
  have H2 := Lib.hid h2
  clear h1 h2
  go_enter Try.func14, Try.ntmps14
  go_wp2_with fail
  go_loopw [5] (fun iv w' => ∃ k : Nat, k ≤ xs.length ∧ iv = .int .i64 k ∧ Hid (Below w.heap.size w w')) (fun iv _ => xs.length - (intOf iv).toNat)
  case atStart => exact ⟨0, by omega, rfl, Below.refl _ _⟩
  case round =>
    obtain ⟨k, hk, rfl, hb⟩ := hrel
    by_cases hlt : k < xs.length
    · obtain ⟨a1, q1, -, c1⟩ := (H1.out.below hb.out).elem1 hlt
      obtain ⟨a2, q2, -, c2⟩ := (H2.out.below hb.out).elem1 hlt
      subst q1 q2
      generalize xs[k] = x at *
      go_wp2_with fail
      go_quiet (fail)
      have hb2 : ∀ n, Hid (Below w.heap.size w (World.drewN _ n)) := fun n => below_drewN hb.out n
      go_wp2
      go_roundw
      case rel => exact ⟨k + 1, by omega, by go_num, hb2 _⟩
      case measure => simp [intOf]; omega
    · go_wp2
      go_ret
      exact ⟨rfl, hb.out⟩
set_option maxHeartbeats 1000000 in
theorem few19_any (w : World) (A : Option Addr) (cap : Nat) (os : List ByteArray) (hm : os.length ≤ maxLen) (hR : Reads w w.heap.size 1 A os.length (os.flatMap tc)) (hs : ∀ r ∈ os, r.size ≤ maxLen) :
    Calls Try.prog 6 #[.slice A os.length cap, .int .i64 40] w (SomeB (fun b => b = true → os.length ≤ 40) w) := by
  have H1 := Lib.hid hR
  have HS := Lib.hid hs
  clear hR hs
  unfold maxLen at hm
  go_enter Try.func6, Try.ntmps6
  go_wp2_with fail
  go_loopw [5] (fun iv w' => ∃ k : Nat, k ≤ os.length ∧ iv = .int .i64 k ∧ w' = w ∧ k ≤ 40) (fun iv _ => os.length - (intOf iv).toNat)
  case atStart => exact ⟨0, by omega, rfl, rfl, by omega⟩
  case round =>
    obtain ⟨k, hk, rfl, rfl, hk4⟩ := hrel
    by_cases hlt : k < os.length
    · by_cases h40 : k < 40
      · obtain ⟨ad, rfl, had, e0⟩ := H1.out.elem1 hlt
        have hmx : os[k].size ≤ 9223372036854775807 := by have := HS.out os[k] (List.getElem_mem hlt); unfold maxLen at this; omega
        by_cases hb : os[k].size ≤ 100
        · generalize os[k] = str at *
          go_wp2
          go_roundw
          case rel => exact ⟨k + 1, by omega, by go_num, by trivial, by omega⟩
          case measure => simp [intOf]; omega
        · generalize os[k] = str at *
          go_wp2
          go_ret
          exact ⟨false, rfl, rfl, fun h => by cases h⟩
      · go_wp2
        go_ret
        exact ⟨_, rfl, rfl, fun h => by simp at h; omega⟩
    · go_wp2
      go_ret
      exact ⟨_, rfl, rfl, fun _ => by omega⟩
end Go.Proofs.Ytagebkahbehmfaa.texts
