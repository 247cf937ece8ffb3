/- Readers that nobody made; few texts; the awake reader and writer. No condition. -/
import Derived.Test.YtfabhpppfmlppaaDoorOcY
import Derived.Test.YtfabhpppfmlppaaDoorOcP
namespace Go.Proofs.YtfabhpppfmlppaaDoor.oc
set_option linter.unusedSimpArgs false
set_option linter.unusedVariables false
open Go.ChangeShapes Go.WideShapes Go.ChangeAt Go.RowKit Go.Proofs.Aid
open Go.Proofs.YtfabhpppfmlppaaDoor.texts (tc)
abbrev pb (b : Nat) : Value := .pointer (some ⟨b, 0, none⟩)
theorem low_of {B b : Nat} {a w w' : World} (h : Below B a w) (hg : w.grownBy w' (some b)) (hb : B ≤ b) (hB : B ≤ w.heap.size) : Below B a w' :=
  h.grown hg hB (fun q hq => by injection hq with hq; omega)
theorem low_none {B : Nat} {a w w' : World} (h : Below B a w) (hg : w.grownBy w' none) (hB : B ≤ w.heap.size) : Below B a w' :=
  h.grown hg hB (fun q hq => by cases hq)
set_option maxRecDepth 100000 in
set_option maxHeartbeats 4000000 in
theorem qfew_any (w : World) (A : Option Addr) (ca : Nat) (l : List ByteArray) (hl : l.length ≤ maxLen) (hr : Reads w w.heap.size 1 A l.length (l.flatMap tc)) (hz : ∀ s ∈ l, s.size ≤ maxLen) :
    Calls Tryd.prog 11 #[.slice A l.length ca] w (SomeB (fun b => b = true → l.length ≤ 20 ∧ ∀ s ∈ l, s.size ≤ 1024) w) := by
  have H1 := Lib.hid hr
  have HS := Lib.hid hz
  unfold maxLen at hl
  clear hr hz
  go_enter Tryd.func11, Tryd.ntmps11
  go_wp2_with fail
  go_loopw [3] (fun iv wr => ∃ k : Nat, k ≤ l.length ∧ k ≤ 20 ∧ iv = .int .i64 k ∧ Hid (∀ j (_ : j < l.length), j < k → l[j].size ≤ 1024) ∧ wr = w) (fun iv _ => l.length - (intOf iv).toNat)
  case atStart => exact ⟨0, by omega, by omega, rfl, fun _ _ h => by omega, rfl⟩
  case round =>
    obtain ⟨k, hk, hk20, rfl, hI, rfl⟩ := hrel
    by_cases hlt : k < l.length
    · by_cases h20 : k < 20
      · obtain ⟨ad, rfl, had, c0⟩ := H1.out.elem1 hlt
        have hsz := HS.out _ (List.getElem_mem hlt)
        unfold maxLen at hsz
        have hnx : Hid (l[k].size ≤ 1024 → ∀ j (_ : j < l.length), j < k + 1 → l[j].size ≤ 1024) := fun h j hj hjk => by
          by_cases e : j < k
          · exact hI.out j hj e
          · have : j = k := by omega
            subst this; exact h
        clear hI
        generalize l[k] = s at *
        by_cases hs : s.size ≤ 1024
        · have hN := Lib.hid (hnx.out hs)
          clear hnx
          go_wp2
          go_roundw
          case rel => exact ⟨k + 1, by omega, by omega, by go_num, hN, by trivial⟩
          case measure => simp [intOf]; omega
        · go_wp2
          go_ret
          exact ⟨_, rfl, rfl, fun h => by cases h⟩
      · have hk2 : k = 20 := by omega
        go_wp2
        go_ret
        exact ⟨_, rfl, rfl, fun h => by simp at h; omega⟩
    · have hkl : k = l.length := by omega
      have hI2 : Hid (∀ x ∈ l, x.size ≤ 1024) := fun x hx => by
        obtain ⟨j, hj, rfl⟩ := List.getElem_of_mem hx
        exact hI.out j hj (by omega)
      clear hI
      go_wp2
      go_ret
      exact ⟨_, rfl, rfl, fun h => ⟨by simp at h; omega, hI2.out⟩⟩
theorem countS_none (most : Int) : countS most none = (0, none) := by
  unfold countS
  split
  · rfl
  · rfl
theorem textS_none : textS none = (⟨#[]⟩, none) := by unfold textS; rw [countS_none]; rfl
theorem textsS_none : textsS none = ([], none) := by unfold textsS; rw [countS_none]; rfl
abbrev sAb : ByteArray := ⟨#[97, 98]⟩
abbrev bAw : List UInt8 := [0, 0, 0, 2, 97, 98, 255, 255, 255, 255, 255, 255, 255, 255]
abbrev bRest : List UInt8 := [255, 255, 255, 255, 255, 255, 255, 255]
theorem aw_bytes : [] ++ teB sAb ++ be 8 (-1) = bAw := by kernel_rfl
theorem aw_text : textS (some ⟨bAw.toArray⟩) = (sAb, some ⟨bRest.toArray⟩) := by kernel_rfl
theorem aw_int : numS 8 (some ⟨bRest.toArray⟩) = (-1, some ⟨#[]⟩) := by kernel_rfl
theorem aw_byte : numS 1 (some ⟨#[]⟩) = (0, none) := by kernel_rfl
end Go.Proofs.YtfabhpppfmlppaaDoor.oc
