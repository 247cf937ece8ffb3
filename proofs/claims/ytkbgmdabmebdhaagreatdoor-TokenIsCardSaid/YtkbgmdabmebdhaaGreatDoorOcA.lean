/- Readers that nobody made; few texts; the awake reader and writer. No condition. -/
import Derived.Test.YtkbgmdabmebdhaaGreatDoorOcY
import Derived.Test.YtkbgmdabmebdhaaGreatDoorOcU
namespace Go.Proofs.YtkbgmdabmebdhaaGreatDoor.oc
set_option linter.unusedSimpArgs false
set_option linter.unusedVariables false
open Go.ChangeShapes Go.WideShapes Go.ChangeAt Go.RowKit Go.Proofs.Aid
open Go.Proofs.YtkbgmdabmebdhaaGreatDoor.texts (tc)
abbrev pb (b : Nat) : Value := .pointer (some ⟨b, 0, none⟩)
theorem low_of {B b : Nat} {a w w' : World} (h : Below B a w) (hg : w.grownBy w' (some b)) (hb : B ≤ b) (hB : B ≤ w.heap.size) : Below B a w' :=
  h.grown hg hB (fun q hq => by injection hq with hq; omega)
theorem low_none {B : Nat} {a w w' : World} (h : Below B a w) (hg : w.grownBy w' none) (hB : B ≤ w.heap.size) : Below B a w' :=
  h.grown hg hB (fun q hq => by cases hq)
theorem RAt.new (s : ByteArray) (hs : s.size ≤ 9223372036854775807) (w : World) : RAt (some w.heap.size) (some s) (w.alloc (.cells #[.string s, .bool true] 69)) := ⟨hs, Blk.new w _ _⟩
theorem RAt.drewN {o : Option Nat} {st : St} {w : World} (h : RAt o st w) (n : Nat) : RAt o st (w.drewN n) := h
set_option maxHeartbeats 1000000 in
theorem new_any (s : ByteArray) (w : World) :
    Calls Tryz.prog 15 #[.string s] w fun e w' => e = .returned (pb w.heap.size) ∧ w' = w.alloc (.cells #[.string s, .bool true] 69) := by
  go_enter Tryz.func15, Tryz.ntmps15
  go_wp2
  go_ret
  exact ⟨rfl, rfl⟩
theorem countS_none (most : Int) : countS most none = (0, none) := by
  unfold countS
  split
  · rfl
  · rfl
theorem textS_none : textS none = (⟨#[]⟩, none) := by unfold textS; rw [countS_none]; rfl
theorem textsS_none : textsS none = ([], none) := by unfold textsS; rw [countS_none]; rfl
theorem nb_count (o : Option Nat) (most : Int) (w : World) (h : RAt o none w) : Calls Tryz.prog 35 #[pv o, .int .i64 most] w (RPost o (.int .i64 0) none w) := by
  have := rcount_any o none most w h; rw [countS_none] at this; exact this
theorem nb_text (o : Option Nat) (w : World) (h : RAt o none w) : Calls Tryz.prog 16 #[pv o] w (RPost o (.string ⟨#[]⟩) none w) := by
  have := rtext_any o none w h; rw [textS_none] at this; exact this
abbrev sAb : ByteArray := ⟨#[97, 98]⟩
abbrev bAw : List UInt8 := [0, 0, 0, 2, 97, 98, 255, 255, 255, 255, 255, 255, 255, 255]
abbrev bRest : List UInt8 := [255, 255, 255, 255, 255, 255, 255, 255]
theorem aw_bytes : [] ++ teB sAb ++ be 8 (-1) = bAw := by kernel_rfl
theorem aw_text : textS (some ⟨bAw.toArray⟩) = (sAb, some ⟨bRest.toArray⟩) := by kernel_rfl
theorem aw_int : numS 8 (some ⟨bRest.toArray⟩) = (-1, some ⟨#[]⟩) := by kernel_rfl
theorem aw_byte : numS 1 (some ⟨#[]⟩) = (0, none) := by kernel_rfl
end Go.Proofs.YtkbgmdabmebdhaaGreatDoor.oc
