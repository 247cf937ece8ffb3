/- The walks of sha: what fills a block up, the sum. -/
import Derived.Test.YtkbgmdabmebdhaaGreatDoorShC
import Derived.Test.YtkbgmdabmebdhaaGreatDoorOcY
import Derived.Test.YtkbgmdabmebdhaaGreatDoorShelf
namespace Go.Proofs.YtkbgmdabmebdhaaGreatDoor.sha
open Go.ChangeShapes Go.WideShapes Go.ChangeAt Go.RowKit Go.Proofs.Aid
open Go.Proofs.YtkbgmdabmebdhaaGreatDoor.oc (be Wr WAt Read Settled Wrote Own self be_length Wr.below)
set_option linter.unusedVariables false
theorem repeat_zero (c : Nat) : Lib.repeatL [0] c = List.replicate c 0 := by
  induction c with
  | zero => rfl
  | succ c ih => simp [Lib.repeatL, ih, List.replicate_succ]
theorem noughts_lt (n : Nat) : noughts n ≤ 63 := by unfold noughts; omega
theorem fillB_length (n : Nat) : (fillB n).length = 9 + noughts n := by simp [fillB, be_length]; omega
theorem fill_whole (n : Nat) : (n + (fillB n).length) % 64 = 0 := by rw [fillB_length]; unfold noughts; omega
def Filled (n : Nat) (w : World) (e : Ending) (w' : World) : Prop := e = .returned (.string ⟨(fillB n).toArray⟩) ∧ Below w.heap.size w w'
theorem ba_app (a b : ByteArray) : (a ++ b).data.toList = a.data.toList ++ b.data.toList := by simp
set_option maxRecDepth 100000 in
set_option maxHeartbeats 2000000 in
theorem filling_any (n : Nat) (w : World) (hn : n ≤ 1099511627776) :
    Calls Tryz.prog 71 #[.int .i64 (n : Int)] w (Filled n w) := by
  have hq : 63 - ((n : Int) + 8) % 64 = ((noughts n : Nat) : Int) := by unfold noughts; omega
  have HF0 := Lib.hid (show fillB n = (128 : UInt8) :: (List.replicate (noughts n) 0 ++ be 8 ((n * 8 : Nat) : Int)) from rfl)
  have hl := Lib.hid (noughts_lt n)
  generalize noughts n = c at *
  go_enter Tryz.func71, Tryz.ntmps71
  go_wp2_with fail
  refine (Tryz.strings_Repeat ⟨#[0]⟩ c _ (by have := hl.out; omega) (by have := hl.out; show 1 * c ≤ _; omega)).mono ?_
  rintro e w1 ⟨rfl, hb⟩
  have HW := Lib.hid (Blk.below (Blk.new w 62 #[.pointer none, .slice none 0 0, .pointer none]) hb (Blk.new w _ _).lt)
  have HL := Lib.hid ((below_lit w (.cells #[.pointer none, .slice none 0 0, .pointer none] 62)).trans (hb.mono (by simp)))
  clear hb
  obtain ⟨z, hz, hzl⟩ : ∃ z : ByteArray, (⟨(Lib.repeatL (ByteArray.mk #[0]).data.toList c).toArray⟩ : ByteArray) = z ∧ z.data.toList = List.replicate c 0 := ⟨_, rfl, by rw [show (ByteArray.mk #[0]).data.toList = [0] from rfl, repeat_zero]⟩
  rw [hz]
  have hzs : z.size ≤ 63 := by have := congrArg List.length hzl; have := hl.out; simp at *; omega
  have HZ := Lib.hid hzl
  clear hz hzl
  have HC : Hid (((⟨#[128]⟩ : ByteArray) ++ z).data.toList = (128 : UInt8) :: List.replicate c 0) := by
    unfold Hid; rw [ba_app, HZ.out]; rfl
  have HCS : Hid (((⟨#[128]⟩ : ByteArray) ++ z).size ≤ 64) := by
    have h := congrArg List.length HC.out
    rw [Array.length_toList, List.length_cons, List.length_replicate] at h
    have := hl.out
    show ((⟨#[128]⟩ : ByteArray) ++ z).data.size ≤ 64
    rw [h]; omega
  go_wp2_with fail
  refine (oc.writeString_any w.heap.size (.pointer none) (.slice none 0 0) (.pointer none) [] ((⟨#[128]⟩ : ByteArray) ++ z) w1 (.inl rfl) HW.out (Own.nil _ _) (by have := HCS.out; simp only [List.length_nil]; omega)).mono ?_
  rintro e w2 ⟨v', rfl, hb2, ho2, hlow2⟩
  have HR : Hid (Wr w.heap.size ((128 : UInt8) :: List.replicate c 0) w2) := by
    rw [HC.out, List.nil_append] at ho2
    exact .inr (.inr ⟨v', hb2, ho2, by have := hl.out; simp; omega⟩)
  have HL2 := Lib.hid (HL.out.trans hlow2)
  clear hb2 ho2 hlow2 HW HL HC HCS HZ hzs
  go_wp2_with fail
  refine (oc.int_any w.heap.size ((128 : UInt8) :: List.replicate c 0) ((n : Int) * 8) w2 HR.out (by have := hl.out; simp; omega)).mono ?_
  rintro e w3 ⟨rfl, h3, h4⟩
  have HR3 : Hid (Wr w.heap.size (fillB n) w3) := by
    have e : ((n : Int) * 8) = ((n * 8 : Nat) : Int) := by omega
    rw [e] at h3
    rw [HF0.out]
    exact .inl h3
  have HL3 := Lib.hid (HL2.out.trans h4)
  clear h3 h4 HR HL2
  go_wp2_with fail
  refine (oc.bytes_any w.heap.size (fillB n) w3 HR3.out).mono ?_
  rintro e w4 ⟨rfl, h5, h6, h7⟩
  have HF : Hid (Filled n w (.returned (.string ⟨(fillB n).toArray⟩)) w4) := ⟨rfl, HL3.out.trans h6⟩
  clear h5 h6 h7
  go_wp2
  go_ret
  exact HF.out
end Go.Proofs.YtkbgmdabmebdhaaGreatDoor.sha
