/- Sha: what must come; the laws Is and Lists. -/
import Derived.Test.YtfabhpppfmlppaaDoorShW
import Derived.Test.YtfabhpppfmlppaaDoorOcA
namespace Go.Proofs.YtfabhpppfmlppaaDoor.shr
open Go.ChangeShapes Go.WideShapes Go.ChangeAt Go.RowKit Go.Proofs.Aid
open Go.Proofs.YtfabhpppfmlppaaDoor.oc (be be_length bz bz_append)
open Go.Proofs.YtfabhpppfmlppaaDoor.sha
set_option linter.unusedVariables false
set_option maxRecDepth 100000 in
theorem hex0 : hexB (shaB []) = [101, 51, 98, 48, 99, 52, 52, 50, 57, 56, 102, 99, 49, 99, 49, 52, 57, 97, 102, 98, 102, 52, 99, 56, 57, 57, 54, 102, 98, 57, 50, 52, 50, 55, 97, 101, 52, 49, 101, 52, 54, 52, 57, 98, 57, 51, 52, 99, 97, 52, 57, 53, 57, 57, 49, 98, 55, 56, 53, 50, 98, 56, 53, 53] := by decide +kernel
set_option maxRecDepth 100000 in
theorem hexAbc : hexB (shaB [97, 98, 99]) = [98, 97, 55, 56, 49, 54, 98, 102, 56, 102, 48, 49, 99, 102, 101, 97, 52, 49, 52, 49, 52, 48, 100, 101, 53, 100, 97, 101, 50, 50, 50, 51, 98, 48, 48, 51, 54, 49, 97, 51, 57, 54, 49, 55, 55, 97, 57, 99, 98, 52, 49, 48, 102, 102, 54, 49, 102, 50, 48, 48, 49, 53, 97, 100] := by decide +kernel
def Woke (w : World) (e : Ending) (w' : World) : Prop := e = .returned (.bool true) ∧ Below w.heap.size w w'
set_option maxRecDepth 100000 in
set_option maxHeartbeats 4000000 in
theorem awake_any (w : World) (hl : Lets w) : Calls Tryd.prog 10 #[] w (Woke w) := by
  have HL := Lib.hid hl
  have HX0 : Hid (∀ w', Lets w' → Calls Tryd.prog 8 #[.string ⟨#[]⟩] w' (Hexed (hexB (shaB [])) w')) := fun w' h => hex_any ⟨#[]⟩ w' (by decide) h
  have HX1 : Hid (∀ w', Lets w' → Calls Tryd.prog 8 #[.string ⟨#[97, 98, 99]⟩] w' (Hexed (hexB (shaB [97, 98, 99])) w')) := fun w' h => hex_any ⟨#[97, 98, 99]⟩ w' (by decide) h
  have HS1 := Lib.hid (fun w' (h : Lets w') => sum_any ⟨#[120]⟩ w' (by decide) h)
  have HO : Hid (∀ w', Lets w' → Calls Tryd.prog 12 #[.slice none 0 0] w' (Digested (shaB [0, 0, 0, 0]) w')) := fun w' h => of_any none 0 [] w' (by simp) (by simp) Reads.none_ h
  have HS0 : Hid (∀ w', Lets w' → Calls Tryd.prog 6 #[.string ⟨#[0, 0, 0, 0]⟩] w' (Summed [0, 0, 0, 0] w')) := fun w' h => sum_any ⟨#[0, 0, 0, 0]⟩ w' (by decide) h
  rw [hex0] at HX0
  rw [hexAbc] at HX1
  clear hl
  go_enter Tryd.func10, Tryd.ntmps10
  go_wp2_with fail
  refine (HX0.out _ HL.out).mono ?_
  rintro e w1 ⟨rfl, hb⟩
  have L1 := Lib.hid (HL.out.below hb (Nat.le_refl _))
  have B1 := Lib.hid hb
  clear hb HX0
  go_wp2_with fail
  refine (HX1.out _ L1.out).mono ?_
  rintro e w2 ⟨rfl, hb⟩
  have L2 := Lib.hid (L1.out.below hb (Nat.le_refl _))
  have B2 := Lib.hid (B1.out.trans (hb.mono B1.out.size))
  clear hb HX1 B1 L1
  go_wp2_with fail
  refine (HS1.out _ L2.out).mono ?_
  rintro e w3 ⟨rfl, hb⟩
  have L3 := Lib.hid (L2.out.below hb (Nat.le_refl _))
  have B3 := Lib.hid (B2.out.trans (hb.mono B2.out.size))
  have hlen : (⟨(shaB (ByteArray.mk #[120]).data.toList).toArray⟩ : ByteArray).size = 32 := (oc.bz_size _).trans (shaB_length _)
  generalize (⟨(shaB (ByteArray.mk #[120]).data.toList).toArray⟩ : ByteArray) = z at *
  clear hb HS1 B2 L2
  go_wp2_with fail
  refine (HO.out _ L3.out).mono ?_
  rintro e w4 ⟨rfl, hb⟩
  have L4 := Lib.hid (L3.out.below hb (Nat.le_refl _))
  have B4 := Lib.hid (B3.out.trans (hb.mono B3.out.size))
  clear hb HO B3 L3 hlen
  go_wp2_with fail
  refine (HS0.out _ L4.out).mono ?_
  rintro e w5 ⟨rfl, hb⟩
  have B5 : Hid (Woke w (.returned (.bool true)) w5) := ⟨rfl, B4.out.trans (hb.mono B4.out.size)⟩
  clear hb HS0 B4 L4
  generalize (⟨(shaB [0, 0, 0, 0]).toArray⟩ : ByteArray) = y at *
  go_wp2
  go_ret
  exact B5.out
end Go.Proofs.YtfabhpppfmlppaaDoor.shr
