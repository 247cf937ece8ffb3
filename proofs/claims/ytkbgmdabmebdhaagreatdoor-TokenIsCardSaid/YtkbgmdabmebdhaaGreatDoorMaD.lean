/- Mac: the reference's sum, what must come, the laws. -/
import Derived.Test.YtkbgmdabmebdhaaGreatDoorMaC
import Derived.Test.YtkbgmdabmebdhaaGreatDoorShL
import Derived.Test.YtkbgmdabmebdhaaGreatDoorOpen
namespace Go.Proofs.YtkbgmdabmebdhaaGreatDoor.mac
open Go.ChangeShapes Go.WideShapes Go.ChangeAt Go.RowKit Go.Proofs.Aid
open Go.Proofs.YtkbgmdabmebdhaaGreatDoor.oc (be be_length bz bz_append)
open Go.Proofs.YtkbgmdabmebdhaaGreatDoor.sha
set_option linter.unusedVariables false
set_option maxRecDepth 100000 in
set_option maxHeartbeats 4000000 in
theorem rmsum_any (k s : ByteArray) (w : World) (hk : k.size ≤ 1000000) (hs : s.size ≤ 1000000) :
    Calls Tryz.prog 27 #[.string k, .string s] w (RStr (macB k.data.toList s.data.toList) w) := by
  by_cases hk64 : 64 < k.size
  · have hk2 : (64 : Int) < (k.size : Int) := by omega
    have HKS := Lib.hid (shr.rsum_any k w (by omega))
    have HKB : Hid (keyB k.data.toList = shaB k.data.toList) := by
      unfold Hid keyB
      rw [if_pos (by simp; omega)]
    have HOUT : Hid (∀ inn, shaB (padX (shaB k.data.toList) 54 ++ s.data.toList) = inn → ∀ w', Below w.heap.size w w' → RStr (macB k.data.toList s.data.toList) w (.returned (.string (bz (shaB (padX (shaB k.data.toList) 92 ++ inn))))) w') := fun inn h w' hb => by
      subst h
      refine ⟨?_, hb⟩
      rw [macB, HKB.out]
    go_enter Tryz.func27, Tryz.ntmps27
    go_wp2_with fail
    refine HKS.out.mono ?_
    rintro e w1 ⟨rfl, hb⟩
    have HLW := Lib.hid hb
    clear hb HKS HKB hk2
    obtain ⟨K, hK, hKl⟩ : ∃ K : ByteArray, bz (shaB k.data.toList) = K ∧ K.data.toList = shaB k.data.toList := ⟨_, rfl, rfl⟩
    rw [hK]
    have hKs : K.size ≤ 64 := by
      have h := congrArg List.length hKl
      rw [Array.length_toList, shaB_length] at h
      have h2 : K.size = 32 := h
      omega
    rw [← hKl] at HOUT
    clear hK hKl hk64
    go_wp2_with fail
    refine (rpadded_any K 92 _ (by omega)).mono ?_
    rintro e wb ⟨rfl, hb⟩
    have HL2 := Lib.hid (HLW.out.trans (hb.mono HLW.out.size))
    clear hb
    have hy1 : (bz (padX K.data.toList 92)).size = 64 := (oc.bz_size _).trans (padX_length _ _)
    have HY1 : Hid ((bz (padX K.data.toList 92)).data.toList = padX K.data.toList 92) := rfl
    generalize bz (padX K.data.toList 92) = y1 at *
    go_wp2_with fail
    refine (rpadded_any K 54 wb (by omega)).mono ?_
    rintro e wc ⟨rfl, hb⟩
    have HL3 := Lib.hid (HL2.out.trans (hb.mono HL2.out.size))
    clear hb HL2
    have hy2 : (bz (padX K.data.toList 54)).size = 64 := (oc.bz_size _).trans (padX_length _ _)
    have HY2 : Hid ((bz (padX K.data.toList 54)).data.toList = padX K.data.toList 54) := rfl
    generalize bz (padX K.data.toList 54) = y2 at *
    have hcs : Hid ((y2 ++ s).size ≤ 1099511627776) := by
      have h := congrArg List.length (ba_app y2 s)
      rw [Array.length_toList, List.length_append, Array.length_toList, Array.length_toList] at h
      have h2 : (y2 ++ s).data.size = y2.size + s.size := h
      show (y2 ++ s).data.size ≤ _
      omega
    have hcl : Hid ((y2 ++ s).data.toList = padX K.data.toList 54 ++ s.data.toList) := by unfold Hid; rw [ba_app, HY2.out]
    have HS1 := Lib.hid (shr.rsum_any (y2 ++ s) wc hcs.out)
    rw [hcl.out] at HS1
    clear hcs hcl
    go_wp2_with fail
    refine HS1.out.mono ?_
    rintro e wd ⟨rfl, hb⟩
    have HL4 := Lib.hid (HL3.out.trans (hb.mono HL3.out.size))
    clear hb HL3 HS1
    have hy3 : (bz (shaB (padX K.data.toList 54 ++ s.data.toList))).size = 32 := (oc.bz_size _).trans (shaB_length _)
    generalize shaB (padX K.data.toList 54 ++ s.data.toList) = inn at *
    have HY3 : Hid ((bz inn).data.toList = inn) := rfl
    generalize bz inn = y3 at *
    have hcs : Hid ((y1 ++ y3).size ≤ 1099511627776) := by
      have h := congrArg List.length (ba_app y1 y3)
      rw [Array.length_toList, List.length_append, Array.length_toList, Array.length_toList] at h
      have h2 : (y1 ++ y3).data.size = y1.size + y3.size := h
      show (y1 ++ y3).data.size ≤ _
      omega
    have hcl : Hid ((y1 ++ y3).data.toList = padX K.data.toList 92 ++ inn) := by unfold Hid; rw [ba_app, HY1.out, HY3.out]
    have HS2 := Lib.hid (shr.rsum_any (y1 ++ y3) wd hcs.out)
    rw [hcl.out] at HS2
    clear hcs hcl
    go_wp2_with fail
    refine HS2.out.mono ?_
    rintro e we ⟨rfl, hb⟩
    have HFF := Lib.hid (HOUT.out _ rfl _ (HL4.out.trans (hb.mono HL4.out.size)))
    clear hb HL4 HS2
    go_wp2
    go_ret
    exact HFF.out
  · have hk2 : ¬ (64 : Int) < (k.size : Int) := by omega
    have hKs : k.size ≤ 64 := by omega
    have HKB : Hid (keyB k.data.toList = k.data.toList) := by
      unfold Hid keyB
      rw [if_neg (by simp; omega)]
    have HOUT : Hid (∀ inn, shaB (padX k.data.toList 54 ++ s.data.toList) = inn → ∀ w', Below w.heap.size w w' → RStr (macB k.data.toList s.data.toList) w (.returned (.string (bz (shaB (padX k.data.toList 92 ++ inn))))) w') := fun inn h w' hb => by
      subst h
      refine ⟨?_, hb⟩
      rw [macB, HKB.out]
    have HLW := Lib.hid (Below.refl w.heap.size w)
    clear HKB
    go_enter Tryz.func27, Tryz.ntmps27
    go_wp2_with fail
    refine (rpadded_any k 92 _ (by omega)).mono ?_
    rintro e wb ⟨rfl, hb⟩
    have HL2 := Lib.hid (HLW.out.trans (hb.mono HLW.out.size))
    clear hb
    have hy1 : (bz (padX k.data.toList 92)).size = 64 := (oc.bz_size _).trans (padX_length _ _)
    have HY1 : Hid ((bz (padX k.data.toList 92)).data.toList = padX k.data.toList 92) := rfl
    generalize bz (padX k.data.toList 92) = y1 at *
    go_wp2_with fail
    refine (rpadded_any k 54 wb (by omega)).mono ?_
    rintro e wc ⟨rfl, hb⟩
    have HL3 := Lib.hid (HL2.out.trans (hb.mono HL2.out.size))
    clear hb HL2
    have hy2 : (bz (padX k.data.toList 54)).size = 64 := (oc.bz_size _).trans (padX_length _ _)
    have HY2 : Hid ((bz (padX k.data.toList 54)).data.toList = padX k.data.toList 54) := rfl
    generalize bz (padX k.data.toList 54) = y2 at *
    have hcs : Hid ((y2 ++ s).size ≤ 1099511627776) := by
      have h := congrArg List.length (ba_app y2 s)
      rw [Array.length_toList, List.length_append, Array.length_toList, Array.length_toList] at h
      have h2 : (y2 ++ s).data.size = y2.size + s.size := h
      show (y2 ++ s).data.size ≤ _
      omega
    have hcl : Hid ((y2 ++ s).data.toList = padX k.data.toList 54 ++ s.data.toList) := by unfold Hid; rw [ba_app, HY2.out]
    have HS1 := Lib.hid (shr.rsum_any (y2 ++ s) wc hcs.out)
    rw [hcl.out] at HS1
    clear hcs hcl
    go_wp2_with fail
    refine HS1.out.mono ?_
    rintro e wd ⟨rfl, hb⟩
    have HL4 := Lib.hid (HL3.out.trans (hb.mono HL3.out.size))
    clear hb HL3 HS1
    have hy3 : (bz (shaB (padX k.data.toList 54 ++ s.data.toList))).size = 32 := (oc.bz_size _).trans (shaB_length _)
    generalize shaB (padX k.data.toList 54 ++ s.data.toList) = inn at *
    have HY3 : Hid ((bz inn).data.toList = inn) := rfl
    generalize bz inn = y3 at *
    have hcs : Hid ((y1 ++ y3).size ≤ 1099511627776) := by
      have h := congrArg List.length (ba_app y1 y3)
      rw [Array.length_toList, List.length_append, Array.length_toList, Array.length_toList] at h
      have h2 : (y1 ++ y3).data.size = y1.size + y3.size := h
      show (y1 ++ y3).data.size ≤ _
      omega
    have hcl : Hid ((y1 ++ y3).data.toList = padX k.data.toList 92 ++ inn) := by unfold Hid; rw [ba_app, HY1.out, HY3.out]
    have HS2 := Lib.hid (shr.rsum_any (y1 ++ y3) wd hcs.out)
    rw [hcl.out] at HS2
    clear hcs hcl
    go_wp2_with fail
    refine HS2.out.mono ?_
    rintro e we ⟨rfl, hb⟩
    have HFF := Lib.hid (HOUT.out _ rfl _ (HL4.out.trans (hb.mono HL4.out.size)))
    clear hb HL4 HS2
    go_wp2
    go_ret
    exact HFF.out
def foxB : List UInt8 := [84, 104, 101, 32, 113, 117, 105, 99, 107, 32, 98, 114, 111, 119, 110, 32, 102, 111, 120, 32, 106, 117, 109, 112, 115, 32, 111, 118, 101, 114, 32, 116, 104, 101, 32, 108, 97, 122, 121, 32, 100, 111, 103]
set_option maxRecDepth 100000 in
theorem fox_hex : hexB (macB [107, 101, 121] foxB) = [102, 55, 98, 99, 56, 51, 102, 52, 51, 48, 53, 51, 56, 52, 50, 52, 98, 49, 51, 50, 57, 56, 101, 54, 97, 97, 54, 102, 98, 49, 52, 51, 101, 102, 52, 100, 53, 57, 97, 49, 52, 57, 52, 54, 49, 55, 53, 57, 57, 55, 52, 55, 57, 100, 98, 99, 50, 100, 49, 97, 51, 99, 100, 56] := by decide +kernel
set_option maxRecDepth 100000 in
theorem fox_x : (macB [107, 101, 121] [120] == macB [107, 101, 121] foxB) = false := by decide +kernel
def Woke (w : World) (e : Ending) (w' : World) : Prop := e = .returned (.bool true) ∧ Below w.heap.size w w'
end Go.Proofs.YtkbgmdabmebdhaaGreatDoor.mac
