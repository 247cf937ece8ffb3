/- The walks of mac: a key made unlike, the sum. -/
import Derived.Test.YtkbgmdabmebdhaaGreatDoorMaA
import Derived.Test.YtkbgmdabmebdhaaGreatDoorOcU
namespace Go.Proofs.YtkbgmdabmebdhaaGreatDoor.mac
open Go.ChangeShapes Go.WideShapes Go.ChangeAt Go.RowKit Go.Proofs.Aid
open Go.Proofs.YtkbgmdabmebdhaaGreatDoor.oc (be be_length)
open Go.Proofs.YtkbgmdabmebdhaaGreatDoor.sha
set_option linter.unusedVariables false
set_option maxRecDepth 100000 in
set_option maxHeartbeats 4000000 in
theorem padded_any (g : Nat) (k : List UInt8) (p : UInt8) (w : World) (hb : Blk w g 86 (bcell k)) :
    Calls Tryz.prog 54 #[.int .u8 (p.toNat : Int), .pointer (some ⟨g, 0, none⟩)] w (MStr (padX k p) w) := by
  have hz := zero31
  have HZ := Lib.hid (bcell_size [])
  generalize bcell [] = Z0 at *
  have HB := Lib.hid hb
  have HW := Lib.hid (Blk.new w 86 Z0)
  have HBA := Lib.hid (hb.alloc (.cells Z0 86))
  have HI : Hid ((Tryz.prog.info? 86).map (·.size) = some (bcell k).size) := by unfold Hid; rw [bcell_size]; exact info31
  have HS0 := Lib.hid (bcell_size k)
  have HO := Lib.hid (bcell_one k)
  have HL0 := Lib.hid (below_lit w (.cells Z0 86))
  clear hb
  go_enter Tryz.func54, Tryz.ntmps54
  go_wp2_with (first
    | (refine wpList_load_row rfl 86 _ rfl g rfl 86 (bcell k) (0, 0) _ HB.out Tryz.underlying86 rfl HI.out ?_)
    | (refine wpList_store_row rfl 86 _ _ rfl w.heap.size (bcell k) rfl rfl 86 Z0 HW.out HI.out (HZ.out.trans HS0.out.symm) HO.out ?_))
  have H1 : Hid (Blk ((w.alloc (.cells Z0 86)).setRow w.heap.size (bcell k)) w.heap.size 86 (bcell (mixB k p 0))) := by rw [mixB_zero]; exact blk_setRow HW.out
  have H2 : Hid (Below w.heap.size w ((w.alloc (.cells Z0 86)).setRow w.heap.size (bcell k))) := below_setRow HL0.out (Nat.le_refl _) _
  clear HB HW HBA HI HS0 HO HL0 hz HZ
  generalize (w.alloc (.cells Z0 86)).setRow w.heap.size (bcell k) = wa at *
  generalize bcell k = kc at *
  go_loopw [7] (fun iv wr => ∃ i : Nat, i ≤ 64 ∧ iv = .int .i64 i ∧ Hid (Blk wr w.heap.size 86 (bcell (mixB k p i))) ∧ Hid (Below w.heap.size w wr)) (fun iv _ => 64 - (intOf iv).toNat)
  case atStart => exact ⟨0, by omega, rfl, H1, H2⟩
  case round =>
    clear H1 H2
    obtain ⟨i, hi, rfl, hb, hlow⟩ := hrel
    by_cases hlt : i < 64
    · have c0 := hb.out.cell i
      have f0 := hb.out.frozen i
      rw [bcell_at hlt, mixB_at _ _ _ hlt, if_neg (by omega)] at c0
      have hx := u8_xor (k.getD i 0) p
      have HX : Hid (Blk (wr.setCell ⟨w.heap.size, i, none⟩ (.int .u8 ((k.getD i 0 ^^^ p).toNat : Int))) w.heap.size 86 (bcell (mixB k p (i + 1)))) := by
        have h2 := hb.out.set_ i (.int .u8 ((k.getD i 0 ^^^ p).toNat : Int))
        rw [mixB_set _ _ _ hlt] at h2
        exact h2
      have HL : Hid (Below w.heap.size w (wr.setCell ⟨w.heap.size, i, none⟩ (.int .u8 ((k.getD i 0 ^^^ p).toNat : Int)))) := hlow.out.setCell (p := ⟨w.heap.size, i, none⟩) (Nat.le_refl _) _
      clear hb hlow
      generalize k.getD i 0 ^^^ p = y at *
      generalize k.getD i 0 = x at *
      go_wp2
      go_roundw
      case rel => exact ⟨i + 1, by omega, by go_num, HX, HL⟩
      case measure => simp [intOf]; omega
    · have hi64 : i = 64 := by omega
      subst hi64
      have hl := padX_length k p
      have hcv := run_convert_bytes_back (P := Tryz.prog) wr 57 9 5 ⟨w.heap.size, 0, none⟩ 64 (padX k p) Tryz.underlying57 Tryz.underlying5 Tryz.underlying9 (fun j hj => by
        have e : (⟨w.heap.size, 0, none⟩ : Addr).add j = ⟨w.heap.size, j, none⟩ := by unfold Addr.add; split <;> simp_all
        rw [e, hb.out.cell, bcell_at (by omega), mixB_all, bIn hj])
      rw [hl] at hcv
      have HFF : Hid (MStr (padX k p) w (.returned (.string ⟨(padX k p).toArray⟩)) wr) := ⟨rfl, hlow.out⟩
      clear hb hlow hl
      generalize padX k p = pk at *
      go_wp2
      go_ret
      exact HFF.out
theorem lets_next {w w' : World} (h : Lets w) (hb : Below w.heap.size w w') : Lets w' := h.below hb (Nat.le_refl _)
set_option maxRecDepth 100000 in
set_option maxHeartbeats 4000000 in
theorem msum_any (k s : ByteArray) (w : World) (hk : k.size ≤ 1000000) (hs : s.size ≤ 1000000) (hl : Lets w) :
    Calls Tryz.prog 31 #[.string k, .string s] w (MStr (macB k.data.toList s.data.toList) w) := by
  have HL := Lib.hid hl
  clear hl
  by_cases hk64 : 64 < k.size
  · have hk2 : (64 : Int) < (k.size : Int) := by omega
    have HKS := Lib.hid (sum_any k w (by omega) HL.out)
    have HKB : Hid (keyB k.data.toList = shaB k.data.toList) := by
      unfold Hid keyB
      rw [if_pos (by simp; omega)]
    have HOUT : Hid (∀ inn, shaB (padX (shaB k.data.toList) 54 ++ s.data.toList) = inn → ∀ w', Below w.heap.size w w' → MStr (macB k.data.toList s.data.toList) w (.returned (.string ⟨(shaB (padX (shaB k.data.toList) 92 ++ inn)).toArray⟩)) w') := fun inn h w' hb => by
      subst h
      refine ⟨?_, hb⟩
      rw [macB, HKB.out]
    go_enter Tryz.func31, Tryz.ntmps31
    go_wp2_with fail
    refine HKS.out.mono ?_
    rintro e w1 ⟨rfl, hb⟩
    have HLW := Lib.hid hb
    clear hb HKS HKB hk2
    obtain ⟨K, hK, hKl⟩ : ∃ K : ByteArray, (⟨(shaB k.data.toList).toArray⟩ : ByteArray) = K ∧ K.data.toList = shaB k.data.toList := ⟨_, rfl, rfl⟩
    rw [hK]
    have hKs : K.size ≤ 64 := by
      have h := congrArg List.length hKl
      rw [Array.length_toList, shaB_length] at h
      have h2 : K.size = 32 := h
      omega
    rw [← hKl] at HOUT
    clear hK hKl hk64
    have hz := zero31
    have HW := Lib.hid (Blk.new w1 86 (bcell []))
    have HL0 := Lib.hid (HLW.out.alloc HLW.out.size (.cells (bcell []) 86))
    have hcp := fun ty => Lib.run_copy_row_string (P := Tryz.prog) (w1.alloc (.cells (bcell []) 86)) 57 9 ty 5 w1.heap.size 0 64 64 K (bcell []) 86 Tryz.underlying57 info5 HW.out (by omega) (by rw [bcell_size]; omega)
    have HCP := copied K (by omega)
    rw [HCP] at hcp
    clear HCP
    have HB1 : Hid (Blk ((w1.alloc (.cells (bcell []) 86)).setRow w1.heap.size (bcell K.data.toList)) w1.heap.size 86 (bcell K.data.toList)) := blk_setRow HW.out
    have HL1 : Hid (Below w.heap.size w ((w1.alloc (.cells (bcell []) 86)).setRow w1.heap.size (bcell K.data.toList))) := below_setRow HL0.out HLW.out.size _
    clear HW HL0
    generalize bcell [] = Z0 at *
    go_wp2_with fail
    generalize (w1.alloc (.cells Z0 86)).setRow w1.heap.size (bcell K.data.toList) = wa at *
    generalize w1.heap.size = gk at *
    clear hcp hz
    refine (padded_any gk K.data.toList 92 wa HB1.out).mono ?_
    rintro e wb ⟨rfl, hb⟩
    have HB2 := Lib.hid (Blk.below HB1.out hb HB1.out.lt)
    have HL2 := Lib.hid (HL1.out.trans (hb.mono HL1.out.size))
    clear hb HB1 HL1
    have hy1 : (⟨(padX K.data.toList 92).toArray⟩ : ByteArray).size = 64 := (oc.bz_size _).trans (padX_length _ _)
    have HY1 : Hid ((⟨(padX K.data.toList 92).toArray⟩ : ByteArray).data.toList = padX K.data.toList 92) := rfl
    generalize (⟨(padX K.data.toList 92).toArray⟩ : ByteArray) = y1 at *
    go_wp2_with fail
    refine (padded_any gk K.data.toList 54 wb HB2.out).mono ?_
    rintro e wc ⟨rfl, hb⟩
    have HL3 := Lib.hid (HL2.out.trans (hb.mono HL2.out.size))
    clear hb HB2 HL2
    have hy2 : (⟨(padX K.data.toList 54).toArray⟩ : ByteArray).size = 64 := (oc.bz_size _).trans (padX_length _ _)
    have HY2 : Hid ((⟨(padX K.data.toList 54).toArray⟩ : ByteArray).data.toList = padX K.data.toList 54) := rfl
    generalize (⟨(padX K.data.toList 54).toArray⟩ : ByteArray) = y2 at *
    have hcs : Hid ((y2 ++ s).size ≤ 1099511627776) := by
      have h := congrArg List.length (ba_app y2 s)
      rw [Array.length_toList, List.length_append, Array.length_toList, Array.length_toList] at h
      have h2 : (y2 ++ s).data.size = y2.size + s.size := h
      show (y2 ++ s).data.size ≤ _
      omega
    have hcl : Hid ((y2 ++ s).data.toList = padX K.data.toList 54 ++ s.data.toList) := by unfold Hid; rw [ba_app, HY2.out]
    have HS1 := Lib.hid (sum_any (y2 ++ s) wc hcs.out (HL.out.below HL3.out (Nat.le_refl _)))
    rw [hcl.out] at HS1
    clear hcs hcl
    go_wp2_with fail
    refine HS1.out.mono ?_
    rintro e wd ⟨rfl, hb⟩
    have HL4 := Lib.hid (HL3.out.trans (hb.mono HL3.out.size))
    clear hb HL3 HS1
    generalize hin : shaB (padX K.data.toList 54 ++ s.data.toList) = inn at *
    have hy3 : (⟨inn.toArray⟩ : ByteArray).size = 32 := by rw [← hin]; exact (oc.bz_size _).trans (shaB_length _)
    have HIN := Lib.hid hin
    clear hin
    have HY3 : Hid ((⟨inn.toArray⟩ : ByteArray).data.toList = inn) := rfl
    generalize (⟨inn.toArray⟩ : ByteArray) = y3 at *
    have hcs : Hid ((y1 ++ y3).size ≤ 1099511627776) := by
      have h := congrArg List.length (ba_app y1 y3)
      rw [Array.length_toList, List.length_append, Array.length_toList, Array.length_toList] at h
      have h2 : (y1 ++ y3).data.size = y1.size + y3.size := h
      show (y1 ++ y3).data.size ≤ _
      omega
    have hcl : Hid ((y1 ++ y3).data.toList = padX K.data.toList 92 ++ inn) := by unfold Hid; rw [ba_app, HY1.out, HY3.out]
    have HS2 := Lib.hid (sum_any (y1 ++ y3) wd hcs.out (HL.out.below HL4.out (Nat.le_refl _)))
    rw [hcl.out] at HS2
    clear hcs hcl
    go_wp2_with fail
    refine HS2.out.mono ?_
    rintro e we ⟨rfl, hb⟩
    have HFF := Lib.hid (HOUT.out _ rfl _ (HL4.out.trans (hb.mono HL4.out.size)))
    clear hb HL4 HS2
    go_wp2
    go_ret
    exact HFF.out
  · have hk2 : ¬ (64 : Int) < (k.size : Int) := by omega
    have hKs : k.size ≤ 64 := by omega
    have HKB : Hid (keyB k.data.toList = k.data.toList) := by
      unfold Hid keyB
      rw [if_neg (by simp; omega)]
    have HOUT : Hid (∀ inn, shaB (padX k.data.toList 54 ++ s.data.toList) = inn → ∀ w', Below w.heap.size w w' → MStr (macB k.data.toList s.data.toList) w (.returned (.string ⟨(shaB (padX k.data.toList 92 ++ inn)).toArray⟩)) w') := fun inn h w' hb => by
      subst h
      refine ⟨?_, hb⟩
      rw [macB, HKB.out]
    have HLW := Lib.hid (Below.refl w.heap.size w)
    have hz := zero31
    have HW := Lib.hid (Blk.new w 86 (bcell []))
    have HL0 := Lib.hid (HLW.out.alloc HLW.out.size (.cells (bcell []) 86))
    have hcp := fun ty => Lib.run_copy_row_string (P := Tryz.prog) (w.alloc (.cells (bcell []) 86)) 57 9 ty 5 w.heap.size 0 64 64 k (bcell []) 86 Tryz.underlying57 info5 HW.out (by omega) (by rw [bcell_size]; omega)
    have HCP := copied k (by omega)
    rw [HCP] at hcp
    clear HCP
    have HB1 : Hid (Blk ((w.alloc (.cells (bcell []) 86)).setRow w.heap.size (bcell k.data.toList)) w.heap.size 86 (bcell k.data.toList)) := blk_setRow HW.out
    have HL1 : Hid (Below w.heap.size w ((w.alloc (.cells (bcell []) 86)).setRow w.heap.size (bcell k.data.toList))) := below_setRow HL0.out HLW.out.size _
    clear HW HL0
    generalize bcell [] = Z0 at *
    go_enter Tryz.func31, Tryz.ntmps31
    go_wp2_with fail
    generalize (w.alloc (.cells Z0 86)).setRow w.heap.size (bcell k.data.toList) = wa at *
    clear hcp hz
    refine (padded_any w.heap.size k.data.toList 92 wa HB1.out).mono ?_
    rintro e wb ⟨rfl, hb⟩
    have HB2 := Lib.hid (Blk.below HB1.out hb HB1.out.lt)
    have HL2 := Lib.hid (HL1.out.trans (hb.mono HL1.out.size))
    clear hb HB1 HL1
    have hy1 : (⟨(padX k.data.toList 92).toArray⟩ : ByteArray).size = 64 := (oc.bz_size _).trans (padX_length _ _)
    have HY1 : Hid ((⟨(padX k.data.toList 92).toArray⟩ : ByteArray).data.toList = padX k.data.toList 92) := rfl
    generalize (⟨(padX k.data.toList 92).toArray⟩ : ByteArray) = y1 at *
    go_wp2_with fail
    refine (padded_any w.heap.size k.data.toList 54 wb HB2.out).mono ?_
    rintro e wc ⟨rfl, hb⟩
    have HL3 := Lib.hid (HL2.out.trans (hb.mono HL2.out.size))
    clear hb HB2 HL2
    have hy2 : (⟨(padX k.data.toList 54).toArray⟩ : ByteArray).size = 64 := (oc.bz_size _).trans (padX_length _ _)
    have HY2 : Hid ((⟨(padX k.data.toList 54).toArray⟩ : ByteArray).data.toList = padX k.data.toList 54) := rfl
    generalize (⟨(padX k.data.toList 54).toArray⟩ : ByteArray) = y2 at *
    have hcs : Hid ((y2 ++ s).size ≤ 1099511627776) := by
      have h := congrArg List.length (ba_app y2 s)
      rw [Array.length_toList, List.length_append, Array.length_toList, Array.length_toList] at h
      have h2 : (y2 ++ s).data.size = y2.size + s.size := h
      show (y2 ++ s).data.size ≤ _
      omega
    have hcl : Hid ((y2 ++ s).data.toList = padX k.data.toList 54 ++ s.data.toList) := by unfold Hid; rw [ba_app, HY2.out]
    have HS1 := Lib.hid (sum_any (y2 ++ s) wc hcs.out (HL.out.below HL3.out (Nat.le_refl _)))
    rw [hcl.out] at HS1
    clear hcs hcl
    go_wp2_with fail
    refine HS1.out.mono ?_
    rintro e wd ⟨rfl, hb⟩
    have HL4 := Lib.hid (HL3.out.trans (hb.mono HL3.out.size))
    clear hb HL3 HS1
    generalize hin : shaB (padX k.data.toList 54 ++ s.data.toList) = inn at *
    have hy3 : (⟨inn.toArray⟩ : ByteArray).size = 32 := by rw [← hin]; exact (oc.bz_size _).trans (shaB_length _)
    have HIN := Lib.hid hin
    clear hin
    have HY3 : Hid ((⟨inn.toArray⟩ : ByteArray).data.toList = inn) := rfl
    generalize (⟨inn.toArray⟩ : ByteArray) = y3 at *
    have hcs : Hid ((y1 ++ y3).size ≤ 1099511627776) := by
      have h := congrArg List.length (ba_app y1 y3)
      rw [Array.length_toList, List.length_append, Array.length_toList, Array.length_toList] at h
      have h2 : (y1 ++ y3).data.size = y1.size + y3.size := h
      show (y1 ++ y3).data.size ≤ _
      omega
    have hcl : Hid ((y1 ++ y3).data.toList = padX k.data.toList 92 ++ inn) := by unfold Hid; rw [ba_app, HY1.out, HY3.out]
    have HS2 := Lib.hid (sum_any (y1 ++ y3) wd hcs.out (HL.out.below HL4.out (Nat.le_refl _)))
    rw [hcl.out] at HS2
    clear hcs hcl
    go_wp2_with fail
    refine HS2.out.mono ?_
    rintro e we ⟨rfl, hb⟩
    have HFF := Lib.hid (HOUT.out _ rfl _ (HL4.out.trans (hb.mono HL4.out.size)))
    clear hb HL4 HS2
    go_wp2
    go_ret
    exact HFF.out
end Go.Proofs.YtkbgmdabmebdhaaGreatDoor.mac
