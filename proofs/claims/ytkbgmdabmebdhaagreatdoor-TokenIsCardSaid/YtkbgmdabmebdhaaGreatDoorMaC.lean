/- The walks of mac: Is; the reference's. -/
import Derived.Test.YtkbgmdabmebdhaaGreatDoorMaB
import Derived.Test.YtkbgmdabmebdhaaGreatDoorShQ
namespace Go.Proofs.YtkbgmdabmebdhaaGreatDoor.mac
open Go.ChangeShapes Go.WideShapes Go.ChangeAt Go.RowKit Go.Proofs.Aid
open Go.Proofs.YtkbgmdabmebdhaaGreatDoor.oc (be be_length bz bz_append)
open Go.Proofs.YtkbgmdabmebdhaaGreatDoor.sha
set_option linter.unusedVariables false
def IsD (b : Bool) (w : World) (e : Ending) (w' : World) : Prop := e = .returned (.bool b) ∧ Below w.heap.size w w'
set_option maxHeartbeats 1000000 in
theorem is_yes (k s : ByteArray) (w : World) (hk : k.size ≤ 1000000) (hs : s.size ≤ 1000000) (hl : Lets w) :
    Calls Tryz.prog 24 #[.string k, .string s, .string (bz (macB k.data.toList s.data.toList))] w (IsD true w) := by
  have HM : Hid (Calls Tryz.prog 31 #[.string k, .string s] w fun e w' => e = .returned (.string (bz (macB k.data.toList s.data.toList))) ∧ Below w.heap.size w w') := msum_any k s w hk hs hl
  clear hl
  generalize bz (macB k.data.toList s.data.toList) = y at *
  go_enter Tryz.func24, Tryz.ntmps24
  go_wp2_with fail
  refine HM.out.mono ?_
  rintro e w1 ⟨rfl, hb⟩
  have HF : Hid (IsD true w (.returned (.bool true)) w1) := ⟨rfl, hb⟩
  clear hb HM
  go_wp2
  go_ret
  exact HF.out
set_option maxHeartbeats 1000000 in
theorem is_no (k s z : ByteArray) (w : World) (hk : k.size ≤ 1000000) (hs : s.size ≤ 1000000) (hz : bz (macB k.data.toList s.data.toList) ≠ z) (hl : Lets w) :
    Calls Tryz.prog 24 #[.string k, .string s, .string z] w (IsD false w) := by
  have HM : Hid (Calls Tryz.prog 31 #[.string k, .string s] w fun e w' => e = .returned (.string (bz (macB k.data.toList s.data.toList))) ∧ Below w.heap.size w w') := msum_any k s w hk hs hl
  have hb1 := bytes_ne hz
  clear hl hz
  generalize bz (macB k.data.toList s.data.toList) = y at *
  go_enter Tryz.func24, Tryz.ntmps24
  go_wp2_with fail
  refine HM.out.mono ?_
  rintro e w1 ⟨rfl, hb⟩
  have HF : Hid (IsD false w (.returned (.bool false)) w1) := ⟨rfl, hb⟩
  clear hb HM
  go_wp2
  go_ret
  exact HF.out
/-! ### the reference -/
def RStr (b : List UInt8) (w : World) (e : Ending) (w' : World) : Prop := e = .returned (.string (bz b)) ∧ Below w.heap.size w w'
theorem infoU8 : (Tryz.prog.info? 5).map (fun i => (i.zero, i.size, i.bytes)) = some (some (.int .u8 0), 1, 1) := by kernel_rfl
theorem padX_take (k : List UInt8) (p : UInt8) {i : Nat} (h : i < 64) : (padX k p).take (i + 1) = (padX k p).take i ++ [k.getD i 0 ^^^ p] := by
  rw [List.take_succ_eq_append_getElem (by rw [padX_length]; exact h)]
  congr 2
  simp [padX]
set_option maxRecDepth 100000 in
set_option maxHeartbeats 4000000 in
theorem rpadded_any (k : ByteArray) (p : UInt8) (w : World) (hk : k.size ≤ 1000000) :
    Calls Tryz.prog 48 #[.string k, .int .u8 (p.toNat : Int)] w (RStr (padX k.data.toList p) w) := by
  obtain ⟨i0, hi0, hz0, hz1, hz2⟩ := info_parts infoU8
  have hrow0 : Row w w.heap.size 5 1 (fun x : UInt8 => [.int .u8 (x.toNat : Int)]) (.slice none 0 0) ((padX k.data.toList p).take 0) := Row.nil _ _ _ _ _
  have H0 := Lib.hid (Below.refl w.heap.size w)
  go_enter Tryz.func48, Tryz.ntmps48
  go_wp2
  go_loopw [5, 6] (fun v iv wr => ∃ i : Nat, i ≤ 64 ∧ iv = .int .i64 i ∧ Row wr w.heap.size 5 1 (fun x : UInt8 => [.int .u8 (x.toNat : Int)]) v ((padX k.data.toList p).take i) ∧ Hid (Below w.heap.size w wr)) (fun _ iv _ => 64 - (intOf iv).toNat)
  case atStart => exact ⟨0, by omega, rfl, hrow0, H0⟩
  case round =>
    clear hrow0 H0
    obtain ⟨i, hi, rfl, hrow, hlow⟩ := hrel
    obtain ⟨A, c, rfl⟩ := hrow.form
    have hsz := Lib.hid hlow.out.size
    by_cases hlt : i < 64
    · have HT := Lib.hid (padX_take k.data.toList p hlt)
      have hlen : Hid (((padX k.data.toList p).take i).length ≤ 64) := by unfold Hid; rw [List.length_take]; omega
      by_cases hik : i < k.size
      · have hik2 : i < k.data.toList.length := by simpa using hik
        have hzr := fun w => shr.index_str (P := Tryz.prog) Tryz.underlying9 w k .i64 hik (I := (i : Int)) rfl
        have hx := u8_xor k[i] p
        have hgd : Hid (k.data.toList.getD i 0 = k[i]) := bIn hik2
        rw [hgd.out] at HT
        have hab : k[i] ^^^ p = k[i] ^^^ p := rfl
        generalize k[i] ^^^ p = y at *
        generalize k[i] = x at *
        clear hab hgd
        generalize (padX k.data.toList p).take i = l at *
        go_wp2_with (at_builtin; refine wpList_append_row _ rfl _ _ 57 rfl w.heap.size 5 i0 _ 1 1 Tryz.underlying57 hi0 hz0 hz1 hz2 rfl (by decide) _ _ rfl (hrow.alloc _) (fun _ => rfl) _ y rfl (cells_new _ _ _) (by simp [Value.oneCell']) (by have := hlen.out; unfold maxLen; omega) (by have := hlen.out; omega) (by have := hsz.out; simp; omega) ?_; intro v' w1 hrow' hgrow)
        have HR1 := Lib.hid hrow'
        have HB1 := Lib.hid (low_row hlow.out hrow (Nat.le_refl _) hsz.out hgrow)
        clear hrow hlow hrow' hgrow
        go_wp2
        go_roundw
        case rel => exact ⟨i + 1, by omega, by go_num, by rw [HT.out]; exact HR1.out, HB1⟩
        case measure => simp [intOf]; omega
      · have hx := u8_xor 0 p
        have h00 : ((0 : UInt8).toNat : Int) = 0 := rfl
        rw [h00] at hx
        have hgd : Hid (k.data.toList.getD i 0 = 0) := bOut (by simpa using hik)
        rw [hgd.out] at HT
        generalize (0 : UInt8) ^^^ p = y at *
        clear hgd h00
        generalize (padX k.data.toList p).take i = l at *
        go_wp2_with (at_builtin; refine wpList_append_row _ rfl _ _ 57 rfl w.heap.size 5 i0 _ 1 1 Tryz.underlying57 hi0 hz0 hz1 hz2 rfl (by decide) _ _ rfl (hrow.alloc _) (fun _ => rfl) _ y rfl (cells_new _ _ _) (by simp [Value.oneCell']) (by have := hlen.out; unfold maxLen; omega) (by have := hlen.out; omega) (by have := hsz.out; simp; omega) ?_; intro v' w1 hrow' hgrow)
        have HR1 := Lib.hid hrow'
        have HB1 := Lib.hid (low_row hlow.out hrow (Nat.le_refl _) hsz.out hgrow)
        clear hrow hlow hrow' hgrow
        go_wp2
        go_roundw
        case rel => exact ⟨i + 1, by omega, by go_num, by rw [HT.out]; exact HR1.out, HB1⟩
        case measure => simp [intOf]; omega
    · have hi64 : i = 64 := by omega
      subst hi64
      have hl := padX_length k.data.toList p
      have HT : Hid ((padX k.data.toList p).take 64 = padX k.data.toList p) := List.take_of_length_le (by rw [hl]; omega)
      rw [HT.out] at hrow ⊢
      obtain ⟨g, cap, hv, hbg, hgl⟩ := World.ownsRow.form hrow (by omega)
      rw [hl] at hv ⊢
      injection hv with hv1 hv2 hv3
      subst hv1 hv3
      rw [hl] at hrow
      have hcv := run_convert_bytes_back (P := Tryz.prog) wr 57 9 5 ⟨g, 0, none⟩ c (padX k.data.toList p) Tryz.underlying57 Tryz.underlying5 Tryz.underlying9 (fun j hj => by
        have e : (⟨g, 0, none⟩ : Addr).add j = ⟨g, j, none⟩ := by unfold Addr.add; split <;> simp_all
        rw [e]
        exact (Row1.cell hrow (i := j) hj).1)
      rw [hl] at hcv
      have HFF : Hid (RStr (padX k.data.toList p) w (.returned (.string ⟨(padX k.data.toList p).toArray⟩)) wr) := ⟨rfl, hlow.out⟩
      clear hrow hlow hl HT hsz
      generalize padX k.data.toList p = pk at *
      go_wp2
      go_ret
      exact HFF.out
end Go.Proofs.YtkbgmdabmebdhaaGreatDoor.mac
