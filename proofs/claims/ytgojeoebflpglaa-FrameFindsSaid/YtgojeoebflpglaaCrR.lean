/- The walks of the reference of crc, and of CrcIs. -/
import Derived.Test.YtgojeoebflpglaaCrA
import Derived.Laws.BitsLemmas
namespace Go.Proofs.Ytgojeoebflpglaa.crc
open Go.ChangeShapes Go.WideShapes Go.ChangeAt Go.RowKit
open Go.Proofs.CrcMath
theorem ofInt_i64 (a : Nat) (ha : a < 4294967296) : (BitVec.ofInt 64 (a : Int)).toNat = a := by
  rw [BitVec.ofInt_natCast, BitVec.toNat_ofNat]; exact Nat.mod_eq_of_lt (by omega)
theorem i64_xor_nat (a b : Nat) (ha : a < 4294967296) (hb : b < 4294967296) : bits .xor .i64 (a : Int) (b : Int) = ((a ^^^ b : Nat) : Int) := by
  have hx : a ^^^ b < 2 ^ 32 := Nat.xor_lt_two_pow (by omega) (by omega)
  show IntKind.i64.wrap ((BitVec.ofInt 64 (a : Int) ^^^ BitVec.ofInt 64 (b : Int)).toNat : Int) = _
  rw [BitVec.toNat_xor, ofInt_i64 a ha, ofInt_i64 b hb, IntKind.wrap_i64]
  omega
theorem i64_and_low (n : Int) : bits .and .i64 n 4294967295 = ((clow n : Nat) : Int) := by
  have h127 : (BitVec.ofInt 64 4294967295).toNat = 2 ^ 32 - 1 := by decide
  have key : (BitVec.ofInt 64 n &&& BitVec.ofInt 64 4294967295).toNat = (n % ((2 ^ 64 : Nat) : Int)).toNat % 2 ^ 32 := by
    rw [BitVec.toNat_and, BitVec.toNat_ofInt, h127, Nat.and_two_pow_sub_one_eq_mod]
  show IntKind.i64.wrap ((BitVec.ofInt 64 n &&& BitVec.ofInt 64 4294967295).toNat : Nat) = _
  rw [key, IntKind.wrap_i64]
  unfold clow
  omega
theorem i64_and_one (y : Nat) (h : y < 4294967296) : bits BinOp.and IntKind.i64 (y : Int) 1 = ((y % 2 : Nat) : Int) := by
  have key : (BitVec.ofInt 64 (y : Int) &&& BitVec.ofInt 64 1).toNat = y % 2 := by
    rw [BitVec.toNat_and, ofInt_i64 y h]; exact Nat.and_two_pow_sub_one_eq_mod y 1
  show IntKind.i64.wrap ((BitVec.ofInt 64 (y : Int) &&& BitVec.ofInt 64 1).toNat : Nat) = _
  rw [key, IntKind.wrap_i64]
  omega
theorem r_odd (y : Nat) (h : y < 4294967296) (ht : (bits BinOp.and IntKind.i64 (y : Int) 1 == 1) = true) :
    bits BinOp.xor IntKind.i64 ((y : Int) / 2) 3988292384 = ((cstep y : Nat) : Int) := by
  rw [i64_and_one y h] at ht
  have : y % 2 = 1 := by simp at ht; omega
  have e := i64_xor_nat (y / 2) 3988292384 (by omega) (by omega)
  unfold cstep; rw [if_pos this, ← e]; rfl
theorem r_even (y : Nat) (h : y < 4294967296) (ht : (bits BinOp.and IntKind.i64 (y : Int) 1 == 1) = false) :
    (y : Int) / 2 = ((cstep y : Nat) : Int) := by
  rw [i64_and_one y h] at ht
  have : ¬ y % 2 = 1 := by simp at ht; omega
  unfold cstep; rw [if_neg this]; omega
set_option maxHeartbeats 400000 in
theorem rstep_any (y : Nat) (w : World) (h1 : y < 4294967296) :
    Calls Try.prog 36 #[.int .i64 y] w fun e w' => e = .returned (.int .i64 (cstep y : Nat)) ∧ w = w' := by
  go_enter Try.func36, Try.ntmps36
  go_wp2
  all_goals go_ret
  all_goals
    refine ⟨ret_int ?_, rfl⟩
    first | exact r_odd y h1 (by assumption) | exact r_even y h1 (by assumption)
theorem r_first (n : Int) : bits BinOp.xor IntKind.i64 (bits BinOp.and IntKind.i64 n 4294967295) 4294967295 = ((cflip (clow n) : Nat) : Int) := by
  rw [i64_and_low]; exact i64_xor_nat _ 4294967295 (clow_lt n) (by omega)
theorem r_last (y : Nat) (h : y < 4294967296) : bits BinOp.xor IntKind.i64 (y : Int) 4294967295 = ((cflip y : Nat) : Int) :=
  i64_xor_nat _ 4294967295 h (by omega)
theorem r_byte (y : Nat) (c : UInt8) (h : y < 4294967296) : bits BinOp.xor IntKind.i64 (y : Int) (wrap64 (c.toNat : Int)) = ((y ^^^ c.toNat : Nat) : Int) := by
  have hc := c.toNat_lt
  rw [wrap_small _ (by omega)]
  exact i64_xor_nat _ _ h (by omega)
def Sofar64 (X : Nat) (s : ByteArray) (k : Nat) (t : Value) : Prop := t = .int .i64 (crun X (s.data.toList.take k) : Nat)
def Inv64 (X k : Nat) (t : Value) : Prop := t = .int .i64 (cstepN k X : Nat)
set_option maxHeartbeats 400000 in
theorem rmore_any (n : Int) (s : ByteArray) (w : World) (hs : s.size ≤ maxLen) :
    Calls Try.prog 28 #[.int .i64 n, .string s] w fun e w' => e = .returned (.int .i64 (cmore n s.data.toList : Nat)) ∧ w = w' := by
  unfold maxLen at hs
  have H := Lib.hid (r_first n)
  have hX := cflip_lt (clow_lt n)
  have hM := Lib.hid (show cmore n s.data.toList = cflip (crun (cflip (clow n)) s.data.toList) from rfl)
  go_enter Try.func28, Try.ntmps28
  go_wp2
  rw [H.out]
  clear H
  generalize cflip (clow n) = X at *
  go_loop [5, 6] (fun t i => ∃ (k : Nat), k ≤ s.size ∧ i = .int .i64 k ∧ Sofar64 X s k t) (fun _ i => s.size - (intOf i).toNat)
  case atStart => exact ⟨0, by omega, rfl, rfl⟩
  case round =>
    obtain ⟨k, hk, rfl, rfl⟩ := hrel
    have hy := crun_lt (s.data.toList.take k) hX
    have hA := Lib.hid (fun h : k < s.size => show crun X (s.data.toList.take (k + 1)) = cbyte (crun X (s.data.toList.take k)) s[k] from by rw [take_snoc s k h, crun_snoc])
    have hB := Lib.hid (show k = s.size → crun X (s.data.toList.take k) = crun X s.data.toList from fun h => by rw [List.take_of_length_le (by simp; omega)])
    unfold Sofar64
    generalize crun X (s.data.toList.take k) = y at *
    by_cases hlt : k < s.size
    · have hx := Lib.hid (r_byte y s[k] hy)
      go_wp2_with fail
      rw [hx.out]
      have hz : y ^^^ s[k].toNat < 4294967296 := by have := xor_lt32 hy (show s[k].toNat < 4294967296 by have := s[k].toNat_lt; omega); omega
      have hC := Lib.hid (show cbyte y s[k] = cstepN 8 (y ^^^ s[k].toNat) from rfl)
      generalize y ^^^ s[k].toNat = z at *
      go_loop [5, 7] (fun t i => ∃ (j : Nat), j ≤ 8 ∧ i = .int .i64 j ∧ Inv64 z j t) (fun _ i => 8 - (intOf i).toNat)
      case atStart => exact ⟨0, by omega, rfl, rfl⟩
      case round =>
        obtain ⟨j, hj, rfl, rfl⟩ := hrel
        have hu := cstepN_lt j hz
        have hD := Lib.hid (show cstepN (j + 1) z = cstep (cstepN j z) from rfl)
        have hE := Lib.hid (show j = 8 → cstepN j z = cstepN 8 z from fun h => by rw [h])
        unfold Inv64
        generalize cstepN j z = u at *
        by_cases hjl : j < 8
        · go_wp2_with fail
          refine (rstep_any _ _ hu).mono ?_
          rintro e w' ⟨rfl, rfl⟩
          go_wp2
          go_round
          case rel => exact ⟨j + 1, by omega, by go_num, int_eq (by rw [hD.out])⟩
          case measure => simp [intOf]; omega
        · go_wp2
          go_round
          case rel => exact ⟨k + 1, by omega, by go_num, int_eq (by rw [hA.out (by omega), hC.out, hE.out (by omega)])⟩
          case measure => simp [intOf]; omega
    · have hx := Lib.hid (r_last y hy)
      go_wp2
      go_ret
      exact ⟨ret_int (by rw [hx.out, hM.out, hB.out (by omega)]), rfl⟩
theorem rsum_any (s : ByteArray) (w : World) (hs : s.size ≤ maxLen) :
    Calls Try.prog 18 #[.string s] w fun e w' => e = .returned (.int .i64 (cmore 0 s.data.toList : Nat)) ∧ w = w' := by
  go_enter Try.func18, Try.ntmps18
  go_wp2_with fail
  refine (rmore_any _ _ _ hs).mono ?_
  rintro e w' ⟨rfl, rfl⟩
  go_wp2
  go_ret
  exact ⟨rfl, rfl⟩
end Go.Proofs.Ytgojeoebflpglaa.crc
