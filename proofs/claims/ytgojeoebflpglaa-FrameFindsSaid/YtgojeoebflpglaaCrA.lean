/- The walks of package crc. -/
import Derived.Test.YtgojeoebflpglaaRows
import Derived.Test.YtgojeoebflpglaaCrM
import Derived.WalkKit
import Derived.ProofKit
import Derived.OpenShut
import Derived.ShutString
import Derived.Laws.BitsAllLaws
import Derived.Lib.Hide
namespace Go.Proofs.Ytgojeoebflpglaa.crc
open Go.ChangeShapes Go.WideShapes Go.ChangeAt Go.RowKit
open Go.Proofs.CrcMath
theorem and_one (y : Nat) (h : y < 4294967296) : bits BinOp.and IntKind.u32 (y : Int) 1 = ((y % 2 : Nat) : Int) := by
  have := u32_and_nat y 1 h (by omega)
  rw [nat_mask1] at this; exact this
theorem xor_poly (y : Nat) (h : y < 4294967296) : bits BinOp.xor IntKind.u32 ((y : Int) / 2) 3988292384 = ((y / 2 ^^^ 3988292384 : Nat) : Int) := by
  have := u32_xor_nat (y / 2) 3988292384 (by omega) (by omega)
  rw [← this]; rfl
theorem odd_step (y : Nat) (h : y < 4294967296) (ht : (bits BinOp.and IntKind.u32 (y : Int) 1 == 1) = true) :
    bits BinOp.xor IntKind.u32 ((y : Int) / 2) 3988292384 = ((cstep y : Nat) : Int) := by
  rw [and_one y h] at ht
  have : y % 2 = 1 := by simp at ht; omega
  unfold cstep; rw [if_pos this, xor_poly y h]
theorem even_step (y : Nat) (h : y < 4294967296) (ht : (bits BinOp.and IntKind.u32 (y : Int) 1 == 1) = false) :
    (y : Int) / 2 = ((cstep y : Nat) : Int) := by
  rw [and_one y h] at ht
  have : ¬ y % 2 = 1 := by simp at ht; omega
  unfold cstep; rw [if_neg this]; omega
def Inv (X k : Nat) (t : Value) : Prop := t = .int .u32 (cstepN k X : Nat)
theorem int_eq {k : IntKind} {a b : Int} (h : a = b) : Value.int k a = .int k b := by rw [h]
theorem ret_int {k : IntKind} {a b : Int} (h : a = b) : Ending.returned (.int k a) = .returned (.int k b) := by rw [h]
set_option maxHeartbeats 400000 in
theorem pushed_any (x : Nat) (w : World) (h1 : x < 4294967296) :
    Calls Try.prog 35 #[.int .u32 x] w fun e w' => e = .returned (.int .u32 (cstepN 8 x : Nat)) ∧ w = w' := by
  go_enter Try.func35, Try.ntmps35
  go_wp2
  go_loop [0, 4] (fun t i => ∃ (k : Nat), k ≤ 8 ∧ i = .int .i64 k ∧ Inv x k t) (fun _ i => 8 - (intOf i).toNat)
  case atStart => exact ⟨0, by omega, rfl, rfl⟩
  case round =>
    obtain ⟨k, hk, rfl, rfl⟩ := hrel
    have hy := cstepN_lt k h1
    have hA := Lib.hid (show cstepN (k + 1) x = cstep (cstepN k x) from rfl)
    have hB := Lib.hid (show k = 8 → cstepN k x = cstepN 8 x from fun h => by rw [h])
    unfold Inv
    generalize cstepN k x = y at *
    by_cases hlt : k < 8
    · go_wp2
      all_goals
        go_round
        case rel =>
          refine ⟨k + 1, by omega, by go_num, int_eq ?_⟩
          rw [hA.out]
          first | exact odd_step y hy (by assumption) | exact even_step y hy (by assumption)
        case measure => simp [intOf]; omega
    · go_wp2
      go_ret
      exact ⟨ret_int (by rw [hB.out (by omega)]), rfl⟩

theorem flip_first (n : Int) : bits BinOp.xor IntKind.u32 IntKind.u32.max (n % 4294967296) = ((cflip (clow n) : Nat) : Int) := by
  have h := clow_lt n
  have e : n % 4294967296 = ((clow n : Nat) : Int) := by unfold clow; omega
  rw [e, show IntKind.u32.max = ((4294967295 : Nat) : Int) from rfl, u32_xor_nat _ _ (by omega) h]
  unfold cflip; rw [Nat.xor_comm]
theorem flip_last (y : Nat) (h : y < 4294967296) : bits BinOp.xor IntKind.u32 IntKind.u32.max (y : Int) = ((cflip y : Nat) : Int) := by
  rw [show IntKind.u32.max = ((4294967295 : Nat) : Int) from rfl, u32_xor_nat _ _ (by omega) h]
  unfold cflip; rw [Nat.xor_comm]
theorem xor_byte (y : Nat) (c : UInt8) (h : y < 4294967296) : bits BinOp.xor IntKind.u32 (y : Int) ((c.toNat : Int) % 4294967296) = ((y ^^^ c.toNat : Nat) : Int) := by
  have hc := c.toNat_lt
  rw [show (c.toNat : Int) % 4294967296 = (c.toNat : Int) by omega]
  exact u32_xor_nat _ _ h (by omega)
theorem take_snoc (s : ByteArray) (k : Nat) (h : k < s.size) : s.data.toList.take (k + 1) = s.data.toList.take k ++ [s[k]] := by
  rw [List.take_succ_eq_append_getElem (by simpa using h)]; rfl
theorem wrap_small (n : Nat) (h : n < 4294967296) : wrap64 (n : Int) = n := IntWalk.wrap64_in _ (by omega)
def Sofar (X : Nat) (s : ByteArray) (k : Nat) (t : Value) : Prop := t = .int .u32 (crun X (s.data.toList.take k) : Nat)
set_option maxHeartbeats 400000 in
theorem more_any (n : Int) (s : ByteArray) (w : World) (hs : s.size ≤ maxLen) :
    Calls Try.prog 24 #[.int .i64 n, .string s] w fun e w' => e = .returned (.int .i64 (cmore n s.data.toList : Nat)) ∧ w = w' := by
  unfold maxLen at hs
  have H := Lib.hid (flip_first n)
  have hX := cflip_lt (clow_lt n)
  have hM := Lib.hid (show cmore n s.data.toList = cflip (crun (cflip (clow n)) s.data.toList) from rfl)
  go_enter Try.func24, Try.ntmps24
  go_wp2
  rw [H.out]
  clear H
  generalize cflip (clow n) = X at *
  go_loop [5, 12] (fun t i => ∃ (k : Nat), k ≤ s.size ∧ i = .int .i64 k ∧ Sofar X s k t) (fun _ i => s.size - (intOf i).toNat)
  case atStart => exact ⟨0, by omega, rfl, rfl⟩
  case round =>
    obtain ⟨k, hk, rfl, rfl⟩ := hrel
    have hy := crun_lt (s.data.toList.take k) hX
    have hA := Lib.hid (fun h : k < s.size => show crun X (s.data.toList.take (k + 1)) = cbyte (crun X (s.data.toList.take k)) s[k] from by rw [take_snoc s k h, crun_snoc])
    have hB := Lib.hid (show k = s.size → crun X (s.data.toList.take k) = crun X s.data.toList from fun h => by rw [List.take_of_length_le (by simp; omega)])
    unfold Sofar
    generalize crun X (s.data.toList.take k) = y at *
    by_cases hlt : k < s.size
    · have hx := Lib.hid (xor_byte y s[k] hy)
      go_wp2_with fail
      rw [hx.out]
      refine (pushed_any _ _ (by have := xor_lt32 hy (show s[k].toNat < 4294967296 by have := s[k].toNat_lt; omega); omega)).mono ?_
      rintro e w' ⟨rfl, rfl⟩
      go_wp2
      go_round
      case rel => exact ⟨k + 1, by omega, by go_num, int_eq (by rw [hA.out (by omega)]; rfl)⟩
      case measure => simp [intOf]; omega
    · have hx := Lib.hid (flip_last y hy)
      go_wp2
      go_ret
      exact ⟨ret_int (by rw [hx.out, hM.out, hB.out (by omega)]; exact wrap_small _ (by have := cflip_lt (crun_lt s.data.toList hX); omega)), rfl⟩
theorem sum_any (s : ByteArray) (w : World) (hs : s.size ≤ maxLen) :
    Calls Try.prog 25 #[.string s] w fun e w' => e = .returned (.int .i64 (cmore 0 s.data.toList : Nat)) ∧ w = w' := by
  go_enter Try.func25, Try.ntmps25
  go_wp2_with fail
  refine (more_any _ _ _ hs).mono ?_
  rintro e w' ⟨rfl, rfl⟩
  go_wp2
  go_ret
  exact ⟨rfl, rfl⟩
end Go.Proofs.Ytgojeoebflpglaa.crc
