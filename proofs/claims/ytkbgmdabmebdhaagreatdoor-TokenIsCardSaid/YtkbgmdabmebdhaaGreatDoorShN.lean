/- Words of 32 bits: what the operations give, by numbers. -/
import Derived.Test.YtkbgmdabmebdhaaGreatDoorShM
import Derived.Test.YtkbgmdabmebdhaaGreatDoorRows
import Derived.WalkKit
import Derived.ProofKit
import Derived.Laws.BitsAllLaws
import Derived.Laws.BitsLemmas
import Derived.Lib.Hide
namespace Go.Proofs.YtkbgmdabmebdhaaGreatDoor.sha
open Go
theorem xor_lt {a b : Nat} (ha : a < 4294967296) (hb : b < 4294967296) : a ^^^ b < 4294967296 := Nat.xor_lt_two_pow (n := 32) ha hb
theorem and_lt {a : Nat} (b : Nat) (ha : a < 4294967296) : a &&& b < 4294967296 := Nat.lt_of_le_of_lt Nat.and_le_left ha
theorem shr_lt {a : Nat} (k : Nat) (ha : a < 4294967296) : a >>> k < 4294967296 := Nat.lt_of_le_of_lt (Nat.shiftRight_le _ _) ha
theorem rotr_lt (x k : Nat) : rotr x k < 4294967296 := Nat.mod_lt _ (by decide)
theorem sg0_lt {a : Nat} (h : a < 4294967296) : sg0 a < 4294967296 := xor_lt (xor_lt (rotr_lt _ _) (rotr_lt _ _)) (shr_lt _ h)
theorem sg1_lt {a : Nat} (h : a < 4294967296) : sg1 a < 4294967296 := xor_lt (xor_lt (rotr_lt _ _) (rotr_lt _ _)) (shr_lt _ h)
theorem bs0_lt (a : Nat) : bs0 a < 4294967296 := xor_lt (xor_lt (rotr_lt _ _) (rotr_lt _ _)) (rotr_lt _ _)
theorem bs1_lt (a : Nat) : bs1 a < 4294967296 := xor_lt (xor_lt (rotr_lt _ _) (rotr_lt _ _)) (rotr_lt _ _)
theorem not_lt {e : Nat} (h : e < 4294967296) : e ^^^ 4294967295 < 4294967296 := xor_lt h (by decide)
theorem chf_lt {e f : Nat} (g : Nat) (he : e < 4294967296) : chf e f g < 4294967296 := xor_lt (and_lt _ he) (and_lt _ (not_lt he))
theorem maj_lt {a b : Nat} (c : Nat) (ha : a < 4294967296) (hb : b < 4294967296) : maj a b c < 4294967296 := xor_lt (xor_lt (and_lt _ ha) (and_lt _ ha)) (and_lt _ hb)
structure S8.ok (x : S8) : Prop where
  a : x.a < 4294967296
  b : x.b < 4294967296
  c : x.c < 4294967296
  d : x.d < 4294967296
  e : x.e < 4294967296
  f : x.f < 4294967296
  g : x.g < 4294967296
  h : x.h < 4294967296
theorem mod_lt (n : Nat) : n % 4294967296 < 4294967296 := Nat.mod_lt _ (by decide)
theorem stepS_ok {x : S8} (h : x.ok) (k : Nat) : (stepS x k).ok := ⟨mod_lt _, h.a, h.b, h.c, mod_lt _, h.e, h.f, h.g⟩
theorem addS_ok (x v : S8) : (addS x v).ok := ⟨mod_lt _, mod_lt _, mod_lt _, mod_lt _, mod_lt _, mod_lt _, mod_lt _, mod_lt _⟩
theorem runS_ok {v : S8} (h : v.ok) (w : List Nat) : ∀ t, (runS v w t).ok
  | 0 => h
  | t + 1 => stepS_ok (runS_ok h w t) _
theorem h0_ok : h0.ok := by constructor <;> decide
theorem shaRun_ok {v : S8} (h : v.ok) (l : List UInt8) : ∀ n, (shaRun v l n).ok
  | 0 => h
  | _ + 1 => addS_ok _ _
/-! ### turning -/
theorem rot_ks : ∀ k : Nat, k < 32 → bits BinOp.and IntKind.u64 (IntKind.u64.wrap (-((k + 1 : Nat) : Int))) 31 = ((31 - k : Nat) : Int) := by decide +kernel
theorem rot_s {k : Nat} (h0 : 0 < k) (h1 : k < 32) : bits BinOp.and IntKind.u64 (IntKind.u64.wrap (-(k : Int))) 31 = ((32 - k : Nat) : Int) := by
  have := rot_ks (k - 1) (by omega)
  rw [show k - 1 + 1 = k by omega] at this
  rw [this]; congr 1; omega
theorem rotr_eq (x k : Nat) (hx : x < 4294967296) : rotr x k = (x * 2 ^ (32 - k) % 4294967296) ||| x / 2 ^ k := by
  unfold rotr
  have e : (4294967296 : Nat) = 2 ^ 32 := rfl
  rw [e, Nat.or_mod_two_pow, ← e, Nat.shiftRight_eq_div_pow, Nat.shiftLeft_eq, Nat.or_comm, Nat.mod_eq_of_lt (a := x / 2 ^ k) (Nat.lt_of_le_of_lt (Nat.div_le_self _ _) hx)]
theorem rot_u32 (x s k : Nat) (hx : x < 4294967296) (hk : k = 32 - s) (hs : s ≤ 32) : bits .or .u32 ((x : Int) * 2 ^ s % 4294967296) ((x : Int) / 2 ^ k) = ((rotr x k : Nat) : Int) := by
  have h1 := u32_or_nat (x * 2 ^ s % 4294967296) (x / 2 ^ k) (mod_lt _) (Nat.lt_of_le_of_lt (Nat.div_le_self _ _) hx)
  rw [rotr_eq x k hx, show 32 - k = s by omega, ← h1]
  congr 1 <;> push_cast <;> rfl
/-! ### the same with 64 bits -/
theorem ofInt_i64 (a : Nat) (ha : a < 9223372036854775808) : (BitVec.ofInt 64 (a : Int)).toNat = a := by
  rw [BitVec.ofInt_natCast, BitVec.toNat_ofNat]; exact Nat.mod_eq_of_lt (by omega)
theorem i64_xor_nat (a b : Nat) (ha : a < 4294967296) (hb : b < 4294967296) : bits .xor .i64 (a : Int) (b : Int) = ((a ^^^ b : Nat) : Int) := by
  have hx := xor_lt ha hb
  show IntKind.i64.wrap ((BitVec.ofInt 64 (a : Int) ^^^ BitVec.ofInt 64 (b : Int)).toNat : Int) = _
  rw [BitVec.toNat_xor, ofInt_i64 a (by omega), ofInt_i64 b (by omega), IntKind.wrap_i64]
  omega
theorem i64_and_nat (a b : Nat) (ha : a < 4294967296) (hb : b < 4294967296) : bits .and .i64 (a : Int) (b : Int) = ((a &&& b : Nat) : Int) := by
  have hx := and_lt b ha
  show IntKind.i64.wrap ((BitVec.ofInt 64 (a : Int) &&& BitVec.ofInt 64 (b : Int)).toNat : Int) = _
  rw [BitVec.toNat_and, ofInt_i64 a (by omega), ofInt_i64 b (by omega), IntKind.wrap_i64]
  omega
theorem i64_or_nat (a b : Nat) (ha : a < 9223372036854775808) (hb : b < 9223372036854775808) : bits .or .i64 (a : Int) (b : Int) = ((a ||| b : Nat) : Int) := by
  have hx : a ||| b < 2 ^ 63 := Nat.or_lt_two_pow ha hb
  show IntKind.i64.wrap ((BitVec.ofInt 64 (a : Int) ||| BitVec.ofInt 64 (b : Int)).toNat : Int) = _
  rw [BitVec.toNat_or, ofInt_i64 a (by omega), ofInt_i64 b (by omega), IntKind.wrap_i64]
  omega
theorem i64_low (n : Int) : bits .and .i64 n 4294967295 = n % 4294967296 := by
  have h127 : (BitVec.ofInt 64 4294967295).toNat = 2 ^ 32 - 1 := by decide
  have key : (BitVec.ofInt 64 n &&& BitVec.ofInt 64 4294967295).toNat = (n % ((2 ^ 64 : Nat) : Int)).toNat % 2 ^ 32 := by
    rw [BitVec.toNat_and, BitVec.toNat_ofInt, h127, Nat.and_two_pow_sub_one_eq_mod]
  show IntKind.i64.wrap ((BitVec.ofInt 64 n &&& BitVec.ofInt 64 4294967295).toNat : Nat) = _
  rw [key, IntKind.wrap_i64]
  omega
theorem not_nat {e : Nat} (h : e < 4294967296) : e ^^^ 4294967295 = 4294967295 - e := by
  apply Nat.eq_of_testBit_eq
  intro i
  rw [Nat.testBit_xor, show (4294967295 : Nat) - e = 2 ^ 32 - (e + 1) by omega, Nat.testBit_two_pow_sub_succ (n := 32) h, show (4294967295 : Nat) = 2 ^ 32 - 1 from rfl, Nat.testBit_two_pow_sub_one]
  by_cases hi : i < 32
  · simp [hi]
  · have : e.testBit i = false := Nat.testBit_lt_two_pow (Nat.lt_of_lt_of_le h (Nat.pow_le_pow_right (by decide) (by omega) : 2 ^ 32 ≤ 2 ^ i))
    simp [hi, this]
theorem u32_not {e : Nat} (h : e < 4294967296) : bits .xor .u32 IntKind.u32.max (e : Int) = ((e ^^^ 4294967295 : Nat) : Int) := by
  rw [show IntKind.u32.max = ((4294967295 : Nat) : Int) from rfl, u32_xor_nat _ _ (by decide) h, Nat.xor_comm]
end Go.Proofs.YtkbgmdabmebdhaaGreatDoor.sha
