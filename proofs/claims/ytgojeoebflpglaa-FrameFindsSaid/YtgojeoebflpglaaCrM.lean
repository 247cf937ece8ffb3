/- Plain facts on CRC-32 by Nat: what is used by the walks of crc. -/
namespace Go.Proofs.CrcMath
/-- one bit -/
def cstep (n : Nat) : Nat := if n % 2 = 1 then (n / 2) ^^^ 3988292384 else n / 2
def cstepN : Nat → Nat → Nat
  | 0, n => n
  | k + 1, n => cstep (cstepN k n)
/-- one cbyte behind a state -/
def cbyte (x : Nat) (c : UInt8) : Nat := cstepN 8 (x ^^^ c.toNat)
def crun (x : Nat) (l : List UInt8) : Nat := l.foldl cbyte x
def cflip (x : Nat) : Nat := x ^^^ 4294967295
def clow (n : Int) : Nat := (n % 4294967296).toNat
def cmore (n : Int) (l : List UInt8) : Nat := cflip (crun (cflip (clow n)) l)

theorem xor_lt32 {a b : Nat} (ha : a < 4294967296) (hb : b < 4294967296) : a ^^^ b < 4294967296 :=
  Nat.xor_lt_two_pow (n := 32) ha hb
theorem cstep_lt {n : Nat} (h : n < 4294967296) : cstep n < 4294967296 := by
  unfold cstep; split
  · exact xor_lt32 (by omega) (by omega)
  · omega
theorem cstepN_lt {n : Nat} (k : Nat) (h : n < 4294967296) : cstepN k n < 4294967296 := by
  induction k with
  | zero => exact h
  | succ k ih => exact cstep_lt ih
theorem cbyte_lt {x : Nat} (c : UInt8) (h : x < 4294967296) : cbyte x c < 4294967296 :=
  cstepN_lt 8 (xor_lt32 h (by have := c.toNat_lt; omega))
theorem crun_lt {x : Nat} (l : List UInt8) (h : x < 4294967296) : crun x l < 4294967296 := by
  induction l generalizing x with
  | nil => exact h
  | cons c l ih => exact ih (cbyte_lt c h)
theorem cflip_lt {x : Nat} (h : x < 4294967296) : cflip x < 4294967296 := xor_lt32 h (by omega)
theorem cflip_flip (x : Nat) : cflip (cflip x) = x := by
  unfold cflip; rw [Nat.xor_assoc, Nat.xor_self, Nat.xor_zero]
theorem clow_lt (n : Int) : clow n < 4294967296 := by unfold clow; omega
theorem clow_of (k : Nat) (h : k < 4294967296) : clow (k : Int) = k := by unfold clow; omega
theorem cmore_lt (n : Int) (l : List UInt8) : cmore n l < 4294967296 := cflip_lt (crun_lt l (cflip_lt (clow_lt n)))
theorem crun_append (x : Nat) (a b : List UInt8) : crun x (a ++ b) = crun (crun x a) b := by
  unfold crun; rw [List.foldl_append]
theorem parts (n : Int) (a b : List UInt8) : cmore n (a ++ b) = cmore (cmore n a : Nat) b := by
  have h := cmore_lt n a
  unfold cmore at *
  rw [clow_of _ h, cflip_flip, crun_append]
theorem crun_snoc (x : Nat) (l : List UInt8) (c : UInt8) : crun x (l ++ [c]) = cbyte (crun x l) c := by
  rw [crun_append]; rfl

/-! ### the bits are linear, and nothing is lost -/
theorem xor_half (a b : Nat) : (a ^^^ b) / 2 = a / 2 ^^^ b / 2 := by
  have := Nat.shiftRight_xor_distrib (a := a) (b := b) (i := 1)
  simpa [Nat.shiftRight_succ] using this
theorem xor_two (a b : Nat) : (a ^^^ b) % 2 = (a % 2 + b % 2) % 2 := by
  have := Nat.testBit_xor a b 0
  simp only [Nat.testBit_zero] at this
  rcases Nat.mod_two_eq_zero_or_one a with ha | ha <;> rcases Nat.mod_two_eq_zero_or_one b with hb | hb <;> rcases Nat.mod_two_eq_zero_or_one (a ^^^ b) with hc | hc <;> simp [ha, hb, hc] at this ⊢
theorem cstep_xor (a b : Nat) : cstep (a ^^^ b) = cstep a ^^^ cstep b := by
  unfold cstep
  rw [xor_half, xor_two]
  rcases Nat.mod_two_eq_zero_or_one a with ha | ha <;> rcases Nat.mod_two_eq_zero_or_one b with hb | hb <;> simp [ha, hb]
  · rw [Nat.xor_assoc]
  · rw [Nat.xor_assoc, Nat.xor_assoc]; congr 1; exact Nat.xor_comm _ _
  · rw [Nat.xor_assoc, ← Nat.xor_assoc 3988292384, Nat.xor_comm 3988292384, Nat.xor_assoc, Nat.xor_self, Nat.xor_zero]
theorem cstepN_xor (k a b : Nat) : cstepN k (a ^^^ b) = cstepN k a ^^^ cstepN k b := by
  induction k with
  | zero => rfl
  | succ k ih => show cstep _ = _; rw [ih, cstep_xor]; rfl
theorem cstep_zero_of (n : Nat) (h : n < 4294967296) (hs : cstep n = 0) : n = 0 := by
  unfold cstep at hs
  split at hs
  · exfalso
    have h1 : n / 2 < 2 ^ 31 := by omega
    have h2 : (n / 2).testBit 31 = false := Nat.testBit_lt_two_pow h1
    have h3 : (n / 2 ^^^ 3988292384).testBit 31 = true := by
      rw [Nat.testBit_xor, h2]; decide
    rw [hs] at h3; simp at h3
  · omega
theorem cstepN_zero_of (k n : Nat) (h : n < 4294967296) (hs : cstepN k n = 0) : n = 0 := by
  induction k with
  | zero => exact hs
  | succ k ih => exact ih (cstep_zero_of _ (cstepN_lt k h) hs)
theorem xor_zero_iff {a b : Nat} (h : a ^^^ b = 0) : a = b := by
  have : (a ^^^ b) ^^^ b = b := by rw [h, Nat.zero_xor]
  rwa [Nat.xor_assoc, Nat.xor_self, Nat.xor_zero] at this
theorem cstepN_inj {k a b : Nat} (ha : a < 4294967296) (hb : b < 4294967296) (h : cstepN k a = cstepN k b) : a = b := by
  apply xor_zero_iff
  apply cstepN_zero_of k _ (xor_lt32 ha hb)
  rw [cstepN_xor, h, Nat.xor_self]
theorem cbyte_inj {a b : Nat} (c : UInt8) (ha : a < 4294967296) (hb : b < 4294967296) (h : cbyte a c = cbyte b c) : a = b := by
  have hc : c.toNat < 4294967296 := by have := c.toNat_lt; omega
  have := cstepN_inj (xor_lt32 ha hc) (xor_lt32 hb hc) h
  apply xor_zero_iff
  have e : (a ^^^ c.toNat) ^^^ (b ^^^ c.toNat) = 0 := by rw [this, Nat.xor_self]
  rwa [Nat.xor_assoc, ← Nat.xor_assoc c.toNat, Nat.xor_comm c.toNat, Nat.xor_assoc, Nat.xor_self, Nat.xor_zero] at e
theorem crun_inj {a b : Nat} (l : List UInt8) (ha : a < 4294967296) (hb : b < 4294967296) (h : crun a l = crun b l) : a = b := by
  induction l generalizing a b with
  | nil => exact h
  | cons c l ih => exact cbyte_inj c ha hb (ih (cbyte_lt c ha) (cbyte_lt c hb) h)
/-- a cbyte's bits that wait higher up come down without a turn -/
theorem cstep_even (n : Nat) : cstep (2 * n) = n := by unfold cstep; rw [if_neg (by omega)]; omega
theorem cstepN_add (j k n : Nat) : cstepN (j + k) n = cstepN j (cstepN k n) := by
  induction j with
  | zero => simp [cstepN]
  | succ j ih => rw [Nat.succ_add]; show cstep _ = cstep _; rw [ih]
theorem cstepN_shift (k n : Nat) : cstepN k (2 ^ k * n) = n := by
  induction k generalizing n with
  | zero => simp [cstepN]
  | succ k ih =>
    rw [cstepN_add k 1]
    show cstepN k (cstep (2 ^ (k + 1) * n)) = n
    rw [show 2 ^ (k + 1) * n = 2 * (2 ^ k * n) by rw [Nat.pow_succ]; rw [Nat.mul_comm (2 ^ k) 2, Nat.mul_assoc], cstep_even, ih]
/-- four bytes at once -/
theorem four (x : Nat) (a b c d : UInt8) : crun x [a, b, c, d] = cstepN 32 (x ^^^ (a.toNat ^^^ 2 ^ 8 * b.toNat ^^^ 2 ^ 16 * c.toNat ^^^ 2 ^ 24 * d.toNat)) := by
  show cbyte (cbyte (cbyte (cbyte x a) b) c) d = _
  unfold cbyte
  simp only [cstepN_xor, ← cstepN_add]
  rw [show cstepN 32 (2 ^ 8 * b.toNat) = cstepN 24 b.toNat by rw [show (32 : Nat) = 24 + 8 from rfl, cstepN_add, cstepN_shift],
    show cstepN 32 (2 ^ 16 * c.toNat) = cstepN 16 c.toNat by rw [show (32 : Nat) = 16 + 16 from rfl, cstepN_add, cstepN_shift],
    show cstepN 32 (2 ^ 24 * d.toNat) = cstepN 8 d.toNat by rw [show (32 : Nat) = 8 + 24 from rfl, cstepN_add, cstepN_shift]]
  simp only [Nat.xor_assoc]
end Go.Proofs.CrcMath
