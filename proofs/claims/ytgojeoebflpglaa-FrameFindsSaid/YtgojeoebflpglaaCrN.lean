/- Plain facts: four bytes changed by up to 32 bits change the CRC-32. -/
import Derived.Test.YtgojeoebflpglaaCrM
namespace Go.Proofs.CrcMath
def dbyte (u : Int) (i : Nat) : UInt8 := UInt8.ofNat (u.toNat / 2 ^ (8 * i))
def lst (l : List UInt8) (k : Nat) (u : Int) : Nat → List UInt8
  | 0 => l
  | i + 1 => (lst l k u i).set (k + i) ((lst l k u i).getD (k + i) 0 ^^^ dbyte u i)
theorem lst_length (l : List UInt8) (k : Nat) (u : Int) (i : Nat) : (lst l k u i).length = l.length := by
  induction i with
  | zero => rfl
  | succ i ih => simp [lst, ih]
theorem lst_four (p q : List UInt8) (a b c d : UInt8) (u : Int) :
    lst (p ++ a :: b :: c :: d :: q) p.length u 4 = p ++ (a ^^^ dbyte u 0) :: (b ^^^ dbyte u 1) :: (c ^^^ dbyte u 2) :: (d ^^^ dbyte u 3) :: q := by
  simp [lst, List.set_append, List.getD, List.getElem?_append]
theorem shl_xor (a b : Nat) : 2 ^ 8 * (a ^^^ b) = 2 ^ 8 * a ^^^ 2 ^ 8 * b := by
  have := Nat.shiftLeft_xor_distrib (a := a) (b := b) (i := 8)
  simp only [Nat.shiftLeft_eq] at this
  rw [Nat.mul_comm, this, Nat.mul_comm a, Nat.mul_comm b]
theorem peel {d y : Nat} (hd : d < 256) (h : d ^^^ 2 ^ 8 * y = 0) : d = 0 ∧ y = 0 := by
  have := xor_zero_iff h
  omega
def hor (a b c d : Nat) : Nat := a ^^^ 2 ^ 8 * (b ^^^ 2 ^ 8 * (c ^^^ 2 ^ 8 * d))
theorem hor_lt {a b c d : Nat} (ha : a < 256) (hb : b < 256) (hc : c < 256) (hd : d < 256) : hor a b c d < 4294967296 := by
  have h1 : c ^^^ 2 ^ 8 * d < 2 ^ 16 := Nat.xor_lt_two_pow (by omega) (by omega)
  have h2 : b ^^^ 2 ^ 8 * (c ^^^ 2 ^ 8 * d) < 2 ^ 24 := Nat.xor_lt_two_pow (by omega) (by omega)
  exact Nat.xor_lt_two_pow (n := 32) (by omega) (by omega)
theorem xor_mix (a b c d : Nat) : (a ^^^ b) ^^^ (c ^^^ d) = (a ^^^ c) ^^^ (b ^^^ d) := by
  rw [Nat.xor_assoc, ← Nat.xor_assoc b, Nat.xor_comm b c, Nat.xor_assoc c, ← Nat.xor_assoc]
theorem hor_xor (a b c d e f g h : Nat) : hor (a ^^^ e) (b ^^^ f) (c ^^^ g) (d ^^^ h) = hor a b c d ^^^ hor e f g h := by
  unfold hor
  rw [shl_xor d h, xor_mix c g, shl_xor (c ^^^ _), xor_mix b f, shl_xor (b ^^^ _), xor_mix a e]
theorem four' (x : Nat) (a b c d : UInt8) : crun x [a, b, c, d] = cstepN 32 (x ^^^ hor a.toNat b.toNat c.toNat d.toNat) := by
  rw [four]; unfold hor
  simp only [shl_xor, Nat.xor_assoc, ← Nat.mul_assoc]
theorem hor_zero {a b c d : Nat} (ha : a < 256) (hb : b < 256) (hc : c < 256) (h : hor a b c d = 0) : a = 0 ∧ b = 0 ∧ c = 0 ∧ d = 0 := by
  obtain ⟨h0, h⟩ := peel ha h
  obtain ⟨h1, h⟩ := peel hb h
  obtain ⟨h2, h3⟩ := peel hc h
  exact ⟨h0, h1, h2, h3⟩
theorem dbyte_toNat (u : Int) (i : Nat) : (dbyte u i).toNat = u.toNat / 2 ^ (8 * i) % 256 := by
  unfold dbyte; simp [UInt8.toNat_ofNat']
theorem finds_math (p q : List UInt8) (a b c d : UInt8) (u : Int) (h0 : 0 ≤ u) (h1 : u ≤ 4294967295) (hu : u ≠ 0) :
    cmore 0 (lst (p ++ a :: b :: c :: d :: q) p.length u 4) ≠ cmore 0 (p ++ a :: b :: c :: d :: q) := by
  rw [lst_four]
  unfold cmore
  intro h
  have h := congrArg cflip h
  rw [cflip_flip, cflip_flip] at h
  have hX : crun (cflip (clow 0)) p < 4294967296 := crun_lt p (cflip_lt (clow_lt 0))
  rw [crun_append, crun_append] at h
  generalize crun (cflip (clow 0)) p = X at *
  have e : ∀ (a b c d : UInt8), crun X (a :: b :: c :: d :: q) = crun (crun X [a, b, c, d]) q := fun a b c d => by rw [← crun_append]; rfl
  rw [e, e, four', four'] at h
  have ba := a.toNat_lt; have bb := b.toNat_lt; have bc := c.toNat_lt; have bd := d.toNat_lt
  have b0 := (dbyte u 0).toNat_lt; have b1 := (dbyte u 1).toNat_lt; have b2 := (dbyte u 2).toNat_lt; have b3 := (dbyte u 3).toNat_lt
  simp only [UInt8.toNat_xor] at h
  rw [hor_xor] at h
  have l1 := hor_lt ba bb bc bd
  have l2 := hor_lt b0 b1 b2 b3
  have h := crun_inj q (cstepN_lt 32 (xor_lt32 hX (xor_lt32 l1 l2))) (cstepN_lt 32 (xor_lt32 hX l1)) h
  have h := cstepN_inj (xor_lt32 hX (xor_lt32 l1 l2)) (xor_lt32 hX l1) h
  have h : hor (dbyte u 0).toNat (dbyte u 1).toNat (dbyte u 2).toNat (dbyte u 3).toNat = 0 := by
    have h2 := congrArg (fun z => (X ^^^ hor a.toNat b.toNat c.toNat d.toNat) ^^^ z) h
    simp only [Nat.xor_self] at h2
    rwa [← Nat.xor_assoc X, ← Nat.xor_assoc, Nat.xor_self, Nat.zero_xor] at h2
  obtain ⟨z0, z1, z2, z3⟩ := hor_zero b0 b1 b2 h
  rw [dbyte_toNat] at z0 z1 z2 z3
  simp at z0 z1 z2 z3
  omega
theorem split_at (l : List UInt8) (k : Nat) (h : k + 3 < l.length) : ∃ p a b c d q, l = p ++ a :: b :: c :: d :: q ∧ p.length = k := by
  refine ⟨l.take k, l[k], l[k + 1], l[k + 2], l[k + 3], l.drop (k + 4), ?_, by rw [List.length_take]; omega⟩
  rw [← List.drop_eq_getElem_cons (by omega), ← List.drop_eq_getElem_cons (by omega), ← List.drop_eq_getElem_cons (by omega), ← List.drop_eq_getElem_cons (by omega), List.take_append_drop]
theorem finds (l : List UInt8) (k : Nat) (h : k + 3 < l.length) (u : Int) (h0 : 0 ≤ u) (h1 : u ≤ 4294967295) (hu : u ≠ 0) :
    cmore 0 (lst l k u 4) ≠ cmore 0 l := by
  obtain ⟨p, a, b, c, d, q, rfl, rfl⟩ := split_at l k h
  exact finds_math p q a b c d u h0 h1 hu
end Go.Proofs.CrcMath
