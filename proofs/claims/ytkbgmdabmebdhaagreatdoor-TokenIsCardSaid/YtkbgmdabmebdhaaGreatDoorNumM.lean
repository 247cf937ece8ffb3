/- Numbers and their digits, as lists of bytes: what the program's Num answers, and what the reference's does, are one. -/
import Derived.Lib.ItoaLen
import Derived.Lib.AtoiAllCases
import Derived.IntWalk
namespace Go.Proofs.YtkbgmdabmebdhaaGreatDoor.num
open Go
/-- What the program's Num answers. -/
def numD (l : List UInt8) : Option Int :=
  match Lib.atoiAll l with
  | .ok n => if Lib.itoa n = l then some n else none
  | _ => none
theorem dec_ne (u : Nat) : Lib.decDigits u ≠ [] := by
  intro h
  have := Lib.decDigits_length u
  have h1 := Lib.nDigits_pos u
  rw [h] at this; simp at this; omega
theorem digit_nat {d : Nat} (h : d < 10) : (UInt8.ofNat (48 + d)).toNat = 48 + d := by
  rw [UInt8.toNat_ofNat']; omega
theorem dec_all (u : Nat) : ∀ c ∈ Lib.decDigits u, 48 ≤ c.toNat ∧ c.toNat ≤ 57 := by
  induction u using Nat.strongRecOn with
  | _ u ih =>
    intro c hc
    rw [Lib.decDigits] at hc
    split at hc
    · rename_i h
      have := List.mem_singleton.1 hc
      subst this
      rw [digit_nat h]; omega
    · rcases List.mem_append.1 hc with h | h
      · exact ih (u / 10) (by omega) c h
      · have := List.mem_singleton.1 h
        subst this
        rw [digit_nat (Nat.mod_lt _ (by decide))]; omega
/-- The digits of a number that is not 0; none of 0. -/
def digs (u : Nat) : List UInt8 := if u = 0 then [] else Lib.decDigits u
theorem digs_zero : digs 0 = [] := rfl
theorem digs_step {u : Nat} (h : u ≠ 0) : digs u = digs (u / 10) ++ [UInt8.ofNat (48 + u % 10)] := by
  unfold digs
  rw [if_neg h, Lib.decDigits]
  by_cases h1 : u < 10
  · rw [dif_pos h1, if_pos (by omega), Nat.mod_eq_of_lt h1]; rfl
  · rw [dif_neg h1, if_neg (by omega)]
theorem parse_append (l m : List UInt8) : ∀ acc, Lib.parseUint10 acc (l ++ m) = (match Lib.parseUint10 acc l with | .ok v => Lib.parseUint10 v m | .syntax => .syntax | .range => .range) := by
  induction l with
  | nil => intro acc; rfl
  | cons c r ih =>
    intro acc
    simp only [List.cons_append, Lib.parseUint10]
    split
    · split
      · rfl
      · split
        · rfl
        · exact ih _
    · rfl
theorem parse_one {v d : Nat} (hd : d < 10) (h : v * 10 + d < 18446744073709551616) : Lib.parseUint10 v [UInt8.ofNat (48 + d)] = .ok (v * 10 + d) := by
  simp only [Lib.parseUint10]
  rw [digit_nat hd, if_pos (by omega), if_neg (by omega), if_neg (by omega)]
  rw [show 48 + d - 48 = d by omega]
theorem parse_dec (u : Nat) (hu : u < 18446744073709551616) : Lib.parseUint10 0 (Lib.decDigits u) = .ok u := by
  induction u using Nat.strongRecOn with
  | _ u ih =>
    rw [Lib.decDigits]
    split
    · rename_i h
      rw [parse_one h (by omega)]; simp
    · rw [parse_append, ih (u / 10) (by omega) (by omega)]
      simp only
      rw [parse_one (Nat.mod_lt _ (by decide)) (by omega)]
      congr 1; omega
theorem mag_dec (u : Nat) (hu : u < 18446744073709551616) : Lib.parseMag (Lib.decDigits u) = .ok u := by
  unfold Lib.parseMag
  rw [if_neg (dec_ne u), parse_dec u hu]
theorem plain_dec (u : Nat) : Lib.atoiAll (Lib.decDigits u) = Lib.signless (Lib.parseMag (Lib.decDigits u)) := by
  have hall := dec_all u
  match h : Lib.decDigits u with
  | [] => exact absurd h (dec_ne u)
  | c :: r =>
    rw [h] at hall
    have := hall c (by simp)
    exact Lib.atoiAll_plain c r (by omega) (by omega)
theorem atoi_itoa (n : Int) (h0 : -9223372036854775808 ≤ n) (h1 : n ≤ 9223372036854775807) : Lib.atoiAll (Lib.itoa n) = .ok n := by
  unfold Lib.itoa
  split
  · rw [Lib.atoiAll_minus, mag_dec _ (by omega)]
    simp only [Lib.signed]
    rw [if_neg (by omega)]
    congr 1; omega
  · rw [plain_dec, mag_dec _ (by omega)]
    simp only [Lib.signless]
    rw [if_neg (by omega)]
    congr 1; omega
theorem num_itoa (n : Int) (h0 : -9223372036854775808 ≤ n) (h1 : n ≤ 9223372036854775807) : numD (Lib.itoa n) = some n := by
  unfold numD; rw [atoi_itoa n h0 h1]; simp
theorem num_back {l : List UInt8} {n : Int} (h : numD l = some n) : Lib.itoa n = l ∧ -9223372036854775808 ≤ n ∧ n ≤ 9223372036854775807 := by
  unfold numD at h
  split at h
  · rename_i m hm
    split at h
    · rename_i hi
      cases h
      exact ⟨hi, Lib.atoiAll_bounds hm⟩
    · cases h
  · cases h
/-- A digit more, as the reference reckons it: downward. -/
def dstep (n : Int) (c : UInt8) : Int := IntKind.i64.wrap (IntKind.i64.wrap (n * 10) - ((c.toNat : Int) - 48))
def fold : Int → List UInt8 → Option Int
  | n, [] => some n
  | n, c :: r => if 48 ≤ c.toNat ∧ c.toNat ≤ 57 then fold (dstep n c) r else none
/-- What the reference's Num answers. -/
def refNum (l : List UInt8) : Option Int :=
  if 20 < l.length ∨ l = [] then none
  else
    match fold 0 (if l.head? = some 45 then l.tail else l) with
    | none => none
    | some m =>
      let k := if l.head? = some 45 then m else IntKind.i64.wrap (-m)
      if Lib.itoa k = l then some k else none
theorem fold_append (l m : List UInt8) : ∀ n, fold n (l ++ m) = (fold n l).bind fun v => fold v m := by
  induction l with
  | nil => intro n; rfl
  | cons c r ih =>
    intro n
    simp only [List.cons_append, fold]
    split
    · exact ih _
    · rfl
theorem wrap_id {x : Int} (h0 : -9223372036854775808 ≤ x) (h1 : x ≤ 9223372036854775807) : IntKind.i64.wrap x = x := by
  rw [IntKind.wrap_i64]; omega
theorem fold_dec (u : Nat) (hu : u ≤ 9223372036854775808) : fold 0 (Lib.decDigits u) = some (-(u : Int)) := by
  induction u using Nat.strongRecOn with
  | _ u ih =>
    rw [Lib.decDigits]
    split
    · rename_i h
      simp only [fold]
      rw [digit_nat h, if_pos (by omega)]
      unfold dstep
      rw [digit_nat h, wrap_id (x := 0 * 10) (by omega) (by omega), wrap_id (by omega) (by omega)]
      congr 1; omega
    · rw [fold_append, ih (u / 10) (by omega) (by omega)]
      simp only [Option.bind, fold]
      rw [digit_nat (Nat.mod_lt _ (by decide)), if_pos (by omega)]
      unfold dstep
      rw [digit_nat (Nat.mod_lt _ (by decide)), wrap_id (x := -((u / 10 : Nat) : Int) * 10) (by omega) (by omega), wrap_id (by omega) (by omega)]
      congr 1; omega
theorem nDigits_le19 (u : Nat) (h : u < 10000000000000000000) : Lib.nDigits u ≤ 19 := by
  rcases Nat.lt_or_ge 19 (Lib.nDigits u) with h1 | h1
  · exfalso
    have : ∀ (k u : Nat), k < Lib.nDigits u → k = 0 ∨ 10 ^ k ≤ u := by
      intro k
      induction k with
      | zero => intro u _; exact .inl rfl
      | succ k ih =>
        intro u hk
        right
        by_cases h2 : u < 10
        · rw [Lib.nDigits_small h2] at hk; omega
        · rw [Lib.nDigits_big h2] at hk
          rcases ih (u / 10) (by omega) with h3 | h3
          · subst h3; simpa using h2
          · rw [Nat.pow_succ]; omega
    rcases this 19 u h1 with h2 | h2
    · omega
    · have : (10 : Nat) ^ 19 = 10000000000000000000 := by decide
      omega
  · exact h1
theorem itoa_len (n : Int) (h0 : -9223372036854775808 ≤ n) (h1 : n ≤ 9223372036854775807) : (Lib.itoa n).length ≤ 20 := by
  unfold Lib.itoa
  split
  · rw [List.length_cons, Lib.decDigits_length]
    have := nDigits_le19 n.natAbs (by omega)
    omega
  · rw [Lib.decDigits_length]
    have := nDigits_le19 n.toNat (by omega)
    omega
theorem itoa_ne (n : Int) : Lib.itoa n ≠ [] := by
  unfold Lib.itoa
  split
  · simp
  · exact dec_ne _
theorem ref_itoa (n : Int) (h0 : -9223372036854775808 ≤ n) (h1 : n ≤ 9223372036854775807) : refNum (Lib.itoa n) = some n := by
  unfold refNum
  rw [if_neg (by rintro (h | h); have := itoa_len n h0 h1; omega; exact itoa_ne n h)]
  by_cases hn : n < 0
  · have e : Lib.itoa n = 45 :: Lib.decDigits n.natAbs := by unfold Lib.itoa; rw [if_pos hn]
    have hh : (Lib.itoa n).head? = some 45 := by rw [e]; rfl
    rw [hh, if_pos rfl, e, List.tail_cons, fold_dec _ (by omega)]
    simp only [if_true]
    rw [show -((n.natAbs : Nat) : Int) = n by omega, e, if_pos rfl]
  · have e : Lib.itoa n = Lib.decDigits n.toNat := by unfold Lib.itoa; rw [if_neg hn]
    have hh : ¬ (Lib.itoa n).head? = some 45 := by
      intro hh
      rw [e] at hh
      have hall := dec_all n.toNat
      match h : Lib.decDigits n.toNat with
      | [] => exact absurd h (dec_ne _)
      | c :: r =>
        rw [h] at hh hall
        have := hall c (by simp)
        have : c = 45 := by simpa using hh
        subst this
        simp at *
    rw [if_neg hh, e, fold_dec _ (by omega)]
    simp only
    rw [← e, if_neg hh, show -(-((n.toNat : Nat) : Int)) = n by omega, wrap_id h0 h1, if_pos rfl]
theorem wrap_bounds (x : Int) : -9223372036854775808 ≤ IntKind.i64.wrap x ∧ IntKind.i64.wrap x ≤ 9223372036854775807 := by
  rw [IntKind.wrap_i64]; omega
theorem fold_bounds : ∀ (l : List UInt8) (n m : Int), -9223372036854775808 ≤ n → n ≤ 9223372036854775807 → fold n l = some m → -9223372036854775808 ≤ m ∧ m ≤ 9223372036854775807
  | [], n, m, h0, h1, h => by simp only [fold] at h; cases h; exact ⟨h0, h1⟩
  | c :: r, n, m, h0, h1, h => by
    simp only [fold] at h
    split at h
    · exact fold_bounds r _ m (wrap_bounds _).1 (wrap_bounds _).2 h
    · cases h
theorem ref_back {l : List UInt8} {n : Int} (h : refNum l = some n) : Lib.itoa n = l ∧ -9223372036854775808 ≤ n ∧ n ≤ 9223372036854775807 := by
  unfold refNum at h
  split at h
  · cases h
  · split at h
    · cases h
    · rename_i m hm
      by_cases hh : l.head? = some 45
      · simp only [hh, if_true] at h hm
        by_cases hi : Lib.itoa m = l
        · rw [if_pos hi] at h
          cases h
          exact ⟨hi, fold_bounds _ 0 n (by omega) (by omega) hm⟩
        · rw [if_neg hi] at h; cases h
      · simp only [hh, if_false] at h hm
        by_cases hi : Lib.itoa (IntKind.i64.wrap (-m)) = l
        · rw [if_pos hi] at h
          cases h
          exact ⟨hi, wrap_bounds _⟩
        · rw [if_neg hi] at h; cases h
/-- The two are one. -/
theorem ref_num (l : List UInt8) : refNum l = numD l := by
  cases h : refNum l with
  | some n =>
    obtain ⟨e, h0, h1⟩ := ref_back h
    subst e
    exact (num_itoa n h0 h1).symm
  | none =>
    cases h2 : numD l with
    | none => rfl
    | some n =>
      obtain ⟨e, h0, h1⟩ := num_back h2
      subst e
      rw [ref_itoa n h0 h1] at h
      cases h
end Go.Proofs.YtkbgmdabmebdhaaGreatDoor.num
