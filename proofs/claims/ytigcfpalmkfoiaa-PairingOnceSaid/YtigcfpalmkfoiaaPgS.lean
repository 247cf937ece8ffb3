/- A run through all rounds just as the law PairingOnce makes it, as a function of numbers alone; that it is true for every many (closed facts, by the kernel). -/
import Derived.Test.YtigcfpalmkfoiaaPgE
namespace Go.Proofs.Ytigcfpalmkfoiaa.pg
open Go.RowKit Go.Proofs.Aid
/-- One pair: the tables' bits (met, busy) behind it; none where the law returns false. -/
def stepP (n : Nat) (st : Nat × Nat) (p : Int × Int) : Option (Nat × Nat) :=
  if decide (0 ≤ p.1) && decide (p.1 < p.2) && decide (p.2 < n) && !(st.2.testBit p.1.toNat) && !(st.2.testBit p.2.toNat) && !(st.1.testBit (p.1.toNat * 64 + p.2.toNat)) then some (st.1 ||| 2 ^ (p.1.toNat * 64 + p.2.toNat), (st.2 ||| 2 ^ p.1.toNat) ||| 2 ^ p.2.toNat) else none
def stepL (n : Nat) (st : Nat × Nat) : List (Int × Int) → Option (Nat × Nat)
  | [] => some st
  | p :: l => match stepP n st p with | some s => stepL n s l | none => none
def stepR (n : Nat) (m : Nat) : List (List (Int × Int)) → Option Nat
  | [] => some m
  | l :: ls => match stepL n (m, 0) l with | some s => stepR n s.1 ls | none => none
def full (n : Nat) (m : Nat) : Bool := (List.range n).all fun a => (List.range n).all fun b => !(decide (a < b)) || m.testBit (a * 64 + b)
def sim (n : Nat) : Bool := (match stepR n 0 (rnds n) with | some m => full n m | none => false) && decide ((rnds n).length ≤ n)
theorem sim2 : sim 2 = true := by decide +kernel
theorem sim3 : sim 3 = true := by decide +kernel
theorem sim4 : sim 4 = true := by decide +kernel
theorem sim5 : sim 5 = true := by decide +kernel
theorem sim6 : sim 6 = true := by decide +kernel
theorem sim7 : sim 7 = true := by decide +kernel
theorem sim8 : sim 8 = true := by decide +kernel
theorem sim9 : sim 9 = true := by decide +kernel
theorem sim10 : sim 10 = true := by decide +kernel
theorem sim11 : sim 11 = true := by decide +kernel
theorem sim12 : sim 12 = true := by decide +kernel
theorem sim13 : sim 13 = true := by decide +kernel
theorem sim14 : sim 14 = true := by decide +kernel
theorem sim15 : sim 15 = true := by decide +kernel
theorem sim16 : sim 16 = true := by decide +kernel
theorem sim17 : sim 17 = true := by decide +kernel
theorem sim18 : sim 18 = true := by decide +kernel
theorem sim19 : sim 19 = true := by decide +kernel
theorem sim20 : sim 20 = true := by decide +kernel
theorem sim21 : sim 21 = true := by decide +kernel
theorem sim22 : sim 22 = true := by decide +kernel
theorem sim23 : sim 23 = true := by decide +kernel
theorem sim24 : sim 24 = true := by decide +kernel
theorem sim25 : sim 25 = true := by decide +kernel
theorem sim26 : sim 26 = true := by decide +kernel
theorem sim27 : sim 27 = true := by decide +kernel
theorem sim28 : sim 28 = true := by decide +kernel
theorem sim29 : sim 29 = true := by decide +kernel
theorem sim30 : sim 30 = true := by decide +kernel
theorem sim31 : sim 31 = true := by decide +kernel
theorem sim32 : sim 32 = true := by decide +kernel
theorem sim33 : sim 33 = true := by decide +kernel
theorem sim34 : sim 34 = true := by decide +kernel
theorem sim35 : sim 35 = true := by decide +kernel
theorem sim36 : sim 36 = true := by decide +kernel
theorem sim37 : sim 37 = true := by decide +kernel
theorem sim38 : sim 38 = true := by decide +kernel
theorem sim39 : sim 39 = true := by decide +kernel
theorem sim40 : sim 40 = true := by decide +kernel
theorem sim41 : sim 41 = true := by decide +kernel
theorem sim42 : sim 42 = true := by decide +kernel
theorem sim43 : sim 43 = true := by decide +kernel
theorem sim44 : sim 44 = true := by decide +kernel
theorem sim45 : sim 45 = true := by decide +kernel
theorem sim46 : sim 46 = true := by decide +kernel
theorem sim47 : sim 47 = true := by decide +kernel
theorem sim48 : sim 48 = true := by decide +kernel
theorem sim49 : sim 49 = true := by decide +kernel
theorem sim50 : sim 50 = true := by decide +kernel
theorem sim51 : sim 51 = true := by decide +kernel
theorem sim52 : sim 52 = true := by decide +kernel
theorem sim53 : sim 53 = true := by decide +kernel
theorem sim54 : sim 54 = true := by decide +kernel
theorem sim55 : sim 55 = true := by decide +kernel
theorem sim56 : sim 56 = true := by decide +kernel
theorem sim57 : sim 57 = true := by decide +kernel
theorem sim58 : sim 58 = true := by decide +kernel
theorem sim59 : sim 59 = true := by decide +kernel
theorem sim60 : sim 60 = true := by decide +kernel
theorem sim61 : sim 61 = true := by decide +kernel
theorem sim62 : sim 62 = true := by decide +kernel
theorem sim63 : sim 63 = true := by decide +kernel
theorem sim64 : sim 64 = true := by decide +kernel
theorem sim_all : ∀ n : Nat, 2 ≤ n → n ≤ 64 → sim n = true
  | 0, h, _ => absurd h (by omega)
  | 1, h, _ => absurd h (by omega)
  | 2, _, _ => sim2
  | 3, _, _ => sim3
  | 4, _, _ => sim4
  | 5, _, _ => sim5
  | 6, _, _ => sim6
  | 7, _, _ => sim7
  | 8, _, _ => sim8
  | 9, _, _ => sim9
  | 10, _, _ => sim10
  | 11, _, _ => sim11
  | 12, _, _ => sim12
  | 13, _, _ => sim13
  | 14, _, _ => sim14
  | 15, _, _ => sim15
  | 16, _, _ => sim16
  | 17, _, _ => sim17
  | 18, _, _ => sim18
  | 19, _, _ => sim19
  | 20, _, _ => sim20
  | 21, _, _ => sim21
  | 22, _, _ => sim22
  | 23, _, _ => sim23
  | 24, _, _ => sim24
  | 25, _, _ => sim25
  | 26, _, _ => sim26
  | 27, _, _ => sim27
  | 28, _, _ => sim28
  | 29, _, _ => sim29
  | 30, _, _ => sim30
  | 31, _, _ => sim31
  | 32, _, _ => sim32
  | 33, _, _ => sim33
  | 34, _, _ => sim34
  | 35, _, _ => sim35
  | 36, _, _ => sim36
  | 37, _, _ => sim37
  | 38, _, _ => sim38
  | 39, _, _ => sim39
  | 40, _, _ => sim40
  | 41, _, _ => sim41
  | 42, _, _ => sim42
  | 43, _, _ => sim43
  | 44, _, _ => sim44
  | 45, _, _ => sim45
  | 46, _, _ => sim46
  | 47, _, _ => sim47
  | 48, _, _ => sim48
  | 49, _, _ => sim49
  | 50, _, _ => sim50
  | 51, _, _ => sim51
  | 52, _, _ => sim52
  | 53, _, _ => sim53
  | 54, _, _ => sim54
  | 55, _, _ => sim55
  | 56, _, _ => sim56
  | 57, _, _ => sim57
  | 58, _, _ => sim58
  | 59, _, _ => sim59
  | 60, _, _ => sim60
  | 61, _, _ => sim61
  | 62, _, _ => sim62
  | 63, _, _ => sim63
  | 64, _, _ => sim64
  | n + 65, _, h => absurd h (by omega)
theorem sim_parts {n : Nat} (h : 2 ≤ n) (h2 : n ≤ 64) : ∃ m, stepR n 0 (rnds n) = some m ∧ full n m = true ∧ (rnds n).length ≤ n := by
  have h3 := sim_all n h h2
  unfold sim at h3
  rw [Bool.and_eq_true, decide_eq_true_eq] at h3
  obtain ⟨h3, h4⟩ := h3
  cases e : stepR n 0 (rnds n) with
  | none => rw [e] at h3; cases h3
  | some m => rw [e] at h3; exact ⟨m, rfl, h3, h4⟩
end Go.Proofs.Ytigcfpalmkfoiaa.pg
