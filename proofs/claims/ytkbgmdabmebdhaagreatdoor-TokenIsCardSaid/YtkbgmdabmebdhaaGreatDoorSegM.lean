/- A text cut at its slashes, as lists of bytes. -/
import Derived.Lib.SplitLaws
import Derived.Lib.Join
namespace Go.Proofs.YtkbgmdabmebdhaaGreatDoor.seg
open Go
/-- The pieces between slashes: one more than there are slashes. -/
def segs : List UInt8 → List (List UInt8)
  | [] => [[]]
  | c :: r => if c = 47 then [] :: segs r else match segs r with | [] => [[c]] | h :: t => (c :: h) :: t
theorem segs_ne (l : List UInt8) : segs l ≠ [] := by
  cases l with
  | nil => simp [segs]
  | cons c r =>
    simp only [segs]
    split
    · simp
    · split <;> simp
theorem index_slash (r : List UInt8) : Lib.index (47 :: r) [47] = 0 := by
  simp [Lib.index, List.isPrefixOf]
theorem index_other {c : UInt8} (r : List UInt8) (h : c ≠ 47) : Lib.index (c :: r) [47] = (if Lib.index r [47] == -1 then -1 else Lib.index r [47] + 1) := by
  have : ([47] : List UInt8).isPrefixOf (c :: r) = false := by
    simp [List.isPrefixOf]
    exact fun e => h e.symm
  conv => lhs; unfold Lib.index
  rw [this]; simp
theorem split_segs : ∀ s : List UInt8, Lib.splitK [47] 0 (Lib.count s [47]) s = segs s
  | [] => by simp [Lib.count_one, Lib.splitK, segs]
  | c :: r => by
    have ih := split_segs r
    by_cases h : c = 47
    · subst h
      rw [Lib.count_cons_eq, Nat.add_comm, Lib.splitK, index_slash]
      simp [segs, ih]
    · have hc : Lib.count (c :: r) [47] = Lib.count r [47] := Lib.count_cons_ne c 47 r h
      rw [hc]
      simp only [segs, if_neg h]
      rw [← ih]
      match Lib.count r [47] with
      | 0 => simp [Lib.splitK]
      | k + 1 =>
        simp only [Lib.splitK]
        rw [index_other r h]
        by_cases hm : Lib.index r [47] = -1
        · simp [hm]
        · have hge := Lib.index_ge r [47]
          have h1 : ¬ (Lib.index r [47] == -1) = true := by simpa using hm
          rw [if_neg h1]
          have h2 : ¬ (Lib.index r [47] + 1 == -1) = true := by
            intro e
            have := eq_of_beq e
            omega
          rw [if_neg h2, if_neg h1]
          obtain ⟨i, hi⟩ : ∃ i : Nat, Lib.index r [47] = i := ⟨(Lib.index r [47]).toNat, by omega⟩
          rw [hi]
          have e1 : ((i : Int) + 1).toNat = i + 1 := by omega
          rw [e1]
          simp
/-- The pieces, the first one longer by what stands ahead. -/
def segsA (p l : List UInt8) : List (List UInt8) := match segs l with | [] => [p] | h :: t => (p ++ h) :: t
theorem segsA_nil (p : List UInt8) : segsA p [] = [p] := by simp [segsA, segs]
theorem segsA_start (l : List UInt8) : segsA [] l = segs l := by
  unfold segsA
  cases h : segs l with
  | nil => exact absurd h (segs_ne l)
  | cons a t => simp
theorem segsA_slash (p r : List UInt8) : segsA p (47 :: r) = p :: segsA [] r := by
  rw [segsA_start]; simp [segsA, segs]
theorem segsA_other {c : UInt8} (p r : List UInt8) (h : c ≠ 47) : segsA p (c :: r) = segsA (p ++ [c]) r := by
  unfold segsA
  simp only [segs, if_neg h]
  cases hr : segs r with
  | nil => exact absurd hr (segs_ne r)
  | cons a t => simp
theorem segsA_free : ∀ (q p r : List UInt8), (∀ c ∈ q, c ≠ 47) → segsA p (q ++ r) = segsA (p ++ q) r
  | [], p, r, _ => by simp
  | c :: q, p, r, h => by
    rw [List.cons_append, segsA_other p _ (h c (by simp)), segsA_free q _ r (fun d hd => h d (by simp [hd]))]
    simp
/-- What the program's Parts, and the reference's, answer. -/
def parts (l : List UInt8) : List (List UInt8) := if l = [] then [] else segs l
/-- Names joined, cut again. -/
theorem segs_join : ∀ (l : List (List UInt8)), l ≠ [] → (∀ x ∈ l, ∀ c ∈ x, c ≠ 47) → segs (Lib.join l [47]) = l
  | [], h, _ => absurd rfl h
  | [x], _, hx => by
    rw [Lib.join_one]
    have := segsA_free x [] [] (hx x (by simp))
    rw [segsA_start, List.append_nil, List.nil_append, segsA_nil] at this
    exact this
  | x :: y :: r, _, hx => by
    have hj : Lib.join (x :: y :: r) [47] = x ++ (47 :: Lib.join (y :: r) [47]) := by
      simp [Lib.join, List.intercalate, List.intersperse]
    rw [hj, ← segsA_start, segsA_free x [] _ (hx x (by simp)), segsA_slash, segsA_start, segs_join (y :: r) (by simp) (fun z hz => hx z (by simp [hz]))]
    simp
theorem parts_join {l : List (List UInt8)} (hx : ∀ x ∈ l, x ≠ [] ∧ ∀ c ∈ x, c ≠ 47) : parts (Lib.join l [47]) = l := by
  unfold parts
  cases l with
  | nil => simp [Lib.join]
  | cons x r =>
    have hne : Lib.join (x :: r) [47] ≠ [] := by
      intro h
      have := Lib.join_length x r [47]
      rw [h] at this
      have h0 := (hx x (by simp)).1
      have : x.length = 0 := by simp [Lib.lens] at this; omega
      exact h0 (List.length_eq_zero_iff.1 this)
    rw [if_neg hne, segs_join _ (by simp) (fun y hy => (hx y hy).2)]
end Go.Proofs.YtkbgmdabmebdhaaGreatDoor.seg
