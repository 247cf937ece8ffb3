/- Plain facts: the order of registers. -/
import Derived.Test.YtjbompimlopdiaaGreatDoorRegA
namespace Go.Proofs.YtjbompimlopdiaaGreatDoor.reg
open Go.Lib (compareBytes)
theorem cb_swap (a b : List UInt8) : compareBytes b a = - compareBytes a b := by
  induction a generalizing b with
  | nil => cases b <;> simp [compareBytes]
  | cons x a ih =>
    cases b with
    | nil => simp [compareBytes]
    | cons y b =>
      simp only [compareBytes]
      by_cases h1 : x < y
      · have h2 : ¬ y < x := by simp [UInt8.lt_iff_toNat_lt] at h1 ⊢; omega
        rw [if_neg h2, if_pos h1, if_pos h1]; decide
      · by_cases h2 : y < x
        · rw [if_pos h2, if_neg h1, if_pos h2]
        · rw [if_neg h2, if_neg h1, if_neg h1, if_neg h2, ih]
theorem cb_cases (a b : List UInt8) : compareBytes a b = -1 ∨ compareBytes a b = 0 ∨ compareBytes a b = 1 := by
  induction a generalizing b with
  | nil => cases b <;> simp [compareBytes]
  | cons x a ih =>
    cases b with
    | nil => simp [compareBytes]
    | cons y b => simp only [compareBytes]; (repeat' split) <;> first | omega | exact ih b
theorem cb_eq (a b : List UInt8) (h : compareBytes a b = 0) : a = b := by
  induction a generalizing b with
  | nil => cases b <;> simp [compareBytes] at h ⊢
  | cons x a ih =>
    cases b with
    | nil => simp [compareBytes] at h
    | cons y b =>
      simp only [compareBytes] at h
      split at h
      · omega
      · split at h
        · omega
        · rename_i h1 h2
          have : x = y := by
            apply UInt8.toNat_inj.1
            simp [UInt8.lt_iff_toNat_lt] at h1 h2; omega
          rw [this, ih b h]
theorem cb_self (a : List UInt8) : compareBytes a a = 0 := by have := cb_swap a a; omega
theorem cb_trans (a b c : List UInt8) (h1 : 0 ≤ compareBytes a b) (h2 : 0 ≤ compareBytes b c) : 0 ≤ compareBytes a c ∧ (compareBytes a c = 0 → compareBytes a b = 0 ∧ compareBytes b c = 0) := by
  induction a generalizing b c with
  | nil =>
    cases b with
    | nil => exact ⟨h2, fun h => ⟨by simp [compareBytes], h⟩⟩
    | cons => simp [compareBytes] at h1
  | cons x a ih =>
    cases b with
    | nil =>
      cases c with
      | nil => simp [compareBytes]
      | cons => simp [compareBytes] at h2
    | cons y b =>
      cases c with
      | nil => simp [compareBytes]
      | cons z c =>
        simp only [compareBytes, UInt8.lt_iff_toNat_lt] at *
        by_cases p : x.toNat < y.toNat
        · rw [if_pos p] at h1; omega
        · by_cases q : y.toNat < z.toNat
          · rw [if_pos q] at h2; omega
          · by_cases r : y.toNat < x.toNat
            · rw [if_neg (show ¬ x.toNat < z.toNat by omega), if_pos (show z.toNat < x.toNat by omega)]; omega
            · by_cases s : z.toNat < y.toNat
              · rw [if_neg (show ¬ x.toNat < z.toNat by omega), if_pos (show z.toNat < x.toNat by omega)]; omega
              · rw [if_neg p, if_neg r] at h1
                rw [if_neg q, if_neg s] at h2
                rw [if_neg (show ¬ x.toNat < z.toNat by omega), if_neg (show ¬ z.toNat < x.toNat by omega), if_neg p, if_neg r, if_neg q, if_neg s]
                exact ih b c h1 h2
theorem ci_swap (a b : Int) : cmpI b a = - cmpI a b := by unfold cmpI; (repeat' split) <;> omega
theorem comp_swap (a b : Rg) : b.comp a = - a.comp b := by
  unfold Rg.comp or3
  rw [ci_swap a.n b.n, cb_swap a.by_.data.toList, cb_swap a.value.data.toList]
  (repeat' split) <;> omega
theorem comp_eq (a b : Rg) (h : a.comp b = 0) : a = b := by
  obtain ⟨an, ab, av⟩ := a
  obtain ⟨bn, bb, bv⟩ := b
  unfold Rg.comp or3 at h
  simp only at h
  split at h
  · omega
  · split at h
    · omega
    · rename_i h1 h2
      have e1 : an = bn := by unfold cmpI at h1; split at h1 <;> (try split at h1) <;> omega
      have e2 := cb_eq _ _ (by omega : compareBytes ab.data.toList bb.data.toList = 0)
      have e3 := cb_eq _ _ h
      subst e1
      have e2 : ab = bb := ByteArray.ext (Array.toList_inj.1 e2)
      have e3 : av = bv := ByteArray.ext (Array.toList_inj.1 e3)
      subst e2 e3; rfl
theorem comp_trans (a b c : Rg) (h1 : 0 ≤ a.comp b) (h2 : 0 ≤ b.comp c) : 0 ≤ a.comp c ∧ (a.comp c = 0 → a.comp b = 0 ∧ b.comp c = 0) := by
  unfold Rg.comp or3 at *
  have t1 := cb_trans a.by_.data.toList b.by_.data.toList c.by_.data.toList
  have t2 := cb_trans a.value.data.toList b.value.data.toList c.value.data.toList
  have c1 := cb_cases a.by_.data.toList b.by_.data.toList
  have c2 := cb_cases b.by_.data.toList c.by_.data.toList
  have c3 := cb_cases a.by_.data.toList c.by_.data.toList
  unfold cmpI at *
  by_cases p : a.n < b.n
  · simp [p] at h1
  · by_cases q : b.n < c.n
    · simp [q] at h2
    · by_cases r : b.n < a.n ∨ c.n < b.n
      · have e1 : ¬ a.n < c.n := by omega
        have e2 : c.n < a.n := by omega
        simp [e1, e2]
      · have e1 : a.n = b.n := by omega
        have e2 : b.n = c.n := by omega
        simp only [e1, e2, Int.lt_irrefl, if_false, ne_eq, not_true] at *
        generalize compareBytes a.by_.data.toList b.by_.data.toList = x1 at *
        generalize compareBytes b.by_.data.toList c.by_.data.toList = x2 at *
        generalize compareBytes a.by_.data.toList c.by_.data.toList = x3 at *
        generalize compareBytes a.value.data.toList b.value.data.toList = y1 at *
        generalize compareBytes b.value.data.toList c.value.data.toList = y2 at *
        generalize compareBytes a.value.data.toList c.value.data.toList = y3 at *
        by_cases u1 : x1 = 0 <;> by_cases u2 : x2 = 0 <;> by_cases u3 : x3 = 0 <;> simp [u1, u2, u3] at h1 h2 t1 ⊢ <;> omega
theorem newer_iff (a b : Rg) : a.newer b = true ↔ 0 < a.comp b := by unfold Rg.newer; simp
theorem newer_self (a : Rg) : a.newer a = false := by
  have := comp_swap a a
  cases h : a.newer a
  · rfl
  · rw [newer_iff] at h; omega
theorem newer_swap {a b : Rg} (h : a.newer b = true) : b.newer a = false := by
  rw [newer_iff] at h
  have := comp_swap a b
  cases h2 : b.newer a
  · rfl
  · rw [newer_iff] at h2; omega
theorem newer_total {a b : Rg} (h : a ≠ b) : a.newer b = true ∨ b.newer a = true := by
  have hs := comp_swap a b
  rw [newer_iff, newer_iff]
  by_cases h0 : a.comp b = 0
  · exact absurd (comp_eq a b h0) h
  · omega
theorem join_self (a : Rg) : a.join a = a := by unfold Rg.join; rw [newer_self]; rfl
theorem join_left {a b : Rg} (h : a.newer b = true) : a.join b = a := by unfold Rg.join; rw [newer_swap h]; rfl
theorem join_right {a b : Rg} (h : b.newer a = true) : a.join b = b := by unfold Rg.join; rw [h]; rfl
theorem join_swap (a b : Rg) : b.join a = a.join b := by
  by_cases h : a = b
  · subst h; rfl
  · rcases newer_total h with h | h
    · rw [join_left h, join_right h]
    · rw [join_left h, join_right h]
theorem join_assoc (a b c : Rg) : (a.join b).join c = a.join (b.join c) := by
  have tr : ∀ {x y z : Rg}, x.newer y = true → y.newer z = true → x.newer z = true := by
    intro x y z h1 h2
    rw [newer_iff] at *
    have := comp_trans x y z (by omega) (by omega)
    omega
  by_cases e1 : a = b
  · subst e1
    rw [join_self]
    by_cases e2 : a = c
    · subst e2; rw [join_self, join_self]
    · rcases newer_total e2 with h | h
      · rw [join_left h, join_self]
      · rw [join_right h, join_right h]
  · by_cases e2 : b = c
    · subst e2
      rw [join_self]
      rcases newer_total e1 with h | h
      · rw [join_left h, join_left h]
      · rw [join_right h, join_self]
    · rcases newer_total e1 with h | h <;> rcases newer_total e2 with k | k
      · rw [join_left h, join_left k, join_left h, join_left (tr h k)]
      · rw [join_left h, join_right k]
      · rw [join_right h, join_left k, join_right h]
      · rw [join_right h, join_right k, join_right (tr k h)]
end Go.Proofs.YtjbompimlopdiaaGreatDoor.reg
