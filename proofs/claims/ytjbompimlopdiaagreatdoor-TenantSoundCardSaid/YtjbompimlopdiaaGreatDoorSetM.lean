/- Sets of texts, rising: what sort and compact make, and what putting one by one makes, are one. -/
import Derived.Lib.SlicesCompact
import Derived.Sort.Walk0
namespace Go.Proofs.YtjbompimlopdiaaGreatDoor.sets
open Go
abbrev T := List UInt8
/-- One more text, in its place, once. -/
def put : List T → T → List T
  | [], s => [s]
  | x :: l, s => if x < s then x :: put l s else if x = s then x :: l else s :: x :: l
def all : List T → List T → List T
  | acc, [] => acc
  | acc, s :: r => all (put acc s) r
def rising (l : List T) : Prop := l.Pairwise (· < ·)
theorem lt_irr (a : T) : ¬ a < a := List.lt_irrefl a
theorem lt_tr {a b c : T} (h : a < b) (k : b < c) : a < c := List.lt_trans h k
theorem lt_or {a b : T} : a < b ∨ a = b ∨ b < a := by
  rcases Decidable.em (a < b) with h | h
  · exact .inl h
  · rcases Decidable.em (b < a) with k | k
    · exact .inr (.inr k)
    · exact .inr (.inl (List.le_antisymm (List.not_lt.1 k) (List.not_lt.1 h)))
theorem mem_put {l : List T} {s y : T} : y ∈ put l s ↔ y = s ∨ y ∈ l := by
  induction l with
  | nil => simp [put]
  | cons x l ih =>
    simp only [put]
    split
    · rw [List.mem_cons, ih, List.mem_cons]
      constructor
      · rintro (h | h | h)
        · exact .inr (.inl h)
        · exact .inl h
        · exact .inr (.inr h)
      · rintro (h | h | h)
        · exact .inr (.inl h)
        · exact .inl h
        · exact .inr (.inr h)
    · split
      · rename_i h
        subst h
        simp
      · simp
theorem rising_put {l : List T} {s : T} (h : rising l) : rising (put l s) := by
  unfold rising at *
  induction l with
  | nil => simp [put]
  | cons x l ih =>
    rw [List.pairwise_cons] at h
    simp only [put]
    split
    · rename_i hx
      rw [List.pairwise_cons]
      refine ⟨fun y hy => ?_, ih h.2⟩
      rcases mem_put.1 hy with e | e
      · rw [e]; exact hx
      · exact h.1 y e
    · split
      · rw [List.pairwise_cons]; exact h
      · rename_i h1 h2
        have h3 : s < x := by
          rcases lt_or (a := x) (b := s) with k | k | k
          · exact absurd k h1
          · exact absurd k h2
          · exact k
        rw [List.pairwise_cons, List.pairwise_cons]
        refine ⟨fun y hy => ?_, h⟩
        rcases List.mem_cons.1 hy with e | e
        · rw [e]; exact h3
        · exact lt_tr h3 (h.1 y e)
theorem mem_all : ∀ {r acc : List T} {y : T}, y ∈ all acc r ↔ y ∈ acc ∨ y ∈ r
  | [], acc, y => by simp [all]
  | s :: r, acc, y => by
    rw [all, mem_all, mem_put, List.mem_cons]
    constructor
    · rintro ((h | h) | h)
      · exact .inr (.inl h)
      · exact .inl h
      · exact .inr (.inr h)
    · rintro (h | h | h)
      · exact .inl (.inr h)
      · exact .inl (.inl h)
      · exact .inr h
theorem rising_all : ∀ {r acc : List T}, rising acc → rising (all acc r)
  | [], _, h => h
  | s :: r, acc, h => by rw [all]; exact rising_all (rising_put h)
/-- Two that rise and have the same texts are the same. -/
theorem same : ∀ {a b : List T}, rising a → rising b → (∀ y, y ∈ a ↔ y ∈ b) → a = b
  | [], [], _, _, _ => rfl
  | [], y :: b, _, _, h => by have := (h y).2 (by simp); simp at this
  | x :: a, [], _, _, h => by have := (h x).1 (by simp); simp at this
  | x :: a, y :: b, ha, hb, h => by
    unfold rising at ha hb
    rw [List.pairwise_cons] at ha hb
    have e : x = y := by
      rcases List.mem_cons.1 ((h x).1 (by simp)) with k | k
      · exact k
      · rcases List.mem_cons.1 ((h y).2 (by simp)) with k' | k'
        · exact k'.symm
        · exact absurd (lt_tr (hb.1 x k) (ha.1 y k')) (lt_irr _)
    subst e
    congr 1
    refine same ha.2 hb.2 fun z => ?_
    constructor
    · intro hz
      rcases List.mem_cons.1 ((h z).1 (by simp [hz])) with k | k
      · rw [k] at hz; exact absurd (ha.1 x hz) (lt_irr _)
      · exact k
    · intro hz
      rcases List.mem_cons.1 ((h z).2 (by simp [hz])) with k | k
      · rw [k] at hz; exact absurd (hb.1 x hz) (lt_irr _)
      · exact k
/-- What is kept of the first so many of a list that does not fall. -/
theorem upTo {l : List T} (hs : l.Pairwise (· ≤ ·)) : ∀ m, m ≤ l.length → rising (Lib.compactUpTo l.toArray m) ∧ (∀ y, y ∈ Lib.compactUpTo l.toArray m ↔ y ∈ l.take m) := by
  intro m
  induction m with
  | zero => intro _; exact ⟨by simp [Lib.compactUpTo, rising], by simp [Lib.compactUpTo]⟩
  | succ m ih =>
    intro hm
    obtain ⟨h1, h2⟩ := ih (by omega)
    have hml : m < l.length := by omega
    have hget : l.toArray[m]! = l[m] := by rw [getElem!_pos _ m (by simpa using hml)]; simp
    have hstep : Lib.compactUpTo l.toArray (m + 1) = Lib.compactUpTo l.toArray m ++ (if Lib.keeps l.toArray m then [l[m]] else []) := by
      unfold Lib.compactUpTo
      rw [List.range_succ, List.filter_append, List.map_append]
      congr 1
      by_cases hk : Lib.keeps l.toArray m = true
      · simp only [List.filter_cons, hk, if_true, List.filter_nil, List.map_cons, List.map_nil, hget]
      · have hk' : Lib.keeps l.toArray m = false := by simpa using hk
        simp [hk']
    have htake : l.take (m + 1) = l.take m ++ [l[m]] := List.take_succ_eq_append_getElem hml
    rw [hstep]
    by_cases hk : Lib.keeps l.toArray m = true
    · rw [if_pos hk]
      refine ⟨?_, fun y => ?_⟩
      · unfold rising at *
        rw [List.pairwise_append]
        refine ⟨h1, by simp, fun a ha b hb => ?_⟩
        rw [List.mem_singleton.1 hb]
        have ha' := (h2 a).1 ha
        obtain ⟨j, hj, rfl⟩ := List.getElem_of_mem ha'
        rw [List.length_take] at hj
        rw [List.getElem_take]
        have hm0 : 0 < m := by omega
        have hp := List.pairwise_iff_getElem.1 hs
        have hne : l[m - 1] ≠ l[m] := by
          unfold Lib.keeps at hk
          have hg : l.toArray[m - 1]! = l[m - 1] := by rw [getElem!_pos _ (m - 1) (by simp; omega)]; simp
          rw [decide_eq_true_eq, hget, hg] at hk
          rcases hk with h | h
          · omega
          · exact fun e => h e.symm
        have hlast : l[m - 1] ≤ l[m] := hp (m - 1) m (by omega) hml (by omega)
        have hlt : l[m - 1] < l[m] := by
          rcases lt_or (a := l[m - 1]) (b := l[m]) with k | k | k
          · exact k
          · exact absurd k hne
          · exact absurd k (List.not_lt.2 hlast)
        by_cases hjm : j = m - 1
        · subst hjm; exact hlt
        · have hle : l[j] ≤ l[m - 1] := hp j (m - 1) (by omega) (by omega) (by omega)
          rcases lt_or (a := l[j]) (b := l[m - 1]) with k | k | k
          · exact lt_tr k hlt
          · rw [k]; exact hlt
          · exact absurd k (List.not_lt.2 hle)
      · rw [List.mem_append, h2, htake, List.mem_append]
    · rw [if_neg hk, List.append_nil]
      refine ⟨h1, fun y => ?_⟩
      rw [h2, htake, List.mem_append, List.mem_singleton]
      constructor
      · exact .inl
      · rintro (h | h)
        · exact h
        · have hm0 : 0 < m := by
            rcases Nat.eq_zero_or_pos m with e | e
            · subst e; exact absurd (Lib.keeps_lt_one l.toArray 0 (by omega)) hk
            · exact e
          have he : l[m - 1] = l[m] := by
            unfold Lib.keeps at hk
            have hg : l.toArray[m - 1]! = l[m - 1] := by rw [getElem!_pos _ (m - 1) (by simp; omega)]; simp
            rw [hget, hg] at hk
            exact Decidable.byContradiction fun hne => hk (decide_eq_true (.inr fun e => hne e.symm))
          rw [h, ← he]
          exact List.mem_iff_getElem.2 ⟨m - 1, by rw [List.length_take]; omega, by rw [List.getElem_take]⟩
theorem sort_compact (xs : List T) : Lib.compact (xs.mergeSort fun x y => decide (x ≤ y)) = all [] xs := by
  have hs : (xs.mergeSort fun x y => decide (x ≤ y)).Pairwise (· ≤ ·) := by
    have := List.pairwise_mergeSort (le := fun x y : T => decide (x ≤ y)) (fun a b c h1 h2 => by
      simp only [decide_eq_true_eq] at *
      exact List.le_trans h1 h2) (fun a b => by
      simp only [Bool.or_eq_true, decide_eq_true_eq]
      exact List.le_total a b) xs
    exact this.imp (fun h => by simpa using h)
  obtain ⟨h1, h2⟩ := upTo hs _ (Nat.le_refl _)
  have e : Lib.compact (xs.mergeSort fun x y => decide (x ≤ y)) = Lib.compactUpTo (xs.mergeSort fun x y => decide (x ≤ y)).toArray (xs.mergeSort fun x y => decide (x ≤ y)).length := rfl
  rw [e]
  refine same h1 (rising_all (by simp [rising])) fun y => ?_
  rw [h2, List.take_length, mem_all]
  simp [List.mem_mergeSort]
end Go.Proofs.YtjbompimlopdiaaGreatDoor.sets
