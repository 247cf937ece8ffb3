/- A path's first part, and what lies under it. -/
import Derived.Test.YtjbompimlopdiaaGreatDoorSegM
namespace Go.Proofs.YtjbompimlopdiaaGreatDoor.seg
theorem segs_free {p r : List UInt8} (h : ∀ c ∈ p, c ≠ 47) : segs (p ++ 47 :: r) = p :: segs r := by
  have h1 := segsA_free p [] (47 :: r) h
  rw [segsA_start, List.nil_append, segsA_slash, segsA_start] at h1
  exact h1
theorem segs_head : ∀ (l p q : List UInt8) (rest : List (List UInt8)), segs l = p :: q :: rest → ∃ t, l = p ++ 47 :: t ∧ segs t = q :: rest
  | [], p, q, rest, h => by simp [segs] at h
  | c :: l, p, q, rest, h => by
    by_cases hc : c = 47
    · subst hc
      have e : segs (47 :: l) = [] :: segs l := segs_free (p := []) (by simp)
      rw [e] at h
      injection h with h1 h2
      subst h1
      exact ⟨l, rfl, h2⟩
    · have e : segs (c :: l) = segsA [c] l := by
        rw [← segsA_start, segsA_other [] l hc]; rfl
      rw [e] at h
      unfold segsA at h
      cases hs : segs l with
      | nil => exact absurd hs (segs_ne l)
      | cons x t =>
        rw [hs] at h
        injection h with h1 h2
        rw [h2] at hs
        obtain ⟨t', e1, e2⟩ := segs_head l x q rest hs
        exact ⟨t', by rw [← h1, e1]; rfl, e2⟩
/-- The first of several parts is s just when the path lies under s. -/
theorem head_under {s l a b : List UInt8} {rest : List (List UInt8)} (hs : ∀ c ∈ s, c ≠ 47) (h : segs l = a :: b :: rest) : (s ++ [47]).isPrefixOf l = true ↔ a = s := by
  rw [List.isPrefixOf_iff_prefix]
  constructor
  · rintro ⟨t, rfl⟩
    rw [List.append_assoc] at h
    have := segs_free (r := t) hs
    rw [show s ++ ([47] ++ t) = s ++ 47 :: t from rfl, this] at h
    injection h with h1
    exact h1.symm
  · intro e
    obtain ⟨t, e1, -⟩ := segs_head l a b rest h
    subst e
    exact ⟨t, by rw [e1]; simp⟩
end Go.Proofs.YtjbompimlopdiaaGreatDoor.seg
