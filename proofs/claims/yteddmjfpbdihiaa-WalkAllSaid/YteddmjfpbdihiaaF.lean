/- The order of members: each is told once, those that own something first. -/
import Derived.Test.YteddmjfpbdihiaaE
namespace Go.Proofs.Yteddmjfpbdihiaa.walk
open Go.ChangeShapes Go.WideShapes Go.ChangeAt Go.RowKit Go.Proofs.Aid
open Go.Proofs.Yteddmjfpbdihiaa.ints (i64c)
theorem told_nodup (ns : List ByteArray) (os : List R9) (f : Int) (k : Nat) : (told ns os f k).Nodup := by
  induction k with
  | zero => exact List.nodup_nil
  | succ k ih =>
    simp only [told]
    split
    · split
      · exact ih
      · rename_i h
        rw [List.nodup_append]
        exact ⟨ih, by simp, fun a ha b hb e => by simp at hb; subst hb; subst e; exact h ha⟩
    · exact ih
theorem nodup_map_on {α β : Type} {f : α → β} {l : List α} (h : ∀ a ∈ l, ∀ b ∈ l, f a = f b → a = b) (hn : l.Nodup) : (l.map f).Nodup :=
  List.pairwise_map.2 (List.Pairwise.imp_of_mem (fun ha hb hab e => hab (h _ ha _ hb e)) hn)
theorem restTo_nodup (T : List Int) (k : Nat) : (restTo T k).Nodup := by
  unfold restTo
  exact nodup_map_on (fun a _ b _ e => by injection e) ((List.nodup_range).filter _)
theorem filter_not_len (T : List Int) : ∀ (m : Nat), T.Nodup → (∀ x ∈ T, 0 ≤ x ∧ x < m) → T.length + (restTo T m).length = m
  | m, hn, ht => by
    have h1 : ((T.map Int.toNat) ++ (restTo T m).map Int.toNat).Perm (List.range m) := by
      refine (List.perm_ext_iff_of_nodup ?_ List.nodup_range).2 fun x => ?_
      · rw [List.nodup_append]
        refine ⟨?_, ?_, ?_⟩
        · exact nodup_map_on (fun a ha b hb e => by have := ht a ha; have := ht b hb; omega) hn
        · exact nodup_map_on (fun a ha b hb e => by have := restTo_mem.1 ha; have := restTo_mem.1 hb; omega) (restTo_nodup T m)
        · intro a ha b hb e
          obtain ⟨y, hy, rfl⟩ := List.mem_map.1 ha
          obtain ⟨z, hz, rfl⟩ := List.mem_map.1 hb
          have h1 := ht y hy
          have h2 := restTo_mem.1 hz
          exact h2.2.2 (by rwa [show z = y by omega])
      · rw [List.mem_append, List.mem_map, List.mem_map, List.mem_range]
        constructor
        · rintro (⟨y, hy, rfl⟩ | ⟨y, hy, rfl⟩)
          · have := ht y hy; omega
          · have := restTo_mem.1 hy; omega
        · intro hx
          by_cases h : (x : Int) ∈ T
          · exact .inl ⟨_, h, by simp⟩
          · exact .inr ⟨x, restTo_mem.2 ⟨by omega, by omega, h⟩, by simp⟩
    have := h1.length_eq
    simpa using this
theorem order_len (ns : List ByteArray) (os : List R9) (part : Int) : (order ns os part).length = ns.length := by
  unfold order
  rw [List.length_append]
  exact filter_not_len _ _ (told_nodup _ _ _ _) (fun x hx => told_mem hx)
theorem order_nodup (ns : List ByteArray) (os : List R9) (part : Int) : (order ns os part).Nodup := by
  unfold order
  rw [List.nodup_append]
  exact ⟨told_nodup _ _ _ _, restTo_nodup _ _, fun a ha b hb e => by subst e; exact (restTo_mem.1 hb).2.2 ha⟩
theorem order_rng {ns : List ByteArray} {os : List R9} {part : Int} {x : Int} (h : x ∈ order ns os part) : 0 ≤ x ∧ x < ns.length := by
  unfold order at h
  rcases List.mem_append.1 h with h | h
  · exact told_mem h
  · have := restTo_mem.1 h; omega
theorem order_round (ns : List ByteArray) (os : List R9) (part : Int) : order ns os (part + os.length) = order ns os part := by
  have : frm (part + os.length) os.length = frm part os.length := by
    unfold frm
    split
    · rfl
    · rw [Int.add_emod_right]
  unfold order; rw [this]
/-- Who is told by its owning. -/
theorem told_has {ns : List ByteArray} {os : List R9} {f : Int} {k q : Nat} {i : Nat} (hq : q < k) (hi : fnd ns (ownerAt os f q) = some i) : (i : Int) ∈ told ns os f k := by
  induction k with
  | zero => omega
  | succ k ih =>
    by_cases e : q = k
    · subst e
      by_cases hm : (i : Int) ∈ told ns os f q
      · rw [told_old hi hm]; exact hm
      · rw [told_new hi hm]; simp
    · have := ih (by omega)
      simp only [told]
      split
      · split
        · exact this
        · exact List.mem_append_left _ this
      · exact this
theorem told_from {ns : List ByteArray} {os : List R9} {f : Int} {k : Nat} {x : Int} (h : x ∈ told ns os f k) : ∃ q, q < k ∧ ∃ i : Nat, x = i ∧ fnd ns (ownerAt os f q) = some i := by
  induction k with
  | zero => simp [told] at h
  | succ k ih =>
    simp only [told] at h
    split at h
    · rename_i i hi
      split at h
      · obtain ⟨q, h1, h2⟩ := ih h; exact ⟨q, by omega, h2⟩
      · rcases List.mem_append.1 h with h | h
        · obtain ⟨q, h1, h2⟩ := ih h; exact ⟨q, by omega, h2⟩
        · simp at h; exact ⟨k, by omega, i, h, hi⟩
    · obtain ⟨q, h1, h2⟩ := ih h; exact ⟨q, by omega, h2⟩
theorem ownerAt_mem {os : List R9} {f : Int} {k : Nat} (h : k < os.length) : ∃ r ∈ os, r.v = ownerAt os f k := by
  have h1 := Int.emod_nonneg (f + k) (b := (os.length : Int)) (by omega)
  have h2 := Int.emod_lt_of_pos (f + k) (b := (os.length : Int)) (by omega)
  unfold ownerAt
  have hlt : ((f + k) % (os.length : Int)).toNat < os.length := by omega
  rw [List.getD_eq_getElem?_getD, List.getElem?_eq_getElem hlt]
  exact ⟨_, List.getElem_mem hlt, rfl⟩
theorem ownerAt_all {os : List R9} (f : Int) {j : Nat} (h : j < os.length) : ∃ k, k < os.length ∧ ownerAt os f k = os[j].v := by
  have h1 := Int.emod_nonneg ((j : Int) - f) (b := (os.length : Int)) (by omega)
  have h2 := Int.emod_lt_of_pos ((j : Int) - f) (b := (os.length : Int)) (by omega)
  refine ⟨(((j : Int) - f) % (os.length : Int)).toNat, by omega, ?_⟩
  unfold ownerAt
  have e : (f + ((((j : Int) - f) % (os.length : Int)).toNat : Int)) % (os.length : Int) = j := by
    rw [Int.toNat_of_nonneg h1, Int.add_emod, Int.emod_emod_of_dvd _ (Int.dvd_refl _), ← Int.add_emod]
    rw [show f + ((j : Int) - f) = j by omega]
    exact Int.emod_eq_of_lt (by omega) (by omega)
  rw [e]; simp [h]
def ownsB (os : List R9) (s : ByteArray) : Bool := os.any fun r => decide (r.v = s)
theorem ownsB_iff {os : List R9} {s : ByteArray} : ownsB os s = true ↔ ∃ r ∈ os, r.v = s := by unfold ownsB; simp
/-- Just those that are told first own something. -/
theorem owns_iff {ns : List ByteArray} {os : List R9} {f : Int} (hd : ∀ i (_ : i < ns.length) j (_ : j < ns.length), ns[i] = ns[j] → i = j) {i : Nat} (hi : i < ns.length) :
    ownsB os ns[i] = true ↔ (i : Int) ∈ told ns os f os.length := by
  rw [ownsB_iff]
  constructor
  · rintro ⟨r, hr, e⟩
    obtain ⟨j, hj, rfl⟩ := List.getElem_of_mem hr
    obtain ⟨k, hk, hok⟩ := ownerAt_all f hj
    refine told_has hk (fnd_some.2 ⟨hi, by rw [hok, e], fun j' hj' e' => ?_⟩)
    have := hd j' (by omega) i hi (by rw [e', hok, e])
    omega
  · intro h
    obtain ⟨q, hq, i', e, hf⟩ := told_from h
    have : i' = i := by omega
    subst this
    obtain ⟨_, h2, _⟩ := fnd_some.1 hf
    obtain ⟨r, hr, e2⟩ := ownerAt_mem (f := f) hq
    exact ⟨r, hr, e2.trans h2.symm⟩
theorem order_owns {ns : List ByteArray} {os : List R9} {part : Int} (hd : ∀ i (_ : i < ns.length) j (_ : j < ns.length), ns[i] = ns[j] → i = j) {i : Nat} {p : Nat} (hp : (order ns os part)[i]? = some (p : Int)) (hpn : p < ns.length) :
    ownsB os ns[p] = decide (i < (told ns os (frm part os.length) os.length).length) := by
  rw [Bool.eq_iff_iff, owns_iff hd (f := frm part os.length), decide_eq_true_eq]
  unfold order at hp
  by_cases h : i < (told ns os (frm part os.length) os.length).length
  · simp only [h, iff_true]
    rw [List.getElem?_append_left h] at hp
    exact List.mem_of_getElem? hp
  · simp only [h, iff_false]
    rw [List.getElem?_append_right (by omega)] at hp
    exact (restTo_mem.1 (List.mem_of_getElem? hp)).2.2
theorem nodup_take {L : List Int} (h : L.Nodup) {i : Nat} (hi : i < L.length) : L[i] ∉ L.take i := by
  intro hm
  obtain ⟨j, hj, e⟩ := List.getElem_of_mem hm
  rw [List.length_take] at hj
  rw [List.getElem_take] at e
  exact List.pairwise_iff_getElem.1 h j i (by omega) hi (by omega) e
end Go.Proofs.Yteddmjfpbdihiaa.walk
