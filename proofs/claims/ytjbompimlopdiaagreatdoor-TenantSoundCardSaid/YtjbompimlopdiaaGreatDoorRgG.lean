/- Entries of a registry: those under a path, and news, by the reference; few of them. -/
import Derived.Test.YtjbompimlopdiaaGreatDoorRgF
namespace Go.Proofs.YtjbompimlopdiaaGreatDoor.rgy
open Go.ChangeShapes Go.WideShapes Go.ChangeAt Go.RowKit Go.Proofs.Aid Go.Proofs.YtjbompimlopdiaaGreatDoor.name Go.Proofs.YtjbompimlopdiaaGreatDoor.reg
def FewE (w : World) (n : Nat) (xs : List En) (e : Ending) (w' : World) : Prop := ∃ b, e = .returned (.bool b) ∧ Below w.heap.size w w' ∧ (b = true → xs.length ≤ n ∧ ∀ x ∈ xs, x.key.size ≤ 200 ∧ x.reg.few = true)
set_option maxRecDepth 100000 in
set_option maxHeartbeats 4000000 in
theorem rfew_any (w : World) (A : Option Addr) (ca : Nat) (xs : List En) (m : Nat) (hm : m ≤ 1000) (hl : xs.length ≤ maxLen) (h1 : Reads w w.heap.size 4 A xs.length (xs.flatMap En.cells)) (hs : ∀ r ∈ xs, r.sz) :
    Calls Tryz.prog 6 #[.slice A xs.length ca, .int .i64 m] w (FewE w m xs) := by
  have H1 := Lib.hid h1
  have HS := Lib.hid hs
  unfold maxLen at hl
  clear h1 hs
  go_enter Tryz.func6, Tryz.ntmps6
  go_wp2_with fail
  go_loopw [5] (fun iv wr => ∃ k : Nat, k ≤ xs.length ∧ k ≤ m ∧ iv = .int .i64 k ∧ Hid (∀ j (_ : j < xs.length), j < k → xs[j].key.size ≤ 200 ∧ xs[j].reg.few = true) ∧ Hid (Below w.heap.size w wr)) (fun iv _ => xs.length - (intOf iv).toNat)
  case atStart => exact ⟨0, by omega, by omega, rfl, fun _ _ h => by omega, Below.refl _ _⟩
  case round =>
    obtain ⟨k, hk, hkm, rfl, hI, hlow⟩ := hrel
    by_cases hlt : k < xs.length
    · by_cases hlm : k < m
      · obtain ⟨ad, rfl, had, c0, c1, c2, c3⟩ := elemE (H1.out.below hlow.out) hlt
        have hsz := HS.out _ (List.getElem_mem hlt)
        have hnx : Hid (xs[k].key.size ≤ 200 → xs[k].reg.few = true → ∀ j (_ : j < xs.length), j < k + 1 → xs[j].key.size ≤ 200 ∧ xs[j].reg.few = true) := fun h h2 j hj hjk => by
          by_cases e : j < k
          · exact hI.out j hj e
          · have : j = k := by omega
            subst this; exact ⟨h, h2⟩
        clear hI
        generalize xs[k] = xe at *
        obtain ⟨kk, n, b, v⟩ := xe
        obtain ⟨z0, z1, z2⟩ := hsz
        simp only at c0 c1 c2 c3 z0 z1 z2 hnx
        have Z1 := Lib.hid z1
        have Z2 := Lib.hid z2
        have hz := hlow.out.size
        unfold maxLen at z0
        clear z1 z2
        by_cases h200 : kk.size ≤ 200
        · cases hf : Rg.few ⟨n, b, v⟩ with
          | true =>
            have hN := Lib.hid (hnx.out h200 hf)
            have HF := Lib.hid hf
            clear hf hnx
            go_wp2_with fail
            refine (few_any ⟨n, b, v⟩ _ Z1.out Z2.out).mono ?_
            rw [HF.out]
            rintro e w1 ⟨rfl, hb⟩
            have HL := Lib.hid (hlow.out.trans (hb.mono hz))
            clear hb hlow
            go_wp2
            go_roundw
            case rel => exact ⟨k + 1, by omega, by omega, by go_num, hN, HL⟩
            case measure => simp [intOf]; omega
          | false =>
            have HF := Lib.hid hf
            clear hf hnx
            go_wp2_with fail
            refine (few_any ⟨n, b, v⟩ _ Z1.out Z2.out).mono ?_
            rw [HF.out]
            rintro e w1 ⟨rfl, hb⟩
            have HL := Lib.hid (hlow.out.trans (hb.mono hz))
            clear hb hlow
            go_wp2
            go_ret
            exact ⟨_, rfl, HL.out, fun h => by cases h⟩
        · go_wp2
          go_ret
          exact ⟨_, rfl, hlow.out, fun h => by cases h⟩
      · have hkm2 : k = m := by omega
        go_wp2
        go_ret
        exact ⟨_, rfl, hlow.out, fun h => by simp at h; omega⟩
    · have hkl : k = xs.length := by omega
      have hI2 : Hid (∀ x ∈ xs, x.key.size ≤ 200 ∧ x.reg.few = true) := fun x hx => by
        obtain ⟨j, hj, rfl⟩ := List.getElem_of_mem hx
        exact hI.out j hj (by omega)
      clear hI
      go_wp2
      go_ret
      exact ⟨_, rfl, hlow.out, fun h => ⟨by simp at h; omega, hI2.out⟩⟩
theorem pre_iff {α : Type} [BEq α] [LawfulBEq α] (p l : List α) (c : α) : (p ++ [c]).isPrefixOf l = true ↔ p.length < l.length ∧ l.take p.length = p ∧ l[p.length]? = some c := by
  rw [List.isPrefixOf_iff_prefix]
  constructor
  · rintro ⟨t, rfl⟩
    simp
  · rintro ⟨h, h1, h2⟩
    refine ⟨l.drop (p.length + 1), ?_⟩
    have e : l = l.take p.length ++ l.drop p.length := (List.take_append_drop _ _).symm
    rw [List.drop_eq_getElem_cons h] at e
    rw [List.getElem?_eq_getElem h] at h2
    injection h2 with h2
    rw [h1, h2] at e
    rw [List.append_assoc]; exact e.symm
theorem under_long {s kk : ByteArray} {r : Rg} (h : s.size < kk.size) : underP s ⟨kk, r⟩ = (((kk.extract 0 s.size).toList == s.toList) && ((kk[s.size].toNat : Int) == 47)) := by
  rw [Bool.eq_iff_iff]
  unfold underP Lib.hasPrefix
  rw [pre_iff, Bool.and_eq_true, beq_iff_eq, beq_iff_eq]
  have h' : s.data.toList.length < kk.data.toList.length := by simpa using h
  rw [List.getElem?_eq_getElem h', Lib.toList_data, Lib.toList_data]
  have e1 : (kk.extract 0 s.size).data.toList = kk.data.toList.take s.data.toList.length := by simp
  rw [e1]
  have e2 : kk.data.toList[s.data.toList.length] = kk[s.size] := by simp; rfl
  rw [e2]
  constructor
  · rintro ⟨_, h1, h2⟩
    injection h2 with h2
    exact ⟨h1, by rw [h2]; rfl⟩
  · rintro ⟨h1, h2⟩
    refine ⟨h', h1, ?_⟩
    congr 1
    apply UInt8.toNat_inj.1
    show _ = 47
    omega
theorem under_short {s kk : ByteArray} {r : Rg} (h : ¬ s.size < kk.size) : underP s ⟨kk, r⟩ = false := by
  rw [Bool.eq_false_iff]
  unfold underP Lib.hasPrefix
  rw [Ne, pre_iff]
  rintro ⟨h1, _⟩
  exact h (by simpa using h1)
end Go.Proofs.YtjbompimlopdiaaGreatDoor.rgy
