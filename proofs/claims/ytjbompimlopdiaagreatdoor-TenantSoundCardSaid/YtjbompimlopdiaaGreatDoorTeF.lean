/- All tenants, by the reference: put in one by one. -/
import Derived.Test.YtjbompimlopdiaaGreatDoorTeE
import Derived.Test.YtjbompimlopdiaaGreatDoorTnM
import Derived.Test.YtjbompimlopdiaaGreatDoorKn
namespace Go.Proofs.YtjbompimlopdiaaGreatDoor.te
set_option linter.unusedSimpArgs false
open Go.ChangeShapes Go.WideShapes Go.ChangeAt Go.RowKit Go.Proofs.Aid
open Go.Proofs.YtjbompimlopdiaaGreatDoor.rgy (En elemE underP)
open Go.Proofs.YtjbompimlopdiaaGreatDoor.texts (tc)
open Go.Proofs.YtjbompimlopdiaaGreatDoor.nm (Lets partsS strs_length)
open Go.Proofs.YtjbompimlopdiaaGreatDoor.sets (T)
theorem put_same : ∀ {L : List T} {s : T} {k : Nat} (h : k < L.length), (∀ j (_ : j < L.length), j < k → L[j] < s) → L[k] = s → sets.put L s = L
  | [], _, _, h, _, _ => absurd h (Nat.not_lt_zero _)
  | x :: l, s, 0, _, _, e => by
    have e : x = s := e
    subst e
    rw [sets.put, if_neg (sets.lt_irr x), if_pos rfl]
  | x :: l, s, k + 1, h, hj, e => by
    have h0 : x < s := hj 0 (by simp) (by omega)
    rw [sets.put, if_pos h0, put_same (L := l) (k := k) (Nat.lt_of_succ_lt_succ h) (fun j h1 h2 => hj (j + 1) (Nat.succ_lt_succ h1) (by omega)) e]
theorem put_new : ∀ {L : List T} {s : T} {k : Nat} (h : k < L.length), (∀ j (_ : j < L.length), j < k → L[j] < s) → ¬ L[k] < s → L[k] ≠ s → sets.put L s = L.take k ++ [s] ++ L.drop k
  | [], _, _, h, _, _, _ => absurd h (Nat.not_lt_zero _)
  | x :: l, s, 0, _, _, h1, h2 => by
    rw [sets.put, if_neg (by simpa using h1), if_neg (by simpa using h2)]; simp
  | x :: l, s, k + 1, h, hj, h1, h2 => by
    have h0 : x < s := hj 0 (by simp) (by omega)
    rw [sets.put, if_pos h0, put_new (L := l) (k := k) (Nat.lt_of_succ_lt_succ h) (fun j h1 h2 => hj (j + 1) (Nat.succ_lt_succ h1) (by omega)) h1 h2]
    simp
theorem put_end : ∀ {L : List T} {s : T}, (∀ j (_ : j < L.length), L[j] < s) → sets.put L s = L ++ [s]
  | [], _, _ => rfl
  | x :: l, s, hj => by
    have h0 : x < s := hj 0 (by simp)
    rw [sets.put, if_pos h0, put_end (L := l) (fun j h1 => hj (j + 1) (Nat.succ_lt_succ h1))]
    simp
theorem put_len : ∀ (L : List T) (s : T), (sets.put L s).length ≤ L.length + 1
  | [], _ => by simp [sets.put]
  | x :: l, s => by
    have := put_len l s
    rw [sets.put]
    split
    · simp; omega
    · split
      · simp
      · simp
theorem all_append : ∀ (a b acc : List T), sets.all acc (a ++ b) = sets.all (sets.all acc a) b
  | [], _, _ => rfl
  | x :: a, b, acc => by rw [List.cons_append, sets.all, sets.all, all_append a b]
theorem less_at {x s : ByteArray} : Op.bytesLess x.toList s.toList = decide (x.data.toList < s.data.toList) := by
  rw [bytesLess_eq, Lib.toList_data, Lib.toList_data]
theorem strs_at {L : List T} {k : Nat} (h : k < (nm.strs L).length) : (nm.strs L)[k].data.toList = L[k]'(by rwa [strs_length] at h) := by simp [nm.strs]
theorem strs_put (a b : List T) (s : ByteArray) : ([] ++ nm.strs a ++ [s]) ++ nm.strs b = nm.strs (a ++ [s.data.toList] ++ b) := by simp [nm.strs]
def pickR (e : En) : List ByteArray := match partsS e.key with | [p, q, r] => if p = fT ∧ r = fS then [q] else [] | _ => []
theorem pickR_three {e : En} {p q r : ByteArray} (h : partsS e.key = [p, q, r]) : pickR e = if p = fT ∧ r = fS then [q] else [] := by unfold pickR; rw [h]
theorem pickR_other {e : En} (h : (partsS e.key).length ≠ 3) : pickR e = [] := by
  unfold pickR
  split
  · rename_i h'; rw [h'] at h; exact absurd rfl h
  · rfl
theorem under_three {e : En} {p q r : ByteArray} (h : partsS e.key = [p, q, r]) : underP fT e = true ↔ p = fT := by
  have hs : ∃ a b c, seg.segs e.key.data.toList = [a, b, c] ∧ p = ⟨a.toArray⟩ := by
    unfold partsS nm.strs seg.parts at h
    split at h
    · simp at h
    · match hg : seg.segs e.key.data.toList, h with
      | [a, b, c], h =>
        simp only [List.map_cons, List.map_nil, List.cons.injEq] at h
        exact ⟨a, b, c, rfl, h.1.symm⟩
  obtain ⟨a, b, c, hg, rfl⟩ := hs
  have hu := seg.head_under (s := fT.data.toList) (by decide) hg
  constructor
  · intro hp
    have := hu.1 hp
    rw [this]
  · intro hp
    refine hu.2 ?_
    have := congrArg (fun b : ByteArray => b.data.toList) hp
    simpa using this
theorem pickR_under (e : En) : pickR e = if underP fT e = true then pick e else [] := by
  by_cases h3 : (partsS e.key).length = 3
  · obtain ⟨p, q, r, h⟩ : ∃ p q r, partsS e.key = [p, q, r] := by
      match h : partsS e.key, h3 with
      | [p, q, r], _ => exact ⟨p, q, r, rfl⟩
    have hu := under_three h
    rw [pickR_three h, pick_three h]
    by_cases hp : p = fT
    · rw [if_pos (hu.2 hp)]
      by_cases hr : r = fS
      · rw [if_pos ⟨hp, hr⟩, if_pos hr]
      · rw [if_neg (fun k => hr k.2), if_neg hr]
    · rw [if_neg (fun k => hp k.1), if_neg (fun k => hp (hu.1 k))]
  · rw [pickR_other h3, pick_other h3]; simp
theorem flat_pick : ∀ xs : List En, (xs.filter (underP fT)).flatMap pick = xs.flatMap pickR
  | [] => rfl
  | x :: xs => by
    rw [List.flatMap_cons, pickR_under, List.filter_cons]
    by_cases h : underP fT x = true
    · rw [if_pos h, if_pos h, List.flatMap_cons, flat_pick xs]
    · rw [if_neg h, if_neg h, flat_pick xs]; rfl
def setK (xs : List En) (k : Nat) : List T := sets.all [] (srt.data (((xs.take k).flatMap pickR).filter (isT xs)))
theorem setK_step {xs : List En} {k : Nat} (h : k < xs.length) : setK xs (k + 1) = sets.all (setK xs k) (srt.data ((pickR xs[k]).filter (isT xs))) := by
  unfold setK srt.data
  rw [List.take_succ_eq_append_getElem h, List.flatMap_append, List.filter_append, List.map_append, all_append]
  simp
theorem pickR_len (e : En) : (pickR e).length ≤ 1 := by
  unfold pickR
  split
  · split <;> simp
  · simp
theorem all_len : ∀ (r acc : List T), (sets.all acc r).length ≤ acc.length + r.length
  | [], acc => by simp [sets.all]
  | x :: r, acc => by
    rw [sets.all]
    have h1 := all_len r (sets.put acc x)
    have h2 := put_len acc x
    rw [List.length_cons]
    omega
theorem setK_len {xs : List En} : ∀ k, k ≤ xs.length → (setK xs k).length ≤ k
  | 0, _ => by show (sets.all [] (srt.data (((xs.take 0).flatMap pickR).filter (isT xs)))).length ≤ 0; simp [srt.data, sets.all]
  | k + 1, h => by
    rw [setK_step (by omega)]
    have h1 := setK_len (xs := xs) k (by omega)
    have h2 := all_len (srt.data ((pickR (xs[k]'(by omega))).filter (isT xs))) (setK xs k)
    have h3 : (srt.data ((pickR (xs[k]'(by omega))).filter (isT xs))).length ≤ 1 := by
      unfold srt.data
      rw [List.length_map]
      exact Nat.le_trans (List.length_filter_le _ _) (pickR_len _)
    omega
theorem setK_all (xs : List En) : setK xs xs.length = allT xs := by
  unfold setK allT
  rw [List.take_length, flat_pick]
end Go.Proofs.YtjbompimlopdiaaGreatDoor.te
