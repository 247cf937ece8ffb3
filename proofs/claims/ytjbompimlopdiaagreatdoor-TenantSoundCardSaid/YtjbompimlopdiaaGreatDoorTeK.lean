/- What TenantSound asks, in plain words: limits lie in their bounds; all tenants are those of whom something is said; an entry of another tenant changes nothing. -/
import Derived.Test.YtjbompimlopdiaaGreatDoorTeJ
import Derived.Test.YtjbompimlopdiaaGreatDoorRgI
import Derived.Test.YtjbompimlopdiaaGreatDoorRgL
import Derived.Test.YtjbompimlopdiaaGreatDoorRgM
namespace Go.Proofs.YtjbompimlopdiaaGreatDoor.te
open Go.ChangeShapes Go.WideShapes Go.ChangeAt Go.RowKit Go.Proofs.Aid
open Go.Proofs.YtjbompimlopdiaaGreatDoor.rgy (En)
open Go.Proofs.YtjbompimlopdiaaGreatDoor.name (isName fits fitB)
open Go.Proofs.YtjbompimlopdiaaGreatDoor.nm (Lets num numV numR partsS joinS)
open Go.Proofs.YtjbompimlopdiaaGreatDoor.sets (T)
theorem name_free {l : List UInt8} (h : isName l = true) : l ≠ [] ∧ l.length ≤ 16 ∧ ∀ c ∈ l, c ≠ 47 := by
  unfold isName at h
  rw [Bool.and_eq_true, Bool.and_eq_true, decide_eq_true_eq, decide_eq_true_eq] at h
  obtain ⟨⟨h1, h2⟩, h3⟩ := h
  refine ⟨fun e => by rw [e] at h1; simp at h1, h2, fun c hc e => ?_⟩
  unfold fits at h3
  have := List.all_eq_true.1 h3 c hc
  rw [e] at this
  exact absurd this (by decide)
theorem lim_in {l : List En} {t f : ByteArray} {m u : Int} (h0 : 0 ≤ u) (h1 : u ≤ m) : 0 ≤ limV l t f m u ∧ limV l t f m u ≤ m := by
  unfold limV
  split
  · rename_i h
    rw [Bool.and_eq_true] at h
    have := h.2
    unfold mayN at this
    rw [Bool.and_eq_true, decide_eq_true_eq, decide_eq_true_eq] at this
    exact this
  · exact ⟨h0, h1⟩
theorem sec_in {s : ByteArray} (h : isSec s = true) : 1 ≤ s.size ∧ s.size ≤ 64 := by
  unfold isSec at h
  rw [Bool.and_eq_true, decide_eq_true_eq, decide_eq_true_eq] at h
  exact h
theorem get_put {l : List En} {y : En} {k : ByteArray} (h : rgy.may l = true) (hk : ¬ y.key = k) : rgy.get (rgy.putE l y) k = rgy.get l k := by
  rw [rgy.putE_merge y (rgy.may_iff.1 h).2.2]
  unfold rgy.get
  rw [rgy.merge_look k (rgy.may_iff.1 h).2.2 (List.pairwise_singleton _ _), rgy.look_cons, if_neg hk, rgy.look_nil, rgy.jo_none]
theorem of_put {l : List En} {y : En} {t : ByteArray} (h : rgy.may l = true) (h1 : ∀ f, ¬ y.key = tkey t f) : ofT (rgy.putE l y) t = ofT l t ∧ isT (rgy.putE l y) t = isT l t := by
  have e1 : secV (rgy.putE l y) t = secV l t := by unfold secV; rw [get_put h (h1 fS)]
  have e2 : ∀ f m u, limV (rgy.putE l y) t f m u = limV l t f m u := fun f m u => by unfold limV; rw [get_put h (h1 f)]
  have e3 : isT (rgy.putE l y) t = isT l t := by unfold isT; rw [e1]
  refine ⟨?_, e3⟩
  unfold ofT
  rw [e1, e3, e2, e2, e2, e2]
theorem short_put {l : List En} {y : En} (h : rgy.may l = true) (hl : short l) (hy : y.reg.value.size ≤ 300) : short (rgy.putE l y) := by
  rw [rgy.putE_merge y (rgy.may_iff.1 h).2.2]
  have hj : ∀ a b : reg.Rg, (a.join b = a ∨ a.join b = b) := fun a b => by unfold reg.Rg.join; split <;> simp
  intro z hz
  rcases rgy.merge_mem _ _ z hz with ⟨x, hx, -, hr⟩ | hr
  · rcases hr with hr | ⟨q, hq, -, hr⟩
    · rw [hr]; exact hl x hx
    · rcases hj x.reg q.reg with e | e
      · rw [hr, e]; exact hl x hx
      · rw [hr, e, List.mem_singleton.1 hq]; exact hy
  · rw [List.mem_singleton.1 hr]; exact hy
theorem own_list (t f : ByteArray) : (tkey t f).data.toList = (tkey t ⟨#[]⟩).data.toList ++ f.data.toList := by
  rw [tkey_list, tkey_list]; simp
theorem not_own {k t : ByteArray} (h : k.size < (tkey t ⟨#[]⟩).size ∨ k.extract 0 (tkey t ⟨#[]⟩).size ≠ tkey t ⟨#[]⟩) : ∀ f, ¬ k = tkey t f := by
  intro f e
  have hl := own_list t f
  rcases h with h | h
  · rw [e, tkey_size, tkey_size] at h
    have : (⟨#[]⟩ : ByteArray).size = 0 := rfl
    omega
  · apply h
    apply ByteArray.ext; apply Array.toList_inj.1
    rw [Lib.extract_data, e, hl]
    have : (tkey t ⟨#[]⟩).size = (tkey t ⟨#[]⟩).data.toList.length := by rw [Array.length_toList]; rfl
    rw [this]
    simp
/-- The parts of a tenant's key. -/
theorem tkey_parts {t : ByteArray} (h : isName t.data.toList = true) : partsS (tkey t fS) = [fT, t, fS] := by
  obtain ⟨h1, -, h2⟩ := name_free h
  have e := seg.parts_join (l := [fT.data.toList, t.data.toList, fS.data.toList]) (by
    intro x hx
    simp only [List.mem_cons, List.not_mem_nil, or_false] at hx
    rcases hx with rfl | rfl | rfl
    · exact ⟨by decide, by decide⟩
    · exact ⟨h1, h2⟩
    · exact ⟨by decide, by decide⟩)
  have e2 : (tkey t fS).data.toList = Lib.join [fT.data.toList, t.data.toList, fS.data.toList] [47] := rfl
  unfold partsS
  rw [e2, e]
  rfl
theorem isT_mem {xs : List En} {t : ByteArray} (h : isT xs t = true) : t ∈ xs.flatMap pickR := by
  unfold isT at h
  rw [Bool.and_eq_true] at h
  have hs := (sec_in h.2).1
  unfold secV rgy.get at hs
  cases hk : rgy.look xs (tkey t fS) with
  | none => rw [hk] at hs; exact absurd hs (by decide)
  | some r =>
    refine List.mem_flatMap.2 ⟨_, rgy.look_mem hk, ?_⟩
    rw [pickR_three (e := ⟨tkey t fS, r⟩) (tkey_parts h.1), if_pos ⟨rfl, rfl⟩]
    exact List.mem_singleton.2 rfl
theorem mem_allT {xs : List En} {y : T} : y ∈ allT xs ↔ ∃ t : ByteArray, t.data.toList = y ∧ isT xs t = true := by
  unfold allT
  rw [flat_pick, sets.mem_all]
  unfold srt.data
  constructor
  · rintro (h | h)
    · cases h
    · obtain ⟨t, ht, e⟩ := List.mem_map.1 h
      exact ⟨t, e, (List.mem_filter.1 ht).2⟩
  · rintro ⟨t, e, h⟩
    exact .inr (List.mem_map.2 ⟨t, List.mem_filter.2 ⟨isT_mem h, h⟩, e⟩)
theorem rising_allT (xs : List En) : sets.rising (allT xs) := sets.rising_all List.Pairwise.nil
theorem has_allT {xs : List En} {t : ByteArray} : texts.memB (nm.strs (allT xs)) t = isT xs t := by
  rw [Bool.eq_iff_iff, texts.memB_iff]
  unfold nm.strs
  rw [List.mem_map]
  constructor
  · rintro ⟨y, hy, e⟩
    obtain ⟨t', h1, h2⟩ := mem_allT.1 hy
    have : t' = t := by
      rw [← e, ← h1]
    rw [← this]; exact h2
  · intro h
    exact ⟨t.data.toList, mem_allT.2 ⟨t, rfl, h⟩, rfl⟩
theorem each_allT {xs : List En} {i : Nat} (h : i < (nm.strs (allT xs)).length) : isT xs (nm.strs (allT xs))[i] = true := by
  rw [← has_allT, texts.memB_iff]
  exact List.getElem_mem h
theorem up_allT {xs : List En} {i : Nat} (h : i < (nm.strs (allT xs)).length) (h0 : 0 < i) : Op.bytesLess ((nm.strs (allT xs))[i - 1]'(by omega)).toList (nm.strs (allT xs))[i].toList = true := by
  rw [less_at, decide_eq_true_eq, strs_at, strs_at]
  exact List.pairwise_iff_getElem.1 (rising_allT xs) (i - 1) i _ _ (by omega)
end Go.Proofs.YtjbompimlopdiaaGreatDoor.te
