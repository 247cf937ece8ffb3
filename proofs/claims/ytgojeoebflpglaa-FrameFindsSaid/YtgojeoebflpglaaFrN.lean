/- What is framed is scanned as it was, cut anywhere; with bits changed it is not whole: plain. -/
import Derived.Test.YtgojeoebflpglaaFrM
namespace Go.Proofs.Ytgojeoebflpglaa.fr
set_option linter.unusedSimpArgs false
set_option linter.unusedVariables false
open Go.ChangeShapes Go.WideShapes Go.ChangeAt Go.RowKit Go.Proofs.Aid
open Go.Proofs.Ytgojeoebflpglaa.oc Go.Proofs.CrcMath
theorem sumB_lt (s : ByteArray) : sumB s < 4294967296 := cmore_lt _ _
theorem bz_data2 (l : List UInt8) : (bz l).data.toList = l := by simp [bz]
theorem fr_list (x : ByteArray) (r : List UInt8) : frB x ++ r = be 4 x.size ++ (be 4 (sumB x : Nat) ++ (x.data.toList ++ r)) := by
  simp [frB, headB]
theorem counts_of (x : ByteArray) (r : List UInt8) (sm : Nat) (hs : sm < 4294967296) (hx : x.size ≤ 1048576) (b : List UInt8) :
    countS 1048576 (some (bz (be 4 x.size ++ (be 4 (sm : Nat) ++ b)))) = ((x.size : Int), some (bz (be 4 (sm : Nat) ++ b))) ∧ countS 4294967295 (some (bz (be 4 (sm : Nat) ++ b))) = ((sm : Int), some (bz b)) :=
  ⟨count_back 1048576 x.size _ (by omega) (by omega) (by omega), count_back 4294967295 sm b (by omega) (by omega) (by omega)⟩
theorem first_back (x : ByteArray) (r : List UInt8) (hx : x.size ≤ 1048576) : firstS (bz (frB x ++ r)) = some x := by
  obtain ⟨h1, h2⟩ := counts_of x r (sumB x) (sumB_lt x) hx (x.data.toList ++ r)
  unfold firstS
  rw [fr_list, h1]
  simp only
  rw [h2]
  simp only [Int.toNat_natCast]
  have hl : x.size = x.data.toList.length := by simp
  have e : (bz (x.data.toList ++ r)).extract 0 x.size = x := by rw [hl, ext_head, bz_list]
  rw [e, if_pos ⟨by rw [bz_size, List.length_append]; omega, rfl⟩]
theorem first_cut (x : ByteArray) (r : List UInt8) (m : Nat) (hx : x.size ≤ 1048576) (hm : m < 8 + x.size) : firstS (bz ((frB x ++ r).take m)) = none := by
  have hy : (bz ((frB x ++ r).take m)).size = m := by rw [bz_size, List.length_take, List.length_append, frB_len]; omega
  have hjoin : bz ((frB x ++ r).take m) ++ bz ((frB x ++ r).drop m) = bz (frB x ++ r) := by rw [bz_append, List.take_append_drop]
  obtain ⟨h1, h2⟩ := counts_of x r (sumB x) (sumB_lt x) hx (x.data.toList ++ r)
  rw [← fr_list] at h1
  generalize bz ((frB x ++ r).take m) = y at *
  generalize bz ((frB x ++ r).drop m) = z at *
  unfold firstS
  split
  · rfl
  · rename_i q hq
    obtain ⟨a1, a2, a3⟩ := head8 hq
    have hqz : q.size = m - 8 := by rw [a2, ByteArray.size_extract]; omega
    have hn : (countS 1048576 (some y)).1 = x.size := by
      cases hc : (countS 1048576 (some y)).2 with
      | none => rw [hc] at hq; rw [countS_some hq] at hq; cases hq
      | some u =>
        have := keeps_count 1048576 y z (countS 1048576 (some y)).1 u (by rw [← hc])
        rw [hjoin, h1] at this
        injection this with this
        exact this.symm
    rw [hn, if_neg (fun h => by have := h.1; omega)]
/-- The k-th record of frames, and those behind it. -/
theorem cut_suffix (l : List ByteArray) (k i : Nat) (hi : (frsB (l.take i)).length ≤ k) : ((bz (frsB l)).extract 0 k).extract (frsB (l.take i)).length ((bz (frsB l)).extract 0 k).size = bz ((frsB (l.drop i)).take (k - (frsB (l.take i)).length)) := by
  apply ba_list
  rw [Lib.extract_data, Lib.extract_data, bz_data2, bz_data2, List.drop_zero, Nat.sub_zero]
  have e : frsB l = frsB (l.take i) ++ frsB (l.drop i) := by unfold frsB; rw [← List.flatMap_append, List.take_append_drop]
  rw [e, List.take_append, List.take_of_length_le hi]
  rw [List.drop_append_of_le_length (Nat.le_refl _), List.drop_length, List.nil_append]
  rw [List.take_of_length_le]
  rw [ByteArray.size_extract, bz_size, List.length_take, List.length_append]
  omega
theorem frs_mono (l : List ByteArray) (i : Nat) : (frsB (l.take i)).length ≤ (frsB l).length := by
  have e : frsB l = frsB (l.take i) ++ frsB (l.drop i) := by unfold frsB; rw [← List.flatMap_append, List.take_append_drop]
  rw [e, List.length_append]; omega
/-- Of frames that were cut, those records are scanned that are wholly there. -/
theorem scan_cut (l : List ByteArray) (k : Nat) (hz : ∀ s ∈ l, s.size ≤ 1048576) (hk : k ≤ (frsB l).length) :
    ∃ j, j ≤ l.length ∧ scanS ((bz (frsB l)).extract 0 k) = (l.take j, (frsB (l.take j)).length) ∧ (frsB (l.take j)).length ≤ k ∧ (j = l.length ∨ k < (frsB (l.take (j + 1))).length) := by
  have hcs : ((bz (frsB l)).extract 0 k).size = k := by rw [ByteArray.size_extract, bz_size]; omega
  have go : ∀ d i, l.length - i = d → i ≤ l.length → (frsB (l.take i)).length ≤ k → Got ((bz (frsB l)).extract 0 k) i (l.take i) (frsB (l.take i)).length →
      ∃ j, j ≤ l.length ∧ scanS ((bz (frsB l)).extract 0 k) = (l.take j, (frsB (l.take j)).length) ∧ (frsB (l.take j)).length ≤ k ∧ (j = l.length ∨ k < (frsB (l.take (j + 1))).length) := by
    intro d
    induction d with
    | zero =>
      intro i hd hi hlen hg
      have hil : i = l.length := by omega
      refine ⟨i, hi, ?_, hlen, .inl hil⟩
      refine hg.stop ?_
      rw [cut_suffix l k i hlen, hil, List.drop_length]
      have : firstS (bz ((frsB []).take (k - (frsB (l.take l.length)).length))) = none := by
        have : (frsB []).take (k - (frsB (l.take l.length)).length) = [] := by simp [frsB]
        rw [this]; rfl
      exact this
    | succ d ih =>
      intro i hd hi hlen hg
      have hlt : i < l.length := by omega
      have hdrop : l.drop i = l[i] :: l.drop (i + 1) := List.drop_eq_getElem_cons hlt
      have hsz := hz _ (List.getElem_mem hlt)
      have hft := frs_take l i hlt
      have hfl : (frsB (l.take (i + 1))).length = (frsB (l.take i)).length + (8 + l[i].size) := by rw [hft, List.length_append, frB_len]
      have hsuf := cut_suffix l k i hlen
      have hcons : frsB (l.drop i) = frB l[i] ++ frsB (l.drop (i + 1)) := by rw [hdrop]; unfold frsB; rw [List.flatMap_cons]
      rw [hcons] at hsuf
      by_cases hfit : 8 + l[i].size ≤ k - (frsB (l.take i)).length
      · have hf : firstS (((bz (frsB l)).extract 0 k).extract (frsB (l.take i)).length ((bz (frsB l)).extract 0 k).size) = some l[i] := by
          rw [hsuf, List.take_append, List.take_of_length_le (by rw [frB_len]; omega)]
          exact first_back _ _ hsz
        have hg2 := hg.next hf
        rw [← hfl, ← List.take_succ_eq_append_getElem hlt] at hg2
        exact ih (i + 1) (by omega) (by omega) (by omega) hg2
      · refine ⟨i, hi, ?_, hlen, .inr (by omega)⟩
        refine hg.stop ?_
        rw [hsuf]
        exact first_cut _ _ _ hsz (by omega)
  refine go l.length 0 (by omega) (by omega) (by simp [frsB]) ⟨rfl, rfl, by simp [frsB], by simp [frsB]⟩
theorem scan_all (l : List ByteArray) (hz : ∀ s ∈ l, s.size ≤ 1048576) : scanS (bz (frsB l)) = (l, (frsB l).length) := by
  obtain ⟨j, hj, h1, h2, h3⟩ := scan_cut l (frsB l).length hz (Nat.le_refl _)
  have e : (bz (frsB l)).extract 0 (frsB l).length = bz (frsB l) := by
    apply ba_list
    rw [Lib.extract_data, bz_data2, List.drop_zero, List.take_of_length_le (by omega)]
  rw [e] at h1
  rcases h3 with rfl | h3
  · rw [h1, List.take_of_length_le (Nat.le_refl _)]
  · have := frs_mono l (j + 1)
    omega
end Go.Proofs.Ytgojeoebflpglaa.fr
