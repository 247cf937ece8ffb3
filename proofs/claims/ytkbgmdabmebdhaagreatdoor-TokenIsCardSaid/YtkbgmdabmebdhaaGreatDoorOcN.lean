/- What is written is read as it was; cut anywhere it is bad: plain. -/
import Derived.Test.YtkbgmdabmebdhaaGreatDoorOcU
namespace Go.Proofs.YtkbgmdabmebdhaaGreatDoor.oc
set_option linter.unusedSimpArgs false
set_option linter.unusedVariables false
open Go.ChangeShapes Go.WideShapes Go.ChangeAt Go.RowKit Go.Proofs.Aid
theorem bz_list (s : ByteArray) : bz s.data.toList = s := by
  apply ByteArray.ext
  apply Array.toList_inj.1
  simp [bz]
theorem ext_head (a r : List UInt8) : (bz (a ++ r)).extract 0 a.length = bz a := by
  apply ByteArray.ext
  apply Array.toList_inj.1
  rw [Lib.extract_data]
  simp [bz]
theorem ext_tail (a r : List UInt8) : (bz (a ++ r)).extract a.length (bz (a ++ r)).size = bz r := by
  apply ByteArray.ext
  apply Array.toList_inj.1
  rw [Lib.extract_data, bz_size]
  simp [bz]
theorem take_back (a r : List UInt8) (n : Int) (hn : n = a.length) : takeS n (some (bz (a ++ r))) = (bz a, some (bz r)) := by
  subst hn
  have h : (a.length : Int) ≤ (bz (a ++ r)).size := by rw [bz_size, List.length_append]; omega
  show (if (a.length : Int) ≤ (bz (a ++ r)).size then _ else _) = _
  rw [if_pos h, Int.toNat_natCast, ext_head, ext_tail]
theorem num_back (m : Nat) (n : Int) (r : List UInt8) (h : numB (be m n) = n) : numS m (some (bz (be m n ++ r))) = (n, some (bz r)) := by
  unfold numS
  rw [take_back (be m n) r m (by rw [be_length])]
  have : (bz (be m n)).data.toList = be m n := by simp [bz]
  rw [this, h]
theorem count_back (most n : Int) (r : List UInt8) (h0 : 0 ≤ n) (h1 : n ≤ most) (h2 : n < 4294967296) : countS most (some (bz (be 4 n ++ r))) = (n, some (bz r)) := by
  have h := num_back 4 n r (be4_back n h0 h2)
  unfold countS
  rw [h, if_neg (by simp only; omega)]
theorem text_back (s : ByteArray) (r : List UInt8) (h : s.size ≤ 1048576) : textS (some (bz (teB s ++ r))) = (s, some (bz r)) := by
  unfold textS teB
  rw [List.append_assoc, count_back 1048576 s.size _ (by omega) (by omega) (by omega)]
  simp only
  rw [take_back s.data.toList r s.size (by simp), bz_list]
theorem run_back (l : List ByteArray) (r : List UInt8) (h : ∀ s ∈ l, s.size ≤ 1048576) : ∀ k, k ≤ l.length → runS k (some (bz (l.flatMap teB ++ r))) = (l.take k, some (bz ((l.drop k).flatMap teB ++ r)))
  | 0, _ => by simp [runS]
  | k + 1, hk => by
    have ih := run_back l r h k (by omega)
    rw [runS_succ k _ _ (by rw [ih]), ih]
    have hd : l.drop k = l[k] :: l.drop (k + 1) := List.drop_eq_getElem_cons (by omega)
    rw [hd, List.flatMap_cons, List.append_assoc, text_back l[k] _ (h _ (List.getElem_mem _)), List.take_succ_eq_append_getElem (by omega)]
theorem texts_back (l : List ByteArray) (r : List UInt8) (hl : l.length ≤ 65536) (h : ∀ s ∈ l, s.size ≤ 1048576) : textsS (some (bz (tesB l ++ r))) = (l, some (bz r)) := by
  unfold textsS tesB
  rw [List.append_assoc, count_back 65536 l.length _ (by omega) (by omega) (by omega)]
  simp only [Int.toNat_natCast]
  rw [run_back l r h l.length (Nat.le_refl _)]
  simp
/-- What is read of a beginning is read of the whole. -/
def Keeps {α : Type} (f : St → α × St) : Prop := ∀ (x y : ByteArray) (v : α) (r : ByteArray), f (some x) = (v, some r) → f (some (x ++ y)) = (v, some (r ++ y))
theorem ba_list {a b : ByteArray} (h : a.data.toList = b.data.toList) : a = b := by
  apply ByteArray.ext; exact Array.toList_inj.1 h
theorem keeps_take (n : Int) : Keeps (takeS n) := by
  intro x y v r h
  have h : (if n ≤ x.size then (x.extract 0 n.toNat, some (x.extract n.toNat x.size)) else (⟨#[]⟩, none)) = (v, some r) := h
  split at h
  · rename_i hn
    injection h with h1 h2
    injection h2 with h2
    have hs : (x ++ y).size = x.size + y.size := ByteArray.size_append
    show (if n ≤ (x ++ y).size then _ else _) = _
    rw [if_pos (by rw [hs]; omega), ← h1, ← h2]
    have hx : x.data.toList.length = x.size := by simp
    have hy : y.data.toList.length = y.size := by simp
    have e1 : (x ++ y).extract 0 n.toNat = x.extract 0 n.toNat := by
      apply ba_list
      rw [Lib.extract_data, Lib.extract_data, ByteArray.data_append, Array.toList_append, List.drop_zero, List.drop_zero, List.take_append_of_le_length (by rw [hx]; omega)]
    have e2 : (x ++ y).extract n.toNat (x ++ y).size = x.extract n.toNat x.size ++ y := by
      apply ba_list
      rw [Lib.extract_data, ByteArray.data_append, Array.toList_append, ByteArray.data_append, Array.toList_append, Lib.extract_data, hs]
      rw [List.take_of_length_le (by simp only [List.length_drop, List.length_append, hx, hy]; omega), List.take_of_length_le (by simp only [List.length_drop, hx]; omega), List.drop_append_of_le_length (by rw [hx]; omega)]
    rw [e1, e2]
  · cases h
theorem takeS_none (n : Int) : takeS n none = (⟨#[]⟩, none) := rfl
theorem keeps_num (m : Nat) : Keeps (numS m) := by
  intro x y v r h
  unfold numS at h ⊢
  injection h with h1 h2
  have := keeps_take m x y (takeS m (some x)).1 r (by rw [← h2])
  rw [this, h1]
theorem keeps_count (most : Int) : Keeps (countS most) := by
  intro x y v r h
  unfold countS at h ⊢
  split at h
  · cases h
  · rename_i hn
    have := keeps_num 4 x y v r h
    rw [h] at hn
    rw [this, if_neg hn]
theorem keeps_text : Keeps textS := by
  intro x y v r h
  unfold textS at h ⊢
  cases hc : countS 1048576 (some x) with
  | mk n st =>
    rw [hc] at h
    cases st with
    | none => simp only at h; rw [takeS_none] at h; cases h
    | some z =>
      rw [keeps_count 1048576 x y n z hc]
      exact keeps_take n z y v r h
theorem keeps_run : ∀ k, Keeps (runS k)
  | 0 => by
    intro x y v r h
    injection h with h1 h2
    injection h2 with h2
    subst h1 h2
    rfl
  | k + 1 => by
    intro x y v r h
    have ih := keeps_run k x y
    cases hc : runS k (some x) with
    | mk L st =>
      cases st with
      | none =>
        have := runS_stuck k (some x) (by rw [hc]) 1
        rw [this, hc] at h
        cases h
      | some z =>
        rw [runS_succ k _ z (by rw [hc]), hc] at h
        have i2 := ih L z hc
        rw [runS_succ k _ (z ++ y) (by rw [i2]), i2]
        injection h with h1 h2
        have h3 := keeps_text z y (textS (some z)).1 r (by rw [← h2])
        rw [h3, ← h1]
theorem keeps_texts : Keeps textsS := by
  intro x y v r h
  unfold textsS at h ⊢
  cases hc : countS 65536 (some x) with
  | mk n st =>
    cases st with
    | none =>
      rw [hc] at h
      simp only at h
      have : ∀ k, (runS k none).2 = none := fun k => by
        have := runS_stuck 0 none rfl k
        rw [Nat.zero_add] at this
        rw [this]; rfl
      split at h
      · cases h
      · rename_i s hs
        rw [this] at hs
        cases hs
    | some z =>
      rw [keeps_count 65536 x y n z hc]
      rw [hc] at h
      simp only at h ⊢
      cases hr : runS n.toNat (some z) with
      | mk L st2 =>
        rw [hr] at h
        cases st2 with
        | none => cases h
        | some q =>
          simp only at h
          injection h with h1 h2
          injection h2 with h2
          subst h1 h2
          rw [keeps_run n.toNat z y L q hr]
theorem textS_none0 : textS none = (⟨#[]⟩, none) := by
  unfold textS countS
  split <;> rfl
/-- The three readings, one behind the other. -/
def threeS (st : St) : St := (textS (numS 8 (textsS st).2).2).2
theorem three_keeps (x y r : ByteArray) (h : threeS (some x) = some r) : threeS (some (x ++ y)) = some (r ++ y) := by
  unfold threeS at h ⊢
  cases h1 : textsS (some x) with
  | mk L st =>
    rw [h1] at h
    cases st with
    | none => cases h
    | some z =>
      rw [keeps_texts x y L z h1]
      simp only at h ⊢
      cases h2 : numS 8 (some z) with
      | mk n st2 =>
        rw [h2] at h
        cases st2 with
        | none => simp only at h; rw [textS_none0] at h; cases h
        | some q =>
          rw [keeps_num 8 z y n q h2]
          simp only at h ⊢
          cases h3 : textS (some q) with
          | mk t st3 =>
            rw [h3] at h
            simp only at h
            subst h
            rw [keeps_text q y t r h3]
/-- Cut anywhere, it is bad behind the three readings. -/
theorem cut_bad (l : List ByteArray) (n : Int) (s : ByteArray) (hl : l.length ≤ 65536) (hz : ∀ s ∈ l, s.size ≤ 1048576) (hn : numB (be 8 n) = n) (hs : s.size ≤ 1048576) (k : Nat) (hk : k < (bz (tesB l ++ (be 8 n ++ teB s))).size) :
    threeS (some ((bz (tesB l ++ (be 8 n ++ teB s))).extract 0 k)) = none := by
  have hfull : threeS (some (bz (tesB l ++ (be 8 n ++ teB s)))) = some ⟨#[]⟩ := by
    unfold threeS
    rw [texts_back l _ hl hz]
    simp only
    rw [num_back 8 n _ hn]
    simp only
    have := text_back s [] hs
    rw [List.append_nil] at this
    rw [this]; rfl
  generalize bz (tesB l ++ (be 8 n ++ teB s)) = b at *
  cases h : threeS (some (b.extract 0 k)) with
  | none => rfl
  | some r =>
    have h2 := three_keeps _ (b.extract k b.size) r h
    have hb : b.extract 0 k ++ b.extract k b.size = b := by
      apply ba_list
      rw [ByteArray.data_append, Array.toList_append, Lib.extract_data, Lib.extract_data, List.drop_zero, Nat.sub_zero]
      rw [List.take_of_length_le (l := b.data.toList.drop k) (by simp)]
      exact List.take_append_drop _ _
    rw [hb, hfull] at h2
    injection h2 with h2
    have h3 := congrArg ByteArray.size h2
    rw [ByteArray.size_append, ByteArray.size_extract] at h3
    have : (⟨#[]⟩ : ByteArray).size = 0 := rfl
    omega
end Go.Proofs.YtkbgmdabmebdhaaGreatDoor.oc
