/- The walks of the reference's name and register. -/
import Derived.Test.YtfkjoeibofnnoaaDoorRegB
import Derived.Test.YtfkjoeibofnnoaaDoorRegM
import Derived.WalkLawsBesides
namespace Go.Proofs.YtfkjoeibofnnoaaDoor.reg
open Go.ChangeShapes Go.WideShapes Go.ChangeAt Go.RowKit Go.Proofs.Aid Go.Proofs.YtfkjoeibofnnoaaDoor.name
theorem fitB_of {c : Int} (h : (97 ≤ c ∧ c ≤ 122) ∨ (48 ≤ c ∧ c ≤ 57) ∨ c = 45) : fitB c = true := by
  unfold fitB; simp only [Bool.or_eq_true, Bool.and_eq_true, decide_eq_true_eq, beq_iff_eq]; omega
theorem fitB_not {c : Int} (h : ¬ ((97 ≤ c ∧ c ≤ 122) ∨ (48 ≤ c ∧ c ≤ 57) ∨ c = 45)) : fitB c = false := by
  unfold fitB; simp only [Bool.or_eq_false_iff, Bool.and_eq_false_iff, decide_eq_false_iff_not, beq_eq_false_iff_ne]; omega
set_option maxHeartbeats 2000000 in
theorem rname_any (s : ByteArray) (w : World) (hs : s.size ≤ maxLen) : Calls Tryd.prog 29 #[.string s] w fun e w' => e = .returned (.bool (isName s.data.toList)) ∧ w' = w := by
  unfold maxLen at hs
  have hN := Lib.hid (show isName s.data.toList = (decide (1 ≤ s.size) && decide (s.size ≤ 16) && fits s.data.toList) from by unfold isName; simp)
  go_enter Tryd.func29, Tryd.ntmps29
  go_wp2_with fail
  go_loopw [3] (fun iv w' => ∃ k : Nat, k ≤ s.size ∧ iv = .int .i64 k ∧ w' = w ∧ Hid (fits s.data.toList = fits (s.data.toList.drop k))) (fun iv _ => s.size - (intOf iv).toNat)
  case atStart => exact ⟨0, by omega, rfl, rfl, by rw [List.drop_zero]; exact rfl⟩
  case round =>
    obtain ⟨k, hk, rfl, rfl, hI⟩ := hrel
    by_cases hp : k < s.size
    · have hd := Lib.hid (fits_drop s k hp)
      by_cases h1 : 97 ≤ ((s[k]'hp).toNat : Int) ∧ ((s[k]'hp).toNat : Int) ≤ 122
      · have hI2 := Lib.hid (hI.out.trans (hd.out.trans (by rw [fitB_of (.inl h1), Bool.true_and])))
        obtain ⟨x, y⟩ := h1
        go_wp2
        go_roundw
        case rel => exact ⟨k + 1, by omega, by go_num, trivial, hI2⟩
        case measure => simp [intOf]; omega
      · by_cases h2 : 48 ≤ ((s[k]'hp).toNat : Int) ∧ ((s[k]'hp).toNat : Int) ≤ 57
        · have hI2 := Lib.hid (hI.out.trans (hd.out.trans (by rw [fitB_of (.inr (.inl h2)), Bool.true_and])))
          obtain ⟨x, y⟩ := h2
          clear h1
          go_wp2
          go_roundw
          case rel => exact ⟨k + 1, by omega, by go_num, trivial, hI2⟩
          case measure => simp [intOf]; omega
        · by_cases h3 : ((s[k]'hp).toNat : Int) = 45
          · have hI2 := Lib.hid (hI.out.trans (hd.out.trans (by rw [fitB_of (.inr (.inr h3)), Bool.true_and])))
            clear h1 h2
            go_wp2
            all_goals try (exfalso; omega)
            go_roundw
            case rel => exact ⟨k + 1, by omega, by go_num, trivial, hI2⟩
            case measure => simp [intOf]; omega
          · have hI2 := Lib.hid (hI.out.trans (hd.out.trans (by rw [fitB_not (by omega), Bool.false_and])))
            have hN2 := Lib.hid (show isName s.data.toList = false by rw [hN.out, hI2.out]; simp)
            have h3' : (((s[k]'hp).toNat : Int) == 45) = false := by simpa using h3
            clear hN hI hI2 hd
            by_cases x : ((s[k]'hp).toNat : Int) < 97 <;> by_cases y : ((s[k]'hp).toNat : Int) < 48
            all_goals try (exfalso; omega)
            all_goals
              go_wp2
            all_goals try (exfalso; omega)
            all_goals
              go_ret
              exact ⟨ret_bool (by rw [hN2.out]), rfl⟩
    · have hI2 := Lib.hid (hI.out.trans (by rw [List.drop_eq_nil_of_le (by simp; omega)]))
      have hN2 := Lib.hid (show isName s.data.toList = (decide (1 ≤ s.size) && decide (s.size ≤ 16)) by rw [hN.out, hI2.out]; simp [fits])
      clear hN hI hI2
      go_wp2
      all_goals
        go_ret
        refine ⟨ret_bool ?_, rfl⟩
        rw [hN2.out]
        rw [Bool.eq_iff_iff]
        simp
        omega
theorem gtr_cmp : ∀ (a b : List UInt8), (!(Op.bytesLess a b || a == b)) = decide (0 < Lib.compareBytes a b)
  | [], [] => by simp [Op.bytesLess, Lib.compareBytes]
  | [], _ :: _ => by simp [Op.bytesLess, Lib.compareBytes]
  | _ :: _, [] => by simp [Op.bytesLess, Lib.compareBytes]
  | a :: l, b :: m => by
    have ih := gtr_cmp l m
    unfold Op.bytesLess Lib.compareBytes
    by_cases h1 : a < b
    · simp [h1]
    · by_cases h2 : b < a
      · have h3 : ¬ a = b := fun e => by subst e; exact h1 h2
        simp [h1, h2, h3]
      · have h3 : a = b := by
          apply UInt8.le_antisymm
          · exact UInt8.not_lt.mp h2
          · exact UInt8.not_lt.mp h1
        subst h3
        simp only [h1, if_false, decide_false, Bool.false_or, beq_self_eq_true, Bool.true_and]
        rw [← ih]
        simp
theorem newer_n {an bn : Int} {ab av bb bv : ByteArray} (h : an ≠ bn) : Rg.newer ⟨an, ab, av⟩ ⟨bn, bb, bv⟩ = decide (bn < an) := by
  unfold Rg.newer Rg.comp or3 cmpI
  simp only
  by_cases h1 : an < bn
  · have h2 : ¬ bn < an := by omega
    simp [h1, h2]
  · have h2 : bn < an := by omega
    simp [h1, h2]
theorem cmpI_self (a : Int) : cmpI a a = 0 := by unfold cmpI; simp
theorem newer_b {n : Int} {ab av bb bv : ByteArray} (h : ¬ ab.toList = bb.toList) : Rg.newer ⟨n, ab, av⟩ ⟨n, bb, bv⟩ = decide (0 < Lib.compareBytes ab.toList bb.toList) := by
  unfold Rg.newer Rg.comp or3
  simp only [cmpI_self]
  rw [Lib.toList_data, Lib.toList_data] at *
  have : Lib.compareBytes ab.data.toList bb.data.toList ≠ 0 := fun e => h (cb_eq _ _ e)
  simp [this]
theorem newer_v {n : Int} {ab av bb bv : ByteArray} (h : ab.toList = bb.toList) : Rg.newer ⟨n, ab, av⟩ ⟨n, bb, bv⟩ = decide (0 < Lib.compareBytes av.toList bv.toList) := by
  unfold Rg.newer Rg.comp or3
  simp only [cmpI_self]
  rw [Lib.toList_data, Lib.toList_data] at *
  rw [h, cb_self]
  by_cases h0 : Lib.compareBytes av.data.toList bv.data.toList = 0
  · simp [h0]
  · simp
theorem rname_bel (s : ByteArray) (w : World) (hs : s.size ≤ maxLen) : Calls Tryd.prog 29 #[.string s] w fun e w' => e = .returned (.bool (isName s.data.toList)) ∧ Below w.heap.size w w' :=
  (rname_any s w hs).mono fun e w' h => ⟨h.1, by rw [h.2]; exact Below.refl _ _⟩
end Go.Proofs.YtfkjoeibofnnoaaDoor.reg
