/- The walks of package name's Is and of its reference: a text is a name just if it has 1 to 16 bytes, each of which fits. -/
import Derived.Test.YtjbompimlopdiaaGreatDoorOpen
import Derived.Lib.Hide
import Derived.Laws.RangeAny
import Derived.WalkSpells
import Derived.Lib.Strings
namespace Go.Proofs.YtjbompimlopdiaaGreatDoor.name
open Go.ChangeShapes Go.WideShapes Go.ChangeAt Go.RowKit Go.Proofs.Aid
def fitB (c : Int) : Bool := (decide (97 ≤ c) && decide (c ≤ 122)) || (decide (48 ≤ c) && decide (c ≤ 57)) || (c == 45)
def fits (l : List UInt8) : Bool := l.all fun c => fitB (c.toNat : Int)
def isName (l : List UInt8) : Bool := decide (1 ≤ l.length) && decide (l.length ≤ 16) && fits l
theorem ret_bool {a b : Bool} (h : a = b) : Ending.returned (.bool a) = .returned (.bool b) := by rw [h]
theorem fits_any (c : Int) (w : World) : Calls Tryz.prog 57 #[.int .i32 c] w fun e w' => e = .returned (.bool (fitB c)) ∧ w' = w := by
  have hF := Lib.hid (show fitB c = ((decide (97 ≤ c) && decide (c ≤ 122)) || (decide (48 ≤ c) && decide (c ≤ 57)) || (c == 45)) from rfl)
  by_cases h1 : 97 ≤ c ∧ c ≤ 122
  · obtain ⟨x, y⟩ := h1
    go_enter Tryz.func57, Tryz.ntmps57
    go_wp2
    go_ret
    exact ⟨ret_bool (by rw [hF.out]; simp [x, y]), rfl⟩
  · by_cases h2 : 48 ≤ c ∧ c ≤ 57
    · obtain ⟨x, y⟩ := h2
      go_enter Tryz.func57, Tryz.ntmps57
      go_wp2
      go_ret
      exact ⟨ret_bool (by rw [hF.out]; simp [x, y]), rfl⟩
    · by_cases h3 : c = 45
      · subst h3
        go_enter Tryz.func57, Tryz.ntmps57
        go_wp2
        go_ret
        exact ⟨ret_bool (by rw [hF.out]; rfl), rfl⟩
      · have hR := Lib.hid (show fitB c = false by
          rw [hF.out]
          simp only [Bool.or_eq_false_iff, Bool.and_eq_false_iff, decide_eq_false_iff_not, beq_eq_false_iff_ne]
          omega)
        clear hF
        have h3' : (c == 45) = false := by simpa using h3
        by_cases x : 97 ≤ c <;> by_cases y : 48 ≤ c
        all_goals try (exfalso; omega)
        all_goals
          go_enter Tryz.func57, Tryz.ntmps57
          go_wp2
          go_ret
          refine ⟨ret_bool (Eq.symm (hR.out.trans ?_)), rfl⟩
          first | rfl | (simp; done) | (simp; omega)
theorem fits_drop (s : ByteArray) (k : Nat) (h : k < s.size) : fits (s.data.toList.drop k) = (fitB (s[k].toNat : Int) && fits (s.data.toList.drop (k + 1))) := by
  unfold fits
  rw [List.drop_eq_getElem_cons (by simpa using h), List.all_cons]; rfl
theorem fitB_high (c : Int) (h : 128 ≤ c) : fitB c = false := by
  unfold fitB; simp only [Bool.or_eq_false_iff, Bool.and_eq_false_iff, decide_eq_false_iff_not, beq_eq_false_iff_ne]; omega
set_option maxHeartbeats 1000000 in
theorem is_any (s : ByteArray) (w : World) (hs : s.size ≤ maxLen) : Calls Tryz.prog 36 #[.string s] w fun e w' => e = .returned (.bool (isName s.data.toList)) ∧ Below w.heap.size w w' := by
  unfold maxLen at hs
  have hN := Lib.hid (show isName s.data.toList = (decide (1 ≤ s.size) && decide (s.size ≤ 16) && fits s.data.toList) from by unfold isName; simp)
  by_cases h0 : s.size = 0
  · have he : s = ByteArray.empty := by
      apply ByteArray.ext; apply Array.eq_empty_of_size_eq_zero; exact h0
    subst he
    go_enter Tryz.func36, Tryz.ntmps36
    go_wp2
    go_ret
    exact ⟨ret_bool (by rw [hN.out]; rfl), Below.refl _ _⟩
  · have hne : ¬ s.toList = [] := fun e => h0 (by rw [Lib.toList_data] at e; have := congrArg List.length e; simpa using this)
    have hne2 : s.toList.isEmpty = false := by simpa using hne
    by_cases h1 : 16 < s.size
    · go_enter Tryz.func36, Tryz.ntmps36
      go_wp2
      go_ret
      exact ⟨ret_bool (by rw [hN.out]; simp; omega), Below.refl _ _⟩
    · have hN2 := Lib.hid (show isName s.data.toList = fits s.data.toList by rw [hN.out]; simp; omega)
      clear hN
      go_enter Tryz.func36, Tryz.ntmps36
      go_wp2
      go_loopw [4] (fun _ w' => ∃ pos : Nat, w' = w.iter s pos ∧ Hid (isName s.data.toList = fits (s.data.toList.drop pos))) (fun _ w' => s.size - w'.iterPos w.heap.size)
      case atStart => exact ⟨0, rfl, by rw [List.drop_zero]; exact hN2.out⟩
      case round =>
        obtain ⟨pos, rfl, hI⟩ := hrel
        have hlow := Lib.hid (show Below w.heap.size w (w.iter s pos) from (Below.refl _ _).alloc (Nat.le_refl _) _)
        by_cases hp : pos < s.size
        · have hd := Lib.hid (fits_drop s pos hp)
          by_cases ha : (s[pos]'hp).toNat < 128
          · have hnx : ∀ ty, (Instr.next (.pointer (some ⟨w.heap.size, 0, none⟩)) true ty).run Tryz.prog (w.iter s pos) = _ := fun ty => run_next_ascii w s pos ty hp ha
            cases hf : fitB ((s[pos]'hp).toNat : Int)
            · have hI2 := Lib.hid (hI.out.trans (hd.out.trans (by rw [hf])))
              go_wp2_with fail
              refine (fits_any _ _).mono ?_
              rw [hf]
              rintro e w1 ⟨rfl, rfl⟩
              go_wp2
              go_ret
              exact ⟨ret_bool (by rw [hI2.out]; rfl), (Below.refl _ _).alloc (Nat.le_refl _) _⟩
            · have hI2 := Lib.hid (hI.out.trans (hd.out.trans (by rw [hf])))
              go_wp2_with fail
              refine (fits_any _ _).mono ?_
              rw [hf]
              rintro e w1 ⟨rfl, rfl⟩
              go_wp2
              go_roundw
              case rel => exact ⟨pos + 1, rfl, by rw [hI2.out, Bool.true_and]; rfl⟩
              case measure => simp; omega
          · have hnx : ∀ ty, (Instr.next (.pointer (some ⟨w.heap.size, 0, none⟩)) true ty).run Tryz.prog (w.iter s pos) = _ := fun ty => run_next_any w s pos ty hp
            have hh := (decode_high s pos hp (by omega)).1
            have hf := fitB_high ((Utf8.decode s pos).1 : Int) (by omega)
            have hI2 := Lib.hid (hI.out.trans (hd.out.trans (by rw [fitB_high _ (by omega)])))
            go_wp2_with fail
            refine (fits_any _ _).mono ?_
            rw [hf]
            rintro e w1 ⟨rfl, rfl⟩
            go_wp2
            go_ret
            exact ⟨ret_bool (by rw [hI2.out]; rfl), (Below.refl _ _).alloc (Nat.le_refl _) _⟩
        · have hnx : ∀ ty, (Instr.next (.pointer (some ⟨w.heap.size, 0, none⟩)) true ty).run Tryz.prog (w.iter s pos) = _ := fun ty => run_next_end w s pos ty hp
          have hI2 := Lib.hid (hI.out.trans (by rw [List.drop_eq_nil_of_le (by simp; omega)]))
          go_wp2
          go_ret
          exact ⟨ret_bool (by rw [hI2.out]; rfl), (Below.refl _ _).alloc (Nat.le_refl _) _⟩
end Go.Proofs.YtjbompimlopdiaaGreatDoor.name
