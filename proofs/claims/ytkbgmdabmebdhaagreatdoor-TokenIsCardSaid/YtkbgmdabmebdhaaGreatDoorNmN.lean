/- The number of digits: the program's Num and the reference's. -/
import Derived.Test.YtkbgmdabmebdhaaGreatDoorNmD
import Derived.Lib.AtoiErrMem
namespace Go.Proofs.YtkbgmdabmebdhaaGreatDoor.nm
open Go.ChangeShapes Go.WideShapes Go.ChangeAt Go.RowKit Go.Proofs.Aid Go.Proofs.YtkbgmdabmebdhaaGreatDoor.num
def num (s : ByteArray) : Option Int := numD s.data.toList
def numV (s : ByteArray) : Int := (num s).getD 0
def numR (s : ByteArray) : Ending := .returned (.tuple #[.int .i64 (numV s), .bool (num s).isSome])
theorem numR_some {s : ByteArray} {v : Int} (h : num s = some v) : numR s = .returned (.tuple #[.int .i64 v, .bool true]) := by simp [numR, numV, h]
theorem numR_none {s : ByteArray} (h : num s = none) : numR s = .returned (.tuple #[.int .i64 0, .bool false]) := by simp [numR, numV, h]
theorem str_eq {a : ByteArray} {l : List UInt8} (h : l = a.data.toList) : a = ⟨l.toArray⟩ := by
  apply ByteArray.ext; apply Array.toList_inj.1; simp [h]
theorem strs_ne {x s : ByteArray} (h : x ≠ s) : (x.toList == s.toList) = false := by
  rw [beq_eq_false_iff_ne]
  intro e
  apply h; apply ByteArray.ext; apply Array.toList_inj.1; rw [← Lib.toList_data, ← Lib.toList_data]; exact e
set_option maxHeartbeats 1000000 in
theorem num_any (s : ByteArray) (w : World) (hs : s.size ≤ 281474976710656) (hL : Hid (Lets w)) :
    Calls Tryz.prog 61 #[.string s] w fun e w' => e = numR s ∧ Below w.heap.size w w' := by
  cases h : Lib.atoiAll s.data.toList with
  | ok v =>
    have hb := Lib.atoiAll_bounds h
    have hA := Lib.hid (Tryz.strconv_Atoi_ok s (by omega) v h w)
    by_cases hE : Lib.itoa v = s.data.toList
    · have hR := Lib.hid (numR_some (s := s) (v := v) (by unfold num numD; rw [h]; simp [hE]))
      have hd : s = dec v := str_eq hE
      clear h hE
      subst hd
      go_enter Tryz.func61, Tryz.ntmps61
      go_wp2_with fail
      refine hA.out.mono ?_
      rintro e w1 ⟨rfl, e1⟩
      have hb1 : Hid (Below w.heap.size w w1) := by
        rcases e1 with rfl | ⟨t, rfl⟩
        · exact Below.refl _ _
        · exact Lib.bytesWorld_below _ _ _
      clear e1
      have hL1 := Lib.hid (hL.out.next hb1.out)
      go_wp2_with fail
      refine (dec_any v w1 hb.1 hb.2 hL1).mono ?_
      rintro e w2 ⟨rfl, hb2⟩
      have hb3 := Lib.hid (hb1.out.trans (hb2.mono hb1.out.size))
      clear hb2
      go_wp2
      go_ret2
      exact ⟨hR.out.symm, hb3.out⟩
    · have hR := Lib.hid (numR_none (s := s) (by unfold num numD; rw [h]; simp [hE]))
      have hne := strs_ne (x := dec v) (s := s) (fun e => hE (by rw [← e]; rfl))
      go_enter Tryz.func61, Tryz.ntmps61
      go_wp2_with fail
      refine hA.out.mono ?_
      rintro e w1 ⟨rfl, e1⟩
      have hb1 : Hid (Below w.heap.size w w1) := by
        rcases e1 with rfl | ⟨t, rfl⟩
        · exact Below.refl _ _
        · exact Lib.bytesWorld_below _ _ _
      clear e1
      have hL1 := Lib.hid (hL.out.next hb1.out)
      go_wp2_with fail
      refine (dec_any v w1 hb.1 hb.2 hL1).mono ?_
      rintro e w2 ⟨rfl, hb2⟩
      have hb3 := Lib.hid (hb1.out.trans (hb2.mono hb1.out.size))
      clear hb2
      generalize dec v = dv at *
      go_wp2
      go_ret2
      exact ⟨hR.out.symm, hb3.out⟩
  | «syntax» =>
    have hR := Lib.hid (numR_none (s := s) (by unfold num numD; rw [h]))
    obtain ⟨tp, p, hv⟩ := hL.out.syn
    have hA := Lib.hid (Tryz.strconv_Atoi_syntax_var s hs h tp p w hv)
    go_enter Tryz.func61, Tryz.ntmps61
    go_wp2_with fail
    refine hA.out.mono ?_
    rintro e w1 ⟨N, rfl, -, -, hb1⟩
    have hb1 := Lib.hid hb1
    go_wp2
    go_ret2
    exact ⟨hR.out.symm, hb1.out⟩
  | range =>
    have hR := Lib.hid (numR_none (s := s) (by unfold num numD; rw [h]))
    obtain ⟨tp, p, hv⟩ := hL.out.ran
    have hA := Lib.hid (Tryz.strconv_Atoi_range_var s hs h tp p w hv)
    go_enter Tryz.func61, Tryz.ntmps61
    go_wp2_with fail
    refine hA.out.mono ?_
    rintro e w1 ⟨N, rfl, -, -, hb1⟩
    have hb1 := Lib.hid hb1
    go_wp2
    go_ret2
    exact ⟨hR.out.symm, hb1.out⟩
theorem drop_at (s : ByteArray) (k : Nat) (h : k < s.size) : s.data.toList.drop k = s[k] :: s.data.toList.drop (k + 1) := by
  rw [List.drop_eq_getElem_cons (by simpa using h)]; rfl
theorem step_bounds (m : Int) (c : UInt8) : -9223372036854775808 ≤ dstep m c ∧ dstep m c ≤ 9223372036854775807 := wrap_bounds _
theorem rnum_long {s : ByteArray} (h : 20 < s.size ∨ s.size = 0) : num s = none := by
  unfold num
  rw [← ref_num]
  unfold refNum
  rw [if_pos]
  rcases h with h | h
  · left; simpa using h
  · right; apply List.length_eq_zero_iff.1; simpa using h
theorem rnum_plain {s : ByteArray} (h1 : ¬ 20 < s.size) (h2 : ¬ s.size = 0) (h : s.data.toList.head? ≠ some 45) :
    num s = match fold 0 (s.data.toList.drop 0) with | none => none | some m => if Lib.itoa (IntKind.i64.wrap (-m)) = s.data.toList then some (IntKind.i64.wrap (-m)) else none := by
  unfold num
  rw [← ref_num]
  unfold refNum
  rw [if_neg (by
    rintro (e | e)
    · exact h1 (by simpa using e)
    · exact h2 (by have := congrArg List.length e; simpa using this))]
  simp only [if_neg h, List.drop_zero]
  rfl
theorem rnum_minus {s : ByteArray} (h1 : ¬ 20 < s.size) (h2 : ¬ s.size = 0) (h : s.data.toList.head? = some 45) :
    num s = match fold 0 (s.data.toList.drop 1) with | none => none | some m => if Lib.itoa m = s.data.toList then some m else none := by
  unfold num
  rw [← ref_num]
  unfold refNum
  rw [if_neg (by
    rintro (e | e)
    · exact h1 (by simpa using e)
    · exact h2 (by have := congrArg List.length e; simpa using this))]
  simp only [if_pos h, List.drop_one]
  rfl
theorem head_at {s : ByteArray} (h : 0 < s.size) : s.data.toList.head? = some (s[0]'h) := by
  rw [List.head?_eq_getElem?, List.getElem?_eq_getElem (by simpa using h)]; rfl
set_option maxHeartbeats 2000000 in
theorem rnum_any (s : ByteArray) (w : World) (hs : s.size ≤ 281474976710656) :
    Calls Tryz.prog 64 #[.string s] w fun e w' => e = numR s ∧ Below w.heap.size w w' := by
  by_cases h20 : 20 < s.size
  · have hR := Lib.hid (numR_none (rnum_long (.inl h20)))
    go_enter Tryz.func64, Tryz.ntmps64
    go_wp2
    go_ret2
    exact ⟨hR.out.symm, Below.refl _ _⟩
  · by_cases hz : s.size = 0
    · have hR := Lib.hid (numR_none (rnum_long (.inr hz)))
      have he : s = ByteArray.empty := by
        apply ByteArray.ext; apply Array.eq_empty_of_size_eq_zero; exact hz
      subst he
      go_enter Tryz.func64, Tryz.ntmps64
      go_wp2
      go_ret2
      exact ⟨hR.out.symm, Below.refl _ _⟩
    · have hne : s.toList.isEmpty = false := by
        have : ¬ s.toList = [] := fun e => hz (by rw [Lib.toList_data] at e; have := congrArg List.length e; simpa using this)
        simpa using this
      have hp : 0 < s.size := by omega
      by_cases h45 : (s[0]'hp).toNat = 45
      · have hh := head_at hp
        have h45' : s[0]'hp = 45 := UInt8.toNat_inj.1 h45
        rw [h45'] at hh
        have hM := Lib.hid (rnum_minus h20 hz hh)
        clear hh h45'
        obtain ⟨F, hFe⟩ : ∃ F, F = fold 0 (s.data.toList.drop 1) := ⟨_, rfl⟩
        rw [← hFe] at hM
        have hF := Lib.hid hFe
        have HM := Lib.hid hM
        clear hM hFe
        go_enter Tryz.func64, Tryz.ntmps64
        go_wp2
        go_loopw [4, 6] (fun nv iv w' => ∃ (k : Nat) (m : Int), 1 ≤ k ∧ k ≤ s.size ∧ nv = .int .i64 m ∧ iv = .int .i64 k ∧ w' = w ∧ -9223372036854775808 ≤ m ∧ m ≤ 9223372036854775807 ∧ Hid (fold m (s.data.toList.drop k) = F)) (fun _ iv _ => s.size - (intOf iv).toNat)
        case atStart => exact ⟨1, 0, by omega, by omega, rfl, rfl, rfl, by omega, by omega, hF.out.symm⟩
        case round =>
          obtain ⟨k, m, hk1, hk, rfl, rfl, rfl, hm0, hm1, hI⟩ := hrel
          by_cases hlt : k < s.size
          · have hd := Lib.hid (drop_at s k hlt)
            generalize hc : s[k]'hlt = c at *
            by_cases h48 : 48 ≤ c.toNat
            · by_cases h57 : c.toNat ≤ 57
              · have hI2 : Hid (fold (dstep m c) (s.data.toList.drop (k + 1)) = F) := by
                  have := hI.out
                  rw [hd.out, fold, if_pos ⟨h48, h57⟩] at this
                  exact this
                have hb := step_bounds m c
                have hst : dstep m c = wrap64 (wrap64 (m * 10) - ((c.toNat : Int) - 48)) := by unfold dstep; rw [IntWalk.i64_left, IntWalk.i64_left]
                generalize dstep m c = m2 at *
                go_wp2
                go_roundw
                case rel => exact ⟨k + 1, m2, by omega, by omega, by rw [hst], by go_num, by trivial, hb.1, hb.2, hI2⟩
                case measure => simp [intOf]; omega
              · have hI2 : Hid (F = none) := by
                  have := hI.out
                  rw [hd.out, fold, if_neg (by omega)] at this
                  exact this.symm
                have hR := Lib.hid (numR_none (s := s) (by rw [HM.out, hI2.out]))
                go_wp2
                go_ret2
                exact ⟨hR.out.symm, Below.refl _ _⟩
            · have hI2 : Hid (F = none) := by
                have := hI.out
                rw [hd.out, fold, if_neg (by omega)] at this
                exact this.symm
              have hR := Lib.hid (numR_none (s := s) (by rw [HM.out, hI2.out]))
              go_wp2
              go_ret2
              exact ⟨hR.out.symm, Below.refl _ _⟩
          · have hI2 : Hid (F = some m) := by
              have := hI.out
              rw [List.drop_eq_nil_of_le (by simp; omega)] at this
              exact this.symm
            have hd : Hid (num s = if Lib.itoa m = s.data.toList then some m else none) := by
              have := HM.out
              rw [hI2.out] at this
              exact this
            clear hI hI2 HM hF
            have hq0 : -9223372036854775808 ≤ m ∧ m ≤ 9223372036854775807 := ⟨hm0, hm1⟩
            by_cases hE : Lib.itoa m = s.data.toList
            · have hR := Lib.hid (numR_some (s := s) (v := m) (by rw [hd.out, if_pos hE]))
              have hse : Hid (s = dec m) := str_eq hE
              clear hE
              go_wp2_with fail
              refine (rdec_any m _ hq0.1 hq0.2).mono ?_
              rintro e w1 ⟨rfl, hb1⟩
              have hb1 := Lib.hid hb1
              rw [← hse.out]
              go_wp2
              go_ret2
              exact ⟨hR.out.symm, hb1.out⟩
            · have hR := Lib.hid (numR_none (s := s) (by rw [hd.out, if_neg hE]))
              have hne2 := strs_ne (x := dec m) (s := s) (fun e => hE (by rw [← e]; rfl))
              go_wp2_with fail
              refine (rdec_any m _ hq0.1 hq0.2).mono ?_
              rintro e w1 ⟨rfl, hb1⟩
              have hb1 := Lib.hid hb1
              generalize dec m = dm at *
              go_wp2
              go_ret2
              exact ⟨hR.out.symm, hb1.out⟩
      · have hM := Lib.hid (rnum_plain h20 hz (by rw [head_at hp]; intro e; exact h45 (by have := Option.some.inj e; rw [this]; rfl)))
        have h45b : (((s[0]'hp).toNat : Int) == 45) = false := by
          rw [beq_eq_false_iff_ne]; omega
        obtain ⟨F, hFe⟩ : ∃ F, F = fold 0 (s.data.toList.drop 0) := ⟨_, rfl⟩
        rw [← hFe] at hM
        have hF := Lib.hid hFe
        have HM := Lib.hid hM
        clear hM hFe
        go_enter Tryz.func64, Tryz.ntmps64
        go_wp2
        go_loopw [4, 6] (fun nv iv w' => ∃ (k : Nat) (m : Int), k ≤ s.size ∧ nv = .int .i64 m ∧ iv = .int .i64 k ∧ w' = w ∧ -9223372036854775808 ≤ m ∧ m ≤ 9223372036854775807 ∧ Hid (fold m (s.data.toList.drop k) = F)) (fun _ iv _ => s.size - (intOf iv).toNat)
        case atStart => exact ⟨0, 0, by omega, rfl, rfl, rfl, by omega, by omega, hF.out.symm⟩
        case round =>
          obtain ⟨k, m, hk, rfl, rfl, rfl, hm0, hm1, hI⟩ := hrel
          by_cases hlt : k < s.size
          · have hd := Lib.hid (drop_at s k hlt)
            generalize hc : s[k]'hlt = c at *
            by_cases h48 : 48 ≤ c.toNat
            · by_cases h57 : c.toNat ≤ 57
              · have hI2 : Hid (fold (dstep m c) (s.data.toList.drop (k + 1)) = F) := by
                  have := hI.out
                  rw [hd.out, fold, if_pos ⟨h48, h57⟩] at this
                  exact this
                have hb := step_bounds m c
                have hst : dstep m c = wrap64 (wrap64 (m * 10) - ((c.toNat : Int) - 48)) := by unfold dstep; rw [IntWalk.i64_left, IntWalk.i64_left]
                generalize dstep m c = m2 at *
                go_wp2
                go_roundw
                case rel => exact ⟨k + 1, m2, by omega, by rw [hst], by go_num, by trivial, hb.1, hb.2, hI2⟩
                case measure => simp [intOf]; omega
              · have hI2 : Hid (F = none) := by
                  have := hI.out
                  rw [hd.out, fold, if_neg (by omega)] at this
                  exact this.symm
                have hR := Lib.hid (numR_none (s := s) (by rw [HM.out, hI2.out]))
                go_wp2
                go_ret2
                exact ⟨hR.out.symm, Below.refl _ _⟩
            · have hI2 : Hid (F = none) := by
                have := hI.out
                rw [hd.out, fold, if_neg (by omega)] at this
                exact this.symm
              have hR := Lib.hid (numR_none (s := s) (by rw [HM.out, hI2.out]))
              go_wp2
              go_ret2
              exact ⟨hR.out.symm, Below.refl _ _⟩
          · have hI2 : Hid (F = some m) := by
              have := hI.out
              rw [List.drop_eq_nil_of_le (by simp; omega)] at this
              exact this.symm
            have hd : Hid (num s = if Lib.itoa (IntKind.i64.wrap (-m)) = s.data.toList then some (IntKind.i64.wrap (-m)) else none) := by
              have := HM.out
              rw [hI2.out] at this
              exact this
            clear hI hI2 HM hF
            have hb := wrap_bounds (-m)
            rw [IntWalk.i64_left] at hb hd
            generalize hq : wrap64 (-m) = q at *
            have hq0 : -9223372036854775808 ≤ q ∧ q ≤ 9223372036854775807 := by omega
            by_cases hE : Lib.itoa q = s.data.toList
            · have hR := Lib.hid (numR_some (s := s) (v := q) (by rw [hd.out, if_pos hE]))
              have hse : Hid (s = dec q) := str_eq hE
              clear hE
              go_wp2_with fail
              refine (rdec_any q _ hq0.1 hq0.2).mono ?_
              rintro e w1 ⟨rfl, hb1⟩
              have hb1 := Lib.hid hb1
              rw [← hse.out]
              go_wp2
              go_ret2
              exact ⟨hR.out.symm, hb1.out⟩
            · have hR := Lib.hid (numR_none (s := s) (by rw [hd.out, if_neg hE]))
              have hne2 := strs_ne (x := dec q) (s := s) (fun e => hE (by rw [← e]; rfl))
              go_wp2_with fail
              refine (rdec_any q _ hq0.1 hq0.2).mono ?_
              rintro e w1 ⟨rfl, hb1⟩
              have hb1 := Lib.hid hb1
              generalize dec q = dq at *
              go_wp2
              go_ret2
              exact ⟨hR.out.symm, hb1.out⟩
end Go.Proofs.YtkbgmdabmebdhaaGreatDoor.nm
