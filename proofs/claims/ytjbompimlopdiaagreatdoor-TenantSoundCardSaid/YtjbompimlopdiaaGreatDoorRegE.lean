/- The walks of the reference's name and register. -/
import Derived.Test.YtjbompimlopdiaaGreatDoorRegB
import Derived.Test.YtjbompimlopdiaaGreatDoorRegM
import Derived.WalkLawsBesides
namespace Go.Proofs.YtjbompimlopdiaaGreatDoor.reg
open Go.ChangeShapes Go.WideShapes Go.ChangeAt Go.RowKit Go.Proofs.Aid Go.Proofs.YtjbompimlopdiaaGreatDoor.name
theorem fitB_of {c : Int} (h : (97 ≤ c ∧ c ≤ 122) ∨ (48 ≤ c ∧ c ≤ 57) ∨ c = 45) : fitB c = true := by
  unfold fitB; simp only [Bool.or_eq_true, Bool.and_eq_true, decide_eq_true_eq, beq_iff_eq]; omega
theorem fitB_not {c : Int} (h : ¬ ((97 ≤ c ∧ c ≤ 122) ∨ (48 ≤ c ∧ c ≤ 57) ∨ c = 45)) : fitB c = false := by
  unfold fitB; simp only [Bool.or_eq_false_iff, Bool.and_eq_false_iff, decide_eq_false_iff_not, beq_eq_false_iff_ne]; omega
set_option maxHeartbeats 2000000 in
theorem rname_any (s : ByteArray) (w : World) (hs : s.size ≤ maxLen) : Calls Tryz.prog 20 #[.string s] w fun e w' => e = .returned (.bool (isName s.data.toList)) ∧ w' = w := by
  unfold maxLen at hs
  have hN := Lib.hid (show isName s.data.toList = (decide (1 ≤ s.size) && decide (s.size ≤ 16) && fits s.data.toList) from by unfold isName; simp)
  go_enter Tryz.func20, Tryz.ntmps20
  go_wp2_with fail
  go_loopw [3] (fun iv w' => ∃ k : Nat, k ≤ s.size ∧ iv = .int .i64 k ∧ w' = w ∧ Hid (fits s.data.toList = fits (s.data.toList.drop k))) (fun iv _ => s.size - (intOf iv).toNat)
  case atStart => exact ⟨0, by omega, rfl, rfl, by rw [List.drop_zero]; exact rfl⟩
  case round =>
    obtain ⟨k, hk, rfl, rfl, hI⟩ := hrel
    by_cases hp : k < s.size
    · have hd := Lib.hid (fits_drop s k hp)
      by_cases h1 : 97 ≤ ((s[k]'hp).toNat : Int) ∧ ((s[k]'hp).toNat : Int) ≤ 122
      · have hI2 := Lib.hid (hI.out.trans (hd.out.trans (by rw [fitB_of (.inl h1), Bool.true_and])))
        obtain ⟨x, y⟩ := h1
        go_wp2
        go_roundw
        case rel => exact ⟨k + 1, by omega, by go_num, trivial, hI2⟩
        case measure => simp [intOf]; omega
      · by_cases h2 : 48 ≤ ((s[k]'hp).toNat : Int) ∧ ((s[k]'hp).toNat : Int) ≤ 57
        · have hI2 := Lib.hid (hI.out.trans (hd.out.trans (by rw [fitB_of (.inr (.inl h2)), Bool.true_and])))
          obtain ⟨x, y⟩ := h2
          clear h1
          go_wp2
          go_roundw
          case rel => exact ⟨k + 1, by omega, by go_num, trivial, hI2⟩
          case measure => simp [intOf]; omega
        · by_cases h3 : ((s[k]'hp).toNat : Int) = 45
          · have hI2 := Lib.hid (hI.out.trans (hd.out.trans (by rw [fitB_of (.inr (.inr h3)), Bool.true_and])))
            clear h1 h2
            go_wp2
            all_goals try (exfalso; omega)
            go_roundw
            case rel => exact ⟨k + 1, by omega, by go_num, trivial, hI2⟩
            case measure => simp [intOf]; omega
          · have hI2 := Lib.hid (hI.out.trans (hd.out.trans (by rw [fitB_not (by omega), Bool.false_and])))
            have hN2 := Lib.hid (show isName s.data.toList = false by rw [hN.out, hI2.out]; simp)
            have h3' : (((s[k]'hp).toNat : Int) == 45) = false := by simpa using h3
            clear hN hI hI2 hd
            by_cases x : ((s[k]'hp).toNat : Int) < 97 <;> by_cases y : ((s[k]'hp).toNat : Int) < 48
            all_goals try (exfalso; omega)
            all_goals
              go_wp2
            all_goals try (exfalso; omega)
            all_goals
              go_ret
              exact ⟨ret_bool (by rw [hN2.out]), rfl⟩
    · have hI2 := Lib.hid (hI.out.trans (by rw [List.drop_eq_nil_of_le (by simp; omega)]))
      have hN2 := Lib.hid (show isName s.data.toList = (decide (1 ≤ s.size) && decide (s.size ≤ 16)) by rw [hN.out, hI2.out]; simp [fits])
      clear hN hI hI2
      go_wp2
      all_goals
        go_ret
        refine ⟨ret_bool ?_, rfl⟩
        rw [hN2.out]
        rw [Bool.eq_iff_iff]
        simp
        omega
theorem gtr_cmp : ∀ (a b : List UInt8), (!(Op.bytesLess a b || a == b)) = decide (0 < Lib.compareBytes a b)
  | [], [] => by simp [Op.bytesLess, Lib.compareBytes]
  | [], _ :: _ => by simp [Op.bytesLess, Lib.compareBytes]
  | _ :: _, [] => by simp [Op.bytesLess, Lib.compareBytes]
  | a :: l, b :: m => by
    have ih := gtr_cmp l m
    unfold Op.bytesLess Lib.compareBytes
    by_cases h1 : a < b
    · simp [h1]
    · by_cases h2 : b < a
      · have h3 : ¬ a = b := fun e => by subst e; exact h1 h2
        simp [h1, h2, h3]
      · have h3 : a = b := by
          apply UInt8.le_antisymm
          · exact UInt8.not_lt.mp h2
          · exact UInt8.not_lt.mp h1
        subst h3
        simp only [h1, if_false, decide_false, Bool.false_or, beq_self_eq_true, Bool.true_and]
        rw [← ih]
        simp
set_option maxHeartbeats 2000000 in
theorem rmay_any (r : Rg) (W : World) (hb : r.by_.size ≤ maxLen) (hv : r.value.size ≤ maxLen) : Calls Tryz.prog 63 #[r.val] W fun e w' => e = .returned (.bool (decide r.may)) ∧ Below W.heap.size W w' := by
  obtain ⟨n, b, v⟩ := r
  simp only at hb hv
  have hb' := Lib.hid hb
  unfold maxLen at hb hv
  show Calls Tryz.prog 63 #[.agg #[.int .i64 n, .string b, .string v]] W _
  by_cases h1 : n < 1
  · have hc := Lib.hid (show ¬ Rg.may ⟨n, b, v⟩ from (fun h => by have := h.1; simp only at this; omega))
    go_enter Tryz.func63, Tryz.ntmps63
    go_wp2
    go_ret
    exact ⟨ret_bool (by rw [decide_eq_false hc.out]; try (simp; omega)), (Below.refl _ _).alloc (Nat.le_refl _) _⟩
  by_cases h2 : 9007199254740992 < n
  · have hc := Lib.hid (show ¬ Rg.may ⟨n, b, v⟩ from (fun h => by have := h.2.1; simp only at this; omega))
    go_enter Tryz.func63, Tryz.ntmps63
    go_wp2
    go_ret
    exact ⟨ret_bool (by rw [decide_eq_false hc.out]; try (simp; omega)), (Below.refl _ _).alloc (Nat.le_refl _) _⟩
  by_cases h3 : b.size = 0
  · obtain rfl := nil_of h3
    by_cases h4 : 256 < v.size
    · have hc := Lib.hid (show ¬ Rg.may ⟨n, ByteArray.empty, v⟩ from (fun h => by have := h.2.2.2; simp only at this; omega))
      go_enter Tryz.func63, Tryz.ntmps63
      go_wp2
      go_ret
      exact ⟨ret_bool (by rw [decide_eq_false hc.out]; try (simp; omega)), (Below.refl _ _).alloc (Nat.le_refl _) _⟩
    · have hc := Lib.hid (show Rg.may ⟨n, ByteArray.empty, v⟩ from ⟨by simp only; omega, by simp only; omega, .inl rfl, by simp only; omega⟩)
      go_enter Tryz.func63, Tryz.ntmps63
      go_wp2
      go_ret
      exact ⟨ret_bool (by rw [decide_eq_true hc.out]; try (simp; omega)), (Below.refl _ _).alloc (Nat.le_refl _) _⟩
  have hne := not_nil h3
  have hne2 : b.toList.isEmpty = false := by simpa using hne
  cases hi : isName b.data.toList
  · have hc := Lib.hid (show ¬ Rg.may ⟨n, b, v⟩ from (fun h => by have := h.2.2.1; simp only at this; rcases this with h | h; exact h3 h; rw [hi] at h; cases h))
    go_enter Tryz.func63, Tryz.ntmps63
    go_wp2_with fail
    refine (rname_any _ _ hb'.out).mono ?_
    rw [hi]
    rintro e w1 ⟨rfl, rfl⟩
    go_wp2
    go_ret
    exact ⟨ret_bool (by rw [decide_eq_false hc.out]; try (simp; omega)), (Below.refl _ _).alloc (Nat.le_refl _) _⟩
  · by_cases h4 : 256 < v.size
    · have hc := Lib.hid (show ¬ Rg.may ⟨n, b, v⟩ from (fun h => by have := h.2.2.2; simp only at this; omega))
      go_enter Tryz.func63, Tryz.ntmps63
      go_wp2_with fail
      refine (rname_any _ _ hb'.out).mono ?_
      rw [hi]
      rintro e w1 ⟨rfl, rfl⟩
      go_wp2
      go_ret
      exact ⟨ret_bool (by rw [decide_eq_false hc.out]; try (simp; omega)), (Below.refl _ _).alloc (Nat.le_refl _) _⟩
    · have hc := Lib.hid (show Rg.may ⟨n, b, v⟩ from ⟨by simp only; omega, by simp only; omega, .inr hi, by simp only; omega⟩)
      go_enter Tryz.func63, Tryz.ntmps63
      go_wp2_with fail
      refine (rname_any _ _ hb'.out).mono ?_
      rw [hi]
      rintro e w1 ⟨rfl, rfl⟩
      go_wp2
      go_ret
      exact ⟨ret_bool (by rw [decide_eq_true hc.out]; try (simp; omega)), (Below.refl _ _).alloc (Nat.le_refl _) _⟩
theorem newer_n {an bn : Int} {ab av bb bv : ByteArray} (h : an ≠ bn) : Rg.newer ⟨an, ab, av⟩ ⟨bn, bb, bv⟩ = decide (bn < an) := by
  unfold Rg.newer Rg.comp or3 cmpI
  simp only
  by_cases h1 : an < bn
  · have h2 : ¬ bn < an := by omega
    simp [h1, h2]
  · have h2 : bn < an := by omega
    simp [h1, h2]
theorem cmpI_self (a : Int) : cmpI a a = 0 := by unfold cmpI; simp
theorem newer_b {n : Int} {ab av bb bv : ByteArray} (h : ¬ ab.toList = bb.toList) : Rg.newer ⟨n, ab, av⟩ ⟨n, bb, bv⟩ = decide (0 < Lib.compareBytes ab.toList bb.toList) := by
  unfold Rg.newer Rg.comp or3
  simp only [cmpI_self]
  rw [Lib.toList_data, Lib.toList_data] at *
  have : Lib.compareBytes ab.data.toList bb.data.toList ≠ 0 := fun e => h (cb_eq _ _ e)
  simp [this]
theorem newer_v {n : Int} {ab av bb bv : ByteArray} (h : ab.toList = bb.toList) : Rg.newer ⟨n, ab, av⟩ ⟨n, bb, bv⟩ = decide (0 < Lib.compareBytes av.toList bv.toList) := by
  unfold Rg.newer Rg.comp or3
  simp only [cmpI_self]
  rw [Lib.toList_data, Lib.toList_data] at *
  rw [h, cb_self]
  by_cases h0 : Lib.compareBytes av.data.toList bv.data.toList = 0
  · simp [h0]
  · simp
theorem rnewer_any (a b : Rg) (W : World) : Calls Tryz.prog 84 #[a.val, b.val] W fun e w' => e = .returned (.bool (a.newer b)) ∧ Below W.heap.size W w' := by
  obtain ⟨an, ab, av⟩ := a
  obtain ⟨bn, bb, bv⟩ := b
  have hM := Lib.hid (MN.new W an bn ab av bb bv)
  show Calls Tryz.prog 84 #[.agg #[.int .i64 an, .string ab, .string av], .agg #[.int .i64 bn, .string bb, .string bv]] W _
  by_cases h1 : an = bn
  · subst h1
    by_cases h2 : ab.toList = bb.toList
    · have hN := Lib.hid ((newer_v (n := an) (av := av) (bv := bv) h2).trans (gtr_cmp _ _).symm)
      go_enter Tryz.func84, Tryz.ntmps84
      go_wp2
      go_ret
      exact ⟨ret_bool (by rw [hN.out]; simp), hM.out.low⟩
    · have hN := Lib.hid ((newer_b (n := an) (av := av) (bv := bv) h2).trans (gtr_cmp _ _).symm)
      have h2' : (ab.toList == bb.toList) = false := by simpa using h2
      go_enter Tryz.func84, Tryz.ntmps84
      go_wp2
      go_ret
      exact ⟨ret_bool (by rw [hN.out]; simp [h2]), hM.out.low⟩
  · have hN := Lib.hid (newer_n (ab := ab) (av := av) (bb := bb) (bv := bv) h1)
    have h1' : (an == bn) = false := by simpa using h1
    go_enter Tryz.func84, Tryz.ntmps84
    go_wp2
    go_ret
    exact ⟨ret_bool (by rw [hN.out]), hM.out.low⟩
theorem rname_bel (s : ByteArray) (w : World) (hs : s.size ≤ maxLen) : Calls Tryz.prog 20 #[.string s] w fun e w' => e = .returned (.bool (isName s.data.toList)) ∧ Below w.heap.size w w' :=
  (rname_any s w hs).mono fun e w' h => ⟨h.1, by rw [h.2]; exact Below.refl _ _⟩
theorem rjoin_any (a b : Rg) (W : World) : Calls Tryz.prog 64 #[a.val, b.val] W fun e w' => e = .returned (a.join b).val ∧ Below W.heap.size W w' := by
  obtain ⟨an, ab, av⟩ := a
  obtain ⟨bn, bb, bv⟩ := b
  have hN := Lib.hid (show Rg.join ⟨an, ab, av⟩ ⟨bn, bb, bv⟩ = if Rg.newer ⟨bn, bb, bv⟩ ⟨an, ab, av⟩ then ⟨bn, bb, bv⟩ else ⟨an, ab, av⟩ from rfl)
  have hM := (MN.new W an bn ab av bb bv)
  have hD : Blk (((W.alloc (.cells #[.int .i64 an, .string ab, .string av] 36)).alloc (.cells #[.int .i64 bn, .string bb, .string bv] 36)).alloc (.cells #[.int .i64 0, .string ByteArray.empty, .string ByteArray.empty] 36)) (W.heap.size + 2) 36 #[.int .i64 0, .string ByteArray.empty, .string ByteArray.empty] := by
    simpa using Blk.new ((W.alloc (.cells #[.int .i64 an, .string ab, .string av] 36)).alloc (.cells #[.int .i64 bn, .string bb, .string bv] 36)) 36 #[.int .i64 0, .string ByteArray.empty, .string ByteArray.empty]
  show Calls Tryz.prog 64 #[.agg #[.int .i64 an, .string ab, .string av], .agg #[.int .i64 bn, .string bb, .string bv]] W _
  have hM := (MN.alloc hM (.cells #[.int .i64 0, .string ByteArray.empty, .string ByteArray.empty] 36)).2.2.2.2.2.2
  go_enter Tryz.func64, Tryz.ntmps64
  go_wp2_with fail
  refine (rnewer_any ⟨bn, bb, bv⟩ ⟨an, ab, av⟩ _).mono ?_
  cases hq : Rg.newer ⟨bn, bb, bv⟩ ⟨an, ab, av⟩
  all_goals
    rw [hq] at hN
    have hN2 := Lib.hid hN.out
    simp only [if_true, Bool.false_eq_true, if_false] at hN2
    clear hN hq
    rintro e w1 ⟨rfl, hb⟩
    have hM1 := MN.step0 hb hM
    have hD1 := hD.below hb hD.lt
    obtain ⟨b0, b1, b2, a0, a1, a2, -⟩ := MN.of hM1
    have d0 : w1.cell? ⟨W.heap.size + 2, 0, none⟩ = some (.int .i64 0) := by rw [hD1.cell]; rfl
    have d1 : w1.cell? ⟨W.heap.size + 2, 1, none⟩ = some (.string ByteArray.empty) := by rw [hD1.cell]; rfl
    have d2 : w1.cell? ⟨W.heap.size + 2, 2, none⟩ = some (.string ByteArray.empty) := by rw [hD1.cell]; rfl
    have f0 := hD1.frozen 0
    have f1 := hD1.frozen 1
    have f2 := hD1.frozen 2
    have hlow := Lib.hid hM1.low
    clear hb hM1 hD1 hD hM
    go_wp2
  · exact bodyPost_ret (v := .agg #[.int .i64 an, .string ab, .string av]) (by simp [results, Tryz.results64, go_sem, d0, d1, d2]) rfl ⟨by rw [hN2.out], ((hlow.out.setCell (by simp; omega) _).setCell (by simp; omega) _).setCell (by simp; omega) _⟩
  · exact bodyPost_ret (v := .agg #[.int .i64 bn, .string bb, .string bv]) (by simp [results, Tryz.results64, go_sem, d0, d1, d2]) rfl ⟨by rw [hN2.out], ((hlow.out.setCell (by simp; omega) _).setCell (by simp; omega) _).setCell (by simp; omega) _⟩
end Go.Proofs.YtjbompimlopdiaaGreatDoor.reg
