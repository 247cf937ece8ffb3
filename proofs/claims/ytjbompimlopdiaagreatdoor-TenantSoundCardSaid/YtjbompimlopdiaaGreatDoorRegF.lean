/- The walk of the reference's Next. -/
import Derived.Test.YtjbompimlopdiaaGreatDoorRegE
namespace Go.Proofs.YtjbompimlopdiaaGreatDoor.reg
open Go.ChangeShapes Go.WideShapes Go.ChangeAt Go.RowKit Go.Proofs.Aid Go.Proofs.YtjbompimlopdiaaGreatDoor.name
set_option maxHeartbeats 4000000 in
theorem rnext_any (a : Rg) (s t : ByteArray) (W : World) (hb : a.by_.size ≤ maxLen) (hv : a.value.size ≤ maxLen) (hs : s.size ≤ maxLen) (ht : t.size ≤ maxLen) :
    Calls Tryz.prog 61 #[a.val, .string s, .string t] W fun e w' => e = .returned (.tuple #[(a.next s t).1.val, .int .i64 (a.next s t).2]) ∧ Below W.heap.size W w' := by
  obtain ⟨n, b, v⟩ := a
  simp only at hb hv
  have HB := Lib.hid hb
  have HV := Lib.hid hv
  have HS := Lib.hid hs
  clear hb hv hs
  unfold maxLen at ht
  show Calls Tryz.prog 61 #[.agg #[.int .i64 n, .string b, .string v], .string s, .string t] W _
  have hM := MX.new W n b v
  by_cases hz : n = 0 ∧ b.toList = [] ∧ v.toList = []
  · obtain ⟨rfl, hz2, hz3⟩ := hz
    cases hi : isName s.data.toList
    · have hc := Lib.hid (show Rg.next ⟨0, b, v⟩ s t = (Rg.zero, 1) from if_pos (.inr (.inl hi)))
      go_enter Tryz.func61, Tryz.ntmps61
      go_wp2_with fail
      refine (rname_bel _ _ HS.out).mono ?_
      rw [hi]
      rintro e w1 ⟨rfl, hbe⟩
      have hM1 := MX.step0 hbe hM
      obtain ⟨-, -, -, d0, d1, d2, -⟩ := MX.of hM1
      have f0 := hM1.b1.frozen 0; have f1 := hM1.b1.frozen 1; have f2 := hM1.b1.frozen 2
      have hlow := Lib.hid hM1.low
      clear hbe hM1 hM
      go_wp2
      exact bodyPost_ret (v := .tuple #[.agg #[.int .i64 0, .string ByteArray.empty, .string ByteArray.empty], .int .i64 1]) (by simp [results, Tryz.results61, go_sem, d0, d1, d2] <;> rfl) rfl ⟨by rw [hc.out]; rfl, bel3 hlow.out _ _ _⟩
    · by_cases h4 : 256 < t.size
      · have hc := Lib.hid (show Rg.next ⟨0, b, v⟩ s t = (Rg.zero, 1) from if_pos (.inr (.inr h4)))
        go_enter Tryz.func61, Tryz.ntmps61
        go_wp2_with fail
        refine (rname_bel _ _ HS.out).mono ?_
        rw [hi]
        rintro e w1 ⟨rfl, hbe⟩
        have hM1 := MX.step0 hbe hM
        obtain ⟨-, -, -, d0, d1, d2, -⟩ := MX.of hM1
        have f0 := hM1.b1.frozen 0; have f1 := hM1.b1.frozen 1; have f2 := hM1.b1.frozen 2
        have hlow := Lib.hid hM1.low
        clear hbe hM1 hM
        go_wp2
        exact bodyPost_ret (v := .tuple #[.agg #[.int .i64 0, .string ByteArray.empty, .string ByteArray.empty], .int .i64 1]) (by simp [results, Tryz.results61, go_sem, d0, d1, d2] <;> rfl) rfl ⟨by rw [hc.out]; rfl, bel3 hlow.out _ _ _⟩
      · have hc := Lib.hid (show Rg.next ⟨0, b, v⟩ s t = (⟨0 + 1, s, t⟩, 0) from (if_neg (by rintro (⟨h, -⟩ | h | h); exact h ⟨rfl, hz2, hz3⟩; rw [hi] at h; cases h; exact h4 h)).trans (if_neg (by simp)))
        go_enter Tryz.func61, Tryz.ntmps61
        go_wp2_with fail
        refine (rname_bel _ _ HS.out).mono ?_
        rw [hi]
        rintro e w1 ⟨rfl, hbe⟩
        have hM1 := MX.step0 hbe hM
        obtain ⟨c0, -, -, d0, d1, d2, -⟩ := MX.of hM1
        have f0 := hM1.b1.frozen 0; have f1 := hM1.b1.frozen 1; have f2 := hM1.b1.frozen 2
        have hlow := Lib.hid hM1.low
        clear hbe hM1 hM
        go_wp2
        exact bodyPost_ret (v := .tuple #[.agg #[.int .i64 1, .string s, .string t], .int .i64 0]) (by simp [results, Tryz.results61, go_sem, d0, d1, d2]) rfl ⟨by rw [hc.out]; rfl, bel3 hlow.out _ _ _⟩
  · have hz0 := Lib.hid hz
    have hcase : (¬ n = 0) ∨ (n = 0 ∧ ¬ b.toList = []) ∨ (n = 0 ∧ b.toList = [] ∧ ¬ v.toList = []) := by
      by_cases h1 : n = 0
      · by_cases h2 : b.toList = []
        · exact .inr (.inr ⟨h1, h2, fun h3 => hz ⟨h1, h2, h3⟩⟩)
        · exact .inr (.inl ⟨h1, h2⟩)
      · exact .inl h1
    clear hz
    by_cases hm : Rg.may ⟨n, b, v⟩
    · have hk := Lib.hid (decide_eq_true hm)
      have hm1 := hm.1; have hm2 := hm.2.1
      simp only at hm1 hm2
      have HM := Lib.hid hm
      clear hm
      have h1 : ¬ n = 0 := by omega
      clear hcase
      by_cases hi : isName s.data.toList = true ∧ ¬ 256 < t.size
      · obtain ⟨hi, h4⟩ := hi
        by_cases h5 : n = 9007199254740992
        · have hc := Lib.hid (show Rg.next ⟨n, b, v⟩ s t = (Rg.zero, 4) from (if_neg (by rintro (⟨-, h⟩ | h | h); exact h HM.out; rw [hi] at h; cases h; exact h4 h)).trans (if_pos h5))
          subst h5
          go_enter Tryz.func61, Tryz.ntmps61
          go_wp2_with fail
          refine (rmay_any ⟨_, b, v⟩ _ HB.out HV.out).mono ?_
          rw [hk.out]
          rintro e w0 ⟨rfl, hbe⟩
          have hM0 := MX.step0 hbe hM
          clear hbe hM
          go_wp2_with fail
          refine (rname_bel _ _ HS.out).mono ?_
          rw [hi]
          rintro e w1 ⟨rfl, hbe⟩
          have hM1 := MX.step0 hbe hM0
          obtain ⟨c0, -, -, d0, d1, d2, -⟩ := MX.of hM1
          have f0 := hM1.b1.frozen 0; have f1 := hM1.b1.frozen 1; have f2 := hM1.b1.frozen 2
          have hlow := Lib.hid hM1.low
          clear hbe hM1 hM0
          go_wp2
          exact bodyPost_ret (v := .tuple #[.agg #[.int .i64 0, .string ByteArray.empty, .string ByteArray.empty], .int .i64 4]) (by simp [results, Tryz.results61, go_sem, d0, d1, d2] <;> rfl) rfl ⟨by rw [hc.out]; rfl, bel3 hlow.out _ _ _⟩
        · have hc := Lib.hid (show Rg.next ⟨n, b, v⟩ s t = (⟨n + 1, s, t⟩, 0) from (if_neg (by rintro (⟨-, h⟩ | h | h); exact h HM.out; rw [hi] at h; cases h; exact h4 h)).trans (if_neg h5))
          go_enter Tryz.func61, Tryz.ntmps61
          go_wp2_with fail
          refine (rmay_any ⟨_, b, v⟩ _ HB.out HV.out).mono ?_
          rw [hk.out]
          rintro e w0 ⟨rfl, hbe⟩
          have hM0 := MX.step0 hbe hM
          clear hbe hM
          go_wp2_with fail
          refine (rname_bel _ _ HS.out).mono ?_
          rw [hi]
          rintro e w1 ⟨rfl, hbe⟩
          have hM1 := MX.step0 hbe hM0
          obtain ⟨c0, -, -, d0, d1, d2, -⟩ := MX.of hM1
          have f0 := hM1.b1.frozen 0; have f1 := hM1.b1.frozen 1; have f2 := hM1.b1.frozen 2
          have hlow := Lib.hid hM1.low
          clear hbe hM1 hM0
          go_wp2
          exact bodyPost_ret (v := .tuple #[.agg #[.int .i64 (n + 1), .string s, .string t], .int .i64 0]) (by simp [results, Tryz.results61, go_sem, d0, d1, d2]) rfl ⟨by rw [hc.out], bel3 hlow.out _ _ _⟩
      · have hc := Lib.hid (show Rg.next ⟨n, b, v⟩ s t = (Rg.zero, 1) from if_pos (by
          by_cases h : isName s.data.toList = true
          · exact .inr (.inr (Classical.byContradiction fun h' => hi ⟨h, h'⟩))
          · exact .inr (.inl (by simpa using h))))
        cases hj : isName s.data.toList
        · go_enter Tryz.func61, Tryz.ntmps61
          go_wp2_with fail
          refine (rmay_any ⟨_, b, v⟩ _ HB.out HV.out).mono ?_
          rw [hk.out]
          rintro e w0 ⟨rfl, hbe⟩
          have hM0 := MX.step0 hbe hM
          clear hbe hM
          go_wp2_with fail
          refine (rname_bel _ _ HS.out).mono ?_
          rw [hj]
          rintro e w1 ⟨rfl, hbe⟩
          have hM1 := MX.step0 hbe hM0
          obtain ⟨c0, -, -, d0, d1, d2, -⟩ := MX.of hM1
          have f0 := hM1.b1.frozen 0; have f1 := hM1.b1.frozen 1; have f2 := hM1.b1.frozen 2
          have hlow := Lib.hid hM1.low
          clear hbe hM1 hM0
          go_wp2
          exact bodyPost_ret (v := .tuple #[.agg #[.int .i64 0, .string ByteArray.empty, .string ByteArray.empty], .int .i64 1]) (by simp [results, Tryz.results61, go_sem, d0, d1, d2] <;> rfl) rfl ⟨by rw [hc.out]; rfl, bel3 hlow.out _ _ _⟩
        · have h4 : 256 < t.size := Classical.byContradiction fun h' => hi ⟨hj, h'⟩
          clear hi
          go_enter Tryz.func61, Tryz.ntmps61
          go_wp2_with fail
          refine (rmay_any ⟨_, b, v⟩ _ HB.out HV.out).mono ?_
          rw [hk.out]
          rintro e w0 ⟨rfl, hbe⟩
          have hM0 := MX.step0 hbe hM
          clear hbe hM
          go_wp2_with fail
          refine (rname_bel _ _ HS.out).mono ?_
          rw [hj]
          rintro e w1 ⟨rfl, hbe⟩
          have hM1 := MX.step0 hbe hM0
          obtain ⟨c0, -, -, d0, d1, d2, -⟩ := MX.of hM1
          have f0 := hM1.b1.frozen 0; have f1 := hM1.b1.frozen 1; have f2 := hM1.b1.frozen 2
          have hlow := Lib.hid hM1.low
          clear hbe hM1 hM0
          go_wp2
          exact bodyPost_ret (v := .tuple #[.agg #[.int .i64 0, .string ByteArray.empty, .string ByteArray.empty], .int .i64 1]) (by simp [results, Tryz.results61, go_sem, d0, d1, d2] <;> rfl) rfl ⟨by rw [hc.out]; rfl, bel3 hlow.out _ _ _⟩
    · have hk := Lib.hid (decide_eq_false hm)
      have hc := Lib.hid (show Rg.next ⟨n, b, v⟩ s t = (Rg.zero, 1) from if_pos (.inl ⟨hz0.out, hm⟩))
      clear hm
      rcases hcase with h1 | ⟨rfl, h1⟩ | ⟨rfl, h1, h2⟩
      all_goals
        go_enter Tryz.func61, Tryz.ntmps61
        go_wp2_with fail
        refine (rmay_any ⟨_, b, v⟩ _ HB.out HV.out).mono ?_
        rw [hk.out]
        rintro e w1 ⟨rfl, hbe⟩
        have hM1 := MX.step0 hbe hM
        obtain ⟨-, -, -, d0, d1, d2, -⟩ := MX.of hM1
        have f0 := hM1.b1.frozen 0; have f1 := hM1.b1.frozen 1; have f2 := hM1.b1.frozen 2
        have hlow := Lib.hid hM1.low
        clear hbe hM1 hM
        go_wp2
        exact bodyPost_ret (v := .tuple #[.agg #[.int .i64 0, .string ByteArray.empty, .string ByteArray.empty], .int .i64 1]) (by simp [results, Tryz.results61, go_sem, d0, d1, d2] <;> rfl) rfl ⟨by rw [hc.out]; rfl, bel3 hlow.out _ _ _⟩
def Rg.few (r : Rg) : Bool := decide (r.by_.size ≤ 100) && decide (r.value.size ≤ 300)
theorem few_any (r : Rg) (W : World) (hb : r.by_.size ≤ maxLen) (hv : r.value.size ≤ maxLen) : Calls Tryz.prog 22 #[r.val] W fun e w' => e = .returned (.bool r.few) ∧ Below W.heap.size W w' := by
  obtain ⟨n, b, v⟩ := r
  simp only at hb hv
  unfold maxLen at hb hv
  have hF := Lib.hid (show Rg.few ⟨n, b, v⟩ = (decide (b.size ≤ 100) && decide (v.size ≤ 300)) from rfl)
  show Calls Tryz.prog 22 #[.agg #[.int .i64 n, .string b, .string v]] W _
  by_cases h1 : b.size ≤ 100
  · by_cases h2 : v.size ≤ 300
    all_goals
      go_enter Tryz.func22, Tryz.ntmps22
      go_wp2
      go_ret
      exact ⟨ret_bool (by rw [hF.out]; simp [h1, h2] <;> omega), (Below.refl _ _).alloc (Nat.le_refl _) _⟩
  · go_enter Tryz.func22, Tryz.ntmps22
    go_wp2
    go_ret
    exact ⟨ret_bool (by rw [hF.out]; simp [h1] <;> omega), (Below.refl _ _).alloc (Nat.le_refl _) _⟩
end Go.Proofs.YtjbompimlopdiaaGreatDoor.reg
