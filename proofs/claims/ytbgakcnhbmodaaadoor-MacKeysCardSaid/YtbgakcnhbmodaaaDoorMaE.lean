/- Mac: the laws Is and Tells. -/
import Derived.Test.YtbgakcnhbmodaaaDoorMaD
namespace Go.Proofs.YtbgakcnhbmodaaaDoor.mac
open Go.ChangeShapes Go.WideShapes Go.ChangeAt Go.RowKit Go.Proofs.Aid
open Go.Proofs.YtbgakcnhbmodaaaDoor.oc (be be_length bz bz_append)
open Go.Proofs.YtbgakcnhbmodaaaDoor.sha
set_option linter.unusedVariables false
theorem lstr {l : List UInt8} : (⟨l.toArray⟩ : ByteArray) = bz l := rfl
set_option maxRecDepth 100000 in
set_option maxHeartbeats 4000000 in
theorem mis_all (W : World) (v0 v1 : Value) (h0 : V9 W v0) (h1 : V9 W v1) (hl : Hid (Lets W)) :
    Calls Tryd.prog 3 #[v0, v1] W fun e w' => e = .returned (.bool true) ∧ Below W.heap.size W w' := by
  obtain ⟨⟨k⟩, rfl, hok⟩ := h0
  obtain ⟨⟨s⟩, rfl, hok1⟩ := h1
  have hk : k.size ≤ maxLen := hok
  have hs : s.size ≤ maxLen := hok1
  clear hok hok1
  unfold maxLen at hk hs
  have HA := Lib.hid (fun w' (h : Lets w') => awake_any w' h)
  simp only [R9.val]
  by_cases hb : 512 < k.size
  · have hb2 : (512 : Int) < (k.size : Int) := by omega
    go_enter Tryd.func3, Tryd.ntmps3
    go_wp2_with fail
    refine (HA.out _ hl.out).mono ?_; rintro e wz ⟨rfl, hB⟩; have HZ := Lib.hid (hB); clear hB; go_wp2; go_ret; exact ⟨rfl, HZ.out⟩
  · have hb2 : ¬ (512 : Int) < (k.size : Int) := by omega
    by_cases hc : 512 < s.size
    · have hc2 : (512 : Int) < (s.size : Int) := by omega
      go_enter Tryd.func3, Tryd.ntmps3
      go_wp2_with fail
      refine (HA.out _ hl.out).mono ?_; rintro e wz ⟨rfl, hB⟩; have HZ := Lib.hid (hB); clear hB; go_wp2; go_ret; exact ⟨rfl, HZ.out⟩
    · have hc2 : ¬ (512 : Int) < (s.size : Int) := by omega
      have H1 : Hid (Calls Tryd.prog 7 #[.string k, .string s] W fun e w'' => e = .returned (.string (bz (macB k.data.toList s.data.toList))) ∧ Below W.heap.size W w'') := msum_any k s W (by omega) (by omega) hl.out
      have H2 := Lib.hid (fun w' => rmsum_any k s w' (by omega) (by omega))
      go_enter Tryd.func3, Tryd.ntmps3
      go_wp2_with fail
      refine H1.out.mono ?_
      rintro e w1 ⟨rfl, hB⟩
      have HB1 := Lib.hid hB
      clear hB H1
      go_wp2_with fail
      refine (H2.out _).mono ?_
      rintro e w2 ⟨rfl, hB⟩
      have HB2 := Lib.hid (HB1.out.trans (hB.mono HB1.out.size))
      have HL2 := Lib.hid (hl.out.below HB2.out (Nat.le_refl _))
      clear hB HB1 H2
      generalize bz (macB k.data.toList s.data.toList) = y at *
      go_wp2_with fail
      refine (HA.out _ HL2.out).mono ?_; rintro e wz ⟨rfl, hB⟩; have HZ := Lib.hid (HB2.out.trans (hB.mono HB2.out.size)); clear hB; go_wp2; go_ret; exact ⟨rfl, HZ.out⟩
set_option maxRecDepth 100000 in
set_option maxHeartbeats 4000000 in
theorem tells_all (W : World) (v0 v1 v2 : Value) (h0 : V9 W v0) (h1 : V9 W v1) (h2 : V9 W v2) (hl : Hid (Lets W)) :
    Calls Tryd.prog 4 #[v0, v1, v2] W fun e w' => e = .returned (.bool true) ∧ Below W.heap.size W w' := by
  obtain ⟨⟨k⟩, rfl, hok⟩ := h0
  obtain ⟨⟨s⟩, rfl, hok1⟩ := h1
  obtain ⟨⟨z⟩, rfl, hok2⟩ := h2
  have hk : k.size ≤ maxLen := hok
  have hs : s.size ≤ maxLen := hok1
  have hz : z.size ≤ maxLen := hok2
  clear hok hok1 hok2
  unfold maxLen at hk hs hz
  have HA := Lib.hid (fun w' (h : Lets w') => awake_any w' h)
  simp only [R9.val]
  by_cases hb : 512 < k.size
  · have hb2 : (512 : Int) < (k.size : Int) := by omega
    go_enter Tryd.func4, Tryd.ntmps4
    go_wp2_with fail
    refine (HA.out _ hl.out).mono ?_; rintro e wz ⟨rfl, hB⟩; have HZ := Lib.hid (hB); clear hB; go_wp2; go_ret; exact ⟨rfl, HZ.out⟩
  · have hb2 : ¬ (512 : Int) < (k.size : Int) := by omega
    by_cases hc : 512 < s.size
    · have hc2 : (512 : Int) < (s.size : Int) := by omega
      go_enter Tryd.func4, Tryd.ntmps4
      go_wp2_with fail
      refine (HA.out _ hl.out).mono ?_; rintro e wz ⟨rfl, hB⟩; have HZ := Lib.hid (hB); clear hB; go_wp2; go_ret; exact ⟨rfl, HZ.out⟩
    · have hc2 : ¬ (512 : Int) < (s.size : Int) := by omega
      by_cases hd : 512 < z.size
      · have hd2 : (512 : Int) < (z.size : Int) := by omega
        go_enter Tryd.func4, Tryd.ntmps4
        go_wp2_with fail
        refine (HA.out _ hl.out).mono ?_; rintro e wz ⟨rfl, hB⟩; have HZ := Lib.hid (hB); clear hB; go_wp2; go_ret; exact ⟨rfl, HZ.out⟩
      · have hd2 : ¬ (512 : Int) < (z.size : Int) := by omega
        have H2 := Lib.hid (fun w' => rmsum_any k s w' (by omega) (by omega))
        by_cases he : bz (macB k.data.toList s.data.toList) = z
        · have H1 := Lib.hid (is_yes k s W (by omega) (by omega) hl.out)
          rw [he] at H1
          have HE := Lib.hid he
          clear he
          go_enter Tryd.func4, Tryd.ntmps4
          go_wp2_with fail
          refine H1.out.mono ?_
          rintro e w1 ⟨rfl, hB⟩
          have HB1 := Lib.hid hB
          clear hB H1
          go_wp2_with fail
          refine (H2.out _).mono ?_
          rintro e w2 ⟨rfl, hB⟩
          rw [HE.out]
          have HB2 := Lib.hid (HB1.out.trans (hB.mono HB1.out.size))
          have HL2 := Lib.hid (hl.out.below HB2.out (Nat.le_refl _))
          clear hB HB1 H2 HE
          go_wp2_with fail
          refine (HA.out _ HL2.out).mono ?_; rintro e wz ⟨rfl, hB⟩; have HZ := Lib.hid (HB2.out.trans (hB.mono HB2.out.size)); clear hB; go_wp2; go_ret; exact ⟨rfl, HZ.out⟩
        · have H1 := Lib.hid (is_no k s z W (by omega) (by omega) he hl.out)
          have hne := bytes_ne (fun e => he e.symm)
          clear he
          go_enter Tryd.func4, Tryd.ntmps4
          go_wp2_with fail
          refine H1.out.mono ?_
          rintro e w1 ⟨rfl, hB⟩
          have HB1 := Lib.hid hB
          clear hB H1
          go_wp2_with fail
          refine (H2.out _).mono ?_
          rintro e w2 ⟨rfl, hB⟩
          have HB2 := Lib.hid (HB1.out.trans (hB.mono HB1.out.size))
          have HL2 := Lib.hid (hl.out.below HB2.out (Nat.le_refl _))
          clear hB HB1 H2
          generalize bz (macB k.data.toList s.data.toList) = y at *
          go_wp2_with fail
          refine (HA.out _ HL2.out).mono ?_; rintro e wz ⟨rfl, hB⟩; have HZ := Lib.hid (HB2.out.trans (hB.mono HB2.out.size)); clear hB; go_wp2; go_ret; exact ⟨rfl, HZ.out⟩
end Go.Proofs.YtbgakcnhbmodaaaDoor.mac
