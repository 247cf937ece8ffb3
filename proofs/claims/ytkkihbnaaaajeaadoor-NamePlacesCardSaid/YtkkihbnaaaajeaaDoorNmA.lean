/- What must come, whatever the arguments are: layer 5. -/
import Derived.Test.YtkkihbnaaaajeaaDoorNmS
namespace Go.Proofs.YtkkihbnaaaajeaaDoor.nm
open Go.ChangeShapes Go.WideShapes Go.ChangeAt Go.RowKit Go.Proofs.Aid Go.Proofs.YtkkihbnaaaajeaaDoor.seg Go.Proofs.YtkkihbnaaaajeaaDoor.name Go.Proofs.YtkkihbnaaaajeaaDoor.texts Go.Proofs.YtkkihbnaaaajeaaDoor.num
theorem itoa_12 : Lib.itoa (-12) = [45, 49, 50] := by
  unfold Lib.itoa
  rw [if_pos (by decide), show (-12 : Int).natAbs = 12 from rfl, Lib.decDigits_two (by decide) (by decide)]
  rfl
theorem dec_12 : dec (-12) = ⟨#[45, 49, 50]⟩ := by unfold dec; rw [itoa_12]
theorem num_12 : numR ⟨#[45, 49, 50]⟩ = .returned (.tuple #[.int .i64 (-12), .bool true]) := by
  apply numR_some
  show numD [45, 49, 50] = _
  rw [← itoa_12]
  exact num_itoa (-12) (by decide) (by decide)
theorem split_ab : splitR ⟨#[97, 47, 47, 98]⟩ = .returned (.tuple #[.string ⟨#[97]⟩, .string ⟨#[47, 98]⟩, .bool true]) := by
  have h : splitOk ⟨#[97, 47, 47, 98]⟩ = true := by decide +kernel
  rw [splitR_yes h]
  have e1 : cutA ⟨#[97, 47, 47, 98]⟩ = ⟨#[97]⟩ := by decide +kernel
  have e2 : cutB ⟨#[97, 47, 47, 98]⟩ = ⟨#[47, 98]⟩ := by decide +kernel
  rw [e1, e2]
theorem slash_1 : slash ⟨#[97]⟩ ⟨#[47, 98]⟩ = ⟨#[97, 47, 47, 98]⟩ := by decide +kernel
theorem slash_2 : joinS [⟨#[97]⟩, ⟨#[98]⟩] = ⟨#[97, 47, 98]⟩ := by decide +kernel
theorem parts_3 : (partsS ⟨#[97, 47, 47, 98]⟩).length = 3 := by decide +kernel
theorem is_7 : isName (⟨#[114, 97, 99, 107, 45, 55]⟩ : ByteArray).data.toList = true := by decide +kernel
theorem is_A : isName (⟨#[65]⟩ : ByteArray).data.toList = false := by decide +kernel
set_option maxHeartbeats 2000000 in
theorem awake_any (w : World) (hL : Hid (Lets w)) : Calls Tryd.prog 6 #[] w fun e w' => e = .returned (.bool true) ∧ Below w.heap.size w w' := by
  have hl0 : Hid (Below w.heap.size w w) := Below.refl _ _
  go_enter Tryd.func6, Tryd.ntmps6
  go_wp2_with fail; refine Calls.mono (split_any _ _ (by decide) hL) ?_; rintro e w1 ⟨rfl, hbw1⟩; have hlw1 := Lib.hid (hl0.out.trans (hbw1.mono hl0.out.size)); clear hbw1; have hLw1 := Lib.hid (hL.out.next hlw1.out)
  rw [split_ab]
  go_wp2_with fail; refine Calls.mono (num_any _ _ (by decide) hLw1) ?_; rintro e w2 ⟨rfl, hbw2⟩; have hlw2 := Lib.hid (hlw1.out.trans (hbw2.mono hlw1.out.size)); clear hbw2; have hLw2 := Lib.hid (hL.out.next hlw2.out)
  rw [num_12]
  go_wp2_with fail
  refine Calls.mono (is_any _ _ (by decide)) ?_
  rw [is_7]
  rintro e w3 ⟨rfl, hbw3⟩
  have hlw3 := Lib.hid (hlw2.out.trans (hbw3.mono hlw2.out.size))
  clear hbw3
  go_wp2_with fail
  refine Calls.mono (is_any _ _ (by decide)) ?_
  rw [is_A]
  rintro e w4 ⟨rfl, hbw4⟩
  have hlw4 := Lib.hid (hlw3.out.trans (hbw4.mono hlw3.out.size))
  clear hbw4
  go_wp2_with fail
  refine Calls.mono (key_any _ _ (by decide)) ?_
  rintro e w5 ⟨rfl, rfl⟩
  have hkk : isKey (⟨#[0]⟩ : ByteArray).size = true := by decide
  rw [hkk]
  go_wp2_with fail
  refine Calls.mono (join_any _ _ _ (by decide) (by decide)) ?_
  rw [slash_1]
  rintro e w6 ⟨rfl, hbw6⟩
  have hlw6 := Lib.hid (hlw4.out.trans (hbw6.mono hlw4.out.size))
  clear hbw6
  go_wp2_with fail
  refine Calls.mono (path_any (w6.alloc (.cells #[.string ⟨#[97]⟩, .string ⟨#[98]⟩] 9)) (some ⟨w6.heap.size, 0, none⟩) 2 [⟨#[97]⟩, ⟨#[98]⟩] (lit1 (f := tc) w6 9 [⟨#[97]⟩, ⟨#[98]⟩] (fun _ => rfl)) (by simp) (by simp) (by rw [slash_2]; decide)) ?_
  rw [slash_2]
  rintro e w7 ⟨rfl, hbw7⟩
  have hlw7 := Lib.hid (hlw6.out.trans ((below_lit w6 _).trans (hbw7.mono (by simp)) |>.mono hlw6.out.size))
  clear hbw7
  have hLw7 := Lib.hid (hL.out.next hlw7.out)
  go_wp2_with fail
  refine Calls.mono (parts_any _ _ (by decide) hLw7) ?_
  rintro e w8 ⟨A, c, rfl, -, -, hbw8⟩
  rw [parts_3]
  have hlw8 := Lib.hid (hlw7.out.trans (hbw8.mono hlw7.out.size))
  clear hbw8
  have hLw8 := Lib.hid (hL.out.next hlw8.out)
  go_wp2_with fail
  refine Calls.mono (dec_any _ _ (by decide) (by decide) hLw8) ?_
  rw [dec_12]
  rintro e w9 ⟨rfl, hbw9⟩
  have hlw9 := Lib.hid (hlw8.out.trans (hbw9.mono hlw8.out.size))
  clear hbw9
  go_wp2
  go_ret
  exact ⟨rfl, hlw9.out⟩
end Go.Proofs.YtkkihbnaaaajeaaDoor.nm
