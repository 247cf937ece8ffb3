/- The walks of the reference of rate. -/
import Derived.Test.YtajbennbgjbpeabC
namespace Go.Proofs.Ytajbennbgjbpeab.rate
open Go.ChangeShapes Go.WideShapes Go.ChangeAt Go.RowKit Go.Proofs.Aid
theorem in_any (n m : Int) (w : World) (hm : 0 ≤ m) :
    Calls Try.prog 23 #[.int .i64 n, .int .i64 m] w fun e w' => e = .returned (.int .i64 (clamp n m)) ∧ w' = w := by
  go_enter Try.func23, Try.ntmps23
  go_wp2
  all_goals go_ret
  all_goals refine ⟨ret_int ?_, rfl⟩
  all_goals unfold clamp
  all_goals (first | ((repeat' split) <;> omega) | (rename_i q; split at q <;> (repeat' split) <;> omega))
set_option maxHeartbeats 1000000 in
theorem rfill_any (b : Bk) (now rate burst : Int) (w : World) :
    Calls Try.prog 9 #[b.val, .int .i64 now, .int .i64 rate, .int .i64 burst] w fun e w' => e = .returned (fillI b now rate burst).val ∧ Below w.heap.size w w' := by
  obtain ⟨l, t⟩ := b
  show Calls Try.prog 9 #[.agg #[.int .i64 l, .int .i64 t], .int .i64 now, .int .i64 rate, .int .i64 burst] w _
  have hl := clamp_b l 1048576 (by decide)
  have hbu := clamp_b burst 1048576 (by decide)
  have htt := clamp_b t 1099511627776 (by decide)
  have hnn := clamp_b now 1099511627776 (by decide)
  have hg := gone_b t now
  have hv := mul_b (clamp_b rate 1048576 (by decide)) (gone_b t now)
  have hF := Lib.hid (show fillI ⟨l, t⟩ now rate burst = ⟨min (clamp l 1048576 + clamp rate 1048576 * goneI t now) (clamp burst 1048576), max (clamp t 1099511627776) (clamp now 1099511627776)⟩ from rfl)
  have hbel := Lib.hid (St.new w l t).low
  by_cases hlt : clamp t 1099511627776 < clamp now 1099511627776
  · have hgo : goneI t now = clamp now 1099511627776 - clamp t 1099511627776 := by unfold goneI; rw [if_pos hlt]
    obtain ⟨p, hp⟩ : ∃ p, clamp rate 1048576 * goneI t now = p := ⟨_, rfl⟩
    rw [hp] at hF hv
    have hq : wrap64 ((clamp now 1099511627776 - clamp t 1099511627776) * clamp rate 1048576) = p := by
      rw [← hgo, Int.mul_comm, hp]; exact IntWalk.wrap64_in _ (by omega)
    clear hp hgo hg
    go_enter Try.func9, Try.ntmps9
    go_wp2_with fail
    go_quiet ((go_at_call 23; exact Calls.quiet_of_same (in_any _ _ _ (by decide))))
    go_wp2_with (go_at_call 23; refine (in_any _ _ _ (by decide)).mono ?_; rintro e w1 ⟨rfl, rfl⟩)
    · refine bodyPost_ret (v := .agg #[.int .i64 (clamp burst 1048576), .int .i64 (clamp now 1099511627776)]) (by simp [results, Try.results9, go_sem]) rfl ⟨?_, ((below_drewN hbel.out nq).setCell (by simp) _).setCell (by simp) _⟩
      rw [hF.out]; show Ending.returned (Value.agg #[.int .i64 _, .int .i64 _]) = _; simp; omega
    · refine bodyPost_ret (v := .agg #[.int .i64 (clamp l 1048576 + p), .int .i64 (clamp now 1099511627776)]) (by simp [results, Try.results9, go_sem]) rfl ⟨?_, ((below_drewN hbel.out nq).setCell (by simp) _).setCell (by simp) _⟩
      rw [hF.out]; show Ending.returned (Value.agg #[.int .i64 _, .int .i64 _]) = _; simp; omega
  · have hgo : goneI t now = 0 := by unfold goneI; rw [if_neg hlt]
    rw [hgo, Int.mul_zero] at hF
    clear hgo hg hv
    go_enter Try.func9, Try.ntmps9
    go_wp2_with fail
    go_quiet ((go_at_call 23; exact Calls.quiet_of_same (in_any _ _ _ (by decide))))
    go_wp2_with (go_at_call 23; refine (in_any _ _ _ (by decide)).mono ?_; rintro e w1 ⟨rfl, rfl⟩)
    · refine bodyPost_ret (v := .agg #[.int .i64 (clamp burst 1048576), .int .i64 (clamp t 1099511627776)]) (by simp [results, Try.results9, go_sem]) rfl ⟨?_, ((below_drewN hbel.out nq).setCell (by simp) _).setCell (by simp) _⟩
      rw [hF.out]; show Ending.returned (Value.agg #[.int .i64 _, .int .i64 _]) = _; simp; omega
    · refine bodyPost_ret (v := .agg #[.int .i64 (clamp l 1048576), .int .i64 (clamp t 1099511627776)]) (by simp [results, Try.results9, go_sem]) rfl ⟨?_, ((below_drewN hbel.out nq).setCell (by simp) _).setCell (by simp) _⟩
      rw [hF.out]; show Ending.returned (Value.agg #[.int .i64 _, .int .i64 _]) = _; simp; omega
set_option maxHeartbeats 1000000 in
theorem rtake_any (b : Bk) (now rate burst : Int) (w : World) :
    Calls Try.prog 7 #[b.val, .int .i64 now, .int .i64 rate, .int .i64 burst] w fun e w' => e = .returned (.tuple #[(takeI b now rate burst).1.val, .bool (takeI b now rate burst).2]) ∧ Below w.heap.size w w' := by
  obtain ⟨l, t⟩ := b
  show Calls Try.prog 7 #[.agg #[.int .i64 l, .int .i64 t], .int .i64 now, .int .i64 rate, .int .i64 burst] w _
  have hst := St.new w l t
  have hfb := fill_b ⟨l, t⟩ now rate burst
  have hT := Lib.hid (show takeI ⟨l, t⟩ now rate burst = if (fillI ⟨l, t⟩ now rate burst).left = 0 then (fillI ⟨l, t⟩ now rate burst, false) else (⟨(fillI ⟨l, t⟩ now rate burst).left - 1, (fillI ⟨l, t⟩ now rate burst).at_⟩, true) from rfl)
  go_enter Try.func7, Try.ntmps7
  go_wp2_with fail
  refine (rfill_any ⟨l, t⟩ _ _ _ _).mono ?_
  generalize fillI ⟨l, t⟩ now rate burst = c at *
  obtain ⟨cl, ct⟩ := c
  rintro e w1 ⟨rfl, hb⟩
  have s1 := (S2.step hb hst).2.2.2.2.2.2
  obtain ⟨c0, c1, d0, d1, f0, f1, -⟩ := S2.of s1
  have hlow := Lib.hid s1.low
  have hsz := s1.two
  have hsz : w.heap.size + 1 < w1.heap.size := by obtain ⟨x, y, h⟩ := hsz; exact h.lt
  clear hst s1 hb
  simp only at hfb
  by_cases hz : cl = 0
  · subst hz
    rw [if_pos rfl] at hT
    go_wp2
    refine bodyPost_ret (v := .tuple #[.agg #[.int .i64 0, .int .i64 ct], .bool false]) (by simp [results, Try.results7, go_sem, d0, d1, hsz, World.cell?_alloc_lt]) rfl
      ⟨by rw [hT.out], ((hlow.out.setCell (by simp) _).setCell (by simp) _).alloc (by simp; omega) _⟩
  · have hT2 := Lib.hid (hT.out.trans (if_neg (by simpa using hz)))
    clear hT
    go_wp2
    refine bodyPost_ret (v := .tuple #[.agg #[.int .i64 (cl - 1), .int .i64 ct], .bool true]) (by simp [results, Try.results7, go_sem, d0, d1, hsz, World.cell?_alloc_lt]) rfl
      ⟨by rw [hT2.out], ((hlow.out.setCell (by simp) _).setCell (by simp) _).alloc (by simp; omega) _⟩
theorem rfull_any (now burst : Int) (w : World) :
    Calls Try.prog 11 #[.int .i64 now, .int .i64 burst] w fun e w' => e = .returned (fullI now burst).val ∧ Below w.heap.size w w' := by
  go_enter Try.func11, Try.ntmps11
  go_wp2_with (go_at_call 23; refine (in_any _ _ _ (by decide)).mono ?_; rintro e w1 ⟨rfl, rfl⟩)
  exact bodyPost_ret (v := (fullI now burst).val) (by simp [results, Try.results11, go_sem, fullI]) rfl ⟨rfl, (Below.refl w.heap.size w).alloc (Nat.le_refl _) _⟩
theorem rmost_any (a b rate burst : Int) (w : World) :
    Calls Try.prog 13 #[.int .i64 a, .int .i64 b, .int .i64 rate, .int .i64 burst] w fun e w' => e = .returned (.int .i64 (mostI a b rate burst)) ∧ w' = w := by
  have hc := clamp_b burst 1048576 (by decide)
  have haa := clamp_b a 1099511627776 (by decide)
  have hbb := clamp_b b 1099511627776 (by decide)
  have hg := gone_b a b
  have hv := mul_b (clamp_b rate 1048576 (by decide)) (gone_b a b)
  have hm := Lib.hid (show mostI a b rate burst = clamp burst 1048576 + clamp rate 1048576 * goneI a b from rfl)
  obtain ⟨p, hp⟩ : ∃ p, clamp rate 1048576 * goneI a b = p := ⟨_, rfl⟩
  rw [hp] at hm hv
  by_cases hlt : clamp a 1099511627776 < clamp b 1099511627776
  · have hgo : goneI a b = clamp b 1099511627776 - clamp a 1099511627776 := by unfold goneI; rw [if_pos hlt]
    have hq : wrap64 ((clamp b 1099511627776 - clamp a 1099511627776) * clamp rate 1048576) = p := by rw [← hgo, Int.mul_comm, hp]; exact IntWalk.wrap64_in _ (by omega)
    clear hgo hp hg
    go_enter Try.func13, Try.ntmps13
    go_wp2_with (go_at_call 23; refine (in_any _ _ _ (by decide)).mono ?_; rintro e w1 ⟨rfl, rfl⟩)
    go_ret
    exact ⟨ret_int (by rw [hm.out]), rfl⟩
  · have hgo : goneI a b = 0 := by unfold goneI; rw [if_neg hlt]
    have hp0 : p = 0 := by rw [← hp, hgo, Int.mul_zero]
    subst hp0
    clear hgo hp hg
    go_enter Try.func13, Try.ntmps13
    go_wp2_with (go_at_call 23; refine (in_any _ _ _ (by decide)).mono ?_; rintro e w1 ⟨rfl, rfl⟩)
    all_goals go_ret
    all_goals refine ⟨ret_int ?_, rfl⟩
    all_goals rw [hm.out, Int.add_zero]
end Go.Proofs.Ytajbennbgjbpeab.rate
