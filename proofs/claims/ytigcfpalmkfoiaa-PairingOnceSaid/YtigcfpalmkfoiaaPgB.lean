/- Who meets whom, by the reference: its loop. -/
import Derived.Test.YtigcfpalmkfoiaaPgA
import Derived.Deep.RegionHeld3
import Derived.Deep.QuietTactic
import Derived.BigQuiet
import Derived.IntWalk
namespace Go.Proofs.Ytigcfpalmkfoiaa.pg
set_option linter.unusedSimpArgs false
open Go.ChangeShapes Go.WideShapes Go.ChangeAt Go.RowKit Go.Proofs.Aid
theorem md1 {x n : Int} (h0 : 0 ≤ x) (h : x < n) : x % n = x := Int.emod_eq_of_lt h0 h
theorem md2 {x n : Int} (h0 : n ≤ x) (h : x < 2 * n) : x % n = x - n := by
  have e : x % n = ((x - n) + n) % n := by rw [Int.sub_add_cancel]
  rw [e, Int.add_emod_right, md1 (by omega) (by omega)]
theorem hitA {n r o k : Int} (hr : 0 ≤ r) (hr2 : r < n) (hk : 1 ≤ k) (hk2 : k < n) (h : (r + k) % n = o) : (r - k + n) % n = (2 * r - o + n) % n := by
  by_cases hc : r + k < n
  · rw [md1 (by omega) hc] at h
    subst h
    congr 1; omega
  · rw [md2 (by omega) (by omega)] at h
    subst h
    rw [show 2 * r - (r + k - n) + n = (r - k + n) + n by omega]; simp
theorem hitB {n r o k : Int} (hr : 0 ≤ r) (hr2 : r < n) (hk : 1 ≤ k) (hk2 : k < n) (h : (r - k + n) % n = o) : (r + k) % n = (2 * r - o + n) % n := by
  by_cases hc : r - k + n < n
  · rw [md1 (by omega) hc] at h
    subst h
    congr 1; omega
  · rw [md2 (by omega) (by omega)] at h
    subst h
    rw [show 2 * r - (r - k + n - n) + n = (r + k) + n by omega, Int.add_emod_right]
theorem hits {n r o : Int} (hr : 0 ≤ r) (hr2 : r < n) (ho : 0 ≤ o) (ho2 : o < n) (hne : ¬ o = r) (hodd : n % 2 = 1) (hno : ∀ j : Int, 1 ≤ j → j ≤ n / 2 → (r + j) % n ≠ o ∧ (r - j + n) % n ≠ o) : False := by
  by_cases h : r < o
  · by_cases hd : o - r ≤ n / 2
    · exact (hno (o - r) (by omega) hd).1 (by rw [show r + (o - r) = o by omega]; exact md1 ho ho2)
    · exact (hno (n - (o - r)) (by omega) (by omega)).2 (by rw [show r - (n - (o - r)) + n = o by omega]; exact md1 ho ho2)
  · by_cases hd : r - o ≤ n / 2
    · exact (hno (r - o) (by omega) hd).2 (by rw [show r - (r - o) + n = o + n by omega, Int.add_emod_right]; exact md1 ho ho2)
    · exact (hno (n - (r - o)) (by omega) (by omega)).1 (by rw [show r + (n - (r - o)) = o + n by omega, Int.add_emod_right]; exact md1 ho ho2)
set_option maxHeartbeats 4000000 in
theorem rmeets_any (m r o : Int) (w : World) : Calls Try.prog 7 #[.int .i64 m, .int .i64 r, .int .i64 o] w fun e w' => e = .returned (.tuple #[.int .i64 (mee m r o).1, .bool (mee m r o).2]) ∧ Below w.heap.size w w' := by
  have hE := Lib.hid (show mee m r o = if 0 ≤ r ∧ r < cnt m ∧ 0 ≤ o ∧ o < m then (if m ≤ other (cnt m) r o then (0, false) else (other (cnt m) r o, true)) else (0, false) from rfl)
  have hc := cnt_bd m
  have HC := Lib.hid (rcount_any m w)
  generalize mee m r o = q at *
  generalize cnt m = n at *
  obtain ⟨c1, c2, c3⟩ := hc
  by_cases a1 : r < 0
  · go_enter Try.func7, Try.ntmps7; go_wp2_with fail; refine HC.out.mono ?_; rintro e w1 ⟨rfl, rfl⟩; go_wp2; go_ret2; exact ⟨by rw [hE.out, if_neg (by omega)]; rfl, Below.refl _ _⟩
  · by_cases a2 : n ≤ r
    · go_enter Try.func7, Try.ntmps7; go_wp2_with fail; refine HC.out.mono ?_; rintro e w1 ⟨rfl, rfl⟩; go_wp2; go_ret2; exact ⟨by rw [hE.out, if_neg (by omega)]; rfl, Below.refl _ _⟩
    · by_cases a3 : o < 0
      · go_enter Try.func7, Try.ntmps7; go_wp2_with fail; refine HC.out.mono ?_; rintro e w1 ⟨rfl, rfl⟩; go_wp2; go_ret2; exact ⟨by rw [hE.out, if_neg (by omega)]; rfl, Below.refl _ _⟩
      · by_cases a4 : m ≤ o
        · go_enter Try.func7, Try.ntmps7; go_wp2_with fail; refine HC.out.mono ?_; rintro e w1 ⟨rfl, rfl⟩; go_wp2; go_ret2; exact ⟨by rw [hE.out, if_neg (by omega)]; rfl, Below.refl _ _⟩
        · obtain ⟨b1, b2, b3⟩ := c3 (by omega)
          have hE2 := Lib.hid (hE.out.trans (if_pos (by omega)))
          clear hE c3
          have hO : other n r o = if o = r then n else if o = n then r else (2 * r - o + n) % n := rfl
          have b1' : r ≤ 62 := by omega
          have b2' : o ≤ 63 := by omega
          by_cases d1 : o = r
          · rw [if_pos d1] at hO
            have d2 : ¬ o = n := by omega
            by_cases d5 : m ≤ n
            · have hq := Lib.hid (hE2.out.trans (if_pos (by rw [hO]; exact d5)))
              subst d1
              go_enter Try.func7, Try.ntmps7; go_wp2_with fail; refine HC.out.mono ?_; rintro e w1 ⟨rfl, rfl⟩
              go_wp2
              go_ret2
              exact ⟨by rw [hq.out]; rfl, Below.refl _ _⟩
            · have hq := Lib.hid (hE2.out.trans (if_neg (by rw [hO]; exact d5)))
              rw [hO] at hq
              subst d1
              go_enter Try.func7, Try.ntmps7; go_wp2_with fail; refine HC.out.mono ?_; rintro e w1 ⟨rfl, rfl⟩
              go_wp2
              go_ret2
              exact ⟨by rw [hq.out]; rfl, Below.refl _ _⟩
          · rw [if_neg d1] at hO
            by_cases d2 : o = n
            · rw [if_pos d2] at hO
              have hq := Lib.hid (hE2.out.trans (if_neg (by rw [hO]; omega)))
              rw [hO] at hq
              subst d2
              have d6 : ¬ m ≤ r := by omega
              go_enter Try.func7, Try.ntmps7; go_wp2_with fail; refine HC.out.mono ?_; rintro e w1 ⟨rfl, rfl⟩
              go_wp2
              go_ret2
              exact ⟨by rw [hq.out]; rfl, Below.refl _ _⟩
            · rw [if_neg d2] at hO
              have e2 : 0 ≤ (2 * r - o + n) % n := Int.emod_nonneg _ (by omega)
              have e3 : (2 * r - o + n) % n < n := Int.emod_lt_of_pos _ (by omega)
              have hq := Lib.hid (hE2.out.trans (if_neg (by rw [hO]; omega)))
              rw [hO] at hq
              have hn0 : ¬ n = 0 := by omega
              have d6 : ¬ m ≤ (2 * r - o + n) % n := by omega
              have hA := Lib.hid (fun k => @hitA n r o k (by omega) (by omega))
              have hB := Lib.hid (fun k => @hitB n r o k (by omega) (by omega))
              have hX := Lib.hid (@hits n r o (by omega) (by omega) (by omega) (by omega) d1 b3)
              have hdv : n.tdiv 2 = n / 2 := Int.tdiv_eq_ediv_of_nonneg (by omega)
              have hdb : n / 2 ≤ 31 ∧ 0 ≤ n / 2 ∧ n / 2 < n := by omega
              obtain ⟨hdb1, hdb2, hdb3⟩ := hdb
              generalize hx : (2 * r - o + n) % n = x at *
              clear hO hx hE2
              go_enter Try.func7, Try.ntmps7; go_wp2_with fail; refine HC.out.mono ?_; rintro e w1 ⟨rfl, rfl⟩
              go_wp2
              go_loopw [9, 10, 11, 12] (fun ov kv _ _ w' => ∃ (k y : Int), 1 ≤ k ∧ k ≤ n / 2 + 1 ∧ kv = .int .i64 k ∧ ov = .int .i64 y ∧ Hid (Below w1.heap.size w1 w') ∧ Hid (y = x ∨ (∀ j : Int, 1 ≤ j → j < k → (r + j) % n ≠ o ∧ (r - j + n) % n ≠ o))) (fun _ kv _ _ _ => 40 - (intOf kv).toNat)
              case atStart => exact ⟨1, 0, by omega, by omega, rfl, rfl, Below.refl _ _, Or.inr (fun j h1 h2 => by omega)⟩
              case round =>
                obtain ⟨k, y, k1, k2, rfl, rfl, hL, hI⟩ := hrel
                by_cases hk : k ≤ n / 2
                · have t1 : (r + k).tmod n = (r + k) % n := Int.tmod_eq_emod_of_nonneg (by omega)
                  have t2 : (r - k + n).tmod n = (r - k + n) % n := Int.tmod_eq_emod_of_nonneg (by omega)
                  have u1 : 0 ≤ (r + k) % n := Int.emod_nonneg _ (by omega)
                  have u2 : (r + k) % n < n := Int.emod_lt_of_pos _ (by omega)
                  have v1 : 0 ≤ (r - k + n) % n := Int.emod_nonneg _ (by omega)
                  have v2 : (r - k + n) % n < n := Int.emod_lt_of_pos _ (by omega)
                  have hA1 := Lib.hid (hA.out k k1 (by omega))
                  have hB1 := Lib.hid (hB.out k k1 (by omega))
                  have hI2 := Lib.hid (fun (hy : y = x ∨ ((r + k) % n ≠ o ∧ (r - k + n) % n ≠ o)) => show y = x ∨ (∀ j : Int, 1 ≤ j → j < k + 1 → (r + j) % n ≠ o ∧ (r - j + n) % n ≠ o) by
                    rcases hI.out with h | h
                    · exact Or.inl h
                    · rcases hy with h2 | h2
                      · exact Or.inl h2
                      · refine Or.inr (fun j j1 j2 => ?_)
                        by_cases hj : j = k
                        · subst hj; exact h2
                        · exact h j j1 (by omega))
                  clear hI
                  have wr1 : IntKind.i64.wrap (r + k) = r + k := IntWalk.i64_in _ (by omega)
                  have wr2 : IntKind.i64.wrap (r - k) = r - k := IntWalk.i64_in _ (by omega)
                  have wr3 : IntKind.i64.wrap (r - k + n) = r - k + n := IntWalk.i64_in _ (by omega)
                  generalize (r + k) % n = a at *
                  generalize (r - k + n) % n = b at *
                  by_cases ha : a = o
                  · have hbx := hA1.out ha
                    by_cases hbo : b = o
                    · have hax := hB1.out hbo
                      go_wp2
                      refine wp_region_held_drew (S := (fun w' => Below w1.heap.size w1 w')) (by kernel_rfl) ?_ (fun hHelda0 => ?_)
                      · exact hL.out.drew
                      refine wpAnyH_take (i := 0) (v := ?va0) ops0 (by kernel_rfl) (by kernel_rfl) (by kernel_rfl) (fun _ _ _ h => h) (Or.inl ⟨by rfl, ?ya0⟩) hHelda0 ?_
                      case ya0 => (intro w hSw; (try dsimp only at hSw); go_simp; try (with_reducible rfl))
                      try simp only [Act.put, List.setIfInBounds_toArray, List.set_cons_zero, List.set_cons_succ]
                      refine wpAnyH_take (i := 1) (v := ?va1) (opsS ops0) (by kernel_rfl) (by kernel_rfl) (by kernel_rfl) (fun _ _ _ h => h) (Or.inl ⟨by rfl, ?ya1⟩) hHelda0 ?_
                      case ya1 => (intro w hSw; (try dsimp only at hSw); go_simp; try (with_reducible rfl))
                      try simp only [Act.put, List.setIfInBounds_toArray, List.set_cons_zero, List.set_cons_succ]
                      refine wpAnyH_take (i := 2) (v := ?va2) (opsS (opsS ops0)) (by kernel_rfl) (by kernel_rfl) (by kernel_rfl) (fun _ _ _ h => h) (Or.inl ⟨by rfl, ?ya2⟩) hHelda0 ?_
                      case ya2 => (intro w hSw; (try dsimp only at hSw); go_simp; try (with_reducible rfl))
                      try simp only [Act.put, List.setIfInBounds_toArray, List.set_cons_zero, List.set_cons_succ]
                      refine wpAnyH_take (i := 3) (v := ?va3) (opsS (opsS (opsS ops0))) (by kernel_rfl) (by kernel_rfl) (by kernel_rfl) (fun _ _ _ h => h) (Or.inl ⟨by rfl, ?ya3⟩) hHelda0 ?_
                      case ya3 => (intro w hSw; (try dsimp only at hSw); go_simp; try (with_reducible rfl))
                      try simp only [Act.put, List.setIfInBounds_toArray, List.set_cons_zero, List.set_cons_succ]
                      refine wpAnyH_take (i := 4) (v := ?va4) (opsS (opsS (opsS (opsS ops0)))) (by kernel_rfl) (by kernel_rfl) (by kernel_rfl) (fun _ _ _ h => h) (Or.inl ⟨by rfl, ?ya4⟩) hHelda0 ?_
                      case ya4 => (intro w hSw; (try dsimp only at hSw); go_simp; try (with_reducible rfl))
                      try simp only [Act.put, List.setIfInBounds_toArray, List.set_cons_zero, List.set_cons_succ]
                      refine wpAnyH_take (i := 5) (v := ?va5) (opsS (opsS (opsS (opsS (opsS ops0))))) (by kernel_rfl) (by kernel_rfl) (by kernel_rfl) (fun _ _ _ h => h) (Or.inl ⟨by rfl, ?ya5⟩) hHelda0 ?_
                      case ya5 => (intro w hSw; (try dsimp only at hSw); go_simp; try (with_reducible rfl))
                      try simp only [Act.put, List.setIfInBounds_toArray, List.set_cons_zero, List.set_cons_succ]
                      refine wpAnyH_take (i := 6) (v := ?va6) (opsS (opsS (opsS (opsS (opsS (opsS ops0)))))) (by kernel_rfl) (by kernel_rfl) (by kernel_rfl) (fun _ _ _ h => h) (Or.inl ⟨by rfl, ?ya6⟩) hHelda0 ?_
                      case ya6 => (intro w hSw; (try dsimp only at hSw); go_simp; try (with_reducible rfl))
                      try simp only [Act.put, List.setIfInBounds_toArray, List.set_cons_zero, List.set_cons_succ]
                      refine wpAnyH_take (i := 7) (v := ?va7) (opsS (opsS (opsS (opsS (opsS (opsS (opsS ops0))))))) (by kernel_rfl) (by kernel_rfl) (by kernel_rfl) (fun _ _ _ h => h) (Or.inl ⟨by rfl, ?ya7⟩) hHelda0 ?_
                      case ya7 => (intro w hSw; (try dsimp only at hSw); go_simp; try (with_reducible rfl))
                      try simp only [Act.put, List.setIfInBounds_toArray, List.set_cons_zero, List.set_cons_succ]
                      refine wpAnyH_take (i := 8) (v := ?va8) (opsS (opsS (opsS (opsS (opsS (opsS (opsS (opsS ops0)))))))) (by kernel_rfl) (by kernel_rfl) (by kernel_rfl) (fun _ _ _ h => h) (Or.inl ⟨by rfl, ?ya8⟩) hHelda0 ?_
                      case ya8 => (intro w hSw; (try dsimp only at hSw); go_simp; try (with_reducible rfl))
                      try simp only [Act.put, List.setIfInBounds_toArray, List.set_cons_zero, List.set_cons_succ]
                      refine wpAnyH_take (i := 9) (v := ?va9) (opsS (opsS (opsS (opsS (opsS (opsS (opsS (opsS (opsS ops0))))))))) (by kernel_rfl) (by kernel_rfl) (by kernel_rfl) (fun _ _ _ h => h) (Or.inl ⟨by rfl, ?ya9⟩) hHelda0 ?_
                      case ya9 => (intro w hSw; (try dsimp only at hSw); go_simp; try (with_reducible rfl))
                      try simp only [Act.put, List.setIfInBounds_toArray, List.set_cons_zero, List.set_cons_succ]
                      refine wpAnyH_take (i := 10) (v := ?va10) (opsS (opsS (opsS (opsS (opsS (opsS (opsS (opsS (opsS (opsS ops0)))))))))) (by kernel_rfl) (by kernel_rfl) (by kernel_rfl) (fun _ _ _ h => h) (Or.inl ⟨by rfl, ?ya10⟩) hHelda0 ?_
                      case ya10 => (intro w hSw; (try dsimp only at hSw); go_simp; try (with_reducible rfl))
                      try simp only [Act.put, List.setIfInBounds_toArray, List.set_cons_zero, List.set_cons_succ]
                      refine wpAnyH_take (i := 11) (v := ?va11) (opsS (opsS (opsS (opsS (opsS (opsS (opsS (opsS (opsS (opsS (opsS ops0))))))))))) (by kernel_rfl) (by kernel_rfl) (by kernel_rfl) (fun _ _ _ h => h) (Or.inl ⟨by rfl, ?ya11⟩) hHelda0 ?_
                      case ya11 => (intro w hSw; (try dsimp only at hSw); go_simp; try (with_reducible rfl))
                      try simp only [Act.put, List.setIfInBounds_toArray, List.set_cons_zero, List.set_cons_succ]
                      refine wpAnyH_take (i := 12) (v := ?va12) (opsS (opsS (opsS (opsS (opsS (opsS (opsS (opsS (opsS (opsS (opsS (opsS ops0)))))))))))) (by kernel_rfl) (by kernel_rfl) (by kernel_rfl) (fun _ _ _ h => h) (Or.inl ⟨by rfl, ?ya12⟩) hHelda0 ?_
                      case ya12 => (intro w hSw; (try dsimp only at hSw); go_simp; try (with_reducible rfl))
                      try simp only [Act.put, List.setIfInBounds_toArray, List.set_cons_zero, List.set_cons_succ]
                      refine wpAnyH_take (i := 13) (v := ?va13) (opsS (opsS (opsS (opsS (opsS (opsS (opsS (opsS (opsS (opsS (opsS (opsS (opsS ops0))))))))))))) (by kernel_rfl) (by kernel_rfl) (by kernel_rfl) (fun _ _ _ h => h) (Or.inl ⟨by rfl, ?ya13⟩) hHelda0 ?_
                      case ya13 => (intro w hSw; (try dsimp only at hSw); go_simp; try (with_reducible rfl))
                      try simp only [Act.put, List.setIfInBounds_toArray, List.set_cons_zero, List.set_cons_succ]
                      refine wpAnyH_done (by kernel_rfl) ?_ _
                      go_wp2
                      refine ⟨⟨k + 1, a, by omega, by omega, rfl, (by first | rfl | rw [ha] | rw [hbx] | rw [hax]), hHelda0, Lib.hid (Or.inl hax)⟩, ?_⟩
                      simp only [intOf]; omega
                    · go_wp2
                      refine wp_region_held_drew (S := (fun w' => Below w1.heap.size w1 w')) (by kernel_rfl) ?_ (fun hHeldu0 => ?_)
                      · exact hL.out.drew
                      refine wpAnyH_take (i := 0) (v := ?vu0) ops0 (by kernel_rfl) (by kernel_rfl) (by kernel_rfl) (fun _ _ _ h => h) (Or.inl ⟨by rfl, ?yu0⟩) hHeldu0 ?_
                      case yu0 => (intro w hSw; (try dsimp only at hSw); go_simp; try (with_reducible rfl))
                      try simp only [Act.put, List.setIfInBounds_toArray, List.set_cons_zero, List.set_cons_succ]
                      refine wpAnyH_take (i := 1) (v := ?vu1) (opsS ops0) (by kernel_rfl) (by kernel_rfl) (by kernel_rfl) (fun _ _ _ h => h) (Or.inl ⟨by rfl, ?yu1⟩) hHeldu0 ?_
                      case yu1 => (intro w hSw; (try dsimp only at hSw); go_simp; try (with_reducible rfl))
                      try simp only [Act.put, List.setIfInBounds_toArray, List.set_cons_zero, List.set_cons_succ]
                      refine wpAnyH_take (i := 2) (v := ?vu2) (opsS (opsS ops0)) (by kernel_rfl) (by kernel_rfl) (by kernel_rfl) (fun _ _ _ h => h) (Or.inl ⟨by rfl, ?yu2⟩) hHeldu0 ?_
                      case yu2 => (intro w hSw; (try dsimp only at hSw); go_simp; try (with_reducible rfl))
                      try simp only [Act.put, List.setIfInBounds_toArray, List.set_cons_zero, List.set_cons_succ]
                      refine wpAnyH_take (i := 3) (v := ?vu3) (opsS (opsS (opsS ops0))) (by kernel_rfl) (by kernel_rfl) (by kernel_rfl) (fun _ _ _ h => h) (Or.inl ⟨by rfl, ?yu3⟩) hHeldu0 ?_
                      case yu3 => (intro w hSw; (try dsimp only at hSw); go_simp; try (with_reducible rfl))
                      try simp only [Act.put, List.setIfInBounds_toArray, List.set_cons_zero, List.set_cons_succ]
                      refine wpAnyH_take (i := 4) (v := ?vu4) (opsS (opsS (opsS (opsS ops0)))) (by kernel_rfl) (by kernel_rfl) (by kernel_rfl) (fun _ _ _ h => h) (Or.inl ⟨by rfl, ?yu4⟩) hHeldu0 ?_
                      case yu4 => (intro w hSw; (try dsimp only at hSw); go_simp; try (with_reducible rfl))
                      try simp only [Act.put, List.setIfInBounds_toArray, List.set_cons_zero, List.set_cons_succ]
                      refine wpAnyH_take (i := 5) (v := ?vu5) (opsS (opsS (opsS (opsS (opsS ops0))))) (by kernel_rfl) (by kernel_rfl) (by kernel_rfl) (fun _ _ _ h => h) (Or.inl ⟨by rfl, ?yu5⟩) hHeldu0 ?_
                      case yu5 => (intro w hSw; (try dsimp only at hSw); go_simp; try (with_reducible rfl))
                      try simp only [Act.put, List.setIfInBounds_toArray, List.set_cons_zero, List.set_cons_succ]
                      refine wpAnyH_take (i := 6) (v := ?vu6) (opsS (opsS (opsS (opsS (opsS (opsS ops0)))))) (by kernel_rfl) (by kernel_rfl) (by kernel_rfl) (fun _ _ _ h => h) (Or.inl ⟨by rfl, ?yu6⟩) hHeldu0 ?_
                      case yu6 => (intro w hSw; (try dsimp only at hSw); go_simp; try (with_reducible rfl))
                      try simp only [Act.put, List.setIfInBounds_toArray, List.set_cons_zero, List.set_cons_succ]
                      refine wpAnyH_take (i := 7) (v := ?vu7) (opsS (opsS (opsS (opsS (opsS (opsS (opsS ops0))))))) (by kernel_rfl) (by kernel_rfl) (by kernel_rfl) (fun _ _ _ h => h) (Or.inl ⟨by rfl, ?yu7⟩) hHeldu0 ?_
                      case yu7 => (intro w hSw; (try dsimp only at hSw); go_simp; try (with_reducible rfl))
                      try simp only [Act.put, List.setIfInBounds_toArray, List.set_cons_zero, List.set_cons_succ]
                      refine wpAnyH_take (i := 8) (v := ?vu8) (opsS (opsS (opsS (opsS (opsS (opsS (opsS (opsS ops0)))))))) (by kernel_rfl) (by kernel_rfl) (by kernel_rfl) (fun _ _ _ h => h) (Or.inl ⟨by rfl, ?yu8⟩) hHeldu0 ?_
                      case yu8 => (intro w hSw; (try dsimp only at hSw); go_simp; try (with_reducible rfl))
                      try simp only [Act.put, List.setIfInBounds_toArray, List.set_cons_zero, List.set_cons_succ]
                      refine wpAnyH_take (i := 9) (v := ?vu9) (opsS (opsS (opsS (opsS (opsS (opsS (opsS (opsS (opsS ops0))))))))) (by kernel_rfl) (by kernel_rfl) (by kernel_rfl) (fun _ _ _ h => h) (Or.inl ⟨by rfl, ?yu9⟩) hHeldu0 ?_
                      case yu9 => (intro w hSw; (try dsimp only at hSw); go_simp; try (with_reducible rfl))
                      try simp only [Act.put, List.setIfInBounds_toArray, List.set_cons_zero, List.set_cons_succ]
                      refine wpAnyH_take (i := 10) (v := ?vu10) (opsS (opsS (opsS (opsS (opsS (opsS (opsS (opsS (opsS (opsS ops0)))))))))) (by kernel_rfl) (by kernel_rfl) (by kernel_rfl) (fun _ _ _ h => h) (Or.inl ⟨by rfl, ?yu10⟩) hHeldu0 ?_
                      case yu10 => (intro w hSw; (try dsimp only at hSw); go_simp; try (with_reducible rfl))
                      try simp only [Act.put, List.setIfInBounds_toArray, List.set_cons_zero, List.set_cons_succ]
                      refine wpAnyH_take (i := 11) (v := ?vu11) (opsS (opsS (opsS (opsS (opsS (opsS (opsS (opsS (opsS (opsS (opsS ops0))))))))))) (by kernel_rfl) (by kernel_rfl) (by kernel_rfl) (fun _ _ _ h => h) (Or.inl ⟨by rfl, ?yu11⟩) hHeldu0 ?_
                      case yu11 => (intro w hSw; (try dsimp only at hSw); go_simp; try (with_reducible rfl))
                      try simp only [Act.put, List.setIfInBounds_toArray, List.set_cons_zero, List.set_cons_succ]
                      refine wpAnyH_take (i := 12) (v := ?vu12) (opsS (opsS (opsS (opsS (opsS (opsS (opsS (opsS (opsS (opsS (opsS (opsS ops0)))))))))))) (by kernel_rfl) (by kernel_rfl) (by kernel_rfl) (fun _ _ _ h => h) (Or.inl ⟨by rfl, ?yu12⟩) hHeldu0 ?_
                      case yu12 => (intro w hSw; (try dsimp only at hSw); go_simp; try (with_reducible rfl))
                      try simp only [Act.put, List.setIfInBounds_toArray, List.set_cons_zero, List.set_cons_succ]
                      refine wpAnyH_take (i := 13) (v := ?vu13) (opsS (opsS (opsS (opsS (opsS (opsS (opsS (opsS (opsS (opsS (opsS (opsS (opsS ops0))))))))))))) (by kernel_rfl) (by kernel_rfl) (by kernel_rfl) (fun _ _ _ h => h) (Or.inl ⟨by rfl, ?yu13⟩) hHeldu0 ?_
                      case yu13 => (intro w hSw; (try dsimp only at hSw); go_simp; try (with_reducible rfl))
                      try simp only [Act.put, List.setIfInBounds_toArray, List.set_cons_zero, List.set_cons_succ]
                      refine wpAnyH_done (by kernel_rfl) ?_ _
                      go_wp2
                      refine ⟨⟨k + 1, b, by omega, by omega, rfl, (by first | rfl | rw [ha] | rw [hbx] | rw [hax]), hHeldu0, Lib.hid (Or.inl hbx)⟩, ?_⟩
                      simp only [intOf]; omega
                  · by_cases hbo : b = o
                    · have hax := hB1.out hbo
                      go_wp2
                      refine wp_region_held_drew (S := (fun w' => Below w1.heap.size w1 w')) (by kernel_rfl) ?_ (fun hHeldb0 => ?_)
                      · exact hL.out.drew
                      refine wpAnyH_take (i := 0) (v := ?vb0) ops0 (by kernel_rfl) (by kernel_rfl) (by kernel_rfl) (fun _ _ _ h => h) (Or.inl ⟨by rfl, ?yb0⟩) hHeldb0 ?_
                      case yb0 => (intro w hSw; (try dsimp only at hSw); go_simp; try (with_reducible rfl))
                      try simp only [Act.put, List.setIfInBounds_toArray, List.set_cons_zero, List.set_cons_succ]
                      refine wpAnyH_take (i := 1) (v := ?vb1) (opsS ops0) (by kernel_rfl) (by kernel_rfl) (by kernel_rfl) (fun _ _ _ h => h) (Or.inl ⟨by rfl, ?yb1⟩) hHeldb0 ?_
                      case yb1 => (intro w hSw; (try dsimp only at hSw); go_simp; try (with_reducible rfl))
                      try simp only [Act.put, List.setIfInBounds_toArray, List.set_cons_zero, List.set_cons_succ]
                      refine wpAnyH_take (i := 2) (v := ?vb2) (opsS (opsS ops0)) (by kernel_rfl) (by kernel_rfl) (by kernel_rfl) (fun _ _ _ h => h) (Or.inl ⟨by rfl, ?yb2⟩) hHeldb0 ?_
                      case yb2 => (intro w hSw; (try dsimp only at hSw); go_simp; try (with_reducible rfl))
                      try simp only [Act.put, List.setIfInBounds_toArray, List.set_cons_zero, List.set_cons_succ]
                      refine wpAnyH_take (i := 3) (v := ?vb3) (opsS (opsS (opsS ops0))) (by kernel_rfl) (by kernel_rfl) (by kernel_rfl) (fun _ _ _ h => h) (Or.inl ⟨by rfl, ?yb3⟩) hHeldb0 ?_
                      case yb3 => (intro w hSw; (try dsimp only at hSw); go_simp; try (with_reducible rfl))
                      try simp only [Act.put, List.setIfInBounds_toArray, List.set_cons_zero, List.set_cons_succ]
                      refine wpAnyH_take (i := 4) (v := ?vb4) (opsS (opsS (opsS (opsS ops0)))) (by kernel_rfl) (by kernel_rfl) (by kernel_rfl) (fun _ _ _ h => h) (Or.inl ⟨by rfl, ?yb4⟩) hHeldb0 ?_
                      case yb4 => (intro w hSw; (try dsimp only at hSw); go_simp; try (with_reducible rfl))
                      try simp only [Act.put, List.setIfInBounds_toArray, List.set_cons_zero, List.set_cons_succ]
                      refine wpAnyH_take (i := 5) (v := ?vb5) (opsS (opsS (opsS (opsS (opsS ops0))))) (by kernel_rfl) (by kernel_rfl) (by kernel_rfl) (fun _ _ _ h => h) (Or.inl ⟨by rfl, ?yb5⟩) hHeldb0 ?_
                      case yb5 => (intro w hSw; (try dsimp only at hSw); go_simp; try (with_reducible rfl))
                      try simp only [Act.put, List.setIfInBounds_toArray, List.set_cons_zero, List.set_cons_succ]
                      refine wpAnyH_take (i := 6) (v := ?vb6) (opsS (opsS (opsS (opsS (opsS (opsS ops0)))))) (by kernel_rfl) (by kernel_rfl) (by kernel_rfl) (fun _ _ _ h => h) (Or.inl ⟨by rfl, ?yb6⟩) hHeldb0 ?_
                      case yb6 => (intro w hSw; (try dsimp only at hSw); go_simp; try (with_reducible rfl))
                      try simp only [Act.put, List.setIfInBounds_toArray, List.set_cons_zero, List.set_cons_succ]
                      refine wpAnyH_take (i := 7) (v := ?vb7) (opsS (opsS (opsS (opsS (opsS (opsS (opsS ops0))))))) (by kernel_rfl) (by kernel_rfl) (by kernel_rfl) (fun _ _ _ h => h) (Or.inl ⟨by rfl, ?yb7⟩) hHeldb0 ?_
                      case yb7 => (intro w hSw; (try dsimp only at hSw); go_simp; try (with_reducible rfl))
                      try simp only [Act.put, List.setIfInBounds_toArray, List.set_cons_zero, List.set_cons_succ]
                      refine wpAnyH_take (i := 8) (v := ?vb8) (opsS (opsS (opsS (opsS (opsS (opsS (opsS (opsS ops0)))))))) (by kernel_rfl) (by kernel_rfl) (by kernel_rfl) (fun _ _ _ h => h) (Or.inl ⟨by rfl, ?yb8⟩) hHeldb0 ?_
                      case yb8 => (intro w hSw; (try dsimp only at hSw); go_simp; try (with_reducible rfl))
                      try simp only [Act.put, List.setIfInBounds_toArray, List.set_cons_zero, List.set_cons_succ]
                      refine wpAnyH_take (i := 9) (v := ?vb9) (opsS (opsS (opsS (opsS (opsS (opsS (opsS (opsS (opsS ops0))))))))) (by kernel_rfl) (by kernel_rfl) (by kernel_rfl) (fun _ _ _ h => h) (Or.inl ⟨by rfl, ?yb9⟩) hHeldb0 ?_
                      case yb9 => (intro w hSw; (try dsimp only at hSw); go_simp; try (with_reducible rfl))
                      try simp only [Act.put, List.setIfInBounds_toArray, List.set_cons_zero, List.set_cons_succ]
                      refine wpAnyH_take (i := 10) (v := ?vb10) (opsS (opsS (opsS (opsS (opsS (opsS (opsS (opsS (opsS (opsS ops0)))))))))) (by kernel_rfl) (by kernel_rfl) (by kernel_rfl) (fun _ _ _ h => h) (Or.inl ⟨by rfl, ?yb10⟩) hHeldb0 ?_
                      case yb10 => (intro w hSw; (try dsimp only at hSw); go_simp; try (with_reducible rfl))
                      try simp only [Act.put, List.setIfInBounds_toArray, List.set_cons_zero, List.set_cons_succ]
                      refine wpAnyH_take (i := 11) (v := ?vb11) (opsS (opsS (opsS (opsS (opsS (opsS (opsS (opsS (opsS (opsS (opsS ops0))))))))))) (by kernel_rfl) (by kernel_rfl) (by kernel_rfl) (fun _ _ _ h => h) (Or.inl ⟨by rfl, ?yb11⟩) hHeldb0 ?_
                      case yb11 => (intro w hSw; (try dsimp only at hSw); go_simp; try (with_reducible rfl))
                      try simp only [Act.put, List.setIfInBounds_toArray, List.set_cons_zero, List.set_cons_succ]
                      refine wpAnyH_take (i := 12) (v := ?vb12) (opsS (opsS (opsS (opsS (opsS (opsS (opsS (opsS (opsS (opsS (opsS (opsS ops0)))))))))))) (by kernel_rfl) (by kernel_rfl) (by kernel_rfl) (fun _ _ _ h => h) (Or.inl ⟨by rfl, ?yb12⟩) hHeldb0 ?_
                      case yb12 => (intro w hSw; (try dsimp only at hSw); go_simp; try (with_reducible rfl))
                      try simp only [Act.put, List.setIfInBounds_toArray, List.set_cons_zero, List.set_cons_succ]
                      refine wpAnyH_take (i := 13) (v := ?vb13) (opsS (opsS (opsS (opsS (opsS (opsS (opsS (opsS (opsS (opsS (opsS (opsS (opsS ops0))))))))))))) (by kernel_rfl) (by kernel_rfl) (by kernel_rfl) (fun _ _ _ h => h) (Or.inl ⟨by rfl, ?yb13⟩) hHeldb0 ?_
                      case yb13 => (intro w hSw; (try dsimp only at hSw); go_simp; try (with_reducible rfl))
                      try simp only [Act.put, List.setIfInBounds_toArray, List.set_cons_zero, List.set_cons_succ]
                      refine wpAnyH_done (by kernel_rfl) ?_ _
                      go_wp2
                      refine ⟨⟨k + 1, a, by omega, by omega, rfl, (by first | rfl | rw [ha] | rw [hbx] | rw [hax]), hHeldb0, Lib.hid (Or.inl hax)⟩, ?_⟩
                      simp only [intOf]; omega
                    · go_wp2
                      refine wp_region_held_drew (S := (fun w' => Below w1.heap.size w1 w')) (by kernel_rfl) ?_ (fun hHeldv0 => ?_)
                      · exact hL.out.drew
                      refine wpAnyH_take (i := 0) (v := ?vv0) ops0 (by kernel_rfl) (by kernel_rfl) (by kernel_rfl) (fun _ _ _ h => h) (Or.inl ⟨by rfl, ?yv0⟩) hHeldv0 ?_
                      case yv0 => (intro w hSw; (try dsimp only at hSw); go_simp; try (with_reducible rfl))
                      try simp only [Act.put, List.setIfInBounds_toArray, List.set_cons_zero, List.set_cons_succ]
                      refine wpAnyH_take (i := 1) (v := ?vv1) (opsS ops0) (by kernel_rfl) (by kernel_rfl) (by kernel_rfl) (fun _ _ _ h => h) (Or.inl ⟨by rfl, ?yv1⟩) hHeldv0 ?_
                      case yv1 => (intro w hSw; (try dsimp only at hSw); go_simp; try (with_reducible rfl))
                      try simp only [Act.put, List.setIfInBounds_toArray, List.set_cons_zero, List.set_cons_succ]
                      refine wpAnyH_take (i := 2) (v := ?vv2) (opsS (opsS ops0)) (by kernel_rfl) (by kernel_rfl) (by kernel_rfl) (fun _ _ _ h => h) (Or.inl ⟨by rfl, ?yv2⟩) hHeldv0 ?_
                      case yv2 => (intro w hSw; (try dsimp only at hSw); go_simp; try (with_reducible rfl))
                      try simp only [Act.put, List.setIfInBounds_toArray, List.set_cons_zero, List.set_cons_succ]
                      refine wpAnyH_take (i := 3) (v := ?vv3) (opsS (opsS (opsS ops0))) (by kernel_rfl) (by kernel_rfl) (by kernel_rfl) (fun _ _ _ h => h) (Or.inl ⟨by rfl, ?yv3⟩) hHeldv0 ?_
                      case yv3 => (intro w hSw; (try dsimp only at hSw); go_simp; try (with_reducible rfl))
                      try simp only [Act.put, List.setIfInBounds_toArray, List.set_cons_zero, List.set_cons_succ]
                      refine wpAnyH_take (i := 4) (v := ?vv4) (opsS (opsS (opsS (opsS ops0)))) (by kernel_rfl) (by kernel_rfl) (by kernel_rfl) (fun _ _ _ h => h) (Or.inl ⟨by rfl, ?yv4⟩) hHeldv0 ?_
                      case yv4 => (intro w hSw; (try dsimp only at hSw); go_simp; try (with_reducible rfl))
                      try simp only [Act.put, List.setIfInBounds_toArray, List.set_cons_zero, List.set_cons_succ]
                      refine wpAnyH_take (i := 5) (v := ?vv5) (opsS (opsS (opsS (opsS (opsS ops0))))) (by kernel_rfl) (by kernel_rfl) (by kernel_rfl) (fun _ _ _ h => h) (Or.inl ⟨by rfl, ?yv5⟩) hHeldv0 ?_
                      case yv5 => (intro w hSw; (try dsimp only at hSw); go_simp; try (with_reducible rfl))
                      try simp only [Act.put, List.setIfInBounds_toArray, List.set_cons_zero, List.set_cons_succ]
                      refine wpAnyH_take (i := 6) (v := ?vv6) (opsS (opsS (opsS (opsS (opsS (opsS ops0)))))) (by kernel_rfl) (by kernel_rfl) (by kernel_rfl) (fun _ _ _ h => h) (Or.inl ⟨by rfl, ?yv6⟩) hHeldv0 ?_
                      case yv6 => (intro w hSw; (try dsimp only at hSw); go_simp; try (with_reducible rfl))
                      try simp only [Act.put, List.setIfInBounds_toArray, List.set_cons_zero, List.set_cons_succ]
                      refine wpAnyH_take (i := 7) (v := ?vv7) (opsS (opsS (opsS (opsS (opsS (opsS (opsS ops0))))))) (by kernel_rfl) (by kernel_rfl) (by kernel_rfl) (fun _ _ _ h => h) (Or.inl ⟨by rfl, ?yv7⟩) hHeldv0 ?_
                      case yv7 => (intro w hSw; (try dsimp only at hSw); go_simp; try (with_reducible rfl))
                      try simp only [Act.put, List.setIfInBounds_toArray, List.set_cons_zero, List.set_cons_succ]
                      refine wpAnyH_take (i := 8) (v := ?vv8) (opsS (opsS (opsS (opsS (opsS (opsS (opsS (opsS ops0)))))))) (by kernel_rfl) (by kernel_rfl) (by kernel_rfl) (fun _ _ _ h => h) (Or.inl ⟨by rfl, ?yv8⟩) hHeldv0 ?_
                      case yv8 => (intro w hSw; (try dsimp only at hSw); go_simp; try (with_reducible rfl))
                      try simp only [Act.put, List.setIfInBounds_toArray, List.set_cons_zero, List.set_cons_succ]
                      refine wpAnyH_take (i := 9) (v := ?vv9) (opsS (opsS (opsS (opsS (opsS (opsS (opsS (opsS (opsS ops0))))))))) (by kernel_rfl) (by kernel_rfl) (by kernel_rfl) (fun _ _ _ h => h) (Or.inl ⟨by rfl, ?yv9⟩) hHeldv0 ?_
                      case yv9 => (intro w hSw; (try dsimp only at hSw); go_simp; try (with_reducible rfl))
                      try simp only [Act.put, List.setIfInBounds_toArray, List.set_cons_zero, List.set_cons_succ]
                      refine wpAnyH_take (i := 10) (v := ?vv10) (opsS (opsS (opsS (opsS (opsS (opsS (opsS (opsS (opsS (opsS ops0)))))))))) (by kernel_rfl) (by kernel_rfl) (by kernel_rfl) (fun _ _ _ h => h) (Or.inl ⟨by rfl, ?yv10⟩) hHeldv0 ?_
                      case yv10 => (intro w hSw; (try dsimp only at hSw); go_simp; try (with_reducible rfl))
                      try simp only [Act.put, List.setIfInBounds_toArray, List.set_cons_zero, List.set_cons_succ]
                      refine wpAnyH_take (i := 11) (v := ?vv11) (opsS (opsS (opsS (opsS (opsS (opsS (opsS (opsS (opsS (opsS (opsS ops0))))))))))) (by kernel_rfl) (by kernel_rfl) (by kernel_rfl) (fun _ _ _ h => h) (Or.inl ⟨by rfl, ?yv11⟩) hHeldv0 ?_
                      case yv11 => (intro w hSw; (try dsimp only at hSw); go_simp; try (with_reducible rfl))
                      try simp only [Act.put, List.setIfInBounds_toArray, List.set_cons_zero, List.set_cons_succ]
                      refine wpAnyH_take (i := 12) (v := ?vv12) (opsS (opsS (opsS (opsS (opsS (opsS (opsS (opsS (opsS (opsS (opsS (opsS ops0)))))))))))) (by kernel_rfl) (by kernel_rfl) (by kernel_rfl) (fun _ _ _ h => h) (Or.inl ⟨by rfl, ?yv12⟩) hHeldv0 ?_
                      case yv12 => (intro w hSw; (try dsimp only at hSw); go_simp; try (with_reducible rfl))
                      try simp only [Act.put, List.setIfInBounds_toArray, List.set_cons_zero, List.set_cons_succ]
                      refine wpAnyH_take (i := 13) (v := ?vv13) (opsS (opsS (opsS (opsS (opsS (opsS (opsS (opsS (opsS (opsS (opsS (opsS (opsS ops0))))))))))))) (by kernel_rfl) (by kernel_rfl) (by kernel_rfl) (fun _ _ _ h => h) (Or.inl ⟨by rfl, ?yv13⟩) hHeldv0 ?_
                      case yv13 => (intro w hSw; (try dsimp only at hSw); go_simp; try (with_reducible rfl))
                      try simp only [Act.put, List.setIfInBounds_toArray, List.set_cons_zero, List.set_cons_succ]
                      refine wpAnyH_done (by kernel_rfl) ?_ _
                      go_wp2
                      refine ⟨⟨k + 1, y, by omega, by omega, rfl, (by first | rfl | rw [ha] | rw [hbx] | rw [hax]), hHeldv0, Lib.hid (hI2.out (Or.inr ⟨ha, hbo⟩))⟩, ?_⟩
                      simp only [intOf]; omega
                · have hy : y = x := by
                    rcases hI.out with h | h
                    · exact h
                    · exact (hX.out (fun j j1 j2 => h j j1 (by omega))).elim
                  subst hy
                  go_wp2
                  go_ret2
                  exact ⟨by rw [hq.out]; rfl, hL.out⟩
end Go.Proofs.Ytigcfpalmkfoiaa.pg
