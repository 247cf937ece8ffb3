/- How many rounds, and who meets whom: the counts. -/
import Derived.Test.YtigcfpalmkfoiaaKit
namespace Go.Proofs.Ytigcfpalmkfoiaa.pg
open Go.ChangeShapes Go.WideShapes Go.ChangeAt Go.RowKit Go.Proofs.Aid
def circ (m : Int) : Int := if 2 ≤ m ∧ m ≤ 64 then m + m % 2 else 0
def cnt (m : Int) : Int := if 2 ≤ m ∧ m ≤ 64 then m + m % 2 - 1 else 0
theorem ret_int {k : IntKind} {a b : Int} (h : a = b) : Ending.returned (.int k a) = .returned (.int k b) := by rw [h]
set_option maxHeartbeats 1000000 in
theorem circle_any (m : Int) (w : World) : Calls Try.prog 14 #[.int .i64 m] w fun e w' => e = .returned (.int .i64 (circ m)) ∧ w' = w := by
  by_cases h1 : m < 2
  · go_enter Try.func14, Try.ntmps14
    go_wp2
    go_ret
    exact ⟨ret_int (by unfold circ; rw [if_neg (by omega)]), rfl⟩
  · by_cases h2 : 64 < m
    · go_enter Try.func14, Try.ntmps14
      go_wp2
      go_ret
      exact ⟨ret_int (by unfold circ; rw [if_neg (by omega)]), rfl⟩
    · have e1 : m.tmod 2 = m % 2 := Int.tmod_eq_emod_of_nonneg (by omega)
      go_enter Try.func14, Try.ntmps14
      go_wp2
      go_ret
      exact ⟨ret_int (by unfold circ; rw [if_pos (by omega)]), rfl⟩
theorem cnt_bd (m : Int) : 0 ≤ cnt m ∧ cnt m ≤ 63 ∧ (0 < cnt m → cnt m ≤ m ∧ m ≤ cnt m + 1 ∧ cnt m % 2 = 1) := by
  unfold cnt
  split <;> refine ⟨by omega, by omega, fun _ => ?_⟩ <;> omega
set_option maxHeartbeats 1000000 in
theorem count_any (m : Int) (w : World) : Calls Try.prog 8 #[.int .i64 m] w fun e w' => e = .returned (.int .i64 (cnt m)) ∧ w' = w := by
  have hc : cnt m = max (circ m - 1) 0 := by unfold cnt circ; split <;> omega
  have hb : 0 ≤ circ m ∧ circ m ≤ 64 := by unfold circ; split <;> omega
  have H := Lib.hid (circle_any m w)
  generalize circ m = c at *
  rw [hc]
  go_enter Try.func8, Try.ntmps8
  go_wp2_with fail
  refine H.out.mono ?_
  rintro e w1 ⟨rfl, rfl⟩
  obtain ⟨h1, h2⟩ := hb
  by_cases hz : c - 1 < 0
  · have hm : max (c - 1) 0 = 0 := by omega
    go_wp2
    go_ret
    exact ⟨ret_int (by omega), rfl⟩
  · have hm : max (c - 1) 0 = c - 1 := by omega
    go_wp2
    go_ret
    exact ⟨ret_int (by omega), rfl⟩
set_option maxHeartbeats 1000000 in
theorem even_any (m : Int) (w : World) (h1 : 2 ≤ m) (h2 : m ≤ 64) : Calls Try.prog 15 #[.int .i64 m] w fun e w' => e = .returned (.int .i64 (m + m % 2)) ∧ w' = w := by
  have e1 : m.tmod 2 = m % 2 := Int.tmod_eq_emod_of_nonneg (by omega)
  go_enter Try.func15, Try.ntmps15
  go_wp2
  go_ret
  exact ⟨rfl, rfl⟩
set_option maxHeartbeats 1000000 in
theorem rcount_any (m : Int) (w : World) : Calls Try.prog 9 #[.int .i64 m] w fun e w' => e = .returned (.int .i64 (cnt m)) ∧ w' = w := by
  by_cases h1 : m < 2
  · go_enter Try.func9, Try.ntmps9
    go_wp2
    go_ret
    exact ⟨ret_int (by unfold cnt; rw [if_neg (by omega)]), rfl⟩
  · by_cases h2 : 64 < m
    · go_enter Try.func9, Try.ntmps9
      go_wp2
      go_ret
      exact ⟨ret_int (by unfold cnt; rw [if_neg (by omega)]), rfl⟩
    · go_enter Try.func9, Try.ntmps9
      go_wp2_with fail
      refine (even_any m _ (by omega) (by omega)).mono ?_
      rintro e w1 ⟨rfl, rfl⟩
      have hm : 0 ≤ m % 2 ∧ m % 2 ≤ 1 := by omega
      obtain ⟨hm1, hm2⟩ := hm
      go_wp2
      go_ret
      exact ⟨ret_int (by unfold cnt; rw [if_pos (by omega)]), rfl⟩
def other (n r o : Int) : Int := if o = r then n else if o = n then r else (2 * r - o + n) % n
def mee (m r o : Int) : Int × Bool := if 0 ≤ r ∧ r < cnt m ∧ 0 ≤ o ∧ o < m then (if m ≤ other (cnt m) r o then (0, false) else (other (cnt m) r o, true)) else (0, false)
set_option maxHeartbeats 2000000 in
theorem meets_any (m r o : Int) (w : World) : Calls Try.prog 6 #[.int .i64 m, .int .i64 r, .int .i64 o] w fun e w' => e = .returned (.tuple #[.int .i64 (mee m r o).1, .bool (mee m r o).2]) ∧ w' = w := by
  have hE := Lib.hid (show mee m r o = if 0 ≤ r ∧ r < cnt m ∧ 0 ≤ o ∧ o < m then (if m ≤ other (cnt m) r o then (0, false) else (other (cnt m) r o, true)) else (0, false) from rfl)
  have hc := cnt_bd m
  have HC := Lib.hid (count_any m w)
  generalize mee m r o = q at *
  generalize cnt m = n at *
  obtain ⟨c1, c2, c3⟩ := hc
  by_cases a1 : r < 0
  · go_enter Try.func6, Try.ntmps6; go_wp2_with fail; refine HC.out.mono ?_; rintro e w1 ⟨rfl, rfl⟩; go_wp2; go_ret2; exact ⟨by rw [hE.out, if_neg (by omega)]; rfl, rfl⟩
  · by_cases a2 : n ≤ r
    · go_enter Try.func6, Try.ntmps6; go_wp2_with fail; refine HC.out.mono ?_; rintro e w1 ⟨rfl, rfl⟩; go_wp2; go_ret2; exact ⟨by rw [hE.out, if_neg (by omega)]; rfl, rfl⟩
    · by_cases a3 : o < 0
      · go_enter Try.func6, Try.ntmps6; go_wp2_with fail; refine HC.out.mono ?_; rintro e w1 ⟨rfl, rfl⟩; go_wp2; go_ret2; exact ⟨by rw [hE.out, if_neg (by omega)]; rfl, rfl⟩
      · by_cases a4 : m ≤ o
        · go_enter Try.func6, Try.ntmps6; go_wp2_with fail; refine HC.out.mono ?_; rintro e w1 ⟨rfl, rfl⟩; go_wp2; go_ret2; exact ⟨by rw [hE.out, if_neg (by omega)]; rfl, rfl⟩
        · obtain ⟨b1, b2, b3⟩ := c3 (by omega)
          have hE2 := Lib.hid (hE.out.trans (if_pos (by omega)))
          clear hE c3
          have hO : other n r o = if o = r then n else if o = n then r else (2 * r - o + n) % n := rfl
          have b1' : r ≤ 62 := by omega
          have b2' : o ≤ 63 := by omega
          by_cases d1 : o = r
          · rw [if_pos d1] at hO
            by_cases d5 : m ≤ n
            · have hq := Lib.hid (hE2.out.trans (if_pos (by rw [hO]; exact d5)))
              subst d1
              go_enter Try.func6, Try.ntmps6
              go_wp2_with fail
              refine HC.out.mono ?_
              rintro e w1 ⟨rfl, rfl⟩
              go_wp2
              go_ret2
              exact ⟨by rw [hq.out]; rfl, rfl⟩
            · have hq := Lib.hid (hE2.out.trans (if_neg (by rw [hO]; exact d5)))
              rw [hO] at hq
              subst d1
              go_enter Try.func6, Try.ntmps6
              go_wp2_with fail
              refine HC.out.mono ?_
              rintro e w1 ⟨rfl, rfl⟩
              go_wp2
              go_ret2
              exact ⟨by rw [hq.out]; rfl, rfl⟩
          · rw [if_neg d1] at hO
            by_cases d2 : o = n
            · rw [if_pos d2] at hO
              have hq := Lib.hid (hE2.out.trans (if_neg (by rw [hO]; omega)))
              rw [hO] at hq
              subst d2
              go_enter Try.func6, Try.ntmps6
              go_wp2_with fail
              refine HC.out.mono ?_
              rintro e w1 ⟨rfl, rfl⟩
              have d6 : ¬ m ≤ r := by omega
              go_wp2
              go_ret2
              exact ⟨by rw [hq.out]; rfl, rfl⟩
            · rw [if_neg d2] at hO
              have e1 : (2 * r - o + n).tmod n = (2 * r - o + n) % n := Int.tmod_eq_emod_of_nonneg (by omega)
              have e2 : 0 ≤ (2 * r - o + n) % n := Int.emod_nonneg _ (by omega)
              have e3 : (2 * r - o + n) % n < n := Int.emod_lt_of_pos _ (by omega)
              have hq := Lib.hid (hE2.out.trans (if_neg (by rw [hO]; omega)))
              rw [hO] at hq
              have hn0 : ¬ n = 0 := by omega
              have d6 : ¬ m ≤ (2 * r - o + n) % n := by omega
              generalize hx : (2 * r - o + n) % n = x at *
              clear hO hx
              go_enter Try.func6, Try.ntmps6
              go_wp2_with fail
              refine HC.out.mono ?_
              rintro e w1 ⟨rfl, rfl⟩
              go_wp2
              go_ret2
              exact ⟨by rw [hq.out]; rfl, rfl⟩
end Go.Proofs.Ytigcfpalmkfoiaa.pg
