/- NameNumbers: numbers are told by their digits. -/
import Derived.Test.YtkkihbnaaaajeaaDoorNmA
namespace Go.Proofs.YtkkihbnaaaajeaaDoor.nm
open Go.ChangeShapes Go.WideShapes Go.ChangeAt Go.RowKit Go.Proofs.Aid Go.Proofs.YtkkihbnaaaajeaaDoor.seg Go.Proofs.YtkkihbnaaaajeaaDoor.name Go.Proofs.YtkkihbnaaaajeaaDoor.texts Go.Proofs.YtkkihbnaaaajeaaDoor.num
theorem dec_num {s : ByteArray} {k : Int} (h : num s = some k) : dec k = s ∧ -9223372036854775808 ≤ k ∧ k ≤ 9223372036854775807 := by
  obtain ⟨e, h0, h1⟩ := num_back h
  exact ⟨(str_eq e).symm, h0, h1⟩
theorem num_dec (n : Int) (h0 : -9223372036854775808 ≤ n) (h1 : n ≤ 9223372036854775807) : num (dec n) = some n := num_itoa n h0 h1
theorem dec_size (n : Int) (h0 : -9223372036854775808 ≤ n) (h1 : n ≤ 9223372036854775807) : (dec n).size ≤ 20 := by
  have := itoa_len n h0 h1
  show (Lib.itoa n).toArray.size ≤ 20
  simpa using this
theorem i64_wf {n : Int} (h : (Lit.int .i64 n).wf = true) : -9223372036854775808 ≤ n ∧ n ≤ 9223372036854775807 := by
  have h1 : (decide (IntKind.i64.min ≤ n) && decide (n ≤ IntKind.i64.max)) = true := h
  rw [Bool.and_eq_true, decide_eq_true_eq, decide_eq_true_eq] at h1
  exact h1
set_option maxRecDepth 20000 in
set_option maxHeartbeats 4000000 in
theorem numbers_walk (W : World) (n : Int) (s : ByteArray) (HL : Hid (Lets W)) (hn : (Lit.int .i64 n).wf = true) (hs : s.size ≤ maxLen) :
    Calls Tryd.prog 5 #[.int .i64 n, .string s] W fun e w' => e = .returned (.bool true) ∧ Below W.heap.size W w' := by
  have hn0 : -9223372036854775808 ≤ n := (i64_wf hn).1
  have hn1 : n ≤ 9223372036854775807 := (i64_wf hn).2
  clear hn
  unfold maxLen at hs
  have hl0 : Hid (Below W.heap.size W W) := Below.refl _ _
  have hD := Lib.hid (fun w hL => dec_any n w hn0 hn1 hL)
  have hRD := Lib.hid (fun w => rdec_any n w hn0 hn1)
  have hds := dec_size n hn0 hn1
  have hN := Lib.hid (fun w hL => num_any (dec n) w (by omega) hL)
  rw [numR_some (num_dec n hn0 hn1)] at hN
  generalize dec n = d at *
  go_enter Tryd.func5, Tryd.ntmps5
  go_wp2_with fail
  refine Calls.mono (hD.out W HL) ?_
  rintro e w1 ⟨rfl, hb1⟩
  have hl1 := Lib.hid (hl0.out.trans (hb1.mono hl0.out.size))
  have hL1 := Lib.hid (HL.out.next hl1.out)
  clear hb1
  go_wp2_with fail
  refine Calls.mono (hN.out w1 hL1) ?_
  rintro e w2 ⟨rfl, hb2⟩
  have hl2 := Lib.hid (hl1.out.trans (hb2.mono hl1.out.size))
  have hL2 := Lib.hid (HL.out.next hl2.out)
  clear hb2
  go_wp2_with fail
  refine Calls.mono (hD.out w2 hL2) ?_
  rintro e w3 ⟨rfl, hb3⟩
  have hl3 := Lib.hid (hl2.out.trans (hb3.mono hl2.out.size))
  clear hb3
  go_wp2_with fail
  refine Calls.mono (hRD.out w3) ?_
  rintro e w4 ⟨rfl, hb4⟩
  have hl4 := Lib.hid (hl3.out.trans (hb4.mono hl3.out.size))
  have hL4 := Lib.hid (HL.out.next hl4.out)
  clear hb4
  by_cases h2 : s.size ≤ 200
  · cases hk : num s with
    | none =>
      have hM := Lib.hid (fun w hL => num_any s w (by omega) hL)
      rw [numR_none hk] at hM
      go_wp2_with fail
      refine Calls.mono (hM.out w4 hL4) ?_
      rintro e w5 ⟨rfl, hb5⟩
      have hl5 := Lib.hid (hl4.out.trans (hb5.mono hl4.out.size))
      have hL5 := Lib.hid (HL.out.next hl5.out)
      clear hb5
      go_wp2_with fail
      refine Calls.mono (awake_any w5 hL5) ?_
      rintro e w6 ⟨rfl, hb6⟩
      have hl6 := Lib.hid (hl5.out.trans (hb6.mono hl5.out.size))
      go_wp2
      go_ret
      exact ⟨rfl, hl6.out⟩
    | some k =>
      have hM := Lib.hid (fun w hL => num_any s w (by omega) hL)
      rw [numR_some hk] at hM
      obtain ⟨he, hk0, hk1⟩ := dec_num hk
      have hE := Lib.hid (fun w hL => dec_any k w hk0 hk1 hL)
      rw [he] at hE
      clear he hk
      go_wp2_with fail
      refine Calls.mono (hM.out w4 hL4) ?_
      rintro e w5 ⟨rfl, hb5⟩
      have hl5 := Lib.hid (hl4.out.trans (hb5.mono hl4.out.size))
      have hL5 := Lib.hid (HL.out.next hl5.out)
      clear hb5
      go_wp2_with fail
      refine Calls.mono (hE.out w5 hL5) ?_
      rintro e w6 ⟨rfl, hb6⟩
      have hl6 := Lib.hid (hl5.out.trans (hb6.mono hl5.out.size))
      have hL6 := Lib.hid (HL.out.next hl6.out)
      clear hb6
      go_wp2_with fail
      refine Calls.mono (awake_any w6 hL6) ?_
      rintro e w7 ⟨rfl, hb7⟩
      have hl7 := Lib.hid (hl6.out.trans (hb7.mono hl6.out.size))
      go_wp2
      go_ret
      exact ⟨rfl, hl7.out⟩
  · go_wp2_with fail
    refine Calls.mono (awake_any w4 hL4) ?_
    rintro e w5 ⟨rfl, hb5⟩
    have hl5 := Lib.hid (hl4.out.trans (hb5.mono hl4.out.size))
    go_wp2
    go_ret
    exact ⟨rfl, hl5.out⟩
theorem numbers_all (W : World) (v0 : Value) (v1 : Value) (h0 : V3 W v0) (h1 : V9 W v1) (HL : Hid (Lets W)) :
    Calls Tryd.prog 5 #[v0, v1] W fun e w' => e = .returned (.bool true) ∧ Below W.heap.size W w' := by
  obtain ⟨r, rfl, hr⟩ := h0
  obtain ⟨q, rfl, hq⟩ := h1
  exact numbers_walk W r.v q.v HL hr hq
end Go.Proofs.YtkkihbnaaaajeaaDoor.nm
