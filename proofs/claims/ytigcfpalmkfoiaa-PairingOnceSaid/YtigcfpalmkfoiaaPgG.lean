/- PairingRounds: all rounds of any many. -/
import Derived.Test.YtigcfpalmkfoiaaPgF
namespace Go.Proofs.Ytigcfpalmkfoiaa.pg
set_option linter.unusedSimpArgs false
open Go.ChangeShapes Go.WideShapes Go.ChangeAt Go.RowKit Go.Proofs.Aid
set_option maxRecDepth 100000 in
set_option maxHeartbeats 4000000 in
theorem rounds_walk (b : Int) (hb0 : 0 ≤ b) (hb : b ≤ 255) (W : World) : Calls Try.prog 4 #[.int .u8 b] W fun e w' => e = .returned (.bool true) ∧ Below W.heap.size W w' := by
  obtain ⟨n, hn⟩ : ∃ n : Nat, b % 21 = n := ⟨(b % 21).toNat, by omega⟩
  have hn2 : n ≤ 20 := by omega
  have e1 : b.tmod 21 = n := by rw [Int.tmod_eq_emod_of_nonneg hb0, hn]
  have ew : IntKind.i64.wrap b = b := IntWalk.i64_in _ (by omega)
  have H1 := Lib.hid (fun w => Rounds_any n (by omega) w)
  have H2 := Lib.hid (fun w => rRounds_any n (by omega) w)
  have hl1 := rnds_len n
  have HL := Lib.hid (fun l (hl : l ∈ rnds n) => show l.length ≤ 64 by have := prs_mem_len hl; omega)
  generalize rnds n = ls at *
  go_enter Try.func4, Try.ntmps4
  go_wp2_with fail
  refine (H1.out _).mono ?_
  rintro e w1 ⟨v, rfl, hlp, hbl⟩
  have HP := Lib.hid hlp
  have HB := Lib.hid hbl
  clear hlp hbl
  go_wp2_with fail
  refine (H2.out _).mono ?_
  rintro e w2 ⟨v', rfl, hlp, hbl⟩
  have HP1 := Lib.hid (HP.out.below hbl)
  have HP2 := Lib.hid hlp
  have HB2 := Lib.hid (HB.out.trans (hbl.mono HB.out.size))
  clear hlp hbl HP
  go_wp2_with fail
  refine (same_any w2 v v' ls HP1.out HP2.out (by omega) HL.out).mono ?_
  rintro e w3 ⟨rfl, hbl⟩
  have HB3 := Lib.hid (HB2.out.trans (hbl.mono HB2.out.size))
  clear hbl
  go_wp2_with fail
  refine (awake_any _).mono ?_
  rintro e w4 ⟨rfl, hbl⟩
  have HB4 := Lib.hid (HB3.out.trans (hbl.mono HB3.out.size))
  clear hbl
  go_wp2
  go_ret
  exact ⟨rfl, HB4.out⟩
theorem u8_in {b : Int} (h : (Lit.int .u8 b).wf = true) : 0 ≤ b ∧ b ≤ 255 := by
  simpa [Lit.wf, IntKind.min, IntKind.max, IntKind.signed, IntKind.bits] using h
theorem rounds_all (W : World) (v0 : Value) (h0 : V5 W v0) :
    Calls Try.prog 4 #[v0] W fun e w' => e = .returned (.bool true) ∧ Below W.heap.size W w' := by
  obtain ⟨a, rfl, ha⟩ := h0
  obtain ⟨x, y⟩ := u8_in ha
  exact rounds_walk a.v x y W
end Go.Proofs.Ytigcfpalmkfoiaa.pg
