/- All rounds as rows that read; what must come; PairingIs. -/
import Derived.Test.YtigcfpalmkfoiaaPgD
namespace Go.Proofs.Ytigcfpalmkfoiaa.pg
set_option linter.unusedSimpArgs false
open Go.ChangeShapes Go.WideShapes Go.ChangeAt Go.RowKit Go.Proofs.Aid
/-- A row of rows of pairs, as it reads. -/
def LP (W : World) (v : Value) (ls : List (List (Int × Int))) : Prop := ∃ A c vs, v = .slice A ls.length c ∧ Reads W W.heap.size 1 A ls.length vs ∧ ∀ i (h : i < ls.length), ∃ A' c', vs[i]? = some (.slice A' ls[i].length c') ∧ Reads W W.heap.size 2 A' ls[i].length (ls[i].flatMap pc)
theorem LP.below {W W' : World} {v : Value} {ls : List (List (Int × Int))} (h : LP W v ls) (hb : Below W.heap.size W W') : LP W' v ls := by
  obtain ⟨A, c, vs, rfl, h1, h2⟩ := h
  exact ⟨A, c, vs, rfl, h1.more_below hb, fun i hi => by obtain ⟨A', c', e, h3⟩ := h2 i hi; exact ⟨A', c', e, h3.more_below hb⟩⟩
def rnds (m : Nat) : List (List (Int × Int)) := (upto (cnt m).toNat).map fun r => prs m r m
theorem RR.lp {n₀ : Nat} {W : World} {v : Value} {m : Int} {k : Nat} {s : List Int} (h : RR n₀ W v m k s) : LP W v (s.map fun r => prs m r k) := by
  obtain ⟨vs, h1, h2⟩ := h
  obtain ⟨A, c, rfl⟩ := own_form h1
  refine ⟨A, c, vs, by rw [List.length_map], by rw [List.length_map]; exact Reads.of_own h1, fun i hi => ?_⟩
  rw [List.length_map] at hi
  obtain ⟨u, hu, ho⟩ := h2 i hi
  obtain ⟨A', c', rfl⟩ := own_form ho
  exact ⟨A', c', by simpa using hu, by simpa using Reads.of_own ho⟩
theorem Rounds_any (m : Nat) (hm : m ≤ 64) (w : World) : Calls Try.prog 12 #[.int .i64 m] w fun e W' => ∃ v, e = .returned v ∧ LP W' v (rnds m) ∧ Below w.heap.size w W' := by
  have hc := cnt_bd m
  have e : cnt m = ((cnt m).toNat : Int) := by omega
  refine (callsIn_wide.1 (Rounds_in m hm (cnt m).toNat e (by omega) w)).mono ?_
  rintro e' W' ⟨v, h1, h2, h3⟩
  exact ⟨v, h1, h2.lp, h3⟩
theorem rnds4 : rnds 4 = [[(0, 3), (1, 2)], [(0, 2), (1, 3)], [(0, 1), (2, 3)]] := by kernel_rfl
theorem mee4 : mee 4 0 3 = (0, true) := by kernel_rfl
theorem cnt4 : cnt 4 = 3 := by kernel_rfl
theorem cnt1 : cnt 1 = 0 := by kernel_rfl
set_option maxRecDepth 100000 in
set_option maxHeartbeats 4000000 in
theorem awake_any (W : World) : Calls Try.prog 10 #[] W fun e w' => e = .returned (.bool true) ∧ Below W.heap.size W w' := by
  have HC4 := Lib.hid (fun w => count_any 4 w)
  have HC1 := Lib.hid (fun w => count_any 1 w)
  have HM4 := Lib.hid (fun w => meets_any 4 0 3 w)
  rw [cnt4] at HC4
  rw [cnt1] at HC1
  rw [mee4] at HM4
  go_enter Try.func10, Try.ntmps10
  go_wp2_with fail
  refine (Rounds_any 4 (by decide) W).mono ?_
  rw [rnds4]
  rintro e w1 ⟨v, rfl, hlp, hb⟩
  have HL := Lib.hid hb
  obtain ⟨A, c, vs, rfl, h1, h2⟩ := hlp
  obtain ⟨A', c', hv0, _⟩ := h2 0 (by decide)
  obtain ⟨ad, rfl, _, hcell⟩ := h1.2 (by decide)
  have d0 := hcell 0 _ hv0
  have d1 : w1.cell? ad = some (.slice A' 2 c') := by simpa [Addr.add] using d0
  clear h1 h2 hv0 hcell hb d0
  go_wp2_with fail
  refine (HM4.out _).mono ?_
  rintro e w2 ⟨rfl, rfl⟩
  go_wp2_with fail
  refine (HC4.out _).mono ?_
  rintro e w3 ⟨rfl, rfl⟩
  go_wp2_with fail
  refine (HC1.out _).mono ?_
  rintro e w4 ⟨rfl, rfl⟩
  go_wp2
  go_ret
  exact ⟨rfl, HL.out⟩
set_option maxRecDepth 100000 in
set_option maxHeartbeats 4000000 in
theorem is_walk (m r o : Int) (W : World) : Calls Try.prog 3 #[.int .i64 m, .int .i64 r, .int .i64 o] W fun e w' => e = .returned (.bool true) ∧ Below W.heap.size W w' := by
  have H1 := Lib.hid (fun w => meets_any m r o w)
  have H2 := Lib.hid (fun w => rmeets_any m r o w)
  have H3 := Lib.hid (fun w => count_any m w)
  have H4 := Lib.hid (fun w => rcount_any m w)
  generalize mee m r o = q at *
  generalize cnt m = c at *
  obtain ⟨y, b⟩ := q
  simp only at H1 H2
  go_enter Try.func3, Try.ntmps3
  go_wp2_with fail
  refine (H1.out _).mono ?_
  rintro e w1 ⟨rfl, rfl⟩
  go_wp2_with fail
  refine (H2.out _).mono ?_
  rintro e w2 ⟨rfl, hb⟩
  have HL := Lib.hid hb
  clear hb
  go_wp2_with fail
  refine (H3.out _).mono ?_
  rintro e w3 ⟨rfl, rfl⟩
  go_wp2_with fail
  refine (H4.out _).mono ?_
  rintro e w4 ⟨rfl, rfl⟩
  go_wp2_with fail
  refine (awake_any _).mono ?_
  rintro e w5 ⟨rfl, hb⟩
  replace HL := Lib.hid ((Hid.out HL).trans (hb.mono (Hid.out HL).size))
  clear hb
  go_wp2
  go_ret
  exact ⟨rfl, HL.out⟩
theorem is_all (W : World) (v0 v1 v2 : Value) (h0 : V3 W v0) (h1 : V3 W v1) (h2 : V3 W v2) :
    Calls Try.prog 3 #[v0, v1, v2] W fun e w' => e = .returned (.bool true) ∧ Below W.heap.size W w' := by
  obtain ⟨a, rfl, _⟩ := h0
  obtain ⟨b, rfl, _⟩ := h1
  obtain ⟨c, rfl, _⟩ := h2
  exact is_walk a.v b.v c.v W
end Go.Proofs.Ytigcfpalmkfoiaa.pg
