/- Sha: the laws. -/
import Derived.Test.YtfabhpppfmlppaaDoorShX
import Derived.Test.YtfabhpppfmlppaaDoorShL
import Derived.Test.YtfabhpppfmlppaaDoorOpen
namespace Go.Proofs.YtfabhpppfmlppaaDoor.shr
open Go.ChangeShapes Go.WideShapes Go.ChangeAt Go.RowKit Go.Proofs.Aid
open Go.Proofs.YtfabhpppfmlppaaDoor.oc (be be_length bz bz_append)
open Go.Proofs.YtfabhpppfmlppaaDoor.texts (tc)
open Go.Proofs.YtfabhpppfmlppaaDoor.sha
set_option linter.unusedVariables false
theorem laidStr {l : List UInt8} : (⟨l.toArray⟩ : ByteArray) = bz l := rfl
set_option maxRecDepth 100000 in
set_option maxHeartbeats 4000000 in
theorem is_all (W : World) (v0 : Value) (h0 : V9 W v0) (hl : Hid (Lets W)) :
    Calls Tryd.prog 3 #[v0] W fun e w' => e = .returned (.bool true) ∧ Below W.heap.size W w' := by
  obtain ⟨⟨s⟩, rfl, hok⟩ := h0
  have hs : s.size ≤ maxLen := hok
  unfold maxLen at hs
  have HA := Lib.hid (fun w' (h : Lets w') => awake_any w' h)
  simp only [R9.val]
  by_cases hb : 1024 < s.size
  · have hb2 : (1024 : Int) < (s.size : Int) := by omega
    go_enter Tryd.func3, Tryd.ntmps3
    go_wp2_with fail
    refine (HA.out _ hl.out).mono ?_
    rintro e w1 ⟨rfl, hB⟩
    have HB := Lib.hid hB
    clear hB
    go_wp2
    go_ret
    exact ⟨rfl, HB.out⟩
  · have hb2 : ¬ (1024 : Int) < (s.size : Int) := by omega
    have hsz : Hid (s.size ≤ 1099511627776) := by unfold Hid; omega
    have H1 := Lib.hid (fun w' (h : Lets w') => sum_any s w' hsz.out h)
    have H2 := Lib.hid (fun w' => rsum_any s w' hsz.out)
    have H3 := Lib.hid (fun w' (h : Lets w') => hex_any s w' hsz.out h)
    have H4 := Lib.hid (fun w' => rhex_any s w' hsz.out)
    go_enter Tryd.func3, Tryd.ntmps3
    go_wp2_with fail
    refine (H1.out _ hl.out).mono ?_
    rintro e w1 ⟨rfl, hB⟩
    rw [laidStr]
    have HB1 := Lib.hid hB
    have HL1 := Lib.hid (hl.out.below hB (Nat.le_refl _))
    clear hB
    go_wp2_with fail
    refine (H2.out _).mono ?_
    rintro e w2 ⟨rfl, hB⟩
    have HB2 := Lib.hid (HB1.out.trans (hB.mono HB1.out.size))
    have HL2 := Lib.hid (HL1.out.below hB (Nat.le_refl _))
    clear hB HB1 HL1
    generalize bz (shaB s.data.toList) = y at *
    go_wp2_with fail
    refine (H3.out _ HL2.out).mono ?_
    rintro e w3 ⟨rfl, hB⟩
    rw [laidStr]
    have HB3 := Lib.hid (HB2.out.trans (hB.mono HB2.out.size))
    have HL3 := Lib.hid (HL2.out.below hB (Nat.le_refl _))
    clear hB HB2 HL2
    go_wp2_with fail
    refine (H4.out _).mono ?_
    rintro e w4 ⟨rfl, hB⟩
    have HB4 := Lib.hid (HB3.out.trans (hB.mono HB3.out.size))
    have HL4 := Lib.hid (HL3.out.below hB (Nat.le_refl _))
    clear hB HB3 HL3
    generalize bz (hexB (shaB s.data.toList)) = z at *
    go_wp2_with fail
    refine (HA.out _ HL4.out).mono ?_
    rintro e w5 ⟨rfl, hB⟩
    have HB5 := Lib.hid (HB4.out.trans (hB.mono HB4.out.size))
    clear hB HB4 HL4
    go_wp2
    go_ret
    exact ⟨rfl, HB5.out⟩
/-- A list of texts among the arguments. -/
theorem texts_of {W : World} {v : Value} (h : V25 W v) : ∃ (A : Option Addr) (ca : Nat) (l : List ByteArray), v = .slice A l.length ca ∧ l.length ≤ maxLen ∧ (∀ s ∈ l, s.size ≤ maxLen) ∧ Reads W W.heap.size 1 A l.length (l.flatMap tc) := by
  obtain ⟨A, n, ca, rs, rfl, hn, hc, hl, hr, hok⟩ := s25 h
  refine ⟨A, ca, rs.map fun r => r.v, by simp [hl], by simp; omega, ?_, ?_⟩
  · intro s hs
    obtain ⟨r, hr2, rfl⟩ := List.mem_map.1 hs
    exact hok r hr2
  · have e : (rs.map fun r => r.v).flatMap tc = rs.flatMap R9.cells := by
      rw [List.flatMap_map]; rfl
    rw [e, List.length_map, hl]
    exact hr
set_option maxRecDepth 100000 in
set_option maxHeartbeats 4000000 in
theorem lists_all (W : World) (v0 : Value) (h0 : V25 W v0) (hl : Hid (Lets W)) :
    Calls Tryd.prog 4 #[v0] W fun e w' => e = .returned (.bool true) ∧ Below W.heap.size W w' := by
  obtain ⟨A, ca, l, rfl, hlm, hsm, hr⟩ := texts_of h0
  have HR := Lib.hid hr
  have HA := Lib.hid (fun w' (h : Lets w') => awake_any w' h)
  have HF := Lib.hid (oc.qfew_any W A ca l hlm hr hsm)
  clear hr
  have hlm2 : l.length ≤ 9223372036854775807 := hlm
  go_enter Tryd.func4, Tryd.ntmps4
  go_wp2_with fail
  refine HF.out.mono ?_
  rintro e w1 ⟨b, rfl, rfl, hfew⟩
  cases b with
  | false =>
    clear hfew
    go_wp2_with fail
    refine (HA.out _ hl.out).mono ?_
    rintro e w2 ⟨rfl, hB⟩
    have HB := Lib.hid hB
    clear hB
    go_wp2
    go_ret
    exact ⟨rfl, HB.out⟩
  | true =>
    obtain ⟨f1, f2⟩ := hfew rfl
    have F1 : Hid (l.length ≤ 100000) := by unfold Hid; omega
    have F2 : Hid (∀ s ∈ l, s.size ≤ 1048576) := fun s hs => by have := f2 s hs; omega
    clear hfew f1 f2
    go_wp2_with fail
    refine (of_any A ca l w1 F1.out F2.out HR.out hl.out).mono ?_
    rintro e w2 ⟨rfl, hB⟩
    rw [laidStr]
    have HB1 := Lib.hid hB
    have HL1 := Lib.hid (hl.out.below hB (Nat.le_refl _))
    have HR1 := Lib.hid ((HR.out.below hB).more hB.size)
    clear hB
    go_wp2_with fail
    refine (rof_any A ca l w2 F1.out F2.out HR1.out).mono ?_
    rintro e w3 ⟨rfl, hB⟩
    have HB2 := Lib.hid (HB1.out.trans (hB.mono HB1.out.size))
    have HL2 := Lib.hid (HL1.out.below hB (Nat.le_refl _))
    clear hB HB1 HL1 HR1
    generalize bz (shaB (oc.tesB l)) = y at *
    go_wp2_with fail
    refine (HA.out _ HL2.out).mono ?_
    rintro e w4 ⟨rfl, hB⟩
    have HB3 := Lib.hid (HB2.out.trans (hB.mono HB2.out.size))
    clear hB HB2 HL2
    go_wp2
    go_ret
    exact ⟨rfl, HB3.out⟩
end Go.Proofs.YtfabhpppfmlppaaDoor.shr
