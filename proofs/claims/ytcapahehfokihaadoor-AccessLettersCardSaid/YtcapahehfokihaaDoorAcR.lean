/- AccessLetters: rights are told by their letters, and no other text tells any. -/
import Derived.Test.YtcapahehfokihaaDoorAcP
namespace Go.Proofs.YtcapahehfokihaaDoor.acc
set_option linter.unusedSimpArgs false
open Go.ChangeShapes Go.WideShapes Go.ChangeAt Go.RowKit Go.Proofs.Aid
theorem text_rig {s : ByteArray} (h : (rig s).isSome = true) : text (rigN s) = s := by
  unfold rigN
  cases e : rig s with
  | none => rw [e] at h; cases h
  | some n =>
    unfold rig at e
    have hm := List.mem_of_find?_eq_some e
    have hp := List.find?_some e
    simp at hm hp
    show text (n : Int) = s
    rw [text_tx (by omega)]
    exact hp
theorem rig_text (n : Int) : (rig (text n)).isSome = true ∧ ((0 ≤ n ∧ n ≤ 7) → rigN (text n) = n) := by
  by_cases h : 0 ≤ n ∧ n ≤ 7
  · have h8 : n = 0 ∨ n = 1 ∨ n = 2 ∨ n = 3 ∨ n = 4 ∨ n = 5 ∨ n = 6 ∨ n = 7 := by omega
    rcases h8 with rfl | rfl | rfl | rfl | rfl | rfl | rfl | rfl <;> exact ⟨by kernel_rfl, fun _ => by kernel_rfl⟩
  · refine ⟨?_, fun h2 => absurd h2 h⟩
    unfold text
    rw [if_neg h]
    kernel_rfl
set_option maxRecDepth 100000 in
set_option maxHeartbeats 8000000 in
theorem letters_walk (W : World) (n : Int) (s : ByteArray) (HLt : Hid (Lets W)) (hn : (Lit.int .i64 n).wf = true) (hs : s.size ≤ maxLen) :
    Calls Tryd.prog 5 #[.int .i64 n, .string s] W fun e w' => e = .returned (.bool true) ∧ Below W.heap.size W w' := by
  unfold maxLen at hs
  by_cases h0 : s.size ≤ 100
  · have hT := Lib.hid (@text_rig s)
    have hR := Lib.hid (rig_text n).2
    have hS := (rig_text n).1
    have H1 := Lib.hid (rights_any s W HLt)
    have H2 := Lib.hid (rrights_any s W)
    have H3 := Lib.hid (text_any n W HLt.out)
    have H4 := Lib.hid (rtext_any n W)
    have H5 := Lib.hid (rights_any (text n) W HLt)
    have H6 := Lib.hid (text_any (rigN s) W HLt.out)
    rw [hS] at H5
    clear hS
    generalize rigN (text n) = k at *
    generalize text n = tn at *
    generalize hx : text (rigN s) = ts at *
    generalize rigN s = a at *
    clear hx
    generalize (rig s).isSome = ok at *
    have HN := Lib.hid hn
    clear hn
    have hcase : (n < 0 ∨ 7 < n) ∨ (0 ≤ n ∧ n ≤ 7 ∧ k = n) := by
      by_cases h : 0 ≤ n ∧ n ≤ 7
      · exact Or.inr ⟨h.1, h.2, hR.out h⟩
      · omega
    have HC := Lib.hid hcase
    clear hcase hR
    go_enter Tryd.func5, Tryd.ntmps5
    go_wp2_with fail
    refine H1.out.mono ?_
    rintro e w1 ⟨rfl, rfl⟩
    go_wp2_with fail
    refine H2.out.mono ?_
    rintro e w2 ⟨rfl, rfl⟩
    go_wp2_with fail
    refine H3.out.mono ?_
    rintro e w3 ⟨rfl, rfl⟩
    go_wp2_with fail
    refine H5.out.mono ?_
    rintro e w4 ⟨rfl, rfl⟩
    cases ok with
    | true =>
      have hts := hT.out rfl
      subst hts
      go_wp2_with fail
      refine H3.out.mono ?_
      rintro e w5 ⟨rfl, rfl⟩
      go_wp2_with fail
      refine H4.out.mono ?_
      rintro e w6 ⟨rfl, rfl⟩
      go_wp2_with fail
      refine H6.out.mono ?_
      rintro e w7 ⟨rfl, rfl⟩
      rcases HC.out with (h | h) | ⟨h1, h2, rfl⟩
      · go_wp2_with fail
        refine (awake_any _ HLt).mono ?_
        rintro e w8 ⟨rfl, hb⟩
        go_wp2
        go_ret
        exact ⟨rfl, hb⟩
      · have h' : ¬ n < 0 := by omega
        go_wp2_with fail
        refine (awake_any _ HLt).mono ?_
        rintro e w8 ⟨rfl, hb⟩
        go_wp2
        go_ret
        exact ⟨rfl, hb⟩
      · have h' : ¬ k < 0 := by omega
        have h'' : ¬ 7 < k := by omega
        go_wp2_with fail
        refine (awake_any _ HLt).mono ?_
        rintro e w8 ⟨rfl, hb⟩
        go_wp2
        go_ret
        exact ⟨rfl, hb⟩
    | false =>
      go_wp2_with fail
      refine H3.out.mono ?_
      rintro e w5 ⟨rfl, rfl⟩
      go_wp2_with fail
      refine H4.out.mono ?_
      rintro e w6 ⟨rfl, rfl⟩
      rcases HC.out with (h | h) | ⟨h1, h2, rfl⟩
      · go_wp2_with fail
        refine (awake_any _ HLt).mono ?_
        rintro e w8 ⟨rfl, hb⟩
        go_wp2
        go_ret
        exact ⟨rfl, hb⟩
      · have h' : ¬ n < 0 := by omega
        go_wp2_with fail
        refine (awake_any _ HLt).mono ?_
        rintro e w8 ⟨rfl, hb⟩
        go_wp2
        go_ret
        exact ⟨rfl, hb⟩
      · have h' : ¬ k < 0 := by omega
        have h'' : ¬ 7 < k := by omega
        go_wp2_with fail
        refine (awake_any _ HLt).mono ?_
        rintro e w8 ⟨rfl, hb⟩
        go_wp2
        go_ret
        exact ⟨rfl, hb⟩
  · go_enter Tryd.func5, Tryd.ntmps5
    go_wp2_with fail
    refine (awake_any _ HLt).mono ?_
    rintro e w2 ⟨rfl, hb⟩
    go_wp2
    go_ret
    exact ⟨rfl, hb⟩
theorem letters_all (W : World) (v0 : Value) (v1 : Value) (h0 : V3 W v0) (h1 : V9 W v1) (HLt : Hid (Lets W)) :
    Calls Tryd.prog 5 #[v0, v1] W fun e w' => e = .returned (.bool true) ∧ Below W.heap.size W w' := by
  obtain ⟨r, rfl, hr⟩ := h0
  obtain ⟨q, rfl, hq⟩ := h1
  exact letters_walk W r.v q.v HLt hr hq
end Go.Proofs.YtcapahehfokihaaDoor.acc
