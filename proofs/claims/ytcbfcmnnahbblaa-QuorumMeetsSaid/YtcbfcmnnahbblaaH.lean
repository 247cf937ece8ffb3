/- Few, and awake. -/
import Derived.Test.YtcbfcmnnahbblaaG
namespace Go.Proofs.Ytcbfcmnnahbblaa.quorum
open Go.ChangeShapes Go.WideShapes Go.ChangeAt Go.RowKit Go.Proofs.Aid Go.Proofs.Ytcbfcmnnahbblaa.texts
structure LM (w : World) (A : Option Addr) (ls : List (List ByteArray)) : Prop where
  at_ : ∀ i (h : i < ls.length), ∃ ad Ai ci, A = some ad ∧ w.cell? (ad.add i) = some (.slice Ai ls[i].length ci) ∧ Reads w w.heap.size 1 Ai ls[i].length (ls[i].flatMap tc) ∧ ls[i].length ≤ 9223372036854775807 ∧ ∀ s ∈ ls[i], s.size ≤ maxLen
set_option maxRecDepth 100000 in
set_option maxHeartbeats 4000000 in
theorem few_any (w : World) (A B : Option Addr) (ca cb n : Nat) (cs : List R38) (ls : List (List ByteArray)) (hn : ls.length = n) (hm : cs.length ≤ maxLen) (hl : n ≤ 1000) (h1 : Reads w w.heap.size 2 A cs.length (cs.flatMap R38.cells)) (hs : ∀ c ∈ cs, c.node_.size ≤ maxLen) (h2 : LM w B ls) :
    Calls Try.prog 5 #[.slice A cs.length ca, .slice B n cb] w (SomeB (fun b => b = true → cs.length ≤ 20 ∧ ∀ i (h : i < ls.length), ls[i].length ≤ 20) w) := by
  subst hn
  have H1 := Lib.hid h1
  have H2 := Lib.hid h2
  have HS := Lib.hid hs
  clear h1 h2 hs
  unfold maxLen at hm
  go_enter Try.func5, Try.ntmps5
  go_wp2_with fail
  go_loopw [5] (fun iv w' => ∃ k : Nat, k ≤ cs.length ∧ iv = .int .i64 k ∧ w = w' ∧ k ≤ 20) (fun iv _ => cs.length - (intOf iv).toNat)
  case atStart => exact ⟨0, by omega, rfl, rfl, by omega⟩
  case round =>
    obtain ⟨k, hk, rfl, rfl, hk4⟩ := hrel
    by_cases hgo : k < cs.length ∧ k < 20
    · obtain ⟨hlt, h40⟩ := hgo
      obtain ⟨ad, rfl, had, e0, -⟩ := elem38 H1.out hlt
      have hmx : cs[k].node_.size ≤ 9223372036854775807 := by have := HS.out cs[k] (List.getElem_mem hlt); unfold maxLen at this; omega
      by_cases hb : cs[k].node_.size ≤ 100
      · generalize cs[k].node_ = str at *
        go_wp2
        go_roundw
        case rel => exact ⟨k + 1, by omega, by go_num, by trivial, by omega⟩
        case measure => simp [intOf]; omega
      · generalize cs[k].node_ = str at *
        go_wp2
        go_ret
        exact ⟨false, rfl, rfl, fun h => by cases h⟩
    · have hstop : Hid (cs.length ≤ 20 ∨ (k = 20 ∧ 20 < cs.length)) := by show _ ∨ _; omega
      have hcmp : (decide (k < cs.length) = false) ∨ (decide (k < cs.length) = true ∧ decide ((k : Int) < 20) = false) := by
        by_cases h : k < cs.length
        · exact .inr ⟨by simpa using h, by simp; omega⟩
        · exact .inl (by simp; omega)
      clear hgo
      rcases hcmp with d1 | ⟨d1, d2⟩
      · go_wp2_with fail
        go_loopw [6, 7] (fun iv _ w' => ∃ q : Nat, q ≤ ls.length ∧ iv = .int .i64 q ∧ w = w' ∧ q ≤ 4 ∧ Hid (∀ i (h : i < ls.length), i < q → ls[i].length ≤ 20)) (fun iv _ _ => ls.length - (intOf iv).toNat)
        case atStart => exact ⟨0, by omega, rfl, rfl, by omega, fun i _ h => by omega⟩
        case round =>
          obtain ⟨q, hq, rfl, rfl, hq4, hI⟩ := hrel
          by_cases hgo : q < ls.length ∧ q < 4
          · obtain ⟨hlt, h4⟩ := hgo
            obtain ⟨ad, Ai, ci, rfl, e0, hr, hmx, hsz⟩ := H2.out.at_ q hlt
            have HR := Lib.hid hr
            have HZ := Lib.hid hsz
            clear hr hsz
            by_cases hb : ls[q].length ≤ 20
            · have hI2 : Hid (∀ i (h : i < ls.length), i < q + 1 → ls[i].length ≤ 20) := fun i h hi => by
                by_cases e : i < q
                · exact hI.out i h e
                · have : i = q := by omega
                  subst this; exact hb
              generalize ls[q] = l at *
              go_wp2_with fail
              go_loopw [7] (fun iv w' => ∃ j : Nat, j ≤ l.length ∧ iv = .int .i64 j ∧ w = w') (fun iv _ => l.length - (intOf iv).toNat)
              case atStart => exact ⟨0, by omega, rfl, rfl⟩
              case round =>
                obtain ⟨j, hj, rfl, rfl⟩ := hrel
                by_cases hjl : j < l.length
                · obtain ⟨a1, q1, -, c1⟩ := HR.out.elem1 hjl
                  subst q1
                  have hmx2 : l[j].size ≤ 9223372036854775807 := by have := HZ.out l[j] (List.getElem_mem hjl); unfold maxLen at this; omega
                  generalize l[j] = str at *
                  by_cases hb : str.size ≤ 100
                  · go_wp2
                    go_roundw
                    case rel => exact ⟨j + 1, by omega, by go_num, by trivial⟩
                    case measure => simp [intOf]; omega
                  · go_wp2
                    go_ret
                    exact ⟨false, rfl, rfl, fun h => by cases h⟩
                · go_wp2
                  go_roundw
                  case rel => exact ⟨q + 1, by omega, by go_num, by trivial, by omega, hI2⟩
                  case measure => simp [intOf]; omega
            · generalize ls[q] = l at *
              go_wp2
              go_ret
              exact ⟨false, rfl, rfl, fun h => by cases h⟩
          · have hend : Hid (ls.length ≤ 4 → ∀ i (h : i < ls.length), ls[i].length ≤ 20) := fun h4 i h => hI.out i h (by omega)
            have hcmp : (decide (q < ls.length) = false) ∨ (decide (q < ls.length) = true ∧ decide ((q : Int) < 4) = false) := by
              by_cases h : q < ls.length
              · exact .inr ⟨by simpa using h, by simp; omega⟩
              · exact .inl (by simp; omega)
            have hc1 : (decide ((cs.length : Int) ≤ 20) = false) ∨ (decide ((cs.length : Int) ≤ 20) = true ∧ decide (cs.length ≤ 20) = true) := by
              by_cases h : cs.length ≤ 20
              · exact .inr ⟨by simp; omega, by simpa using h⟩
              · exact .inl (by simp; omega)
            clear hgo hI
            rcases hcmp with x1 | ⟨x1, x2⟩ <;> rcases hc1 with y1 | ⟨y1, y2⟩
            all_goals
              go_wp2
              go_ret
              exact ⟨_, rfl, rfl, fun h => by first | (cases h; done) | exact ⟨by simpa using y2, hend.out (by simp at h; omega)⟩⟩
      · go_wp2_with fail
        go_loopw [6, 7] (fun iv _ w' => ∃ q : Nat, q ≤ ls.length ∧ iv = .int .i64 q ∧ w = w' ∧ q ≤ 4 ∧ Hid (∀ i (h : i < ls.length), i < q → ls[i].length ≤ 20)) (fun iv _ _ => ls.length - (intOf iv).toNat)
        case atStart => exact ⟨0, by omega, rfl, rfl, by omega, fun i _ h => by omega⟩
        case round =>
          obtain ⟨q, hq, rfl, rfl, hq4, hI⟩ := hrel
          by_cases hgo : q < ls.length ∧ q < 4
          · obtain ⟨hlt, h4⟩ := hgo
            obtain ⟨ad, Ai, ci, rfl, e0, hr, hmx, hsz⟩ := H2.out.at_ q hlt
            have HR := Lib.hid hr
            have HZ := Lib.hid hsz
            clear hr hsz
            by_cases hb : ls[q].length ≤ 20
            · have hI2 : Hid (∀ i (h : i < ls.length), i < q + 1 → ls[i].length ≤ 20) := fun i h hi => by
                by_cases e : i < q
                · exact hI.out i h e
                · have : i = q := by omega
                  subst this; exact hb
              generalize ls[q] = l at *
              go_wp2_with fail
              go_loopw [7] (fun iv w' => ∃ j : Nat, j ≤ l.length ∧ iv = .int .i64 j ∧ w = w') (fun iv _ => l.length - (intOf iv).toNat)
              case atStart => exact ⟨0, by omega, rfl, rfl⟩
              case round =>
                obtain ⟨j, hj, rfl, rfl⟩ := hrel
                by_cases hjl : j < l.length
                · obtain ⟨a1, q1, -, c1⟩ := HR.out.elem1 hjl
                  subst q1
                  have hmx2 : l[j].size ≤ 9223372036854775807 := by have := HZ.out l[j] (List.getElem_mem hjl); unfold maxLen at this; omega
                  generalize l[j] = str at *
                  by_cases hb : str.size ≤ 100
                  · go_wp2
                    go_roundw
                    case rel => exact ⟨j + 1, by omega, by go_num, by trivial⟩
                    case measure => simp [intOf]; omega
                  · go_wp2
                    go_ret
                    exact ⟨false, rfl, rfl, fun h => by cases h⟩
                · go_wp2
                  go_roundw
                  case rel => exact ⟨q + 1, by omega, by go_num, by trivial, by omega, hI2⟩
                  case measure => simp [intOf]; omega
            · generalize ls[q] = l at *
              go_wp2
              go_ret
              exact ⟨false, rfl, rfl, fun h => by cases h⟩
          · have hend : Hid (ls.length ≤ 4 → ∀ i (h : i < ls.length), ls[i].length ≤ 20) := fun h4 i h => hI.out i h (by omega)
            have hcmp : (decide (q < ls.length) = false) ∨ (decide (q < ls.length) = true ∧ decide ((q : Int) < 4) = false) := by
              by_cases h : q < ls.length
              · exact .inr ⟨by simpa using h, by simp; omega⟩
              · exact .inl (by simp; omega)
            have hc1 : (decide ((cs.length : Int) ≤ 20) = false) ∨ (decide ((cs.length : Int) ≤ 20) = true ∧ decide (cs.length ≤ 20) = true) := by
              by_cases h : cs.length ≤ 20
              · exact .inr ⟨by simp; omega, by simpa using h⟩
              · exact .inl (by simp; omega)
            clear hgo hI
            rcases hcmp with x1 | ⟨x1, x2⟩ <;> rcases hc1 with y1 | ⟨y1, y2⟩
            all_goals
              go_wp2
              go_ret
              exact ⟨_, rfl, rfl, fun h => by first | (cases h; done) | exact ⟨by simpa using y2, hend.out (by simp at h; omega)⟩⟩
end Go.Proofs.Ytcbfcmnnahbblaa.quorum
