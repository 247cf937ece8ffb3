/- NamePlaces: a bucket and a key are told by their place, and names by their path. -/
import Derived.Test.YtkkihbnaaaajeaaDoorNmA
namespace Go.Proofs.YtkkihbnaaaajeaaDoor.nm
open Go.ChangeShapes Go.WideShapes Go.ChangeAt Go.RowKit Go.Proofs.Aid Go.Proofs.YtkkihbnaaaajeaaDoor.seg Go.Proofs.YtkkihbnaaaajeaaDoor.name Go.Proofs.YtkkihbnaaaajeaaDoor.texts
theorem name_free {l : List UInt8} (h : isName l = true) : l ≠ [] ∧ l.length ≤ 16 ∧ ∀ c ∈ l, c ≠ 47 := by
  unfold isName at h
  rw [Bool.and_eq_true, Bool.and_eq_true, decide_eq_true_eq, decide_eq_true_eq] at h
  obtain ⟨⟨h1, h2⟩, h3⟩ := h
  refine ⟨fun e => by rw [e] at h1; simp at h1, h2, fun c hc e => ?_⟩
  unfold fits at h3
  have := List.all_eq_true.1 h3 c hc
  rw [e] at this
  exact absurd this (by decide)
theorem place_cut {b k : ByteArray} (hb : isName b.data.toList = true) : cutA (slash b k) = b ∧ cutB (slash b k) = k ∧ cutF (slash b k) = true := by
  have hf := (name_free hb).2.2
  have hi : Lib.index (slash b k).data.toList [47] = (b.data.toList.length : Nat) := by
    apply index_first
    · intro j hj e
      rw [slash_list, List.append_assoc, List.getElem?_append_left hj] at e
      exact hf 47 (List.mem_of_getElem? e) rfl
    · rw [slash_list, List.append_assoc, List.getElem?_append_right (Nat.le_refl _)]
      simp
  have hc : Lib.cut (slash b k).data.toList [47] = (b.data.toList, k.data.toList, true) := by
    unfold Lib.cut
    rw [hi, if_pos (by omega)]
    have e : (((b.data.toList.length : Nat) : Int)).toNat = b.data.toList.length := by omega
    rw [e, slash_list, List.append_assoc, List.take_left']
    · rw [List.length_singleton, ← List.drop_drop, List.drop_left']
      · rfl
      · rfl
    · rfl
  unfold cutA cutB cutF
  rw [hc]
  exact ⟨rfl, rfl, rfl⟩
theorem place_back {b k : ByteArray} (hb : isName b.data.toList = true) (hk : isKey k.size = true) : splitR (slash b k) = .returned (.tuple #[.string b, .string k, .bool true]) := by
  obtain ⟨ea, eb, ef⟩ := place_cut (k := k) hb
  have : splitOk (slash b k) = true := by
    unfold splitOk
    rw [ea, eb, ef, hb, hk]; rfl
  rw [splitR_yes this, ea, eb]
theorem strs_data (xs : List ByteArray) : strs (xs.map (·.data.toList)) = xs := by
  unfold strs
  rw [List.map_map]
  conv => rhs; rw [← List.map_id xs]
  apply List.map_congr_left
  intro x _
  apply ByteArray.ext; simp
theorem path_back {xs : List ByteArray} (h : ∀ x ∈ xs, isName x.data.toList = true) : partsS (joinS xs) = xs := by
  unfold partsS
  rw [joinS_list, parts_join, strs_data]
  intro y hy
  obtain ⟨x, hx, rfl⟩ := List.mem_map.1 hy
  exact ⟨(name_free (h x hx)).1, (name_free (h x hx)).2.2⟩
theorem lens_le : ∀ (l : List (List UInt8)), (∀ x ∈ l, x.length ≤ 16) → Lib.lens l ≤ 16 * l.length
  | [], _ => by simp [Lib.lens]
  | x :: r, h => by
    have h1 := h x (by simp)
    have h2 := lens_le r (fun y hy => h y (by simp [hy]))
    simp only [Lib.lens, List.map_cons, List.sum_cons, List.length_cons] at h2 ⊢
    omega
theorem path_len {xs : List ByteArray} (h : ∀ x ∈ xs, isName x.data.toList = true) : (joinS xs).size ≤ 17 * xs.length := by
  show (Lib.join (xs.map (·.data.toList)) [47]).toArray.size ≤ _
  rw [List.size_toArray]
  cases xs with
  | nil => simp [Lib.join]
  | cons x r =>
    rw [List.map_cons, Lib.join_length]
    have := lens_le ((x :: r).map (·.data.toList)) (fun y hy => by
      obtain ⟨z, hz, rfl⟩ := List.mem_map.1 hy
      exact (name_free (h z hz)).2.1)
    have e1 : ([47] : List UInt8).length = 1 := rfl
    rw [e1, Nat.one_mul]
    simp only [List.map_cons, List.length_map, List.length_cons] at this ⊢
    omega
set_option maxRecDepth 20000 in
set_option maxHeartbeats 4000000 in
theorem places_walk (W : World) (b k : ByteArray) (A : Option Addr) (cap : Nat) (xs : List ByteArray) (HL : Hid (Lets W)) (hb : b.size ≤ maxLen) (hk : k.size ≤ maxLen) (hc : xs.length ≤ cap) (hm : xs.length ≤ maxLen) (hR : Reads W W.heap.size 1 A xs.length (xs.flatMap tc)) (hsz : ∀ x ∈ xs, x.size ≤ maxLen) :
    Calls Tryd.prog 4 #[.string b, .string k, .slice A xs.length cap] W fun e w' => e = .returned (.bool true) ∧ Below W.heap.size W w' := by
  have HSZ := Lib.hid hsz
  have HR := Lib.hid hR
  clear hsz hR
  unfold maxLen at hb hk hm
  by_cases h1 : b.size ≤ 200
  · by_cases h2 : k.size ≤ 200
    · by_cases h3 : xs.length ≤ 20
      · go_enter Tryd.func4, Tryd.ntmps4
        go_wp2_with fail
        go_loopw [7] (fun iv wr => ∃ i : Nat, i ≤ xs.length ∧ iv = .int .i64 i ∧ Hid (∀ j (_ : j < xs.length), j < i → isName xs[j].data.toList = true) ∧ Hid (Below W.heap.size W wr)) (fun iv _ => xs.length - (intOf iv).toNat)
        case atStart => exact ⟨0, by omega, rfl, fun j _ h => by omega, Below.refl _ _⟩
        case round =>
          obtain ⟨i, hi, rfl, hI, hl0⟩ := hrel
          have hLr := Lib.hid (HL.out.next hl0.out)
          by_cases hlt : i < xs.length
          · obtain ⟨ad, rfl, had, c0⟩ := Reads.elem1 (HR.out.below hl0.out) hlt
            have hx := HSZ.out _ (List.getElem_mem hlt)
            have hI2 : Hid (isName xs[i].data.toList = true → ∀ j (_ : j < xs.length), j < i + 1 → isName xs[j].data.toList = true) := fun h j hj hji => by
              by_cases e : j < i
              · exact hI.out j hj e
              · have : j = i := by omega
                subst this; exact h
            clear hI
            generalize xs[i] = x at *
            have hIs := Lib.hid (fun w => is_any x w hx)
            cases hn : isName x.data.toList with
            | true =>
              have hI3 := Lib.hid (hI2.out hn)
              rw [hn] at hIs
              clear hI2 hn
              go_wp2_with fail
              refine Calls.mono (hIs.out _) ?_
              rintro e w1 ⟨rfl, hb1⟩
              have hl1 := Lib.hid (hl0.out.trans (hb1.mono hl0.out.size))
              clear hb1
              go_wp2
              go_roundw
              case rel => exact ⟨i + 1, by omega, by go_num, hI3, hl1⟩
              case measure => simp [intOf]; omega
            | false =>
              rw [hn] at hIs
              clear hI2 hn
              go_wp2_with fail
              refine Calls.mono (hIs.out _) ?_
              rintro e w1 ⟨rfl, hb1⟩
              have hl1 := Lib.hid (hl0.out.trans (hb1.mono hl0.out.size))
              have hL1 := Lib.hid (HL.out.next hl1.out)
              clear hb1
              go_wp2_with fail
              refine Calls.mono (awake_any w1 hL1) ?_
              rintro e w2 ⟨rfl, hb2⟩
              have hl2 := Lib.hid (hl1.out.trans (hb2.mono hl1.out.size))
              go_wp2
              go_ret
              exact ⟨rfl, hl2.out⟩
          · have hall : ∀ x ∈ xs, isName x.data.toList = true := fun x hx => by
              obtain ⟨j, hj, rfl⟩ := List.getElem_of_mem hx
              exact hI.out j hj (by omega)
            have hPB := Lib.hid (path_back hall)
            have hPL := path_len hall
            have hJ := Lib.hid (fun w => join_any b k w (by omega) (by omega))
            have hss := slash_size b k
            have hS := Lib.hid (fun w hL => split_any (slash b k) w (by omega) hL)
            have hPk := Lib.hid (fun w => key_any k w (by unfold maxLen; omega))
            have hPn := Lib.hid (fun w => is_any b w (by unfold maxLen; omega))
            have hgood : Hid (isName b.data.toList = true → isKey k.size = true → splitR (slash b k) = .returned (.tuple #[.string b, .string k, .bool true])) := fun h h' => place_back h h'
            have hT : Hid (∀ (w w1 : World) (e : Ending), Below W.heap.size W w → Hid (Lets w) → e = .returned (.string (joinS xs)) ∧ Below w.heap.size w w1 → True) := fun _ _ _ _ _ _ => trivial
            clear hI hall hT hss
            generalize slash b k = pl at *
            go_wp2_with fail
            refine Calls.mono (hJ.out _) ?_
            rintro e w1 ⟨rfl, hb1⟩
            have hl1 := Lib.hid (hl0.out.trans (hb1.mono hl0.out.size))
            have hL1 := Lib.hid (HL.out.next hl1.out)
            clear hb1
            go_wp2_with fail
            refine Calls.mono (hS.out w1 hL1) ?_
            rintro e w2 ⟨rfl, hb2⟩
            have hl2 := Lib.hid (hl1.out.trans (hb2.mono hl1.out.size))
            have hL2 := Lib.hid (HL.out.next hl2.out)
            clear hb2
            cases hn : isName b.data.toList with
            | false =>
              rw [hn] at hPn
              unfold splitR
              generalize splitA pl = sa at *
              generalize splitB pl = sb at *
              generalize splitOk pl = so at *
              go_wp2_with fail
              refine Calls.mono (hPn.out w2) ?_
              rintro e w3 ⟨rfl, hb3⟩
              have hl3 := Lib.hid (hl2.out.trans (hb3.mono hl2.out.size))
              have hL3 := Lib.hid (HL.out.next hl3.out)
              clear hb3
              go_wp2_with fail
              refine Calls.mono (path_any w3 A cap xs (HR.out.below hl3.out |>.more hl3.out.size) hc (by omega) (by rw [Array.length_toList]; show (joinS xs).size ≤ _; omega)) ?_
              rintro e w4 ⟨rfl, hb4⟩
              have hl4 := Lib.hid (hl3.out.trans (hb4.mono hl3.out.size))
              have hL4 := Lib.hid (HL.out.next hl4.out)
              clear hb4
              go_wp2_with fail
              refine Calls.mono (parts_any _ w4 (by omega) hL4) ?_
              rintro e w5 ⟨A1, c1, rfl, -, hR1, hb5⟩
              have hl5 := Lib.hid (hl4.out.trans (hb5.mono hl4.out.size))
              have hL5 := Lib.hid (HL.out.next hl5.out)
              clear hb5
              rw [hPB.out] at hR1
              rw [hPB.out]
              have HR1 := Lib.hid hR1
              clear hR1
              go_wp2_with fail
              refine Calls.mono (sameTexts_same w5 A1 A c1 cap xs (by omega) HR1.out (HR.out.below hl5.out |>.more hl5.out.size)) ?_
              rintro e w6 ⟨rfl, hb6⟩
              have hl6 := Lib.hid (hl5.out.trans (hb6.mono hl5.out.size))
              have hL6 := Lib.hid (HL.out.next hl6.out)
              clear hb6
              go_wp2_with fail
              refine Calls.mono (awake_any w6 hL6) ?_
              rintro e w7 ⟨rfl, hb7⟩
              have hl7 := Lib.hid (hl6.out.trans (hb7.mono hl6.out.size))
              go_wp2
              go_ret
              exact ⟨rfl, hl7.out⟩
            | true =>
              rw [hn] at hPn
              cases hk3 : isKey k.size with
              | false =>
                rw [hk3] at hPk
                unfold splitR
                generalize splitA pl = sa at *
                generalize splitB pl = sb at *
                generalize splitOk pl = so at *
                go_wp2_with fail
                refine Calls.mono (hPn.out w2) ?_
                rintro e w3 ⟨rfl, hb3⟩
                have hl3 := Lib.hid (hl2.out.trans (hb3.mono hl2.out.size))
                have hL3 := Lib.hid (HL.out.next hl3.out)
                clear hb3
                go_wp2_with fail
                refine Calls.mono (hPk.out w3) ?_
                rintro e w33 ⟨rfl, hw33⟩
                rw [hw33]
                go_wp2_with fail
                refine Calls.mono (path_any w3 A cap xs (HR.out.below hl3.out |>.more hl3.out.size) hc (by omega) (by rw [Array.length_toList]; show (joinS xs).size ≤ _; omega)) ?_
                rintro e w4 ⟨rfl, hb4⟩
                have hl4 := Lib.hid (hl3.out.trans (hb4.mono hl3.out.size))
                have hL4 := Lib.hid (HL.out.next hl4.out)
                clear hb4
                go_wp2_with fail
                refine Calls.mono (parts_any _ w4 (by omega) hL4) ?_
                rintro e w5 ⟨A1, c1, rfl, -, hR1, hb5⟩
                have hl5 := Lib.hid (hl4.out.trans (hb5.mono hl4.out.size))
                have hL5 := Lib.hid (HL.out.next hl5.out)
                clear hb5
                rw [hPB.out] at hR1
                rw [hPB.out]
                have HR1 := Lib.hid hR1
                clear hR1
                go_wp2_with fail
                refine Calls.mono (sameTexts_same w5 A1 A c1 cap xs (by omega) HR1.out (HR.out.below hl5.out |>.more hl5.out.size)) ?_
                rintro e w6 ⟨rfl, hb6⟩
                have hl6 := Lib.hid (hl5.out.trans (hb6.mono hl5.out.size))
                have hL6 := Lib.hid (HL.out.next hl6.out)
                clear hb6
                go_wp2_with fail
                refine Calls.mono (awake_any w6 hL6) ?_
                rintro e w7 ⟨rfl, hb7⟩
                have hl7 := Lib.hid (hl6.out.trans (hb7.mono hl6.out.size))
                go_wp2
                go_ret
                exact ⟨rfl, hl7.out⟩
              | true =>
                rw [hk3] at hPk
                rw [hgood.out hn hk3]
                go_wp2_with fail
                refine Calls.mono (hPn.out w2) ?_
                rintro e w3 ⟨rfl, hb3⟩
                have hl3 := Lib.hid (hl2.out.trans (hb3.mono hl2.out.size))
                have hL3 := Lib.hid (HL.out.next hl3.out)
                clear hb3
                go_wp2_with fail
                refine Calls.mono (hPk.out w3) ?_
                rintro e w33 ⟨rfl, hw33⟩
                rw [hw33]
                go_wp2_with fail
                refine Calls.mono (path_any w3 A cap xs (HR.out.below hl3.out |>.more hl3.out.size) hc (by omega) (by rw [Array.length_toList]; show (joinS xs).size ≤ _; omega)) ?_
                rintro e w4 ⟨rfl, hb4⟩
                have hl4 := Lib.hid (hl3.out.trans (hb4.mono hl3.out.size))
                have hL4 := Lib.hid (HL.out.next hl4.out)
                clear hb4
                go_wp2_with fail
                refine Calls.mono (parts_any _ w4 (by omega) hL4) ?_
                rintro e w5 ⟨A1, c1, rfl, -, hR1, hb5⟩
                have hl5 := Lib.hid (hl4.out.trans (hb5.mono hl4.out.size))
                have hL5 := Lib.hid (HL.out.next hl5.out)
                clear hb5
                rw [hPB.out] at hR1
                rw [hPB.out]
                have HR1 := Lib.hid hR1
                clear hR1
                go_wp2_with fail
                refine Calls.mono (sameTexts_same w5 A1 A c1 cap xs (by omega) HR1.out (HR.out.below hl5.out |>.more hl5.out.size)) ?_
                rintro e w6 ⟨rfl, hb6⟩
                have hl6 := Lib.hid (hl5.out.trans (hb6.mono hl5.out.size))
                have hL6 := Lib.hid (HL.out.next hl6.out)
                clear hb6
                go_wp2_with fail
                refine Calls.mono (awake_any w6 hL6) ?_
                rintro e w7 ⟨rfl, hb7⟩
                have hl7 := Lib.hid (hl6.out.trans (hb7.mono hl6.out.size))
                go_wp2
                go_ret
                exact ⟨rfl, hl7.out⟩
      · go_enter Tryd.func4, Tryd.ntmps4
        go_wp2_with fail
        refine Calls.mono (awake_any W HL) ?_
        rintro e w1 ⟨rfl, hb1⟩
        go_wp2
        go_ret
        exact ⟨rfl, hb1⟩
    · go_enter Tryd.func4, Tryd.ntmps4
      go_wp2_with fail
      refine Calls.mono (awake_any W HL) ?_
      rintro e w1 ⟨rfl, hb1⟩
      go_wp2
      go_ret
      exact ⟨rfl, hb1⟩
  · go_enter Tryd.func4, Tryd.ntmps4
    go_wp2_with fail
    refine Calls.mono (awake_any W HL) ?_
    rintro e w1 ⟨rfl, hb1⟩
    go_wp2
    go_ret
    exact ⟨rfl, hb1⟩
theorem places_all (W : World) (v0 : Value) (v1 : Value) (v2 : Value) (h0 : V9 W v0) (h1 : V9 W v1) (h2 : V30 W v2) (HL : Hid (Lets W)) :
    Calls Tryd.prog 4 #[v0, v1, v2] W fun e w' => e = .returned (.bool true) ∧ Below W.heap.size W w' := by
  obtain ⟨r, rfl, hr⟩ := h0
  obtain ⟨q, rfl, hq⟩ := h1
  obtain ⟨A, n, cap, rs, rfl, hl, hc, rfl, hR, hs⟩ := s30 h2
  have := places_walk W r.v q.v A cap (rs.map R9.v) HL hr hq (by simpa using hl) (by simp; omega) (by rw [List.length_map]; exact texts_of hR) (fun x hx => by
    obtain ⟨y, hy, rfl⟩ := List.mem_map.1 hx
    exact hs y hy)
  rw [List.length_map] at this
  exact this
end Go.Proofs.YtkkihbnaaaajeaaDoor.nm
