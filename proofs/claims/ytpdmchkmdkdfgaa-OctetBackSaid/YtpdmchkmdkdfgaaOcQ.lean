/- A reader of bytes, the reference's. No condition. -/
import Derived.Test.YtpdmchkmdkdfgaaOcT
namespace Go.Proofs.Ytpdmchkmdkdfgaa.oc
set_option linter.unusedSimpArgs false
set_option linter.unusedVariables false
open Go.ChangeShapes Go.WideShapes Go.ChangeAt Go.RowKit Go.Proofs.Aid
open Go.Proofs.Ytpdmchkmdkdfgaa.texts (tc)
/-- The reference's reader at b. -/
def QAt (b : Nat) (st : St) (w : World) : Prop :=
  szS st ∧ ∃ s : ByteArray, s.size ≤ 9223372036854775807 ∧ Blk w b 44 #[.string s, .bool st.isNone] ∧ (∀ x, st = some x → x = s)
def QPost (b : Nat) (v : Value) (st : St) (w : World) (e : Ending) (w' : World) : Prop := e = .returned v ∧ QAt b st w' ∧ w.grownBy w' (some b)
def QTake (b : Nat) (t : ByteArray) (st : St) (w : World) (e : Ending) (w' : World) : Prop := ∃ k, e = .returned (.tuple #[.string t, .bool k]) ∧ QAt b st w' ∧ w.grownBy w' (some b)
set_option maxRecDepth 100000 in
set_option maxHeartbeats 2000000 in
theorem qtake_any (b : Nat) (st : St) (n : Int) (hn : 0 ≤ n) (w : World) (h : QAt b st w) :
    Calls Try.prog 39 #[.pointer (some ⟨b, 0, none⟩), .int .i64 n] w (QTake b (takeS n st).1 (takeS n st).2 w) := by
  obtain ⟨hz, s, hs, hb, hx⟩ := h
  have c0 := hb.cell 0
  have c1 := hb.cell 1
  have f0 := hb.frozen 0
  have f1 := hb.frozen 1
  cases st with
  | none =>
    simp at c0 c1
    have hb2 := hb.set_ 1 (.bool true)
    simp at hb2
    have HF : Hid (QTake b ⟨#[]⟩ none w (.returned (.tuple #[.string ⟨#[]⟩, .bool false])) (w.setCell ⟨b, 1, none⟩ (.bool true))) :=
      ⟨_, rfl, ⟨trivial, s, hs, hb2, fun x h => by cases h⟩, only_setCell (p := ⟨b, 1, none⟩) (grown_refl _ _) (.inl rfl) _⟩
    clear hb hb2 hx hz
    go_enter Try.func39, Try.ntmps39
    go_wp2
    go_ret2
    exact HF.out
  | some x =>
    have := hx x rfl
    subst this
    simp at c0 c1
    by_cases hl : n ≤ x.size
    · have e : takeS n (some x) = (x.extract 0 n.toNat, some (x.extract n.toNat x.size)) := if_pos hl
      have HT := Lib.hid (szS_take (n := n) hz)
      rw [e] at HT ⊢
      have hb2 := hb.set_ 0 (.string (x.extract n.toNat x.size))
      simp at hb2
      have HF : Hid (QTake b (x.extract 0 n.toNat) (some (x.extract n.toNat x.size)) w (.returned (.tuple #[.string (x.extract 0 n.toNat), .bool true])) (w.setCell ⟨b, 0, none⟩ (.string (x.extract n.toNat x.size)))) :=
        ⟨_, rfl, ⟨HT.out.1, _, HT.out.1, hb2, fun y h => by injection h with h; exact h.symm⟩, only_setCell (p := ⟨b, 0, none⟩) (grown_refl _ _) (.inl rfl) _⟩
      clear hb hb2 hx hz e
      go_enter Try.func39, Try.ntmps39
      go_wp2
      go_ret2
      exact HF.out
    · have e : takeS n (some x) = (⟨#[]⟩, none) := if_neg hl
      rw [e]
      have hb2 := hb.set_ 1 (.bool true)
      simp at hb2
      have HF : Hid (QTake b ⟨#[]⟩ none w (.returned (.tuple #[.string ⟨#[]⟩, .bool false])) (w.setCell ⟨b, 1, none⟩ (.bool true))) :=
        ⟨_, rfl, ⟨trivial, x, hs, hb2, fun x h => by cases h⟩, only_setCell (p := ⟨b, 1, none⟩) (grown_refl _ _) (.inl rfl) _⟩
      clear hb hb2 hx hz e
      go_enter Try.func39, Try.ntmps39
      go_wp2
      go_ret2
      exact HF.out
set_option maxRecDepth 100000 in
set_option maxHeartbeats 2000000 in
theorem qnumber_any (s : ByteArray) (hsz : s.size ≤ 9223372036854775807) (w : World) :
    Calls Try.prog 40 #[.string s] w fun e w' => e = .returned (.int .i64 (numB s.data.toList)) ∧ w' = w := by
  go_enter Try.func40, Try.ntmps40
  go_wp2_with fail
  go_loopw [3, 4] (fun n iv wr => ∃ k : Nat, k ≤ s.size ∧ iv = .int .i64 k ∧ n = .int .i64 (numB (s.data.toList.take k)) ∧ wr = w) (fun _ iv _ => s.size - (intOf iv).toNat)
  case atStart => exact ⟨0, by omega, rfl, rfl, rfl⟩
  case round =>
    obtain ⟨k, hk, rfl, rfl, rfl⟩ := hrel
    by_cases hlt : k < s.size
    · have hs := Lib.hid (numB_snoc (s.data.toList.take k) s[k])
      have ht := Lib.hid (take_snoc s k hlt)
      generalize numB (s.data.toList.take k) = x at *
      go_wp2
      go_roundw
      case rel =>
        refine ⟨k + 1, by omega, by go_num, ?_, by trivial⟩
        rw [ht.out, hs.out, wrap_byte, wrap64_eq]
      case measure => simp [intOf]; omega
    · have hk2 : k = s.size := by omega
      subst hk2
      have ht : Hid (s.data.toList.take s.size = s.data.toList) := List.take_of_length_le (by simp)
      go_wp2
      go_ret
      rw [ht.out]
      exact ⟨rfl, rfl⟩
set_option maxHeartbeats 1000000 in
theorem qbyte_any (b : Nat) (st : St) (w : World) (h : QAt b st w) :
    Calls Try.prog 22 #[.pointer (some ⟨b, 0, none⟩)] w (QPost b (.int .i64 (numS 1 st).1) (numS 1 st).2 w) := by
  have HN := Lib.hid (qtake_any b st (1 : Nat) (by omega) w h)
  have hsz := (szS_take (n := ((1 : Nat) : Int)) h.1).2
  unfold numS
  clear h
  go_enter Try.func22, Try.ntmps22
  go_wp2_with fail
  refine HN.out.mono ?_
  rintro e w1 ⟨k, rfl, h1, h2⟩
  generalize (takeS ((1 : Nat) : Int) st).1 = s at *
  generalize (takeS ((1 : Nat) : Int) st).2 = st' at *
  have HF : Hid (QPost b (.int .i64 (numB s.data.toList)) st' w (.returned (.int .i64 (numB s.data.toList))) w1) := ⟨rfl, h1, h2⟩
  clear h1 h2 HN
  go_wp2_with fail
  refine (qnumber_any s hsz w1).mono ?_
  rintro e w2 ⟨rfl, rfl⟩
  go_wp2
  go_ret
  exact HF.out
set_option maxHeartbeats 1000000 in
theorem qint_any (b : Nat) (st : St) (w : World) (h : QAt b st w) :
    Calls Try.prog 24 #[.pointer (some ⟨b, 0, none⟩)] w (QPost b (.int .i64 (numS 8 st).1) (numS 8 st).2 w) := by
  have HN := Lib.hid (qtake_any b st (8 : Nat) (by omega) w h)
  have hsz := (szS_take (n := ((8 : Nat) : Int)) h.1).2
  unfold numS
  clear h
  go_enter Try.func24, Try.ntmps24
  go_wp2_with fail
  refine HN.out.mono ?_
  rintro e w1 ⟨k, rfl, h1, h2⟩
  generalize (takeS ((8 : Nat) : Int) st).1 = s at *
  generalize (takeS ((8 : Nat) : Int) st).2 = st' at *
  have HF : Hid (QPost b (.int .i64 (numB s.data.toList)) st' w (.returned (.int .i64 (numB s.data.toList))) w1) := ⟨rfl, h1, h2⟩
  clear h1 h2 HN
  go_wp2_with fail
  refine (qnumber_any s hsz w1).mono ?_
  rintro e w2 ⟨rfl, rfl⟩
  go_wp2
  go_ret
  exact HF.out
set_option maxRecDepth 100000 in
set_option maxHeartbeats 2000000 in
theorem qcount_any (b : Nat) (st : St) (most : Int) (w : World) (h : QAt b st w) :
    Calls Try.prog 26 #[.pointer (some ⟨b, 0, none⟩), .int .i64 most] w (QPost b (.int .i64 (countS most st).1) (countS most st).2 w) := by
  have HN := Lib.hid (qtake_any b st (4 : Nat) (by omega) w h)
  have hsz := (szS_take (n := ((4 : Nat) : Int)) h.1).2
  have hc : Hid (countS most st = if (numS 4 st).1 > most then (0, none) else numS 4 st) := rfl
  unfold numS at hc
  clear h
  generalize (takeS ((4 : Nat) : Int) st).1 = s at *
  generalize (takeS ((4 : Nat) : Int) st).2 = st' at *
  have HNB := Lib.hid (qnumber_any s hsz)
  simp only at hc
  generalize numB s.data.toList = n at *
  by_cases hm : n > most
  · have e : countS most st = (0, none) := hc.out.trans (if_pos hm)
    rw [e]
    clear hc e
    go_enter Try.func26, Try.ntmps26
    go_wp2_with fail
    refine HN.out.mono ?_
    rintro e w1 ⟨k, rfl, ⟨hz, s2, hs2, hb, hx⟩, h2⟩
    have H2 := Lib.hid h2
    have c1 := hb.cell 1
    have f1 := hb.frozen 1
    simp at c1
    have hb2 := hb.set_ 1 (.bool true)
    simp at hb2
    have HF : Hid (QPost b (.int .i64 0) none w (.returned (.int .i64 0)) (w1.setCell ⟨b, 1, none⟩ (.bool true))) :=
      ⟨rfl, ⟨trivial, s2, hs2, hb2, fun x h => by cases h⟩, only_setCell (p := ⟨b, 1, none⟩) H2.out (.inl rfl) _⟩
    clear hb hb2 hx hz h2 HN
    go_wp2_with fail
    refine (HNB.out w1).mono ?_
    rintro e w2 ⟨rfl, rfl⟩
    go_wp2
    go_ret
    exact HF.out
  · have e : countS most st = (n, st') := hc.out.trans (if_neg hm)
    rw [e]
    clear hc e
    go_enter Try.func26, Try.ntmps26
    go_wp2_with fail
    refine HN.out.mono ?_
    rintro e w1 ⟨k, rfl, h1, h2⟩
    have HF : Hid (QPost b (.int .i64 n) st' w (.returned (.int .i64 n)) w1) := ⟨rfl, h1, h2⟩
    clear h1 h2 HN
    go_wp2_with fail
    refine (HNB.out w1).mono ?_
    rintro e w2 ⟨rfl, rfl⟩
    go_wp2
    go_ret
    exact HF.out
set_option maxHeartbeats 1000000 in
theorem qtext_any (b : Nat) (st : St) (w : World) (h : QAt b st w) :
    Calls Try.prog 28 #[.pointer (some ⟨b, 0, none⟩)] w (QPost b (.string (textS st).1) (textS st).2 w) := by
  have HN := Lib.hid (qcount_any b st 1048576 w h)
  have hc := Lib.hid (countS_bd 1048576 st (by decide))
  have he : Hid (textS st = takeS (countS 1048576 st).1 (countS 1048576 st).2) := rfl
  generalize countS 1048576 st = ns at *
  obtain ⟨n, st'⟩ := ns
  rw [he.out]
  generalize textS st = rs at he
  clear h he rs
  go_enter Try.func28, Try.ntmps28
  go_wp2_with fail
  refine HN.out.mono ?_
  rintro e w1 ⟨rfl, h1, h2⟩
  have HT := Lib.hid (qtake_any b st' n hc.out.1 w1 h1)
  have H2 := Lib.hid h2
  clear h1 h2
  go_wp2_with fail
  refine HT.out.mono ?_
  rintro e w2 ⟨k, rfl, h1, h2⟩
  have HF : Hid (QPost b (.string (takeS n st').1) (takeS n st').2 w (.returned (.string (takeS n st').1)) w2) := ⟨rfl, h1, grown_step H2.out h2⟩
  clear h1 h2
  go_wp2
  go_ret
  exact HF.out
set_option maxHeartbeats 1000000 in
theorem qdone_any (b : Nat) (st : St) (w : World) (h : QAt b st w) :
    Calls Try.prog 34 #[.pointer (some ⟨b, 0, none⟩)] w fun e w' => e = .returned (.bool (decide (st = some ⟨#[]⟩))) ∧ w' = w := by
  obtain ⟨hz, s, hs, hb, hx⟩ := h
  have c0 := hb.cell 0
  have c1 := hb.cell 1
  cases st with
  | none =>
    simp at c0 c1
    clear hb hx hz
    go_enter Try.func34, Try.ntmps34
    go_wp2
    go_ret
    exact ⟨rfl, rfl⟩
  | some x =>
    have := hx x rfl
    subst this
    simp at c0 c1
    clear hb hx hz
    by_cases he : x = ⟨#[]⟩
    · subst he
      go_enter Try.func34, Try.ntmps34
      go_wp2
      go_ret
      exact ⟨rfl, rfl⟩
    · have hq : ¬ x.toList = [] := fun e => he (by apply ByteArray.ext; apply Array.toList_inj.1; rw [← Lib.toList_data, e])
      have hq2 : x.toList.isEmpty = false := by simpa using hq
      have hd : Hid (decide ((some x : St) = some ⟨#[]⟩) = false) := by unfold Hid; simp [he]
      go_enter Try.func34, Try.ntmps34
      go_wp2
      go_ret
      exact ⟨by rw [hd.out]; rfl, rfl⟩
def QL (b : Nat) (L : List ByteArray) (st : St) (w : World) (e : Ending) (w' : World) : Prop := ∃ v, e = .returned v ∧ Row w' w.heap.size 9 1 tc v L ∧ QAt b st w' ∧ w.grownBy w' (some b)
theorem QAt.grown {b : Nat} {st : St} {w w' : World} {row : Option Nat} (h : QAt b st w) (hg : w.grownBy w' row) (hne : row ≠ some b) : QAt b st w' := by
  obtain ⟨hz, s, hs, hb, hx⟩ := h
  exact ⟨hz, s, hs, Blk.grown hb hg (fun e => hne e.symm), hx⟩
theorem QAt.alloc {b : Nat} {st : St} {w : World} (h : QAt b st w) (x : Obj) : QAt b st (w.alloc x) := by
  obtain ⟨hz, s, hs, hb, hx⟩ := h
  exact ⟨hz, s, hs, hb.alloc x, hx⟩
theorem QAt.lt {b : Nat} {st : St} {w : World} (h : QAt b st w) : b < w.heap.size := by
  obtain ⟨hz, s, hs, hb, hx⟩ := h
  exact hb.lt
theorem QAt.cell {b : Nat} {st : St} {w : World} (h : QAt b st w) : w.cell? ⟨b, 1, none⟩ = some (.bool st.isNone) := by
  obtain ⟨hz, s, hs, hb, hx⟩ := h
  rw [hb.cell]; rfl
set_option maxRecDepth 100000 in
set_option maxHeartbeats 4000000 in
theorem qtexts_any (b : Nat) (st : St) (w : World) (h : QAt b st w) :
    Calls Try.prog 31 #[.pointer (some ⟨b, 0, none⟩)] w (QL b (textsS st).1 (textsS st).2 w) := by
  obtain ⟨i0, hi0, hz0, hz1, hz2⟩ := info_parts infoT
  have HN := Lib.hid (qcount_any b st 65536 w h)
  have hc := Lib.hid (countS_bd 65536 st (by decide))
  have he : Hid (textsS st = match (runS (countS 65536 st).1.toNat (countS 65536 st).2).2 with
    | none => ([], none)
    | some s => ((runS (countS 65536 st).1.toNat (countS 65536 st).2).1, some s)) := rfl
  generalize countS 65536 st = ns at *
  obtain ⟨n0, st'⟩ := ns
  obtain ⟨n, hn⟩ : ∃ n : Nat, n0 = n := ⟨n0.toNat, by have := hc.out.1; simp only at this; omega⟩
  subst hn
  have hn2 : n ≤ 65536 := by have := hc.out.2; simp only at this; omega
  simp only [Int.toNat_natCast] at he
  have hblt := h.lt
  clear h hc
  have HE : Hid (∀ L, runS n st' = (L, none) → textsS st = ([], none)) := fun L e => by rw [he.out, e]
  have HE2 : Hid (∀ L s, runS n st' = (L, some s) → textsS st = (L, some s)) := fun L s e => by rw [he.out, e]
  clear he
  generalize textsS st = R at *
  go_enter Try.func31, Try.ntmps31
  go_wp2_with fail
  refine HN.out.mono ?_
  rintro e w1 ⟨rfl, h1, h2⟩
  have hrow0 : Row w1 w.heap.size 9 1 tc (.slice none 0 0) [] := Row.nil _ _ _ _ _
  have hran0 : Hid (Ran st' n 0 [] st') := ⟨rfl, rfl, by omega⟩
  have H1 := Lib.hid h1
  have H2 := Lib.hid h2
  clear h1 h2 HN
  go_wp2_with fail
  go_loopw [4, 5] (fun v iv wr => ∃ (k : Nat) (L : List ByteArray) (s2 : St), iv = .int .i64 k ∧ k ≤ n ∧ Hid (Ran st' n k L s2) ∧ Row wr w.heap.size 9 1 tc v L ∧ Hid (QAt b s2 wr) ∧ Hid (w.grownBy wr (some b))) (fun _ iv _ => n - (intOf iv).toNat)
  case atStart => exact ⟨0, [], st', rfl, by omega, hran0, hrow0, H1, H2⟩
  case round =>
    clear hrow0 hran0 H1 H2
    obtain ⟨k, L, s2, rfl, hk, hran, hrow, hr, hg⟩ := hrel
    have hL : L.length ≤ 65536 := by have := hran.out.2.1; omega
    obtain ⟨A, c, rfl⟩ := hrow.form
    have hsz := hg.out.size
    have c1 := hr.out.cell
    by_cases hlt : k < n
    · cases s2 with
      | none =>
        have HF : Hid (QL b R.1 R.2 w (.returned (.slice none 0 0)) wr) := by
          rw [HE.out L hran.out.stop]; exact ⟨_, rfl, Row.nil _ _ _ _ _, hr.out, hg.out⟩
        simp at c1
        clear hrow hL
        go_wp2
        go_ret
        exact HF.out
      | some s =>
        simp at c1
        have hnx := Lib.hid (hran.out.next hlt)
        have hT := Lib.hid (qtext_any b (some s) wr hr.out)
        generalize (textS (some s)).1 = t at *
        generalize (textS (some s)).2 = st2 at *
        go_wp2_with fail
        refine hT.out.mono ?_
        rintro e w2 ⟨rfl, h1, h2⟩
        have hrow2 := hrow.kept h2 (fun g hgg e => by
          have h3 := (hrow.own hgg).1
          injection e with e
          omega)
        have H1 := Lib.hid h1
        have H2 := Lib.hid (grown_step hg.out h2)
        have hsz2 : w.heap.size ≤ w2.heap.size := H2.out.size
        clear h1 h2 hrow hg hr hran hT c1
        go_wp2_with (at_builtin; refine wpList_append_row _ rfl _ _ 22 rfl w.heap.size 9 i0 _ 1 16 Try.underlying22 hi0 hz0 hz1 hz2 rfl (by decide) _ _ rfl (hrow2.alloc _) (fun _ => rfl) _ t rfl (cells_new _ _ _) (one_t _) (by unfold maxLen; omega) (by omega) (by simp; omega) ?_; intro v' w3 hrow3 hgrow3)
        have hown : ∀ g, (Value.slice A L.length c).ownBlock = some g → w.heap.size ≤ g := fun g hgg => (hrow2.own hgg).1
        have H3 : Hid (QAt b st2 w3) := QAt.grown (H1.out.alloc _) hgrow3 (fun e => by
          have := hown b e
          omega)
        have H4 : Hid (w.grownBy w3 (some b)) := grown_far (only_alloc H2.out _) hgrow3 hown
        clear hgrow3 hrow2 H1 H2 hL
        go_roundw
        case rel => exact ⟨k + 1, L ++ [t], st2, by go_num, by omega, hnx, hrow3, H3, H4⟩
        case measure => simp [intOf]; omega
    · have hkn : k = n := by omega
      subst hkn
      cases s2 with
      | none =>
        have HF : Hid (QL b R.1 R.2 w (.returned (.slice none 0 0)) wr) := by
          rw [HE.out L hran.out.stop]; exact ⟨_, rfl, Row.nil _ _ _ _ _, hr.out, hg.out⟩
        simp at c1
        clear hrow hL
        go_wp2
        go_ret
        exact HF.out
      | some s =>
        have HF : Hid (QL b R.1 R.2 w (.returned (.slice A L.length c)) wr) := by
          rw [HE2.out L s hran.out.1]; exact ⟨_, rfl, hrow, hr.out, hg.out⟩
        simp at c1
        clear hrow hL
        go_wp2
        go_ret
        exact HF.out
end Go.Proofs.Ytpdmchkmdkdfgaa.oc
