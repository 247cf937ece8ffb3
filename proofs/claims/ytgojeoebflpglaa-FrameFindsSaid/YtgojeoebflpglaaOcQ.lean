/- A reader of bytes, the reference's. No condition. -/
import Derived.Test.YtgojeoebflpglaaOcT
namespace Go.Proofs.Ytgojeoebflpglaa.oc
set_option linter.unusedSimpArgs false
set_option linter.unusedVariables false
open Go.ChangeShapes Go.WideShapes Go.ChangeAt Go.RowKit Go.Proofs.Aid
open Go.Proofs.Ytgojeoebflpglaa.texts (tc)
/-- The reference's reader at b. -/
def QAt (b : Nat) (st : St) (w : World) : Prop :=
  szS st ∧ ∃ s : ByteArray, s.size ≤ 9223372036854775807 ∧ Blk w b 41 #[.string s, .bool st.isNone] ∧ (∀ x, st = some x → x = s)
def QPost (b : Nat) (v : Value) (st : St) (w : World) (e : Ending) (w' : World) : Prop := e = .returned v ∧ QAt b st w' ∧ w.grownBy w' (some b)
def QTake (b : Nat) (t : ByteArray) (st : St) (w : World) (e : Ending) (w' : World) : Prop := ∃ k, e = .returned (.tuple #[.string t, .bool k]) ∧ QAt b st w' ∧ w.grownBy w' (some b)
set_option maxRecDepth 100000 in
set_option maxHeartbeats 2000000 in
theorem qtake_any (b : Nat) (st : St) (n : Int) (hn : 0 ≤ n) (w : World) (h : QAt b st w) :
    Calls Try.prog 26 #[.pointer (some ⟨b, 0, none⟩), .int .i64 n] w (QTake b (takeS n st).1 (takeS n st).2 w) := by
  obtain ⟨hz, s, hs, hb, hx⟩ := h
  have c0 := hb.cell 0
  have c1 := hb.cell 1
  have f0 := hb.frozen 0
  have f1 := hb.frozen 1
  cases st with
  | none =>
    simp at c0 c1
    have hb2 := hb.set_ 1 (.bool true)
    simp at hb2
    have HF : Hid (QTake b ⟨#[]⟩ none w (.returned (.tuple #[.string ⟨#[]⟩, .bool false])) (w.setCell ⟨b, 1, none⟩ (.bool true))) :=
      ⟨_, rfl, ⟨trivial, s, hs, hb2, fun x h => by cases h⟩, only_setCell (p := ⟨b, 1, none⟩) (grown_refl _ _) (.inl rfl) _⟩
    clear hb hb2 hx hz
    go_enter Try.func26, Try.ntmps26
    go_wp2
    go_ret2
    exact HF.out
  | some x =>
    have := hx x rfl
    subst this
    simp at c0 c1
    by_cases hl : n ≤ x.size
    · have e : takeS n (some x) = (x.extract 0 n.toNat, some (x.extract n.toNat x.size)) := if_pos hl
      have HT := Lib.hid (szS_take (n := n) hz)
      rw [e] at HT ⊢
      have hb2 := hb.set_ 0 (.string (x.extract n.toNat x.size))
      simp at hb2
      have HF : Hid (QTake b (x.extract 0 n.toNat) (some (x.extract n.toNat x.size)) w (.returned (.tuple #[.string (x.extract 0 n.toNat), .bool true])) (w.setCell ⟨b, 0, none⟩ (.string (x.extract n.toNat x.size)))) :=
        ⟨_, rfl, ⟨HT.out.1, _, HT.out.1, hb2, fun y h => by injection h with h; exact h.symm⟩, only_setCell (p := ⟨b, 0, none⟩) (grown_refl _ _) (.inl rfl) _⟩
      clear hb hb2 hx hz e
      go_enter Try.func26, Try.ntmps26
      go_wp2
      go_ret2
      exact HF.out
    · have e : takeS n (some x) = (⟨#[]⟩, none) := if_neg hl
      rw [e]
      have hb2 := hb.set_ 1 (.bool true)
      simp at hb2
      have HF : Hid (QTake b ⟨#[]⟩ none w (.returned (.tuple #[.string ⟨#[]⟩, .bool false])) (w.setCell ⟨b, 1, none⟩ (.bool true))) :=
        ⟨_, rfl, ⟨trivial, x, hs, hb2, fun x h => by cases h⟩, only_setCell (p := ⟨b, 1, none⟩) (grown_refl _ _) (.inl rfl) _⟩
      clear hb hb2 hx hz e
      go_enter Try.func26, Try.ntmps26
      go_wp2
      go_ret2
      exact HF.out
set_option maxRecDepth 100000 in
set_option maxHeartbeats 2000000 in
theorem qnumber_any (s : ByteArray) (hsz : s.size ≤ 9223372036854775807) (w : World) :
    Calls Try.prog 27 #[.string s] w fun e w' => e = .returned (.int .i64 (numB s.data.toList)) ∧ w' = w := by
  go_enter Try.func27, Try.ntmps27
  go_wp2_with fail
  go_loopw [3, 4] (fun n iv wr => ∃ k : Nat, k ≤ s.size ∧ iv = .int .i64 k ∧ n = .int .i64 (numB (s.data.toList.take k)) ∧ wr = w) (fun _ iv _ => s.size - (intOf iv).toNat)
  case atStart => exact ⟨0, by omega, rfl, rfl, rfl⟩
  case round =>
    obtain ⟨k, hk, rfl, rfl, rfl⟩ := hrel
    by_cases hlt : k < s.size
    · have hs := Lib.hid (numB_snoc (s.data.toList.take k) s[k])
      have ht := Lib.hid (take_snoc s k hlt)
      generalize numB (s.data.toList.take k) = x at *
      go_wp2
      go_roundw
      case rel =>
        refine ⟨k + 1, by omega, by go_num, ?_, by trivial⟩
        rw [ht.out, hs.out, wrap_byte, wrap64_eq]
      case measure => simp [intOf]; omega
    · have hk2 : k = s.size := by omega
      subst hk2
      have ht : Hid (s.data.toList.take s.size = s.data.toList) := List.take_of_length_le (by simp)
      go_wp2
      go_ret
      rw [ht.out]
      exact ⟨rfl, rfl⟩
set_option maxRecDepth 100000 in
set_option maxHeartbeats 2000000 in
theorem qcount_any (b : Nat) (st : St) (most : Int) (w : World) (h : QAt b st w) :
    Calls Try.prog 17 #[.pointer (some ⟨b, 0, none⟩), .int .i64 most] w (QPost b (.int .i64 (countS most st).1) (countS most st).2 w) := by
  have HN := Lib.hid (qtake_any b st (4 : Nat) (by omega) w h)
  have hsz := (szS_take (n := ((4 : Nat) : Int)) h.1).2
  have hc : Hid (countS most st = if (numS 4 st).1 > most then (0, none) else numS 4 st) := rfl
  unfold numS at hc
  clear h
  generalize (takeS ((4 : Nat) : Int) st).1 = s at *
  generalize (takeS ((4 : Nat) : Int) st).2 = st' at *
  have HNB := Lib.hid (qnumber_any s hsz)
  simp only at hc
  generalize numB s.data.toList = n at *
  by_cases hm : n > most
  · have e : countS most st = (0, none) := hc.out.trans (if_pos hm)
    rw [e]
    clear hc e
    go_enter Try.func17, Try.ntmps17
    go_wp2_with fail
    refine HN.out.mono ?_
    rintro e w1 ⟨k, rfl, ⟨hz, s2, hs2, hb, hx⟩, h2⟩
    have H2 := Lib.hid h2
    have c1 := hb.cell 1
    have f1 := hb.frozen 1
    simp at c1
    have hb2 := hb.set_ 1 (.bool true)
    simp at hb2
    have HF : Hid (QPost b (.int .i64 0) none w (.returned (.int .i64 0)) (w1.setCell ⟨b, 1, none⟩ (.bool true))) :=
      ⟨rfl, ⟨trivial, s2, hs2, hb2, fun x h => by cases h⟩, only_setCell (p := ⟨b, 1, none⟩) H2.out (.inl rfl) _⟩
    clear hb hb2 hx hz h2 HN
    go_wp2_with fail
    refine (HNB.out w1).mono ?_
    rintro e w2 ⟨rfl, rfl⟩
    go_wp2
    go_ret
    exact HF.out
  · have e : countS most st = (n, st') := hc.out.trans (if_neg hm)
    rw [e]
    clear hc e
    go_enter Try.func17, Try.ntmps17
    go_wp2_with fail
    refine HN.out.mono ?_
    rintro e w1 ⟨k, rfl, h1, h2⟩
    have HF : Hid (QPost b (.int .i64 n) st' w (.returned (.int .i64 n)) w1) := ⟨rfl, h1, h2⟩
    clear h1 h2 HN
    go_wp2_with fail
    refine (HNB.out w1).mono ?_
    rintro e w2 ⟨rfl, rfl⟩
    go_wp2
    go_ret
    exact HF.out
def QL (b : Nat) (L : List ByteArray) (st : St) (w : World) (e : Ending) (w' : World) : Prop := ∃ v, e = .returned v ∧ Row w' w.heap.size 9 1 tc v L ∧ QAt b st w' ∧ w.grownBy w' (some b)
theorem QAt.grown {b : Nat} {st : St} {w w' : World} {row : Option Nat} (h : QAt b st w) (hg : w.grownBy w' row) (hne : row ≠ some b) : QAt b st w' := by
  obtain ⟨hz, s, hs, hb, hx⟩ := h
  exact ⟨hz, s, hs, Blk.grown hb hg (fun e => hne e.symm), hx⟩
theorem QAt.alloc {b : Nat} {st : St} {w : World} (h : QAt b st w) (x : Obj) : QAt b st (w.alloc x) := by
  obtain ⟨hz, s, hs, hb, hx⟩ := h
  exact ⟨hz, s, hs, hb.alloc x, hx⟩
theorem QAt.lt {b : Nat} {st : St} {w : World} (h : QAt b st w) : b < w.heap.size := by
  obtain ⟨hz, s, hs, hb, hx⟩ := h
  exact hb.lt
theorem QAt.cell {b : Nat} {st : St} {w : World} (h : QAt b st w) : w.cell? ⟨b, 1, none⟩ = some (.bool st.isNone) := by
  obtain ⟨hz, s, hs, hb, hx⟩ := h
  rw [hb.cell]; rfl
end Go.Proofs.Ytgojeoebflpglaa.oc
