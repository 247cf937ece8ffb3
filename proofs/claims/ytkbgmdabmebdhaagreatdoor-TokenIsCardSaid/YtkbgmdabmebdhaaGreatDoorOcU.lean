import Derived.Test.YtkbgmdabmebdhaaGreatDoorOcR
import Derived.Test.YtkbgmdabmebdhaaGreatDoorTexts
import Derived.Shelf.Abstract
import Derived.Laws.EntriesVeiled
import Derived.Laws.IdiomStrings
/- A reader of bytes, the package's: numbers, texts, lists. No condition. -/
namespace Go.Proofs.YtkbgmdabmebdhaaGreatDoor.oc
set_option linter.unusedSimpArgs false
set_option linter.unusedVariables false
open Go.ChangeShapes Go.WideShapes Go.ChangeAt Go.RowKit Go.Proofs.Aid
open Go.Proofs.YtkbgmdabmebdhaaGreatDoor.texts (tc)
set_option maxHeartbeats 1000000 in
theorem rint_any (o : Option Nat) (st : St) (w : World) (h : RAt o st w) :
    Calls Tryz.prog 17 #[pv o] w (RPost o (.int .i64 (numS 8 st).1) (numS 8 st).2 w) := by
  have HN := Lib.hid (rnumber_any o st 8 w h)
  clear h
  go_enter Tryz.func17, Tryz.ntmps17
  go_wp2_with fail
  refine HN.out.mono ?_
  rintro e w1 ⟨rfl, h1, h2⟩
  have HF : Hid (RPost o (.int .i64 (numS 8 st).1) (numS 8 st).2 w (.returned (.int .i64 (numS 8 st).1)) w1) := ⟨rfl, h1, h2⟩
  clear h1 h2
  go_wp2
  go_ret
  exact HF.out
theorem numS_sz {m : Nat} {st : St} (h : szS st) : szS (numS m st).2 := (szS_take h).1
theorem takeS_len {m : Nat} {st : St} : (takeS m st).1.data.toList.length ≤ m := by
  cases st with
  | none => exact Nat.zero_le _
  | some s =>
    by_cases hl : (m : Int) ≤ s.size
    · have e : takeS m (some s) = (s.extract 0 (m : Int).toNat, some (s.extract (m : Int).toNat s.size)) := if_pos hl
      rw [e]
      simp; omega
    · have e : takeS m (some s) = (⟨#[]⟩, none) := if_neg hl
      rw [e]; exact Nat.zero_le _
theorem numS_four (st : St) : 0 ≤ (numS 4 st).1 ∧ (numS 4 st).1 < 4294967296 := by
  have := numB_four (takeS ((4 : Nat) : Int) st).1.data.toList takeS_len
  unfold numS
  show 0 ≤ numB _ ∧ numB _ < _
  rw [this.1]; exact this.2
theorem countS_bd (most : Int) (st : St) (h : 0 ≤ most) : 0 ≤ (countS most st).1 ∧ (countS most st).1 ≤ most := by
  have := numS_four st
  unfold countS
  split
  · exact ⟨Int.le_refl _, h⟩
  · exact ⟨this.1, by omega⟩
theorem countS_sz {most : Int} {st : St} (h : szS st) : szS (countS most st).2 := by
  unfold countS
  split
  · trivial
  · exact numS_sz h
theorem textS_sz {st : St} (h : szS st) : szS (textS st).2 ∧ (textS st).1.size ≤ 9223372036854775807 := szS_take (countS_sz h)
set_option maxRecDepth 100000 in
set_option maxHeartbeats 1000000 in
theorem rcount_any (o : Option Nat) (st : St) (most : Int) (w : World) (h : RAt o st w) :
    Calls Tryz.prog 35 #[pv o, .int .i64 most] w (RPost o (.int .i64 (countS most st).1) (countS most st).2 w) := by
  have HN := Lib.hid (rnumber_any o st 4 w h)
  clear h
  have hc : Hid (countS most st = if (numS 4 st).1 > most then (0, none) else numS 4 st) := rfl
  generalize numS 4 st = ns at *
  obtain ⟨n, st'⟩ := ns
  by_cases hm : n > most
  · have e : countS most st = (0, none) := hc.out.trans (if_pos hm)
    rw [e]
    clear hc e
    go_enter Tryz.func35, Tryz.ntmps35
    go_wp2_with fail
    refine HN.out.mono ?_
    rintro e w1 ⟨rfl, h1, h2⟩
    have HX := Lib.hid (fail_any o st' w1 h1)
    have H2 := Lib.hid h2
    clear h1 h2 HN
    go_wp2_with fail
    refine HX.out.mono ?_
    rintro e w2 ⟨rfl, h1, h2⟩
    have HF : Hid (RPost o (.int .i64 0) none w (.returned (.int .i64 0)) w2) := ⟨rfl, h1, grown_step H2.out h2⟩
    clear h1 h2
    go_wp2
    go_ret
    exact HF.out
  · have e : countS most st = (n, st') := hc.out.trans (if_neg hm)
    rw [e]
    clear hc e
    go_enter Tryz.func35, Tryz.ntmps35
    go_wp2_with fail
    refine HN.out.mono ?_
    rintro e w1 ⟨rfl, h1, h2⟩
    have HF : Hid (RPost o (.int .i64 n) st' w (.returned (.int .i64 n)) w1) := ⟨rfl, h1, h2⟩
    clear h1 h2 HN
    go_wp2
    go_ret
    exact HF.out
set_option maxHeartbeats 1000000 in
theorem rtext_any (o : Option Nat) (st : St) (w : World) (h : RAt o st w) :
    Calls Tryz.prog 16 #[pv o] w (RPost o (.string (textS st).1) (textS st).2 w) := by
  have HN := Lib.hid (rcount_any o st 1048576 w h)
  have hc := Lib.hid (countS_bd 1048576 st (by decide))
  have he : Hid (textS st = takeS (countS 1048576 st).1 (countS 1048576 st).2) := rfl
  generalize countS 1048576 st = ns at *
  obtain ⟨n, st'⟩ := ns
  rw [he.out]
  generalize textS st = rs at he
  clear h he rs
  go_enter Tryz.func16, Tryz.ntmps16
  go_wp2_with fail
  refine HN.out.mono ?_
  rintro e w1 ⟨rfl, h1, h2⟩
  have HT := Lib.hid (take_any o st' n hc.out.1 w1 h1)
  have H2 := Lib.hid h2
  clear h1 h2
  go_wp2_with fail
  refine HT.out.mono ?_
  rintro e w2 ⟨rfl, h1, h2⟩
  have HF : Hid (RPost o (.string (takeS n st').1) (takeS n st').2 w (.returned (.string (takeS n st').1)) w2) := ⟨rfl, h1, grown_step H2.out h2⟩
  clear h1 h2
  go_wp2
  go_ret
  exact HF.out
/-- A list of texts and the reader behind it. -/
def LPost (o : Option Nat) (L : List ByteArray) (st : St) (w : World) (e : Ending) (w' : World) : Prop := ∃ v, e = .returned v ∧ Row w' w.heap.size 9 1 tc v L ∧ RAt o st w' ∧ w.grownBy w' o
theorem runS_succ (k : Nat) (st : St) (s : ByteArray) (h : (runS k st).2 = some s) : runS (k + 1) st = ((runS k st).1 ++ [(textS (some s)).1], (textS (some s)).2) := by
  rw [runS, h]
theorem runS_stuck (k : Nat) (st : St) (h : (runS k st).2 = none) : ∀ j, runS (k + j) st = runS k st
  | 0 => rfl
  | j + 1 => by
    have ih := runS_stuck k st h j
    rw [← Nat.add_assoc, runS, ih, h]
theorem runS_sz {st : St} (h : szS st) : ∀ k, szS (runS k st).2
  | 0 => h
  | k + 1 => by
    have ih := runS_sz h k
    rw [runS]
    split
    · exact ih
    · rename_i s hs
      rw [hs] at ih
      exact (textS_sz ih).1
theorem infoT : (Tryz.prog.info? 9).map (fun i => (i.zero, i.size, i.bytes)) = some (some (.string ⟨#[]⟩), 1, 16) := by kernel_rfl
/-- What the list is when k texts were asked for: where the reader is bad, those of all. -/
def Ran (st0 : St) (n k : Nat) (L : List ByteArray) (st : St) : Prop := runS k st0 = (L, st) ∧ L.length = k ∧ k ≤ n
theorem Ran.next {st0 : St} {n k : Nat} {L : List ByteArray} {s : ByteArray} (h : Ran st0 n k L (some s)) (hk : k < n) : Ran st0 n (k + 1) (L ++ [(textS (some s)).1]) (textS (some s)).2 := by
  obtain ⟨h1, h2, h3⟩ := h
  refine ⟨?_, by simp [h2], by omega⟩
  rw [runS_succ k st0 s (by rw [h1]), h1]
theorem Ran.stop {st0 : St} {n k : Nat} {L : List ByteArray} (h : Ran st0 n k L none) : runS n st0 = (L, none) := by
  obtain ⟨h1, h2, h3⟩ := h
  have := runS_stuck k st0 (by rw [h1]) (n - k)
  rw [← h1, ← this]; congr 1; omega
theorem Ran.end_ {st0 st : St} {n : Nat} {L : List ByteArray} (h : Ran st0 n n L st) : runS n st0 = (L, st) := h.1
theorem RAt.grown {o : Option Nat} {st : St} {w w' : World} {row : Option Nat} (h : RAt o st w) (hg : w.grownBy w' row) (hne : ∀ b, o = some b → row ≠ some b) : RAt o st w' := by
  refine ⟨h.1, ?_⟩
  cases o with
  | none => exact h.2
  | some b => exact Blk.grown (w := w) h.2 hg (fun e => hne b rfl e.symm)
theorem RAt.alloc {o : Option Nat} {st : St} {w : World} (h : RAt o st w) (x : Obj) : RAt o st (w.alloc x) := by
  refine ⟨h.1, ?_⟩
  cases o with
  | none => exact h.2
  | some b => exact Blk.alloc (w := w) h.2 x
theorem RAt.lt {b : Nat} {st : St} {w : World} (h : RAt (some b) st w) : b < w.heap.size := Blk.lt (w := w) h.2
theorem grown_far {a b c : World} {o row : Option Nat} (h : a.grownBy b o) (k : b.grownBy c row) (hr : ∀ g, row = some g → a.heap.size ≤ g) : a.grownBy c o :=
  ⟨k.os.trans h.os, k.tape.trans h.tape, k.output.trans h.output, Nat.le_trans h.size k.size, fun i hi hne => (k.block i (Nat.lt_of_lt_of_le hi h.size) (fun e => by have := hr i e.symm; omega)).trans (h.block i hi hne)⟩
def slen : Value → Nat
  | .slice _ n _ => n
  | _ => 0
theorem one_t (s : ByteArray) : ∀ u ∈ tc s, u.oneCell' = true := by intro u hu; simp [tc] at hu; subst hu; rfl
def Enters (F : FuncId) : Prop := ∀ (args : Array Value) (w : World), (callFunc F args).run Tryz.prog w = .ok (.enter F args) w
theorem entersText : Enters 16 := enters_of Tryz.func16 (by kernel_rfl) rfl
theorem entersBad : Enters 37 := enters_of Tryz.func37 (by kernel_rfl) rfl
abbrev bound (F : FuncId) (o : Option Nat) : Value := .func (.func F) #[pv o] #[]
theorem len_of {v : Value} {w : World} {base : Nat} {e : TypeId} {size : Nat} {α : Type} {f : α → List Value} {L : List α} (h : Row w base e size f v L) : slen v = L.length := by
  obtain ⟨A, c, rfl⟩ := h.form; rfl
end Go.Proofs.YtkbgmdabmebdhaaGreatDoor.oc

/- A reader of bytes, the package's: lists of texts. No condition. -/
namespace Go.Proofs.YtkbgmdabmebdhaaGreatDoor.oc
set_option linter.unusedSimpArgs false
set_option linter.unusedVariables false
open Go.ChangeShapes Go.WideShapes Go.ChangeAt Go.RowKit Go.Proofs.Aid
open Go.Proofs.YtkbgmdabmebdhaaGreatDoor.texts (tc)
end Go.Proofs.YtkbgmdabmebdhaaGreatDoor.oc

/- A reader of bytes, the reference's. No condition. -/
namespace Go.Proofs.YtkbgmdabmebdhaaGreatDoor.oc
set_option linter.unusedSimpArgs false
set_option linter.unusedVariables false
open Go.ChangeShapes Go.WideShapes Go.ChangeAt Go.RowKit Go.Proofs.Aid
open Go.Proofs.YtkbgmdabmebdhaaGreatDoor.texts (tc)
/-- The reference's reader at b. -/
def QAt (b : Nat) (st : St) (w : World) : Prop :=
  szS st ∧ ∃ s : ByteArray, s.size ≤ 9223372036854775807 ∧ Blk w b 48 #[.string s, .bool st.isNone] ∧ (∀ x, st = some x → x = s)
def QPost (b : Nat) (v : Value) (st : St) (w : World) (e : Ending) (w' : World) : Prop := e = .returned v ∧ QAt b st w' ∧ w.grownBy w' (some b)
def QTake (b : Nat) (t : ByteArray) (st : St) (w : World) (e : Ending) (w' : World) : Prop := ∃ k, e = .returned (.tuple #[.string t, .bool k]) ∧ QAt b st w' ∧ w.grownBy w' (some b)
set_option maxRecDepth 100000 in
set_option maxHeartbeats 2000000 in
theorem qtake_any (b : Nat) (st : St) (n : Int) (hn : 0 ≤ n) (w : World) (h : QAt b st w) :
    Calls Tryz.prog 39 #[.pointer (some ⟨b, 0, none⟩), .int .i64 n] w (QTake b (takeS n st).1 (takeS n st).2 w) := by
  obtain ⟨hz, s, hs, hb, hx⟩ := h
  have c0 := hb.cell 0
  have c1 := hb.cell 1
  have f0 := hb.frozen 0
  have f1 := hb.frozen 1
  cases st with
  | none =>
    simp at c0 c1
    have hb2 := hb.set_ 1 (.bool true)
    simp at hb2
    have HF : Hid (QTake b ⟨#[]⟩ none w (.returned (.tuple #[.string ⟨#[]⟩, .bool false])) (w.setCell ⟨b, 1, none⟩ (.bool true))) :=
      ⟨_, rfl, ⟨trivial, s, hs, hb2, fun x h => by cases h⟩, only_setCell (p := ⟨b, 1, none⟩) (grown_refl _ _) (.inl rfl) _⟩
    clear hb hb2 hx hz
    go_enter Tryz.func39, Tryz.ntmps39
    go_wp2
    go_ret2
    exact HF.out
  | some x =>
    have := hx x rfl
    subst this
    simp at c0 c1
    by_cases hl : n ≤ x.size
    · have e : takeS n (some x) = (x.extract 0 n.toNat, some (x.extract n.toNat x.size)) := if_pos hl
      have HT := Lib.hid (szS_take (n := n) hz)
      rw [e] at HT ⊢
      have hb2 := hb.set_ 0 (.string (x.extract n.toNat x.size))
      simp at hb2
      have HF : Hid (QTake b (x.extract 0 n.toNat) (some (x.extract n.toNat x.size)) w (.returned (.tuple #[.string (x.extract 0 n.toNat), .bool true])) (w.setCell ⟨b, 0, none⟩ (.string (x.extract n.toNat x.size)))) :=
        ⟨_, rfl, ⟨HT.out.1, _, HT.out.1, hb2, fun y h => by injection h with h; exact h.symm⟩, only_setCell (p := ⟨b, 0, none⟩) (grown_refl _ _) (.inl rfl) _⟩
      clear hb hb2 hx hz e
      go_enter Tryz.func39, Tryz.ntmps39
      go_wp2
      go_ret2
      exact HF.out
    · have e : takeS n (some x) = (⟨#[]⟩, none) := if_neg hl
      rw [e]
      have hb2 := hb.set_ 1 (.bool true)
      simp at hb2
      have HF : Hid (QTake b ⟨#[]⟩ none w (.returned (.tuple #[.string ⟨#[]⟩, .bool false])) (w.setCell ⟨b, 1, none⟩ (.bool true))) :=
        ⟨_, rfl, ⟨trivial, x, hs, hb2, fun x h => by cases h⟩, only_setCell (p := ⟨b, 1, none⟩) (grown_refl _ _) (.inl rfl) _⟩
      clear hb hb2 hx hz e
      go_enter Tryz.func39, Tryz.ntmps39
      go_wp2
      go_ret2
      exact HF.out
set_option maxRecDepth 100000 in
set_option maxHeartbeats 2000000 in
theorem qnumber_any (s : ByteArray) (hsz : s.size ≤ 9223372036854775807) (w : World) :
    Calls Tryz.prog 40 #[.string s] w fun e w' => e = .returned (.int .i64 (numB s.data.toList)) ∧ w' = w := by
  go_enter Tryz.func40, Tryz.ntmps40
  go_wp2_with fail
  go_loopw [3, 4] (fun n iv wr => ∃ k : Nat, k ≤ s.size ∧ iv = .int .i64 k ∧ n = .int .i64 (numB (s.data.toList.take k)) ∧ wr = w) (fun _ iv _ => s.size - (intOf iv).toNat)
  case atStart => exact ⟨0, by omega, rfl, rfl, rfl⟩
  case round =>
    obtain ⟨k, hk, rfl, rfl, rfl⟩ := hrel
    by_cases hlt : k < s.size
    · have hs := Lib.hid (numB_snoc (s.data.toList.take k) s[k])
      have ht := Lib.hid (take_snoc s k hlt)
      generalize numB (s.data.toList.take k) = x at *
      go_wp2
      go_roundw
      case rel =>
        refine ⟨k + 1, by omega, by go_num, ?_, by trivial⟩
        rw [ht.out, hs.out, wrap_byte, wrap64_eq]
      case measure => simp [intOf]; omega
    · have hk2 : k = s.size := by omega
      subst hk2
      have ht : Hid (s.data.toList.take s.size = s.data.toList) := List.take_of_length_le (by simp)
      go_wp2
      go_ret
      rw [ht.out]
      exact ⟨rfl, rfl⟩
set_option maxHeartbeats 1000000 in
theorem qint_any (b : Nat) (st : St) (w : World) (h : QAt b st w) :
    Calls Tryz.prog 20 #[.pointer (some ⟨b, 0, none⟩)] w (QPost b (.int .i64 (numS 8 st).1) (numS 8 st).2 w) := by
  have HN := Lib.hid (qtake_any b st (8 : Nat) (by omega) w h)
  have hsz := (szS_take (n := ((8 : Nat) : Int)) h.1).2
  unfold numS
  clear h
  go_enter Tryz.func20, Tryz.ntmps20
  go_wp2_with fail
  refine HN.out.mono ?_
  rintro e w1 ⟨k, rfl, h1, h2⟩
  generalize (takeS ((8 : Nat) : Int) st).1 = s at *
  generalize (takeS ((8 : Nat) : Int) st).2 = st' at *
  have HF : Hid (QPost b (.int .i64 (numB s.data.toList)) st' w (.returned (.int .i64 (numB s.data.toList))) w1) := ⟨rfl, h1, h2⟩
  clear h1 h2 HN
  go_wp2_with fail
  refine (qnumber_any s hsz w1).mono ?_
  rintro e w2 ⟨rfl, rfl⟩
  go_wp2
  go_ret
  exact HF.out
set_option maxRecDepth 100000 in
set_option maxHeartbeats 2000000 in
theorem qcount_any (b : Nat) (st : St) (most : Int) (w : World) (h : QAt b st w) :
    Calls Tryz.prog 38 #[.pointer (some ⟨b, 0, none⟩), .int .i64 most] w (QPost b (.int .i64 (countS most st).1) (countS most st).2 w) := by
  have HN := Lib.hid (qtake_any b st (4 : Nat) (by omega) w h)
  have hsz := (szS_take (n := ((4 : Nat) : Int)) h.1).2
  have hc : Hid (countS most st = if (numS 4 st).1 > most then (0, none) else numS 4 st) := rfl
  unfold numS at hc
  clear h
  generalize (takeS ((4 : Nat) : Int) st).1 = s at *
  generalize (takeS ((4 : Nat) : Int) st).2 = st' at *
  have HNB := Lib.hid (qnumber_any s hsz)
  simp only at hc
  generalize numB s.data.toList = n at *
  by_cases hm : n > most
  · have e : countS most st = (0, none) := hc.out.trans (if_pos hm)
    rw [e]
    clear hc e
    go_enter Tryz.func38, Tryz.ntmps38
    go_wp2_with fail
    refine HN.out.mono ?_
    rintro e w1 ⟨k, rfl, ⟨hz, s2, hs2, hb, hx⟩, h2⟩
    have H2 := Lib.hid h2
    have c1 := hb.cell 1
    have f1 := hb.frozen 1
    simp at c1
    have hb2 := hb.set_ 1 (.bool true)
    simp at hb2
    have HF : Hid (QPost b (.int .i64 0) none w (.returned (.int .i64 0)) (w1.setCell ⟨b, 1, none⟩ (.bool true))) :=
      ⟨rfl, ⟨trivial, s2, hs2, hb2, fun x h => by cases h⟩, only_setCell (p := ⟨b, 1, none⟩) H2.out (.inl rfl) _⟩
    clear hb hb2 hx hz h2 HN
    go_wp2_with fail
    refine (HNB.out w1).mono ?_
    rintro e w2 ⟨rfl, rfl⟩
    go_wp2
    go_ret
    exact HF.out
  · have e : countS most st = (n, st') := hc.out.trans (if_neg hm)
    rw [e]
    clear hc e
    go_enter Tryz.func38, Tryz.ntmps38
    go_wp2_with fail
    refine HN.out.mono ?_
    rintro e w1 ⟨k, rfl, h1, h2⟩
    have HF : Hid (QPost b (.int .i64 n) st' w (.returned (.int .i64 n)) w1) := ⟨rfl, h1, h2⟩
    clear h1 h2 HN
    go_wp2_with fail
    refine (HNB.out w1).mono ?_
    rintro e w2 ⟨rfl, rfl⟩
    go_wp2
    go_ret
    exact HF.out
set_option maxHeartbeats 1000000 in
theorem qtext_any (b : Nat) (st : St) (w : World) (h : QAt b st w) :
    Calls Tryz.prog 19 #[.pointer (some ⟨b, 0, none⟩)] w (QPost b (.string (textS st).1) (textS st).2 w) := by
  have HN := Lib.hid (qcount_any b st 1048576 w h)
  have hc := Lib.hid (countS_bd 1048576 st (by decide))
  have he : Hid (textS st = takeS (countS 1048576 st).1 (countS 1048576 st).2) := rfl
  generalize countS 1048576 st = ns at *
  obtain ⟨n, st'⟩ := ns
  rw [he.out]
  generalize textS st = rs at he
  clear h he rs
  go_enter Tryz.func19, Tryz.ntmps19
  go_wp2_with fail
  refine HN.out.mono ?_
  rintro e w1 ⟨rfl, h1, h2⟩
  have HT := Lib.hid (qtake_any b st' n hc.out.1 w1 h1)
  have H2 := Lib.hid h2
  clear h1 h2
  go_wp2_with fail
  refine HT.out.mono ?_
  rintro e w2 ⟨k, rfl, h1, h2⟩
  have HF : Hid (QPost b (.string (takeS n st').1) (takeS n st').2 w (.returned (.string (takeS n st').1)) w2) := ⟨rfl, h1, grown_step H2.out h2⟩
  clear h1 h2
  go_wp2
  go_ret
  exact HF.out
set_option maxHeartbeats 1000000 in
theorem qdone_any (b : Nat) (st : St) (w : World) (h : QAt b st w) :
    Calls Tryz.prog 21 #[.pointer (some ⟨b, 0, none⟩)] w fun e w' => e = .returned (.bool (decide (st = some ⟨#[]⟩))) ∧ w' = w := by
  obtain ⟨hz, s, hs, hb, hx⟩ := h
  have c0 := hb.cell 0
  have c1 := hb.cell 1
  cases st with
  | none =>
    simp at c0 c1
    clear hb hx hz
    go_enter Tryz.func21, Tryz.ntmps21
    go_wp2
    go_ret
    exact ⟨rfl, rfl⟩
  | some x =>
    have := hx x rfl
    subst this
    simp at c0 c1
    clear hb hx hz
    by_cases he : x = ⟨#[]⟩
    · subst he
      go_enter Tryz.func21, Tryz.ntmps21
      go_wp2
      go_ret
      exact ⟨rfl, rfl⟩
    · have hq : ¬ x.toList = [] := fun e => he (by apply ByteArray.ext; apply Array.toList_inj.1; rw [← Lib.toList_data, e])
      have hq2 : x.toList.isEmpty = false := by simpa using hq
      have hd : Hid (decide ((some x : St) = some ⟨#[]⟩) = false) := by unfold Hid; simp [he]
      go_enter Tryz.func21, Tryz.ntmps21
      go_wp2
      go_ret
      exact ⟨by rw [hd.out]; rfl, rfl⟩
def QL (b : Nat) (L : List ByteArray) (st : St) (w : World) (e : Ending) (w' : World) : Prop := ∃ v, e = .returned v ∧ Row w' w.heap.size 9 1 tc v L ∧ QAt b st w' ∧ w.grownBy w' (some b)
theorem QAt.grown {b : Nat} {st : St} {w w' : World} {row : Option Nat} (h : QAt b st w) (hg : w.grownBy w' row) (hne : row ≠ some b) : QAt b st w' := by
  obtain ⟨hz, s, hs, hb, hx⟩ := h
  exact ⟨hz, s, hs, Blk.grown hb hg (fun e => hne e.symm), hx⟩
theorem QAt.alloc {b : Nat} {st : St} {w : World} (h : QAt b st w) (x : Obj) : QAt b st (w.alloc x) := by
  obtain ⟨hz, s, hs, hb, hx⟩ := h
  exact ⟨hz, s, hs, hb.alloc x, hx⟩
theorem QAt.lt {b : Nat} {st : St} {w : World} (h : QAt b st w) : b < w.heap.size := by
  obtain ⟨hz, s, hs, hb, hx⟩ := h
  exact hb.lt
theorem QAt.cell {b : Nat} {st : St} {w : World} (h : QAt b st w) : w.cell? ⟨b, 1, none⟩ = some (.bool st.isNone) := by
  obtain ⟨hz, s, hs, hb, hx⟩ := h
  rw [hb.cell]; rfl
end Go.Proofs.YtkbgmdabmebdhaaGreatDoor.oc

/- The bytes of numbers and texts, the reference's. No condition. -/
namespace Go.Proofs.YtkbgmdabmebdhaaGreatDoor.oc
set_option linter.unusedSimpArgs false
set_option linter.unusedVariables false
open Go.ChangeShapes Go.WideShapes Go.ChangeAt Go.RowKit Go.Proofs.Aid
open Go.Proofs.YtkbgmdabmebdhaaGreatDoor.texts (tc)
/-- Bytes as a text. -/
def bz (l : List UInt8) : ByteArray := ⟨l.toArray⟩
theorem bz_append (a b : List UInt8) : bz a ++ bz b = bz (a ++ b) := by
  apply ByteArray.ext
  apply Array.toList_inj.1
  simp [bz]
theorem bz_str (a : List UInt8) (s : ByteArray) : bz a ++ s = bz (a ++ s.data.toList) := by
  apply ByteArray.ext
  apply Array.toList_inj.1
  simp [bz]
theorem bz_size (a : List UInt8) : (bz a).size = a.length := by
  show a.toArray.size = _; simp
theorem and255 (n : Int) : bits .and .i64 n 255 = n % 256 := by
  show IntKind.i64.wrap ((BitVec.ofInt 64 n &&& BitVec.ofInt 64 255).toNat : Int) = _
  rw [BitVec.toNat_and]
  have e1 := toNat_two64 n
  have e2 : (BitVec.ofInt 64 255).toNat = 2 ^ 8 - 1 := by decide
  rw [e2, Nat.and_two_pow_sub_one_eq_mod]
  generalize (BitVec.ofInt 64 n).toNat = A at *
  simp only [IntKind.wrap_i64]
  omega
theorem bAt_zero (n : Int) : bAt n 0 = n % 256 := by simp [bAt]
theorem be_one (n : Int) : be 1 n = [UInt8.ofNat (n % 256).toNat] := by simp [be, bAt_zero]
theorem be_at (n : Int) (j : Nat) (h : j < 8) : (be 8 n).take (j + 1) = (be 8 n).take j ++ be 1 (n / 2 ^ (56 - 8 * j) % 256) := by
  rw [List.take_succ_eq_append_getElem (by rw [be_length]; exact h)]
  congr 1
  rw [be_one]
  simp only [be, List.getElem_map, List.getElem_range]
  have e : 8 * (8 - 1 - j) = 56 - 8 * j := by omega
  simp only [bAt, e]
  congr 2
  omega
theorem be_half (n : Int) : be 4 n = (be 8 n).drop 4 := rfl
set_option maxHeartbeats 1000000 in
theorem qbyteB_any (n : Int) (w : World) :
    Calls Tryz.prog 72 #[.int .i64 n] w fun e w' => e = .returned (.string (bz (be 1 n))) ∧ Below w.heap.size w w' := by
  have ha := and255 n
  have hm : 0 ≤ n % 256 ∧ n % 256 < 256 := ⟨by omega, by omega⟩
  have HL := Lib.hid (below_lit w (.cells #[.int .u8 (n % 256)] 5))
  have hcv : (convert 57 9 (.slice (some ⟨w.heap.size, 0, none⟩) 1 1)).run Tryz.prog (w.alloc (.cells #[.int .u8 (n % 256)] 5)) = .ok (.string ⟨#[UInt8.ofNat (n % 256).toNat]⟩) (w.alloc (.cells #[.int .u8 (n % 256)] 5)) := run_convert_bytes_back (P := Tryz.prog) (w.alloc (.cells #[.int .u8 (n % 256)] 5)) 57 9 5 ⟨w.heap.size, 0, none⟩ 1 [UInt8.ofNat (n % 256).toNat] Tryz.underlying57 Tryz.underlying5 Tryz.underlying9 (fun j hj => by
    have hj0 : j = 0 := by simpa using hj
    subst hj0
    have h1 := (Blk.new w 5 #[.int .u8 (n % 256)]).cell 0
    have h2 : ((UInt8.ofNat (n % 256).toNat).toNat : Int) = n % 256 := by rw [UInt8.toNat_ofNat']; omega
    show World.cell? _ ⟨w.heap.size, 0, none⟩ = some (.int .u8 ((UInt8.ofNat (n % 256).toNat).toNat : Int))
    rw [h1, h2]; rfl)
  have hF : Hid (bz (be 1 n) = ⟨#[UInt8.ofNat (n % 256).toNat]⟩) := by rw [be_one]; rfl
  rw [hF.out]
  clear hF
  go_enter Tryz.func72, Tryz.ntmps72
  go_wp2
  go_ret
  exact ⟨rfl, HL.out⟩
set_option maxRecDepth 100000 in
set_option maxHeartbeats 2000000 in
theorem qintB_any (n : Int) (w : World) :
    Calls Tryz.prog 56 #[.int .i64 n] w fun e w' => e = .returned (.string (bz (be 8 n))) ∧ Below w.heap.size w w' := by
  have h0 : Hid ((⟨#[]⟩ : ByteArray) = bz ((be 8 n).take 0)) := rfl
  go_enter Tryz.func56, Tryz.ntmps56
  go_wp2_with fail
  go_loopw [3, 4] (fun sv kv wr => ∃ j : Nat, j ≤ 8 ∧ kv = .int .i64 (56 - 8 * (j : Int)) ∧ sv = .string (bz ((be 8 n).take j)) ∧ Hid (Below w.heap.size w wr)) (fun _ kv _ => (intOf kv + 8).toNat)
  case atStart => exact ⟨0, by omega, rfl, by rw [← h0.out], Below.refl _ _⟩
  case round =>
    clear h0
    obtain ⟨j, hj, rfl, rfl, hlow⟩ := hrel
    by_cases hlt : j < 8
    · have ha := and255
      have hat := Lib.hid (be_at n j hlt)
      have ht : (56 - 8 * (j : Int)).toNat = 56 - 8 * j := by omega
      have hsz : (bz ((be 8 n).take j)).size ≤ 8 := by rw [bz_size, List.length_take]; omega
      have hsb : ∀ m, (bz (be 1 m)).size = 1 := fun m => by rw [bz_size, be_length]
      have hB := Lib.hid (fun m => qbyteB_any m wr)
      generalize hl : (be 8 n).take j = l at *
      have hap := Lib.hid (fun m => bz_append l (be 1 m))
      go_wp2_with fail
      refine (hB.out _).mono ?_
      rintro e w1 ⟨rfl, hb⟩
      have hb2 := Lib.hid (hlow.out.trans (hb.mono hlow.out.size))
      clear hb
      go_wp2
      go_roundw
      case rel =>
        refine ⟨j + 1, by omega, ?_, ?_, hb2⟩
        · congr 1; omega
        · rw [hat.out, ← hap.out]
      case measure => simp [intOf]; omega
    · have hj8 : j = 8 := by omega
      subst hj8
      have ht : Hid ((be 8 n).take 8 = be 8 n) := List.take_of_length_le (by rw [be_length]; omega)
      rw [ht.out]
      go_wp2
      go_ret
      exact ⟨rfl, hlow.out⟩
set_option maxHeartbeats 1000000 in
theorem qcountB_any (n : Int) (w : World) :
    Calls Tryz.prog 67 #[.int .i64 n] w fun e w' => e = .returned (.string (bz (be 4 n))) ∧ Below w.heap.size w w' := by
  have HI := Lib.hid (qintB_any n w)
  have hsz : (bz (be 8 n)).size = 8 := by rw [bz_size, be_length]
  have hx : Hid ((bz (be 8 n)).extract 4 8 = bz (be 4 n)) := by
    show _ = _
    rw [be_half]
    apply ByteArray.ext
    apply Array.toList_inj.1
    rw [Lib.extract_data]
    simp [bz, be_length]
    exact List.take_of_length_le (by simp [be_length])
  go_enter Tryz.func67, Tryz.ntmps67
  go_wp2_with fail
  refine HI.out.mono ?_
  rintro e w1 ⟨rfl, hb⟩
  have HL := Lib.hid hb
  clear hb
  go_wp2
  go_ret
  exact ⟨by rw [← hx.out]; rfl, HL.out⟩
theorem bz_te (s : ByteArray) : bz (be 4 s.size) ++ s = bz (teB s) := bz_str _ _
set_option maxHeartbeats 1000000 in
theorem qtextB_any (s : ByteArray) (w : World) (hs : s.size ≤ 1099511627776) :
    Calls Tryz.prog 55 #[.string s] w fun e w' => e = .returned (.string (bz (teB s))) ∧ Below w.heap.size w w' := by
  have HI := Lib.hid (qcountB_any s.size w)
  have hsz : (bz (be 4 s.size)).size = 4 := by rw [bz_size, be_length]
  have hx := Lib.hid (bz_te s)
  go_enter Tryz.func55, Tryz.ntmps55
  go_wp2_with fail
  refine HI.out.mono ?_
  rintro e w1 ⟨rfl, hb⟩
  have HL := Lib.hid hb
  clear hb
  go_wp2
  go_ret
  exact ⟨by rw [← hx.out]; rfl, HL.out⟩
theorem bz_tes (l : List ByteArray) (k : Nat) (h : k < l.length) : bz (be 4 l.length ++ (l.take k).flatMap teB) ++ bz (teB l[k]) = bz (be 4 l.length ++ (l.take (k + 1)).flatMap teB) := by
  rw [flat_take l k h, bz_append, List.append_assoc]
end Go.Proofs.YtkbgmdabmebdhaaGreatDoor.oc
