/- A reader of bytes, the package's: its memory, and what its calls leave. No condition. -/
import Derived.Test.YtkbgmdabmebdhaaGreatDoorKit
import Derived.Test.YtkbgmdabmebdhaaGreatDoorOcM
import Derived.Lib.Hide
import Derived.Deep.QuietTactic
import Derived.BigQuiet
namespace Go.Proofs.YtkbgmdabmebdhaaGreatDoor.oc
set_option linter.unusedSimpArgs false
set_option linter.unusedVariables false
open Go.ChangeShapes Go.WideShapes Go.ChangeAt Go.RowKit Go.Proofs.Aid
/-- What a reader has left; none: it is bad. -/
abbrev St := Option ByteArray
def takeS (n : Int) : St → ByteArray × St
  | none => (⟨#[]⟩, none)
  | some s => if n ≤ s.size then (s.extract 0 n.toNat, some (s.extract n.toNat s.size)) else (⟨#[]⟩, none)
def numS (m : Nat) (st : St) : Int × St := (numB (takeS m st).1.data.toList, (takeS m st).2)
def countS (most : Int) (st : St) : Int × St := if (numS 4 st).1 > most then (0, none) else numS 4 st
def textS (st : St) : ByteArray × St := takeS (countS 1048576 st).1 (countS 1048576 st).2
def runS : Nat → St → List ByteArray × St
  | 0, st => ([], st)
  | n + 1, st => match (runS n st).2 with
    | none => runS n st
    | some s => ((runS n st).1 ++ [(textS (some s)).1], (textS (some s)).2)
def textsS (st : St) : List ByteArray × St :=
  match (runS (countS 65536 st).1.toNat (countS 65536 st).2).2 with
  | none => ([], none)
  | some s => ((runS (countS 65536 st).1.toNat (countS 65536 st).2).1, some s)
/-- A pointer, to block b or to nowhere. -/
abbrev pv (o : Option Nat) : Value := .pointer (o.map fun b => ⟨b, 0, none⟩)
abbrev stC : St → Array Value
  | none => #[.string ⟨#[]⟩, .bool false]
  | some s => #[.string s, .bool true]
def szS : St → Prop
  | none => True
  | some s => s.size ≤ 9223372036854775807
/-- The reader at o. -/
def RAt (o : Option Nat) (st : St) (w : World) : Prop :=
  szS st ∧ match o with
  | none => st = none
  | some b => Blk w b 69 (stC st)
/-- What a call leaves: the reader anew, all else as it was. -/
def RPost (o : Option Nat) (v : Value) (st : St) (w : World) (e : Ending) (w' : World) : Prop := e = .returned v ∧ RAt o st w' ∧ w.grownBy w' o
theorem grown_refl (w : World) (o : Option Nat) : w.grownBy w o := World.grownBy.refl w o
theorem grown_step {a b c : World} {o : Option Nat} (h : a.grownBy b o) (k : b.grownBy c o) : a.grownBy c o :=
  ⟨k.os.trans h.os, k.tape.trans h.tape, k.output.trans h.output, Nat.le_trans h.size k.size, fun i hi hne => (k.block i (Nat.lt_of_lt_of_le hi h.size) hne).trans (h.block i hi hne)⟩
theorem RAt.sz {o : Option Nat} {st : St} {w : World} (h : RAt o st w) : szS st := h.1
theorem szS_take {n : Int} {st : St} (h : szS st) : szS (takeS n st).2 ∧ (takeS n st).1.size ≤ 9223372036854775807 := by
  have h0 : (⟨#[]⟩ : ByteArray).size ≤ 9223372036854775807 := by decide
  cases st with
  | none => exact ⟨trivial, h0⟩
  | some s =>
    have h : s.size ≤ 9223372036854775807 := h
    by_cases hn : n ≤ s.size
    · have e : takeS n (some s) = (s.extract 0 n.toNat, some (s.extract n.toNat s.size)) := if_pos hn
      rw [e]
      refine ⟨?_, ?_⟩
      · show (s.extract _ _).size ≤ _
        rw [ByteArray.size_extract]; omega
      · show (s.extract _ _).size ≤ _
        rw [ByteArray.size_extract]; omega
    · have e : takeS n (some s) = (⟨#[]⟩, none) := if_neg hn
      rw [e]; exact ⟨trivial, h0⟩
set_option maxRecDepth 100000 in
set_option maxHeartbeats 1000000 in
theorem bad_any (o : Option Nat) (st : St) (w : World) (h : RAt o st w) :
    Calls Tryz.prog 37 #[pv o] w fun e w' => e = .returned (.bool st.isNone) ∧ w' = w := by
  cases o with
  | none =>
    obtain ⟨_, rfl⟩ := h
    go_enter Tryz.func37, Tryz.ntmps37
    go_wp2
    go_ret
    exact ⟨rfl, rfl⟩
  | some b =>
    have hb : Blk w b 69 (stC st) := h.2
    simp only [pv, Option.map]
    have c1 := hb.cell 1
    cases st with
    | none =>
      simp at c1
      clear hb h
      go_enter Tryz.func37, Tryz.ntmps37
      go_wp2
      go_ret
      exact ⟨rfl, rfl⟩
    | some s =>
      simp at c1
      clear hb h
      go_enter Tryz.func37, Tryz.ntmps37
      go_wp2
      go_ret
      exact ⟨rfl, rfl⟩
set_option maxRecDepth 100000 in
set_option maxHeartbeats 1000000 in
theorem done_any (o : Option Nat) (st : St) (w : World) (h : RAt o st w) :
    Calls Tryz.prog 18 #[pv o] w fun e w' => e = .returned (.bool (decide (st = some ⟨#[]⟩))) ∧ w' = w := by
  have HB := Lib.hid (bad_any o st w h)
  cases st with
  | none =>
    go_enter Tryz.func18, Tryz.ntmps18
    go_wp2_with fail
    refine HB.out.mono ?_
    rintro e w1 ⟨rfl, rfl⟩
    go_wp2
    go_ret
    exact ⟨rfl, rfl⟩
  | some s =>
    cases o with
    | none => cases h.2
    | some b =>
      have hb : Blk w b 69 (stC (some s)) := h.2
      simp only [pv, Option.map] at HB ⊢
      have c0 := hb.cell 0
      simp at c0
      clear hb h
      by_cases hs : s = ⟨#[]⟩
      · subst hs
        go_enter Tryz.func18, Tryz.ntmps18
        go_wp2_with fail
        refine HB.out.mono ?_
        rintro e w1 ⟨rfl, rfl⟩
        go_wp2
        go_ret
        exact ⟨rfl, rfl⟩
      · have hq : ¬ s.toList = [] := fun e => hs (by apply ByteArray.ext; apply Array.toList_inj.1; rw [← Lib.toList_data, e])
        have hq2 : s.toList.isEmpty = false := by simpa using hq
        have hd : Hid (decide ((some s : St) = some ⟨#[]⟩) = false) := by unfold Hid; simp [hs]
        go_enter Tryz.func18, Tryz.ntmps18
        go_wp2_with fail
        refine HB.out.mono ?_
        rintro e w1 ⟨rfl, rfl⟩
        go_wp2
        go_ret
        exact ⟨by rw [hd.out]; rfl, rfl⟩
set_option maxRecDepth 100000 in
set_option maxHeartbeats 1000000 in
theorem fail_any (o : Option Nat) (st : St) (w : World) (h : RAt o st w) :
    Calls Tryz.prog 57 #[pv o] w (RPost o (.tuple #[]) none w) := by
  cases o with
  | none =>
    obtain ⟨_, rfl⟩ := h
    go_enter Tryz.func57, Tryz.ntmps57
    go_wp2
    go_end0
    exact ⟨rfl, ⟨trivial, rfl⟩, grown_refl _ _⟩
  | some b =>
    have hb : Blk w b 69 (stC st) := h.2
    simp only [pv, Option.map]
    have c0 := hb.cell 0
    have c1 := hb.cell 1
    have f0 := hb.frozen 0
    have f1 := hb.frozen 1
    obtain ⟨u0, u1, e0⟩ : ∃ u0 u1, stC st = #[u0, u1] := by cases st <;> exact ⟨_, _, rfl⟩
    rw [e0] at c0 c1
    simp at c0 c1
    have hb2 := (hb.set_ 0 (.string ⟨#[]⟩)).set_ 1 (.bool false)
    rw [e0] at hb2
    simp at hb2
    have HF : Hid (RPost (some b) (.tuple #[]) none w (.returned (.tuple #[])) ((w.setCell ⟨b, 0, none⟩ (.string ⟨#[]⟩)).setCell ⟨b, 1, none⟩ (.bool false))) :=
      ⟨rfl, ⟨trivial, hb2⟩, only_setCell (p := ⟨b, 1, none⟩) (only_setCell (p := ⟨b, 0, none⟩) (grown_refl _ _) (.inl rfl) _) (.inl rfl) _⟩
    clear hb hb2 e0 h
    go_enter Tryz.func57, Tryz.ntmps57
    go_wp2
    go_end0
    exact HF.out
set_option maxRecDepth 100000 in
set_option maxHeartbeats 2000000 in
theorem take_any (o : Option Nat) (st : St) (n : Int) (hn : 0 ≤ n) (w : World) (h : RAt o st w) :
    Calls Tryz.prog 34 #[pv o, .int .i64 n] w (RPost o (.string (takeS n st).1) (takeS n st).2 w) := by
  have HB := Lib.hid (bad_any o st w h)
  have HX := Lib.hid (fail_any o st w h)
  cases st with
  | none =>
    clear h
    go_enter Tryz.func34, Tryz.ntmps34
    go_wp2_with fail
    refine HB.out.mono ?_
    rintro e w1 ⟨rfl, rfl⟩
    go_wp2_with fail
    refine HX.out.mono ?_
    rintro e w2 ⟨rfl, h1, h2⟩
    have HF : Hid (RPost o (.string ⟨#[]⟩) none w1 (.returned (.string ⟨#[]⟩)) w2) := ⟨rfl, h1, h2⟩
    clear h1 h2
    go_wp2
    go_ret
    exact HF.out
  | some s =>
    cases o with
    | none => cases h.2
    | some b =>
      have hb : Blk w b 69 (stC (some s)) := h.2
      have hsz : s.size ≤ 9223372036854775807 := h.1
      simp only [pv, Option.map] at HB HX ⊢
      by_cases hl : n ≤ s.size
      · have e : takeS n (some s) = (s.extract 0 n.toNat, some (s.extract n.toNat s.size)) := if_pos hl
        have HT := Lib.hid (szS_take (n := n) h.1)
        rw [e] at HT ⊢
        have c0 := hb.cell 0
        have f0 := hb.frozen 0
        have hb2 := hb.set_ 0 (.string (s.extract n.toNat s.size))
        simp at c0 hb2
        have HF : Hid (RPost (some b) (.string (s.extract 0 n.toNat)) (some (s.extract n.toNat s.size)) w (.returned (.string (s.extract 0 n.toNat))) (w.setCell ⟨b, 0, none⟩ (.string (s.extract n.toNat s.size)))) :=
          ⟨rfl, ⟨HT.out.1, hb2⟩, only_setCell (p := ⟨b, 0, none⟩) (grown_refl _ _) (.inl rfl) _⟩
        clear hb hb2 h e HX
        go_enter Tryz.func34, Tryz.ntmps34
        go_wp2_with fail
        refine HB.out.mono ?_
        rintro e w1 ⟨rfl, rfl⟩
        go_wp2
        go_ret
        exact HF.out
      · have e : takeS n (some s) = (⟨#[]⟩, none) := if_neg hl
        rw [e]
        have c0 := hb.cell 0
        simp at c0
        clear hb h e
        go_enter Tryz.func34, Tryz.ntmps34
        go_wp2_with fail
        refine HB.out.mono ?_
        rintro e w1 ⟨rfl, rfl⟩
        go_wp2_with fail
        refine HX.out.mono ?_
        rintro e w2 ⟨rfl, h1, h2⟩
        have HF : Hid (RPost (some b) (.string ⟨#[]⟩) none w1 (.returned (.string ⟨#[]⟩)) w2) := ⟨rfl, h1, h2⟩
        clear h1 h2
        go_wp2
        go_ret
        exact HF.out
theorem wrap_byte (c : UInt8) : wrap64 (c.toNat : Int) = c.toNat := by
  have := byte_lt c
  unfold wrap64; omega
theorem wrap64_eq (x : Int) : wrap64 x = IntKind.i64.wrap x := by
  unfold wrap64; rw [IntKind.wrap_i64]
theorem take_snoc (s : ByteArray) (k : Nat) (h : k < s.size) : s.data.toList.take (k + 1) = s.data.toList.take k ++ [s[k]] := by
  rw [List.take_succ_eq_append_getElem (by simpa using h)]; rfl
set_option maxRecDepth 100000 in
set_option maxHeartbeats 2000000 in
theorem rnumber_any (o : Option Nat) (st : St) (m : Nat) (w : World) (h : RAt o st w) :
    Calls Tryz.prog 36 #[pv o, .int .i64 m] w (RPost o (.int .i64 (numS m st).1) (numS m st).2 w) := by
  have HT := Lib.hid (take_any o st m (by omega) w h)
  have hsz := (szS_take (n := m) h.1).2
  unfold numS
  clear h
  go_enter Tryz.func36, Tryz.ntmps36
  go_wp2_with fail
  refine HT.out.mono ?_
  rintro e w1 ⟨rfl, h1, h2⟩
  generalize (takeS m st).1 = s at *
  generalize (takeS m st).2 = st' at *
  have HF : Hid (RPost o (.int .i64 (numB s.data.toList)) st' w (.returned (.int .i64 (numB s.data.toList))) w1) := ⟨rfl, h1, h2⟩
  clear h1 h2 HT
  go_wp2_with fail
  go_loopw [6, 13] (fun n iv wr => ∃ k : Nat, k ≤ s.size ∧ iv = .int .i64 k ∧ n = .int .i64 (numB (s.data.toList.take k)) ∧ wr = w1) (fun _ iv _ => s.size - (intOf iv).toNat)
  case atStart => exact ⟨0, by omega, rfl, rfl, rfl⟩
  case round =>
    obtain ⟨k, hk, rfl, rfl, rfl⟩ := hrel
    by_cases hlt : k < s.size
    · have hs := Lib.hid (numB_snoc (s.data.toList.take k) s[k])
      have ht := Lib.hid (take_snoc s k hlt)
      generalize numB (s.data.toList.take k) = x at *
      go_wp2
      go_roundw
      case rel =>
        refine ⟨k + 1, by omega, by go_num, ?_, by trivial⟩
        rw [ht.out, hs.out, wrap_byte, wrap64_eq]
      case measure => simp [intOf]; omega
    · have hk2 : k = s.size := by omega
      subst hk2
      have ht : Hid (s.data.toList.take s.size = s.data.toList) := List.take_of_length_le (by simp)
      go_wp2
      go_ret
      rw [ht.out]
      exact HF.out
end Go.Proofs.YtkbgmdabmebdhaaGreatDoor.oc
