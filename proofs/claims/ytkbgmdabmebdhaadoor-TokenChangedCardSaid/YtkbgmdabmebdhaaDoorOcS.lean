/- A reader of bytes, the package's: numbers, texts, lists. No condition. -/
import Derived.Test.YtkbgmdabmebdhaaDoorOcR
import Derived.Test.YtkbgmdabmebdhaaDoorTexts
import Derived.Shelf.Abstract
import Derived.Laws.EntriesVeiled
namespace Go.Proofs.YtkbgmdabmebdhaaDoor.oc
set_option linter.unusedSimpArgs false
set_option linter.unusedVariables false
open Go.ChangeShapes Go.WideShapes Go.ChangeAt Go.RowKit Go.Proofs.Aid
open Go.Proofs.YtkbgmdabmebdhaaDoor.texts (tc)
set_option maxHeartbeats 1000000 in
theorem rint_any (o : Option Nat) (st : St) (w : World) (h : RAt o st w) :
    Calls Tryd.prog 22 #[pv o] w (RPost o (.int .i64 (numS 8 st).1) (numS 8 st).2 w) := by
  have HN := Lib.hid (rnumber_any o st 8 w h)
  clear h
  go_enter Tryd.func22, Tryd.ntmps22
  go_wp2_with fail
  refine HN.out.mono ?_
  rintro e w1 ⟨rfl, h1, h2⟩
  have HF : Hid (RPost o (.int .i64 (numS 8 st).1) (numS 8 st).2 w (.returned (.int .i64 (numS 8 st).1)) w1) := ⟨rfl, h1, h2⟩
  clear h1 h2
  go_wp2
  go_ret
  exact HF.out
theorem numS_sz {m : Nat} {st : St} (h : szS st) : szS (numS m st).2 := (szS_take h).1
theorem takeS_len {m : Nat} {st : St} : (takeS m st).1.data.toList.length ≤ m := by
  cases st with
  | none => exact Nat.zero_le _
  | some s =>
    by_cases hl : (m : Int) ≤ s.size
    · have e : takeS m (some s) = (s.extract 0 (m : Int).toNat, some (s.extract (m : Int).toNat s.size)) := if_pos hl
      rw [e]
      simp; omega
    · have e : takeS m (some s) = (⟨#[]⟩, none) := if_neg hl
      rw [e]; exact Nat.zero_le _
theorem numS_four (st : St) : 0 ≤ (numS 4 st).1 ∧ (numS 4 st).1 < 4294967296 := by
  have := numB_four (takeS ((4 : Nat) : Int) st).1.data.toList takeS_len
  unfold numS
  show 0 ≤ numB _ ∧ numB _ < _
  rw [this.1]; exact this.2
theorem countS_bd (most : Int) (st : St) (h : 0 ≤ most) : 0 ≤ (countS most st).1 ∧ (countS most st).1 ≤ most := by
  have := numS_four st
  unfold countS
  split
  · exact ⟨Int.le_refl _, h⟩
  · exact ⟨this.1, by omega⟩
theorem countS_sz {most : Int} {st : St} (h : szS st) : szS (countS most st).2 := by
  unfold countS
  split
  · trivial
  · exact numS_sz h
theorem textS_sz {st : St} (h : szS st) : szS (textS st).2 ∧ (textS st).1.size ≤ 9223372036854775807 := szS_take (countS_sz h)
set_option maxRecDepth 100000 in
set_option maxHeartbeats 1000000 in
theorem rcount_any (o : Option Nat) (st : St) (most : Int) (w : World) (h : RAt o st w) :
    Calls Tryd.prog 34 #[pv o, .int .i64 most] w (RPost o (.int .i64 (countS most st).1) (countS most st).2 w) := by
  have HN := Lib.hid (rnumber_any o st 4 w h)
  clear h
  have hc : Hid (countS most st = if (numS 4 st).1 > most then (0, none) else numS 4 st) := rfl
  generalize numS 4 st = ns at *
  obtain ⟨n, st'⟩ := ns
  by_cases hm : n > most
  · have e : countS most st = (0, none) := hc.out.trans (if_pos hm)
    rw [e]
    clear hc e
    go_enter Tryd.func34, Tryd.ntmps34
    go_wp2_with fail
    refine HN.out.mono ?_
    rintro e w1 ⟨rfl, h1, h2⟩
    have HX := Lib.hid (fail_any o st' w1 h1)
    have H2 := Lib.hid h2
    clear h1 h2 HN
    go_wp2_with fail
    refine HX.out.mono ?_
    rintro e w2 ⟨rfl, h1, h2⟩
    have HF : Hid (RPost o (.int .i64 0) none w (.returned (.int .i64 0)) w2) := ⟨rfl, h1, grown_step H2.out h2⟩
    clear h1 h2
    go_wp2
    go_ret
    exact HF.out
  · have e : countS most st = (n, st') := hc.out.trans (if_neg hm)
    rw [e]
    clear hc e
    go_enter Tryd.func34, Tryd.ntmps34
    go_wp2_with fail
    refine HN.out.mono ?_
    rintro e w1 ⟨rfl, h1, h2⟩
    have HF : Hid (RPost o (.int .i64 n) st' w (.returned (.int .i64 n)) w1) := ⟨rfl, h1, h2⟩
    clear h1 h2 HN
    go_wp2
    go_ret
    exact HF.out
set_option maxHeartbeats 1000000 in
theorem rtext_any (o : Option Nat) (st : St) (w : World) (h : RAt o st w) :
    Calls Tryd.prog 21 #[pv o] w (RPost o (.string (textS st).1) (textS st).2 w) := by
  have HN := Lib.hid (rcount_any o st 1048576 w h)
  have hc := Lib.hid (countS_bd 1048576 st (by decide))
  have he : Hid (textS st = takeS (countS 1048576 st).1 (countS 1048576 st).2) := rfl
  generalize countS 1048576 st = ns at *
  obtain ⟨n, st'⟩ := ns
  rw [he.out]
  generalize textS st = rs at he
  clear h he rs
  go_enter Tryd.func21, Tryd.ntmps21
  go_wp2_with fail
  refine HN.out.mono ?_
  rintro e w1 ⟨rfl, h1, h2⟩
  have HT := Lib.hid (take_any o st' n hc.out.1 w1 h1)
  have H2 := Lib.hid h2
  clear h1 h2
  go_wp2_with fail
  refine HT.out.mono ?_
  rintro e w2 ⟨rfl, h1, h2⟩
  have HF : Hid (RPost o (.string (takeS n st').1) (takeS n st').2 w (.returned (.string (takeS n st').1)) w2) := ⟨rfl, h1, grown_step H2.out h2⟩
  clear h1 h2
  go_wp2
  go_ret
  exact HF.out
/-- A list of texts and the reader behind it. -/
def LPost (o : Option Nat) (L : List ByteArray) (st : St) (w : World) (e : Ending) (w' : World) : Prop := ∃ v, e = .returned v ∧ Row w' w.heap.size 9 1 tc v L ∧ RAt o st w' ∧ w.grownBy w' o
theorem runS_succ (k : Nat) (st : St) (s : ByteArray) (h : (runS k st).2 = some s) : runS (k + 1) st = ((runS k st).1 ++ [(textS (some s)).1], (textS (some s)).2) := by
  rw [runS, h]
theorem runS_stuck (k : Nat) (st : St) (h : (runS k st).2 = none) : ∀ j, runS (k + j) st = runS k st
  | 0 => rfl
  | j + 1 => by
    have ih := runS_stuck k st h j
    rw [← Nat.add_assoc, runS, ih, h]
theorem runS_sz {st : St} (h : szS st) : ∀ k, szS (runS k st).2
  | 0 => h
  | k + 1 => by
    have ih := runS_sz h k
    rw [runS]
    split
    · exact ih
    · rename_i s hs
      rw [hs] at ih
      exact (textS_sz ih).1
theorem infoT : (Tryd.prog.info? 9).map (fun i => (i.zero, i.size, i.bytes)) = some (some (.string ⟨#[]⟩), 1, 16) := by kernel_rfl
/-- What the list is when k texts were asked for: where the reader is bad, those of all. -/
def Ran (st0 : St) (n k : Nat) (L : List ByteArray) (st : St) : Prop := runS k st0 = (L, st) ∧ L.length = k ∧ k ≤ n
theorem Ran.next {st0 : St} {n k : Nat} {L : List ByteArray} {s : ByteArray} (h : Ran st0 n k L (some s)) (hk : k < n) : Ran st0 n (k + 1) (L ++ [(textS (some s)).1]) (textS (some s)).2 := by
  obtain ⟨h1, h2, h3⟩ := h
  refine ⟨?_, by simp [h2], by omega⟩
  rw [runS_succ k st0 s (by rw [h1]), h1]
theorem Ran.stop {st0 : St} {n k : Nat} {L : List ByteArray} (h : Ran st0 n k L none) : runS n st0 = (L, none) := by
  obtain ⟨h1, h2, h3⟩ := h
  have := runS_stuck k st0 (by rw [h1]) (n - k)
  rw [← h1, ← this]; congr 1; omega
theorem Ran.end_ {st0 st : St} {n : Nat} {L : List ByteArray} (h : Ran st0 n n L st) : runS n st0 = (L, st) := h.1
theorem RAt.grown {o : Option Nat} {st : St} {w w' : World} {row : Option Nat} (h : RAt o st w) (hg : w.grownBy w' row) (hne : ∀ b, o = some b → row ≠ some b) : RAt o st w' := by
  refine ⟨h.1, ?_⟩
  cases o with
  | none => exact h.2
  | some b => exact Blk.grown (w := w) h.2 hg (fun e => hne b rfl e.symm)
theorem RAt.alloc {o : Option Nat} {st : St} {w : World} (h : RAt o st w) (x : Obj) : RAt o st (w.alloc x) := by
  refine ⟨h.1, ?_⟩
  cases o with
  | none => exact h.2
  | some b => exact Blk.alloc (w := w) h.2 x
theorem RAt.lt {b : Nat} {st : St} {w : World} (h : RAt (some b) st w) : b < w.heap.size := Blk.lt (w := w) h.2
theorem grown_far {a b c : World} {o row : Option Nat} (h : a.grownBy b o) (k : b.grownBy c row) (hr : ∀ g, row = some g → a.heap.size ≤ g) : a.grownBy c o :=
  ⟨k.os.trans h.os, k.tape.trans h.tape, k.output.trans h.output, Nat.le_trans h.size k.size, fun i hi hne => (k.block i (Nat.lt_of_lt_of_le hi h.size) (fun e => by have := hr i e.symm; omega)).trans (h.block i hi hne)⟩
def slen : Value → Nat
  | .slice _ n _ => n
  | _ => 0
theorem one_t (s : ByteArray) : ∀ u ∈ tc s, u.oneCell' = true := by intro u hu; simp [tc] at hu; subst hu; rfl
def Enters (F : FuncId) : Prop := ∀ (args : Array Value) (w : World), (callFunc F args).run Tryd.prog w = .ok (.enter F args) w
theorem entersText : Enters 21 := enters_of Tryd.func21 (by kernel_rfl) rfl
theorem entersBad : Enters 36 := enters_of Tryd.func36 (by kernel_rfl) rfl
abbrev bound (F : FuncId) (o : Option Nat) : Value := .func (.func F) #[pv o] #[]
theorem len_of {v : Value} {w : World} {base : Nat} {e : TypeId} {size : Nat} {α : Type} {f : α → List Value} {L : List α} (h : Row w base e size f v L) : slen v = L.length := by
  obtain ⟨A, c, rfl⟩ := h.form; rfl
end Go.Proofs.YtkbgmdabmebdhaaDoor.oc
