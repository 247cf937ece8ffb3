/- Who is among some lists: closures, by their contracts. -/
import Derived.Test.YtcbfcmnnahbblaaTexts
import Derived.IntWalk
import Derived.Shelf.Abstract
import Derived.Laws.EntriesVeiled
import Derived.Deep.RegionHeld3
namespace Go.Proofs.Ytcbfcmnnahbblaa.quorum
open Go.ChangeShapes Go.WideShapes Go.ChangeAt Go.RowKit Go.Proofs.Aid Go.Proofs.Ytcbfcmnnahbblaa.texts
def Enters (F : FuncId) : Prop := ∀ (args : Array Value) (w : World), (callFunc F args).run Try.prog w = .ok (.enter F args) w
theorem enters24 : Enters 24 := enters_of Try.func24 (by kernel_rfl) rfl
theorem enters26 : Enters 26 := enters_of Try.func26 (by kernel_rfl) rfl
theorem enters28 : Enters 28 := enters_of Try.func28 (by kernel_rfl) rfl
def fi {α : Type} (p : α → Bool) (xs : List α) : Int := match xs.findIdx? p with | some i => i | none => -1
theorem fi_some {α : Type} {f : α → Bool} {xs : List α} {k : Nat} (h : k < xs.length) (hk : f xs[k] = true) (hj : ∀ j (_ : j < xs.length), j < k → f xs[j] = false) : fi f xs = k := by
  unfold fi
  rw [show xs.findIdx? f = some k from List.findIdx?_eq_some_iff_getElem.2 ⟨h, hk, fun j hjk => by simp [hj j (by omega) hjk]⟩]
theorem fi_none {α : Type} {f : α → Bool} {xs : List α} (hj : ∀ j (_ : j < xs.length), f xs[j] = false) : fi f xs = -1 := by
  unfold fi
  rw [show xs.findIdx? f = none from List.findIdx?_eq_none_iff.2 fun x hx => by obtain ⟨j, hj', rfl⟩ := List.getElem_of_mem hx; simp [hj j hj']]
theorem fi_any {α : Type} (f : α → Bool) (xs : List α) : (xs.any f = true ∧ 0 ≤ fi f xs) ∨ (xs.any f = false ∧ fi f xs = -1) := by
  cases h : xs.findIdx? f with
  | some i =>
    obtain ⟨h1, h2, _⟩ := List.findIdx?_eq_some_iff_getElem.1 h
    exact .inl ⟨List.any_eq_true.2 ⟨_, List.getElem_mem h1, h2⟩, by unfold fi; rw [h]; simp⟩
  | none =>
    rw [List.findIdx?_eq_none_iff] at h
    exact .inr ⟨List.any_eq_false.2 fun x hx => by simp [h x hx], by unfold fi; rw [show xs.findIdx? f = none from List.findIdx?_eq_none_iff.2 h]⟩
set_option maxHeartbeats 1000000 in
theorem index_any (w : World) (A : Option Addr) (cap : Nat) (xs : List ByteArray) (s : ByteArray) (hl : xs.length ≤ 1099511627776) (h1 : Reads w w.heap.size 1 A xs.length (xs.flatMap tc)) :
    Calls Try.prog 31 #[.slice A xs.length cap, .string s] w fun e w' => e = .returned (.int .i64 (fi (fun x => decide (x = s)) xs)) ∧ w' = w := by
  have H1 := Lib.hid h1
  clear h1
  go_enter Try.func31, Try.ntmps31
  go_wp2_with fail
  go_loopw [5, 8] (fun _ iv w' => ∃ k : Nat, k ≤ xs.length ∧ iv = .int .i64 k ∧ w' = w ∧ Hid (∀ j (_ : j < xs.length), j < k → xs[j] ≠ s)) (fun _ iv _ => xs.length - (intOf iv).toNat)
  case atStart => exact ⟨0, by omega, rfl, rfl, fun _ _ h => by omega⟩
  case round =>
    obtain ⟨k, hk, rfl, rfl, hI⟩ := hrel
    by_cases hlt : k < xs.length
    · obtain ⟨a1, q1, -, c1⟩ := H1.out.elem1 hlt
      subst q1
      by_cases hx : xs[k] = s
      · have hin := Lib.hid (fi_some (f := fun x => decide (x = s)) hlt (by simpa using hx) (fun j h hj => by simpa using hI.out j h hj))
        rw [hx] at c1
        clear hx
        go_wp2
        go_ret
        exact ⟨ret_int hin.out.symm, rfl⟩
      · have hI2 : Hid (∀ j (_ : j < xs.length), j < k + 1 → xs[j] ≠ s) := fun j h hj => by
          by_cases e : j < k
          · exact hI.out j h e
          · have : j = k := by omega
            subst this; exact hx
        have hx' := bytes_ne (Ne.symm hx)
        clear hx
        generalize xs[k] = x at c1 hx'
        go_wp2
        go_roundw
        case rel => exact ⟨k + 1, by omega, by go_num, by trivial, hI2⟩
        case measure => simp [intOf]; omega
    · have hin := Lib.hid (fi_none (f := fun x => decide (x = s)) (xs := xs) (fun j h => by simpa using hI.out j h (by omega)))
      go_wp2
      go_ret
      exact ⟨ret_int hin.out.symm, rfl⟩
theorem memB_any (xs : List ByteArray) (s : ByteArray) : xs.any (fun x => decide (x = s)) = memB xs s := rfl
set_option maxHeartbeats 1000000 in
theorem contains_any (w : World) (A : Option Addr) (cap : Nat) (xs : List ByteArray) (s : ByteArray) (hl : xs.length ≤ 1099511627776) (h1 : Reads w w.heap.size 1 A xs.length (xs.flatMap tc)) :
    Calls Try.prog 27 #[.slice A xs.length cap, .string s] w fun e w' => e = .returned (.bool (memB xs s)) ∧ w' = w := by
  have H1 := Lib.hid h1
  clear h1
  rcases fi_any (fun x => decide (x = s)) xs with ⟨h, h2⟩ | ⟨h, h2⟩
  · have HM := Lib.hid h
    clear h
    go_enter Try.func27, Try.ntmps27
    go_wp2_with fail
    refine (index_any w A cap xs s hl H1.out).mono ?_
    generalize fi (fun x => decide (x = s)) xs = n at *
    rintro e w' ⟨rfl, rfl⟩
    go_wp2
    go_ret
    exact ⟨ret_bool (by rw [← memB_any, HM.out]), rfl⟩
  · have HM := Lib.hid h
    clear h
    go_enter Try.func27, Try.ntmps27
    go_wp2_with fail
    refine (index_any w A cap xs s hl H1.out).mono ?_
    rw [h2]
    clear h2
    rintro e w' ⟨rfl, rfl⟩
    go_wp2
    go_ret
    exact ⟨ret_bool (by rw [← memB_any, HM.out]), rfl⟩
theorem holds_any (w : World) (p : Addr) (s : ByteArray) (hc : w.cell? p = some (.string s)) (A : Option Addr) (cap : Nat) (xs : List ByteArray) (hl : xs.length ≤ 1099511627776) (h1 : Reads w w.heap.size 1 A xs.length (xs.flatMap tc)) :
    Calls Try.prog 26 #[.slice A xs.length cap, .pointer (some p)] w fun e w' => e = .returned (.bool (memB xs s)) ∧ w' = w := by
  have H1 := Lib.hid h1
  clear h1
  go_enter Try.func26, Try.ntmps26
  go_wp2_with fail
  refine (contains_any w A cap xs s hl H1.out).mono ?_
  rintro e w' ⟨rfl, rfl⟩
  go_wp2
  go_ret
  exact ⟨rfl, rfl⟩
/-- A slice of slices of texts. -/
structure LL (w : World) (A : Option Addr) (ls : List (List ByteArray)) (vs : List Value) : Prop where
  rd : Reads w w.heap.size 1 A ls.length vs
  len : vs.length = ls.length
  at_ : ∀ i (h : i < ls.length), ∃ Ai ci, vs[i]? = some (.slice Ai ls[i].length ci) ∧ Reads w w.heap.size 1 Ai ls[i].length (ls[i].flatMap tc)
  le : ∀ l ∈ ls, l.length ≤ 1099511627776
theorem LL.below {w w' : World} {A : Option Addr} {ls : List (List ByteArray)} {vs : List Value} (h : LL w A ls vs) (hb : Below w.heap.size w w') : LL w' A ls vs :=
  ⟨h.rd.more_below hb, h.len, fun i hi => by obtain ⟨Ai, ci, e, hr⟩ := h.at_ i hi; exact ⟨Ai, ci, e, hr.more_below hb⟩, h.le⟩
theorem LL.cell {w : World} {A : Option Addr} {ls : List (List ByteArray)} {vs : List Value} (h : LL w A ls vs) {i : Nat} (hi : i < ls.length) : ∃ ad Ai ci, A = some ad ∧ w.cell? (ad.add i) = some (.slice Ai ls[i].length ci) ∧ Reads w w.heap.size 1 Ai ls[i].length (ls[i].flatMap tc) := by
  obtain ⟨ad, e, hb, hc⟩ := h.rd.2 (by omega)
  obtain ⟨Ai, ci, e2, hr⟩ := h.at_ i hi
  exact ⟨ad, Ai, ci, e, hc i _ e2, hr⟩
set_option maxHeartbeats 1000000 in
theorem indexF_any (w : World) (A : Option Addr) (cap : Nat) (ls : List (List ByteArray)) (vs : List Value) (p : Addr) (s : ByteArray) (hc : w.cell? p = some (.string s)) (hl : ls.length ≤ 1000) (h1 : LL w A ls vs) :
    Calls Try.prog 30 #[.slice A ls.length cap, .func (.func 26) #[] #[.pointer (some p)]] w fun e w' => e = .returned (.int .i64 (fi (fun l => memB l s) ls)) ∧ w' = w := by
  have H1 := Lib.hid h1
  have HC := Lib.hid hc
  clear h1 hc
  go_enter Try.func30, Try.ntmps30
  go_wp2_with fail
  go_loopw [5, 8] (fun _ iv w' => ∃ k : Nat, k ≤ ls.length ∧ iv = .int .i64 k ∧ w' = w ∧ Hid (∀ j (_ : j < ls.length), j < k → memB ls[j] s = false)) (fun _ iv _ => ls.length - (intOf iv).toNat)
  case atStart => exact ⟨0, by omega, rfl, rfl, fun _ _ h => by omega⟩
  case round =>
    obtain ⟨k, hk, rfl, rfl, hI⟩ := hrel
    by_cases hlt : k < ls.length
    · obtain ⟨a1, Ai, ci, q1, c1, hr⟩ := H1.out.cell hlt
      subst q1
      have hle := Lib.hid (H1.out.le _ (List.getElem_mem hlt))
      have HR := Lib.hid hr
      clear hr
      cases hx : memB ls[k] s with
      | true =>
        have hin := Lib.hid (fi_some (f := fun l => memB l s) hlt hx (fun j h hj => hI.out j h hj))
        have HX := Lib.hid hx
        clear hx
        generalize ls[k] = l at *
        go_wp2_with fail
        refine (holds_any _ p s HC.out Ai ci l hle.out HR.out).mono ?_
        rw [HX.out]
        rintro e w' ⟨rfl, rfl⟩
        go_wp2
        go_ret
        exact ⟨ret_int hin.out.symm, rfl⟩
      | false =>
        have hI2 : Hid (∀ j (_ : j < ls.length), j < k + 1 → memB ls[j] s = false) := fun j h hj => by
          by_cases e : j < k
          · exact hI.out j h e
          · have : j = k := by omega
            subst this; exact hx
        have HX := Lib.hid hx
        clear hx
        generalize ls[k] = l at HX HR hle c1 ⊢
        go_wp2_with fail
        refine (holds_any _ p s HC.out Ai ci l hle.out HR.out).mono ?_
        rw [HX.out]
        rintro e w' ⟨rfl, rfl⟩
        go_wp2
        go_roundw
        case rel => exact ⟨k + 1, by omega, by go_num, by trivial, hI2⟩
        case measure => simp [intOf]; omega
    · have hin := Lib.hid (fi_none (f := fun l => memB l s) (xs := ls) (fun j h => hI.out j h (by omega)))
      go_wp2
      go_ret
      exact ⟨ret_int hin.out.symm, rfl⟩
def inAny (ls : List (List ByteArray)) (s : ByteArray) : Bool := ls.any fun l => memB l s
set_option maxHeartbeats 1000000 in
theorem containsF_any (w : World) (A : Option Addr) (cap : Nat) (ls : List (List ByteArray)) (vs : List Value) (p : Addr) (s : ByteArray) (hc : w.cell? p = some (.string s)) (hl : ls.length ≤ 1000) (h1 : LL w A ls vs) :
    Calls Try.prog 25 #[.slice A ls.length cap, .func (.func 26) #[] #[.pointer (some p)]] w fun e w' => e = .returned (.bool (inAny ls s)) ∧ w' = w := by
  have H1 := Lib.hid h1
  have HC := Lib.hid hc
  clear h1 hc
  rcases fi_any (fun l => memB l s) ls with ⟨h, h2⟩ | ⟨h, h2⟩
  · have HM := Lib.hid (show inAny ls s = true from h)
    clear h
    go_enter Try.func25, Try.ntmps25
    go_wp2_with fail
    refine (indexF_any w A cap ls vs p s HC.out hl H1.out).mono ?_
    generalize fi (fun l => memB l s) ls = n at *
    rintro e w' ⟨rfl, rfl⟩
    go_wp2
    go_ret
    exact ⟨ret_bool HM.out.symm, rfl⟩
  · have HM := Lib.hid (show inAny ls s = false from h)
    clear h
    go_enter Try.func25, Try.ntmps25
    go_wp2_with fail
    refine (indexF_any w A cap ls vs p s HC.out hl H1.out).mono ?_
    rw [h2]
    clear h2
    rintro e w' ⟨rfl, rfl⟩
    go_wp2
    go_ret
    exact ⟨ret_bool HM.out.symm, rfl⟩
/-- A function value that tells f of a text, in whatever world in which nothing below B has turned. -/
def Pred (B : Nat) (w0 : World) (F : FuncId) (p : Addr) (f : ByteArray → Bool) : Prop := ∀ (w : World) (s : ByteArray), Below B w0 w → Calls Try.prog F #[.string s, .pointer (some p)] w fun e w' => e = .returned (.bool (f s)) ∧ Below w.heap.size w w'
theorem among1_any (w : World) (p : Addr) (A : Option Addr) (cap : Nat) (ls : List (List ByteArray)) (vs : List Value) (hc : w.cell? p = some (.slice A ls.length cap)) (hl : ls.length ≤ 1000) (h1 : LL w A ls vs) (s : ByteArray) (hp : p.block < w.heap.size) :
    Calls Try.prog 24 #[.string s, .pointer (some p)] w fun e w' => e = .returned (.bool (inAny ls s)) ∧ Below w.heap.size w w' := by
  have hb := below_lit w (.cells #[.string s] 9)
  have H1 := Lib.hid (h1.below hb)
  have hc' := (hb.cell hp).trans hc
  have hs : (w.alloc (.cells #[.string s] 9)).cell? ⟨w.heap.size, 0, none⟩ = some (.string s) := (Blk.new w 9 #[.string s]).cell 0
  have HS := Lib.hid hs
  have HB := Lib.hid hb
  clear h1 hc hs hb
  go_enter Try.func24, Try.ntmps24
  go_wp2_with fail
  refine (containsF_any _ A cap ls vs ⟨w.heap.size, 0, none⟩ s HS.out hl H1.out).mono ?_
  rintro e w' ⟨rfl, rfl⟩
  go_wp2
  go_ret
  exact ⟨rfl, HB.out⟩
theorem Pred.below {B : Nat} {w0 w1 : World} {F : FuncId} {p : Addr} {f : ByteArray → Bool} (h : Pred B w0 F p f) (hb : Below B w0 w1) (hB : B ≤ w1.heap.size) : Pred w1.heap.size w1 F p f := fun w s hw => h w s (hb.trans (hw.mono hB))
def FunPost (w : World) (F : FuncId) (f : ByteArray → Bool) (e : Ending) (w' : World) : Prop := ∃ p : Addr, e = .returned (.func (.func F) #[] #[.pointer (some p)]) ∧ Pred w'.heap.size w' F p f ∧ Below w.heap.size w w'
theorem among_any (w : World) (A : Option Addr) (cap : Nat) (ls : List (List ByteArray)) (vs : List Value) (hl : ls.length ≤ 1000) (h1 : LL w A ls vs) :
    Calls Try.prog 16 #[.slice A ls.length cap] w (FunPost w 24 (inAny ls)) := by
  have hb := below_lit w (.cells #[.slice A ls.length cap] 28)
  have H1 := Lib.hid (h1.below hb)
  have hs : (w.alloc (.cells #[.slice A ls.length cap] 28)).cell? ⟨w.heap.size, 0, none⟩ = some (.slice A ls.length cap) := (Blk.new w 28 #[.slice A ls.length cap]).cell 0
  have HS := Lib.hid hs
  have HB := Lib.hid hb
  clear h1 hs hb
  go_enter Try.func16, Try.ntmps16
  go_wp2
  go_ret
  refine ⟨⟨w.heap.size, 0, none⟩, rfl, fun w' s hw => ?_, HB.out⟩
  have hlt : w.heap.size < (w.alloc (.cells #[.slice A ls.length cap] 28)).heap.size := by simp
  exact among1_any w' _ A cap ls vs ((hw.cell hlt).trans HS.out) hl (H1.out.below hw) s (by have := hw.size; show w.heap.size < _; omega)
theorem not1_any (w : World) (p q : Addr) (F : FuncId) (hF : Enters F) (f : ByteArray → Bool) (hP : Pred w.heap.size w F q f) (hc : w.cell? p = some (.func (.func F) #[] #[.pointer (some q)])) (s : ByteArray) :
    Calls Try.prog 28 #[.string s, .pointer (some p)] w fun e w' => e = .returned (.bool (!f s)) ∧ Below w.heap.size w w' := by
  have HP := Lib.hid (hP w s (Below.refl _ _))
  clear hP
  unfold Enters at hF
  go_enter Try.func28, Try.ntmps28
  go_wp2_with fail
  refine HP.out.mono ?_
  rintro e w' ⟨rfl, hb⟩
  go_wp2
  go_ret
  exact ⟨rfl, hb⟩
theorem not_any (w : World) (F : FuncId) (hF : Enters F) (q : Addr) (f : ByteArray → Bool) (hP : Pred w.heap.size w F q f) :
    Calls Try.prog 18 #[.func (.func F) #[] #[.pointer (some q)]] w (FunPost w 28 (fun s => !f s)) := by
  have hb := below_lit w (.cells #[.func (.func F) #[] #[.pointer (some q)]] 45)
  have hs : (w.alloc (.cells #[.func (.func F) #[] #[.pointer (some q)]] 45)).cell? ⟨w.heap.size, 0, none⟩ = some (.func (.func F) #[] #[.pointer (some q)]) := (Blk.new w 45 #[.func (.func F) #[] #[.pointer (some q)]]).cell 0
  have HS := Lib.hid hs
  have HB := Lib.hid hb
  have HP := Lib.hid hP
  clear hs hb hP
  go_enter Try.func18, Try.ntmps18
  go_wp2
  go_ret
  refine ⟨⟨w.heap.size, 0, none⟩, rfl, fun w' s hw => ?_, HB.out⟩
  have hlt : w.heap.size < (w.alloc (.cells #[.func (.func F) #[] #[.pointer (some q)]] 45)).heap.size := by simp
  exact not1_any w' _ q F hF f ((HP.out.below HB.out (by simp)).below hw hw.size) ((hw.cell hlt).trans HS.out) s
end Go.Proofs.Ytcbfcmnnahbblaa.quorum
