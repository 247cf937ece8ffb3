/- Properties of buckets: which number a field may have; the key of a property's register. -/
import Derived.Test.YtknpbeekdjghgaaDoorNmP
import Derived.Test.YtknpbeekdjghgaaDoorRgS
namespace Go.Proofs.YtknpbeekdjghgaaDoor.pp
open Go.ChangeShapes Go.WideShapes Go.ChangeAt Go.RowKit Go.Proofs.Aid
open Go.Proofs.YtknpbeekdjghgaaDoor.nm (joinS)
abbrev fN : ByteArray := ⟨#[110]⟩
abbrev fR : ByteArray := ⟨#[114]⟩
abbrev fW : ByteArray := ⟨#[119]⟩
abbrev fPR : ByteArray := ⟨#[112, 114]⟩
abbrev fPW : ByteArray := ⟨#[112, 119]⟩
abbrev fSev : ByteArray := ⟨#[115, 101, 118, 101, 114, 97, 108]⟩
abbrev fMis : ByteArray := ⟨#[109, 105, 115, 115, 105, 110, 103]⟩
abbrev fBas : ByteArray := ⟨#[98, 97, 115, 105, 99]⟩
def mayF (f : ByteArray) (n : Int) : Bool :=
  if f = fN ∨ f = fR ∨ f = fW then decide (1 ≤ n) && decide (n ≤ 16)
  else if f = fPR ∨ f = fPW then decide (0 ≤ n) && decide (n ≤ 16)
  else if f = fSev ∨ f = fMis ∨ f = fBas then (n == 0) || (n == 1)
  else false
theorem ret_bool {a b : Bool} (h : a = b) : Ending.returned (.bool a) = .returned (.bool b) := by rw [h]
theorem ret_int {k : IntKind} {a b : Int} (h : a = b) : Ending.returned (.int k a) = .returned (.int k b) := by rw [h]
theorem lit_ne {f : ByteArray} {l : List UInt8} (h : f ≠ ⟨l.toArray⟩) : (f.toList == l) = false := by
  rw [beq_eq_false_iff_ne]
  intro e
  apply h
  apply ByteArray.ext; apply Array.toList_inj.1
  rw [← Lib.toList_data, e]
set_option maxHeartbeats 4000000 in
theorem may_any (f : ByteArray) (n : Int) (w : World) : Calls Tryd.prog 28 #[.string f, .int .i64 n] w fun e w' => e = .returned (.bool (mayF f n)) ∧ w' = w := by
  by_cases e0 : f = fN
  · subst e0
    have HM := Lib.hid (show mayF fN n = (decide (1 ≤ n) && decide (n ≤ 16)) from rfl)
    by_cases h1 : 1 ≤ n <;> by_cases h2 : n ≤ 16 <;> (go_enter Tryd.func28, Tryd.ntmps28; go_wp2; go_ret; exact ⟨ret_bool (by rw [HM.out]; simp <;> omega), rfl⟩)
  by_cases e1 : f = fR
  · subst e1
    have HM := Lib.hid (show mayF fR n = (decide (1 ≤ n) && decide (n ≤ 16)) from rfl)
    by_cases h1 : 1 ≤ n <;> by_cases h2 : n ≤ 16 <;> (go_enter Tryd.func28, Tryd.ntmps28; go_wp2; go_ret; exact ⟨ret_bool (by rw [HM.out]; simp <;> omega), rfl⟩)
  by_cases e2 : f = fW
  · subst e2
    have HM := Lib.hid (show mayF fW n = (decide (1 ≤ n) && decide (n ≤ 16)) from rfl)
    by_cases h1 : 1 ≤ n <;> by_cases h2 : n ≤ 16 <;> (go_enter Tryd.func28, Tryd.ntmps28; go_wp2; go_ret; exact ⟨ret_bool (by rw [HM.out]; simp <;> omega), rfl⟩)
  by_cases e3 : f = fPR
  · subst e3
    have HM := Lib.hid (show mayF fPR n = (decide (0 ≤ n) && decide (n ≤ 16)) from rfl)
    by_cases h1 : 0 ≤ n <;> by_cases h2 : n ≤ 16 <;> (go_enter Tryd.func28, Tryd.ntmps28; go_wp2; go_ret; exact ⟨ret_bool (by rw [HM.out]; simp <;> omega), rfl⟩)
  by_cases e4 : f = fPW
  · subst e4
    have HM := Lib.hid (show mayF fPW n = (decide (0 ≤ n) && decide (n ≤ 16)) from rfl)
    by_cases h1 : 0 ≤ n <;> by_cases h2 : n ≤ 16 <;> (go_enter Tryd.func28, Tryd.ntmps28; go_wp2; go_ret; exact ⟨ret_bool (by rw [HM.out]; simp <;> omega), rfl⟩)
  by_cases e5 : f = fSev
  · subst e5
    have HM := Lib.hid (show mayF fSev n = ((n == 0) || (n == 1)) from rfl)
    by_cases h1 : n = 0
    · subst h1; (go_enter Tryd.func28, Tryd.ntmps28; go_wp2; go_ret; exact ⟨ret_bool (by rw [HM.out]; simp <;> omega), rfl⟩)
    · by_cases h2 : n = 1
      · subst h2; (go_enter Tryd.func28, Tryd.ntmps28; go_wp2; go_ret; exact ⟨ret_bool (by rw [HM.out]; simp <;> omega), rfl⟩)
      · have h3 : (n == 0) = false := by simpa using h1
        have h4 : (n == 1) = false := by simpa using h2
        (go_enter Tryd.func28, Tryd.ntmps28; go_wp2; go_ret; exact ⟨ret_bool (by rw [HM.out, h3, h4]; try rfl), rfl⟩)
  by_cases e6 : f = fMis
  · subst e6
    have HM := Lib.hid (show mayF fMis n = ((n == 0) || (n == 1)) from rfl)
    by_cases h1 : n = 0
    · subst h1; (go_enter Tryd.func28, Tryd.ntmps28; go_wp2; go_ret; exact ⟨ret_bool (by rw [HM.out]; simp <;> omega), rfl⟩)
    · by_cases h2 : n = 1
      · subst h2; (go_enter Tryd.func28, Tryd.ntmps28; go_wp2; go_ret; exact ⟨ret_bool (by rw [HM.out]; simp <;> omega), rfl⟩)
      · have h3 : (n == 0) = false := by simpa using h1
        have h4 : (n == 1) = false := by simpa using h2
        (go_enter Tryd.func28, Tryd.ntmps28; go_wp2; go_ret; exact ⟨ret_bool (by rw [HM.out, h3, h4]; try rfl), rfl⟩)
  by_cases e7 : f = fBas
  · subst e7
    have HM := Lib.hid (show mayF fBas n = ((n == 0) || (n == 1)) from rfl)
    by_cases h1 : n = 0
    · subst h1; (go_enter Tryd.func28, Tryd.ntmps28; go_wp2; go_ret; exact ⟨ret_bool (by rw [HM.out]; simp <;> omega), rfl⟩)
    · by_cases h2 : n = 1
      · subst h2; (go_enter Tryd.func28, Tryd.ntmps28; go_wp2; go_ret; exact ⟨ret_bool (by rw [HM.out]; simp <;> omega), rfl⟩)
      · have h3 : (n == 0) = false := by simpa using h1
        have h4 : (n == 1) = false := by simpa using h2
        (go_enter Tryd.func28, Tryd.ntmps28; go_wp2; go_ret; exact ⟨ret_bool (by rw [HM.out, h3, h4]; try rfl), rfl⟩)
  have HM := Lib.hid (show mayF f n = false by unfold mayF; rw [if_neg (by rintro (h | h | h) <;> contradiction), if_neg (by rintro (h | h) <;> contradiction), if_neg (by rintro (h | h | h) <;> contradiction)])
  have b0 := lit_ne (l := [110]) e0
  have b1 := lit_ne (l := [114]) e1
  have b2 := lit_ne (l := [119]) e2
  have b3 := lit_ne (l := [112, 114]) e3
  have b4 := lit_ne (l := [112, 119]) e4
  have b5 := lit_ne (l := [115, 101, 118, 101, 114, 97, 108]) e5
  have b6 := lit_ne (l := [109, 105, 115, 115, 105, 110, 103]) e6
  have b7 := lit_ne (l := [98, 97, 115, 105, 99]) e7
  clear e0 e1 e2 e3 e4 e5 e6 e7
  go_enter Tryd.func28, Tryd.ntmps28
  go_wp2
  go_ret
  exact ⟨ret_bool HM.out.symm, rfl⟩
set_option maxHeartbeats 4000000 in
theorem rmay_any (f : ByteArray) (n : Int) (w : World) : Calls Tryd.prog 35 #[.string f, .int .i64 n] w fun e w' => e = .returned (.bool (mayF f n)) ∧ w' = w := by
  by_cases e0 : f = fN
  · subst e0
    have HM := Lib.hid (show mayF fN n = (decide (1 ≤ n) && decide (n ≤ 16)) from rfl)
    by_cases h1 : 1 ≤ n <;> by_cases h2 : n ≤ 16 <;> (go_enter Tryd.func35, Tryd.ntmps35; go_wp2; go_ret; exact ⟨ret_bool (by rw [HM.out]; simp <;> omega), rfl⟩)
  by_cases e1 : f = fR
  · subst e1
    have HM := Lib.hid (show mayF fR n = (decide (1 ≤ n) && decide (n ≤ 16)) from rfl)
    by_cases h1 : 1 ≤ n <;> by_cases h2 : n ≤ 16 <;> (go_enter Tryd.func35, Tryd.ntmps35; go_wp2; go_ret; exact ⟨ret_bool (by rw [HM.out]; simp <;> omega), rfl⟩)
  by_cases e2 : f = fW
  · subst e2
    have HM := Lib.hid (show mayF fW n = (decide (1 ≤ n) && decide (n ≤ 16)) from rfl)
    by_cases h1 : 1 ≤ n <;> by_cases h2 : n ≤ 16 <;> (go_enter Tryd.func35, Tryd.ntmps35; go_wp2; go_ret; exact ⟨ret_bool (by rw [HM.out]; simp <;> omega), rfl⟩)
  by_cases e3 : f = fPR
  · subst e3
    have HM := Lib.hid (show mayF fPR n = (decide (0 ≤ n) && decide (n ≤ 16)) from rfl)
    by_cases h1 : 0 ≤ n <;> by_cases h2 : n ≤ 16 <;> (go_enter Tryd.func35, Tryd.ntmps35; go_wp2; go_ret; exact ⟨ret_bool (by rw [HM.out]; simp <;> omega), rfl⟩)
  by_cases e4 : f = fPW
  · subst e4
    have HM := Lib.hid (show mayF fPW n = (decide (0 ≤ n) && decide (n ≤ 16)) from rfl)
    by_cases h1 : 0 ≤ n <;> by_cases h2 : n ≤ 16 <;> (go_enter Tryd.func35, Tryd.ntmps35; go_wp2; go_ret; exact ⟨ret_bool (by rw [HM.out]; simp <;> omega), rfl⟩)
  by_cases e5 : f = fSev
  · subst e5
    have HM := Lib.hid (show mayF fSev n = ((n == 0) || (n == 1)) from rfl)
    by_cases h1 : n = 0
    · subst h1; (go_enter Tryd.func35, Tryd.ntmps35; go_wp2; go_ret; exact ⟨ret_bool (by rw [HM.out]; simp <;> omega), rfl⟩)
    · by_cases h2 : n = 1
      · subst h2; (go_enter Tryd.func35, Tryd.ntmps35; go_wp2; go_ret; exact ⟨ret_bool (by rw [HM.out]; simp <;> omega), rfl⟩)
      · have h3 : (n == 0) = false := by simpa using h1
        have h4 : (n == 1) = false := by simpa using h2
        (go_enter Tryd.func35, Tryd.ntmps35; go_wp2; go_ret; exact ⟨ret_bool (by rw [HM.out, h3, h4]; try rfl), rfl⟩)
  by_cases e6 : f = fMis
  · subst e6
    have HM := Lib.hid (show mayF fMis n = ((n == 0) || (n == 1)) from rfl)
    by_cases h1 : n = 0
    · subst h1; (go_enter Tryd.func35, Tryd.ntmps35; go_wp2; go_ret; exact ⟨ret_bool (by rw [HM.out]; simp <;> omega), rfl⟩)
    · by_cases h2 : n = 1
      · subst h2; (go_enter Tryd.func35, Tryd.ntmps35; go_wp2; go_ret; exact ⟨ret_bool (by rw [HM.out]; simp <;> omega), rfl⟩)
      · have h3 : (n == 0) = false := by simpa using h1
        have h4 : (n == 1) = false := by simpa using h2
        (go_enter Tryd.func35, Tryd.ntmps35; go_wp2; go_ret; exact ⟨ret_bool (by rw [HM.out, h3, h4]; try rfl), rfl⟩)
  by_cases e7 : f = fBas
  · subst e7
    have HM := Lib.hid (show mayF fBas n = ((n == 0) || (n == 1)) from rfl)
    by_cases h1 : n = 0
    · subst h1; (go_enter Tryd.func35, Tryd.ntmps35; go_wp2; go_ret; exact ⟨ret_bool (by rw [HM.out]; simp <;> omega), rfl⟩)
    · by_cases h2 : n = 1
      · subst h2; (go_enter Tryd.func35, Tryd.ntmps35; go_wp2; go_ret; exact ⟨ret_bool (by rw [HM.out]; simp <;> omega), rfl⟩)
      · have h3 : (n == 0) = false := by simpa using h1
        have h4 : (n == 1) = false := by simpa using h2
        (go_enter Tryd.func35, Tryd.ntmps35; go_wp2; go_ret; exact ⟨ret_bool (by rw [HM.out, h3, h4]; try rfl), rfl⟩)
  have HM := Lib.hid (show mayF f n = false by unfold mayF; rw [if_neg (by rintro (h | h | h) <;> contradiction), if_neg (by rintro (h | h) <;> contradiction), if_neg (by rintro (h | h | h) <;> contradiction)])
  have b0 := lit_ne (l := [110]) e0
  have b1 := lit_ne (l := [114]) e1
  have b2 := lit_ne (l := [119]) e2
  have b3 := lit_ne (l := [112, 114]) e3
  have b4 := lit_ne (l := [112, 119]) e4
  have b5 := lit_ne (l := [115, 101, 118, 101, 114, 97, 108]) e5
  have b6 := lit_ne (l := [109, 105, 115, 115, 105, 110, 103]) e6
  have b7 := lit_ne (l := [98, 97, 115, 105, 99]) e7
  clear e0 e1 e2 e3 e4 e5 e6 e7
  go_enter Tryd.func35, Tryd.ntmps35
  go_wp2
  go_ret
  exact ⟨ret_bool HM.out.symm, rfl⟩
/-- The key of a property's register. -/
def pkey (t b f : ByteArray) : ByteArray := joinS [⟨#[112, 114, 111, 112]⟩, t, b, f]
theorem pkey_cat (t b f : ByteArray) : ((((((⟨#[112, 114, 111, 112, 47]⟩ : ByteArray) ++ t) ++ ⟨#[47]⟩) ++ b) ++ ⟨#[47]⟩) ++ f) = pkey t b f := by
  apply ByteArray.ext
  apply Array.toList_inj.1
  simp [pkey, joinS, Lib.join]
theorem pkey_list (t b f : ByteArray) : (pkey t b f).data.toList = [112, 114, 111, 112, 47] ++ t.data.toList ++ [47] ++ b.data.toList ++ [47] ++ f.data.toList := by
  simp [pkey, joinS, Lib.join]
theorem pkey_size (t b f : ByteArray) : (pkey t b f).size = 7 + t.size + b.size + f.size := by
  show (pkey t b f).data.size = _
  rw [← Array.length_toList, pkey_list]
  simp
  omega
set_option maxHeartbeats 1000000 in
theorem pkey_any (t b f : ByteArray) (w : World) (ht : t.size ≤ 1000000) (hb : b.size ≤ 1000000) (hf : f.size ≤ 1000000) :
    Calls Tryd.prog 11 #[.string t, .string b, .string f] w fun e w' => e = .returned (.string (pkey t b f)) ∧ Below w.heap.size w w' := by
  have hp := Lib.hid (nm.path_any (w.alloc (.cells #[.string ⟨#[112, 114, 111, 112]⟩, .string t, .string b, .string f] 9)) (some ⟨w.heap.size, 0, none⟩) 4 [⟨#[112, 114, 111, 112]⟩, t, b, f] (lit1 (f := texts.tc) w 9 [⟨#[112, 114, 111, 112]⟩, t, b, f] (fun _ => rfl)) (by simp) (by simp) (by
    have := pkey_size t b f
    unfold pkey at this
    rw [Array.length_toList]
    show (joinS [⟨#[112, 114, 111, 112]⟩, t, b, f]).size ≤ _
    omega))
  have hl := Lib.hid (below_lit w (.cells #[.string ⟨#[112, 114, 111, 112]⟩, .string t, .string b, .string f] 9))
  go_enter Tryd.func11, Tryd.ntmps11
  go_wp2_with fail
  refine hp.out.mono ?_
  rintro e w1 ⟨rfl, hb1⟩
  have hb2 := Lib.hid (hl.out.trans (hb1.mono (by simp)))
  clear hb1
  go_wp2
  go_ret
  exact ⟨rfl, hb2.out⟩
theorem rpkey_any (t b f : ByteArray) (w : World) (ht : t.size ≤ 1000000) (hb : b.size ≤ 1000000) (hf : f.size ≤ 1000000) :
    Calls Tryd.prog 12 #[.string t, .string b, .string f] w fun e w' => e = .returned (.string (pkey t b f)) ∧ w' = w := by
  have hk := Lib.hid (pkey_cat t b f)
  go_enter Tryd.func12, Tryd.ntmps12
  go_wp2
  go_ret
  exact ⟨nm.ret_str hk.out, rfl⟩
end Go.Proofs.YtknpbeekdjghgaaDoor.pp
