/- Tenants: the bounds of fields, keys, secrets: the package's functions and the reference's. -/
import Derived.Test.YtjbompimlopdiaaGreatDoorNmP
import Derived.Test.YtjbompimlopdiaaGreatDoorRgS
namespace Go.Proofs.YtjbompimlopdiaaGreatDoor.te
open Go.ChangeShapes Go.WideShapes Go.ChangeAt Go.RowKit Go.Proofs.Aid
open Go.Proofs.YtjbompimlopdiaaGreatDoor.nm (joinS)
abbrev fT : ByteArray := ⟨#[116, 101, 110, 97, 110, 116]⟩
abbrev fS : ByteArray := ⟨#[115, 101, 99, 114, 101, 116]⟩
abbrev fB : ByteArray := ⟨#[98, 121, 116, 101, 115]⟩
abbrev fR : ByteArray := ⟨#[114, 97, 116, 101]⟩
abbrev fU : ByteArray := ⟨#[98, 117, 114, 115, 116]⟩
abbrev fQ : ByteArray := ⟨#[113, 117, 101, 117, 101]⟩
def most (f : ByteArray) : Int := if f = fB then 1099511627776 else if f = fR then 1048576 else if f = fU then 1048576 else if f = fQ then 64 else -1
def usual (f : ByteArray) : Int := if f = fB then 1048576 else if f = fR then 8 else if f = fU then 16 else if f = fQ then 16 else 0
def mayN (m n : Int) : Bool := decide (0 ≤ n) && decide (n ≤ m)
theorem ret_bool {a b : Bool} (h : a = b) : Ending.returned (.bool a) = .returned (.bool b) := by rw [h]
theorem ret_int {k : IntKind} {a b : Int} (h : a = b) : Ending.returned (.int k a) = .returned (.int k b) := by rw [h]
theorem lit_ne {f : ByteArray} {l : List UInt8} (h : f ≠ ⟨l.toArray⟩) : (f.toList == l) = false := by
  rw [beq_eq_false_iff_ne]
  intro e
  apply h
  apply ByteArray.ext; apply Array.toList_inj.1
  rw [← Lib.toList_data, e]
theorem bounds_any (f : ByteArray) (w : World) : Calls Tryz.prog 42 #[.string f] w fun e w' => e = .returned (.tuple #[.int .i64 (most f), .int .i64 (usual f)]) ∧ w' = w := by
  by_cases e0 : f = fB
  · subst e0
    have HM := Lib.hid (show most fB = 1099511627776 ∧ usual fB = 1048576 from ⟨by decide +kernel, by decide +kernel⟩)
    go_enter Tryz.func42, Tryz.ntmps42
    go_wp2
    go_ret2
    rw [HM.out.1, HM.out.2]
    exact ⟨rfl, rfl⟩
  by_cases e1 : f = fR
  · subst e1
    have HM := Lib.hid (show most fR = 1048576 ∧ usual fR = 8 from ⟨by decide +kernel, by decide +kernel⟩)
    go_enter Tryz.func42, Tryz.ntmps42
    go_wp2
    go_ret2
    rw [HM.out.1, HM.out.2]
    exact ⟨rfl, rfl⟩
  by_cases e2 : f = fU
  · subst e2
    have HM := Lib.hid (show most fU = 1048576 ∧ usual fU = 16 from ⟨by decide +kernel, by decide +kernel⟩)
    go_enter Tryz.func42, Tryz.ntmps42
    go_wp2
    go_ret2
    rw [HM.out.1, HM.out.2]
    exact ⟨rfl, rfl⟩
  by_cases e3 : f = fQ
  · subst e3
    have HM := Lib.hid (show most fQ = 64 ∧ usual fQ = 16 from ⟨by decide +kernel, by decide +kernel⟩)
    go_enter Tryz.func42, Tryz.ntmps42
    go_wp2
    go_ret2
    rw [HM.out.1, HM.out.2]
    exact ⟨rfl, rfl⟩
  have HM := Lib.hid (show most f = -1 ∧ usual f = 0 by unfold most usual; simp only [e0, e1, e2, e3, if_false]; exact ⟨trivial, trivial⟩)
  have b0 := lit_ne (l := [98, 121, 116, 101, 115]) e0
  have b1 := lit_ne (l := [114, 97, 116, 101]) e1
  have b2 := lit_ne (l := [98, 117, 114, 115, 116]) e2
  have b3 := lit_ne (l := [113, 117, 101, 117, 101]) e3
  clear e0 e1 e2 e3
  go_enter Tryz.func42, Tryz.ntmps42
  go_wp2
  go_ret2
  rw [HM.out.1, HM.out.2]
  exact ⟨rfl, rfl⟩
theorem may_any (f : ByteArray) (m u n : Int) (w : World) : Calls Tryz.prog 40 #[.agg #[.string f, .int .i64 m, .int .i64 u], .int .i64 n] w fun e w' => e = .returned (.bool (mayN m n)) ∧ Below w.heap.size w w' := by
  have HL := Lib.hid (below_lit w (.cells #[.string f, .int .i64 m, .int .i64 u] 53))
  by_cases h1 : 0 ≤ n <;> by_cases h2 : n ≤ m <;> (go_enter Tryz.func40, Tryz.ntmps40; go_wp2; go_ret; exact ⟨ret_bool (by unfold mayN; simp <;> omega), HL.out⟩)
def isSec (s : ByteArray) : Bool := decide (1 ≤ s.size) && decide (s.size ≤ 64)
theorem sec_any (s : ByteArray) (w : World) : Calls Tryz.prog 37 #[.string s] w fun e w' => e = .returned (.bool (isSec s)) ∧ w' = w := by
  by_cases h0 : s.size = 0
  · obtain rfl := nm.empty_of h0
    have HM := Lib.hid (show isSec ByteArray.empty = false from rfl)
    go_enter Tryz.func37, Tryz.ntmps37
    go_wp2
    go_ret
    exact ⟨ret_bool HM.out.symm, rfl⟩
  · have hne := nm.ne_empty h0
    by_cases h1 : s.size ≤ 64
    all_goals
      go_enter Tryz.func37, Tryz.ntmps37
      go_wp2
      go_ret
      exact ⟨ret_bool (by unfold isSec; rw [Bool.eq_iff_iff]; simp only [Bool.and_eq_true, decide_eq_true_eq, Bool.false_eq_true]; omega), rfl⟩
theorem rsec_any (s : ByteArray) (w : World) : Calls Tryz.prog 26 #[.string s] w fun e w' => e = .returned (.bool (isSec s)) ∧ w' = w := by
  by_cases h0 : 1 ≤ s.size
  · by_cases h1 : s.size ≤ 64
    all_goals
      go_enter Tryz.func26, Tryz.ntmps26
      go_wp2
      go_ret
      exact ⟨ret_bool (by unfold isSec; rw [Bool.eq_iff_iff]; simp only [Bool.and_eq_true, decide_eq_true_eq, Bool.false_eq_true]; omega), rfl⟩
  · go_enter Tryz.func26, Tryz.ntmps26
    go_wp2
    go_ret
    exact ⟨ret_bool (by unfold isSec; rw [decide_eq_false h0, Bool.false_and]), rfl⟩
/-- The key of a field's register. -/
def tkey (t f : ByteArray) : ByteArray := joinS [fT, t, f]
theorem tkey_cat (t f : ByteArray) : ((((⟨#[116, 101, 110, 97, 110, 116, 47]⟩ : ByteArray) ++ t) ++ ⟨#[47]⟩) ++ f) = tkey t f := by
  apply ByteArray.ext
  apply Array.toList_inj.1
  simp [tkey, joinS, Lib.join]
theorem tkey_list (t f : ByteArray) : (tkey t f).data.toList = [116, 101, 110, 97, 110, 116, 47] ++ t.data.toList ++ [47] ++ f.data.toList := by
  simp [tkey, joinS, Lib.join]
theorem tkey_size (t f : ByteArray) : (tkey t f).size = 8 + t.size + f.size := by
  show (tkey t f).data.size = _
  rw [← Array.length_toList, tkey_list]
  simp
  omega
set_option maxHeartbeats 1000000 in
theorem tkey_any (t f : ByteArray) (w : World) (ht : t.size ≤ 1000000) (hf : f.size ≤ 1000000) :
    Calls Tryz.prog 13 #[.string t, .string f] w fun e w' => e = .returned (.string (tkey t f)) ∧ Below w.heap.size w w' := by
  have hp := Lib.hid (nm.path_any (w.alloc (.cells #[.string fT, .string t, .string f] 9)) (some ⟨w.heap.size, 0, none⟩) 3 [fT, t, f] (lit1 (f := texts.tc) w 9 [fT, t, f] (fun _ => rfl)) (by simp) (by simp) (by
    have := tkey_size t f
    unfold tkey at this
    rw [Array.length_toList]
    show (joinS [fT, t, f]).size ≤ _
    omega))
  have hl := Lib.hid (below_lit w (.cells #[.string fT, .string t, .string f] 9))
  go_enter Tryz.func13, Tryz.ntmps13
  go_wp2_with fail
  refine hp.out.mono ?_
  rintro e w1 ⟨rfl, hb1⟩
  have hb2 := Lib.hid (hl.out.trans (hb1.mono (by simp)))
  clear hb1
  go_wp2
  go_ret
  exact ⟨rfl, hb2.out⟩
theorem rtkey_any (t f : ByteArray) (w : World) (ht : t.size ≤ 1000000) (hf : f.size ≤ 1000000) :
    Calls Tryz.prog 14 #[.string t, .string f] w fun e w' => e = .returned (.string (tkey t f)) ∧ w' = w := by
  have hk := Lib.hid (tkey_cat t f)
  go_enter Tryz.func14, Tryz.ntmps14
  go_wp2
  go_ret
  exact ⟨nm.ret_str hk.out, rfl⟩
end Go.Proofs.YtjbompimlopdiaaGreatDoor.te
