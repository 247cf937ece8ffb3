import Derived.Test.YtkbgmdabmebdhaaGreatDoorOpen
import Derived.Test.YtkbgmdabmebdhaaGreatDoorShelf
import Derived.Lib.Hide
import Derived.Lib.Bytealg
import Derived.Deep.RegionHeld3
import Derived.Deep.QuietTactic
import Derived.BigQuiet
import Derived.WalkSpells
import Derived.Laws.RangeAny
import Derived.Lib.Strings
import Derived.WalkLawsBesides
/- The walks of package register. -/
namespace Go.Proofs.YtkbgmdabmebdhaaGreatDoor.reg
open Go.ChangeShapes Go.WideShapes Go.ChangeAt Go.RowKit Go.Proofs.Aid
theorem ret_int {k : IntKind} {a b : Int} (h : a = b) : Ending.returned (.int k a) = .returned (.int k b) := by rw [h]
theorem ret_bool {a b : Bool} (h : a = b) : Ending.returned (.bool a) = .returned (.bool b) := by rw [h]
def cmpI (a b : Int) : Int := if a < b then -1 else if b < a then 1 else 0
def or3 (a b c : Int) : Int := if a ≠ 0 then a else if b ≠ 0 then b else c
structure Rg where
  n : Int
  by_ : ByteArray
  value : ByteArray
  deriving DecidableEq
@[reducible] def Rg.val (r : Rg) : Value := .agg #[.int .i64 r.n, .string r.by_, .string r.value]
def Rg.comp (a b : Rg) : Int := or3 (cmpI a.n b.n) (Lib.compareBytes a.by_.data.toList b.by_.data.toList) (Lib.compareBytes a.value.data.toList b.value.data.toList)
def Rg.newer (a b : Rg) : Bool := decide (0 < a.comp b)
structure MN (W : World) (B : Nat) (an bn : Int) (ab av bb bv : ByteArray) (w' : World) : Prop where
  b0 : Blk w' (B) 35 #[.int .i64 an, .string ab, .string av]
  b1 : Blk w' (B + 1) 35 #[.int .i64 bn, .string bb, .string bv]
  low : Below (B) W w'
theorem MN.of {W : World} {B : Nat} {an bn : Int} {ab av bb bv : ByteArray} {w' : World} (h : MN W B an bn ab av bb bv w') : w'.cell? ⟨B, 0, none⟩ = some (.int .i64 an) ∧ w'.cell? ⟨B, 1, none⟩ = some (.string ab) ∧ w'.cell? ⟨B, 2, none⟩ = some (.string av) ∧ w'.cell? ⟨B + 1, 0, none⟩ = some (.int .i64 bn) ∧ w'.cell? ⟨B + 1, 1, none⟩ = some (.string bb) ∧ w'.cell? ⟨B + 1, 2, none⟩ = some (.string bv) ∧ Hid (MN W B an bn ab av bb bv w') :=
  ⟨by rw [h.b0.cell]; rfl, by rw [h.b0.cell]; rfl, by rw [h.b0.cell]; rfl, by rw [h.b1.cell]; rfl, by rw [h.b1.cell]; rfl, by rw [h.b1.cell]; rfl, h⟩
theorem MN.step0 {W : World} {B : Nat} {an bn : Int} {ab av bb bv : ByteArray} {W0 w' : World} (hb : Below W0.heap.size W0 w') (h : MN W B an bn ab av bb bv W0) : MN W B an bn ab av bb bv w' :=
  ⟨h.b0.below hb h.b0.lt, h.b1.below hb h.b1.lt, h.low.trans (hb.mono (by have := h.b0.lt; have := h.low.size; omega))⟩
theorem MN.step {W : World} {B : Nat} {an bn : Int} {ab av bb bv : ByteArray} {W0 w' : World} (hb : Below W0.heap.size W0 w') (h : Hid (MN W B an bn ab av bb bv W0)) : w'.cell? ⟨B, 0, none⟩ = some (.int .i64 an) ∧ w'.cell? ⟨B, 1, none⟩ = some (.string ab) ∧ w'.cell? ⟨B, 2, none⟩ = some (.string av) ∧ w'.cell? ⟨B + 1, 0, none⟩ = some (.int .i64 bn) ∧ w'.cell? ⟨B + 1, 1, none⟩ = some (.string bb) ∧ w'.cell? ⟨B + 1, 2, none⟩ = some (.string bv) ∧ Hid (MN W B an bn ab av bb bv w') :=
  MN.of (MN.step0 hb h)
theorem MN.drew {W : World} {B : Nat} {an bn : Int} {ab av bb bv : ByteArray} {W0 : World} (h : Hid (MN W B an bn ab av bb bv W0)) : W0.drew.cell? ⟨B, 0, none⟩ = some (.int .i64 an) ∧ W0.drew.cell? ⟨B, 1, none⟩ = some (.string ab) ∧ W0.drew.cell? ⟨B, 2, none⟩ = some (.string av) ∧ W0.drew.cell? ⟨B + 1, 0, none⟩ = some (.int .i64 bn) ∧ W0.drew.cell? ⟨B + 1, 1, none⟩ = some (.string bb) ∧ W0.drew.cell? ⟨B + 1, 2, none⟩ = some (.string bv) ∧ Hid (MN W B an bn ab av bb bv W0.drew) :=
  MN.of ⟨h.b0, h.b1, h.low.drew⟩
theorem MN.alloc {W : World} {B : Nat} {an bn : Int} {ab av bb bv : ByteArray} {W0 : World} (h : Hid (MN W B an bn ab av bb bv W0)) (x : Obj) : (W0.alloc x).cell? ⟨B, 0, none⟩ = some (.int .i64 an) ∧ (W0.alloc x).cell? ⟨B, 1, none⟩ = some (.string ab) ∧ (W0.alloc x).cell? ⟨B, 2, none⟩ = some (.string av) ∧ (W0.alloc x).cell? ⟨B + 1, 0, none⟩ = some (.int .i64 bn) ∧ (W0.alloc x).cell? ⟨B + 1, 1, none⟩ = some (.string bb) ∧ (W0.alloc x).cell? ⟨B + 1, 2, none⟩ = some (.string bv) ∧ Hid (MN W B an bn ab av bb bv (W0.alloc x)) :=
  MN.of ⟨h.b0.alloc x, h.b1.alloc x, h.low.alloc (by have := h.b0.lt; have := h.low.size; omega) x⟩
theorem MN.new (W : World) (an bn : Int) (ab av bb bv : ByteArray) : MN W W.heap.size an bn ab av bb bv ((W.alloc (.cells #[.int .i64 an, .string ab, .string av] 35)).alloc (.cells #[.int .i64 bn, .string bb, .string bv] 35)) :=
  ⟨(Blk.new _ _ _).alloc _, by simpa using Blk.new (W.alloc (.cells #[.int .i64 an, .string ab, .string av] 35)) 35 #[.int .i64 bn, .string bb, .string bv], ((Below.refl _ _).alloc (Nat.le_refl _) _).alloc (by simp) _⟩
def Rg.join (a b : Rg) : Rg := if b.newer a then b else a
end Go.Proofs.YtkbgmdabmebdhaaGreatDoor.reg

/- The walks of package name's Is and of its reference: a text is a name just if it has 1 to 16 bytes, each of which fits. -/
namespace Go.Proofs.YtkbgmdabmebdhaaGreatDoor.name
open Go.ChangeShapes Go.WideShapes Go.ChangeAt Go.RowKit Go.Proofs.Aid
def fitB (c : Int) : Bool := (decide (97 ≤ c) && decide (c ≤ 122)) || (decide (48 ≤ c) && decide (c ≤ 57)) || (c == 45)
def fits (l : List UInt8) : Bool := l.all fun c => fitB (c.toNat : Int)
def isName (l : List UInt8) : Bool := decide (1 ≤ l.length) && decide (l.length ≤ 16) && fits l
theorem ret_bool {a b : Bool} (h : a = b) : Ending.returned (.bool a) = .returned (.bool b) := by rw [h]
theorem fits_any (c : Int) (w : World) : Calls Tryz.prog 41 #[.int .i32 c] w fun e w' => e = .returned (.bool (fitB c)) ∧ w' = w := by
  have hF := Lib.hid (show fitB c = ((decide (97 ≤ c) && decide (c ≤ 122)) || (decide (48 ≤ c) && decide (c ≤ 57)) || (c == 45)) from rfl)
  by_cases h1 : 97 ≤ c ∧ c ≤ 122
  · obtain ⟨x, y⟩ := h1
    go_enter Tryz.func41, Tryz.ntmps41
    go_wp2
    go_ret
    exact ⟨ret_bool (by rw [hF.out]; simp [x, y]), rfl⟩
  · by_cases h2 : 48 ≤ c ∧ c ≤ 57
    · obtain ⟨x, y⟩ := h2
      go_enter Tryz.func41, Tryz.ntmps41
      go_wp2
      go_ret
      exact ⟨ret_bool (by rw [hF.out]; simp [x, y]), rfl⟩
    · by_cases h3 : c = 45
      · subst h3
        go_enter Tryz.func41, Tryz.ntmps41
        go_wp2
        go_ret
        exact ⟨ret_bool (by rw [hF.out]; rfl), rfl⟩
      · have hR := Lib.hid (show fitB c = false by
          rw [hF.out]
          simp only [Bool.or_eq_false_iff, Bool.and_eq_false_iff, decide_eq_false_iff_not, beq_eq_false_iff_ne]
          omega)
        clear hF
        have h3' : (c == 45) = false := by simpa using h3
        by_cases x : 97 ≤ c <;> by_cases y : 48 ≤ c
        all_goals try (exfalso; omega)
        all_goals
          go_enter Tryz.func41, Tryz.ntmps41
          go_wp2
          go_ret
          refine ⟨ret_bool (Eq.symm (hR.out.trans ?_)), rfl⟩
          first | rfl | (simp; done) | (simp; omega)
theorem fits_drop (s : ByteArray) (k : Nat) (h : k < s.size) : fits (s.data.toList.drop k) = (fitB (s[k].toNat : Int) && fits (s.data.toList.drop (k + 1))) := by
  unfold fits
  rw [List.drop_eq_getElem_cons (by simpa using h), List.all_cons]; rfl
theorem fitB_high (c : Int) (h : 128 ≤ c) : fitB c = false := by
  unfold fitB; simp only [Bool.or_eq_false_iff, Bool.and_eq_false_iff, decide_eq_false_iff_not, beq_eq_false_iff_ne]; omega
set_option maxHeartbeats 1000000 in
theorem is_any (s : ByteArray) (w : World) (hs : s.size ≤ maxLen) : Calls Tryz.prog 22 #[.string s] w fun e w' => e = .returned (.bool (isName s.data.toList)) ∧ Below w.heap.size w w' := by
  unfold maxLen at hs
  have hN := Lib.hid (show isName s.data.toList = (decide (1 ≤ s.size) && decide (s.size ≤ 16) && fits s.data.toList) from by unfold isName; simp)
  by_cases h0 : s.size = 0
  · have he : s = ByteArray.empty := by
      apply ByteArray.ext; apply Array.eq_empty_of_size_eq_zero; exact h0
    subst he
    go_enter Tryz.func22, Tryz.ntmps22
    go_wp2
    go_ret
    exact ⟨ret_bool (by rw [hN.out]; rfl), Below.refl _ _⟩
  · have hne : ¬ s.toList = [] := fun e => h0 (by rw [Lib.toList_data] at e; have := congrArg List.length e; simpa using this)
    have hne2 : s.toList.isEmpty = false := by simpa using hne
    by_cases h1 : 16 < s.size
    · go_enter Tryz.func22, Tryz.ntmps22
      go_wp2
      go_ret
      exact ⟨ret_bool (by rw [hN.out]; simp; omega), Below.refl _ _⟩
    · have hN2 := Lib.hid (show isName s.data.toList = fits s.data.toList by rw [hN.out]; simp; omega)
      clear hN
      go_enter Tryz.func22, Tryz.ntmps22
      go_wp2
      go_loopw [4] (fun _ w' => ∃ pos : Nat, w' = w.iter s pos ∧ Hid (isName s.data.toList = fits (s.data.toList.drop pos))) (fun _ w' => s.size - w'.iterPos w.heap.size)
      case atStart => exact ⟨0, rfl, by rw [List.drop_zero]; exact hN2.out⟩
      case round =>
        obtain ⟨pos, rfl, hI⟩ := hrel
        have hlow := Lib.hid (show Below w.heap.size w (w.iter s pos) from (Below.refl _ _).alloc (Nat.le_refl _) _)
        by_cases hp : pos < s.size
        · have hd := Lib.hid (fits_drop s pos hp)
          by_cases ha : (s[pos]'hp).toNat < 128
          · have hnx : ∀ ty, (Instr.next (.pointer (some ⟨w.heap.size, 0, none⟩)) true ty).run Tryz.prog (w.iter s pos) = _ := fun ty => run_next_ascii w s pos ty hp ha
            cases hf : fitB ((s[pos]'hp).toNat : Int)
            · have hI2 := Lib.hid (hI.out.trans (hd.out.trans (by rw [hf])))
              go_wp2_with fail
              refine (fits_any _ _).mono ?_
              rw [hf]
              rintro e w1 ⟨rfl, rfl⟩
              go_wp2
              go_ret
              exact ⟨ret_bool (by rw [hI2.out]; rfl), (Below.refl _ _).alloc (Nat.le_refl _) _⟩
            · have hI2 := Lib.hid (hI.out.trans (hd.out.trans (by rw [hf])))
              go_wp2_with fail
              refine (fits_any _ _).mono ?_
              rw [hf]
              rintro e w1 ⟨rfl, rfl⟩
              go_wp2
              go_roundw
              case rel => exact ⟨pos + 1, rfl, by rw [hI2.out, Bool.true_and]; rfl⟩
              case measure => simp; omega
          · have hnx : ∀ ty, (Instr.next (.pointer (some ⟨w.heap.size, 0, none⟩)) true ty).run Tryz.prog (w.iter s pos) = _ := fun ty => run_next_any w s pos ty hp
            have hh := (decode_high s pos hp (by omega)).1
            have hf := fitB_high ((Utf8.decode s pos).1 : Int) (by omega)
            have hI2 := Lib.hid (hI.out.trans (hd.out.trans (by rw [fitB_high _ (by omega)])))
            go_wp2_with fail
            refine (fits_any _ _).mono ?_
            rw [hf]
            rintro e w1 ⟨rfl, rfl⟩
            go_wp2
            go_ret
            exact ⟨ret_bool (by rw [hI2.out]; rfl), (Below.refl _ _).alloc (Nat.le_refl _) _⟩
        · have hnx : ∀ ty, (Instr.next (.pointer (some ⟨w.heap.size, 0, none⟩)) true ty).run Tryz.prog (w.iter s pos) = _ := fun ty => run_next_end w s pos ty hp
          have hI2 := Lib.hid (hI.out.trans (by rw [List.drop_eq_nil_of_le (by simp; omega)]))
          go_wp2
          go_ret
          exact ⟨ret_bool (by rw [hI2.out]; rfl), (Below.refl _ _).alloc (Nat.le_refl _) _⟩
end Go.Proofs.YtkbgmdabmebdhaaGreatDoor.name

/- More walks of package register: Check, Next, and whether a register has few bytes. -/
namespace Go.Proofs.YtkbgmdabmebdhaaGreatDoor.reg
open Go.ChangeShapes Go.WideShapes Go.ChangeAt Go.RowKit Go.Proofs.Aid Go.Proofs.YtkbgmdabmebdhaaGreatDoor.name
def Rg.may (r : Rg) : Prop := 1 ≤ r.n ∧ r.n ≤ 9007199254740992 ∧ (r.by_.size = 0 ∨ isName r.by_.data.toList = true) ∧ r.value.size ≤ 256
instance (r : Rg) : Decidable r.may := by unfold Rg.may; infer_instance
def Rg.check (r : Rg) : Int := if r.may then 0 else 1
theorem check_bad {r : Rg} (h : ¬ r.may) : r.check = 1 := if_neg h
theorem check_ok {r : Rg} (h : r.may) : r.check = 0 := if_pos h
theorem nil_of {s : ByteArray} (h : s.size = 0) : s = ByteArray.empty := by
  apply ByteArray.ext; apply Array.eq_empty_of_size_eq_zero; exact h
theorem not_nil {s : ByteArray} (h : ¬ s.size = 0) : ¬ s.toList = [] := fun e => h (by rw [Lib.toList_data] at e; have := congrArg List.length e; simpa using this)
theorem isName_nil : isName [] = false := rfl
def Rg.zero : Rg := ⟨0, ByteArray.empty, ByteArray.empty⟩
def Rg.isZero (r : Rg) : Prop := r.n = 0 ∧ r.by_.toList = [] ∧ r.value.toList = []
instance (r : Rg) : Decidable r.isZero := by unfold Rg.isZero; infer_instance
def Rg.next (a : Rg) (s t : ByteArray) : Rg × Int :=
  if (¬ a.isZero ∧ ¬ a.may) ∨ isName s.data.toList = false ∨ 256 < t.size then (Rg.zero, 1) else if a.n = 9007199254740992 then (Rg.zero, 4) else (⟨a.n + 1, s, t⟩, 0)
structure MX (W : World) (B : Nat) (n : Int) (b v : ByteArray) (w' : World) : Prop where
  b0 : Blk w' (B) 35 #[.int .i64 n, .string b, .string v]
  b1 : Blk w' (B + 1) 35 #[.int .i64 0, .string ByteArray.empty, .string ByteArray.empty]
  low : Below (B) W w'
theorem MX.of {W : World} {B : Nat} {n : Int} {b v : ByteArray} {w' : World} (h : MX W B n b v w') : w'.cell? ⟨B, 0, none⟩ = some (.int .i64 n) ∧ w'.cell? ⟨B, 1, none⟩ = some (.string b) ∧ w'.cell? ⟨B, 2, none⟩ = some (.string v) ∧ w'.cell? ⟨B + 1, 0, none⟩ = some (.int .i64 0) ∧ w'.cell? ⟨B + 1, 1, none⟩ = some (.string ByteArray.empty) ∧ w'.cell? ⟨B + 1, 2, none⟩ = some (.string ByteArray.empty) ∧ Hid (MX W B n b v w') :=
  ⟨by rw [h.b0.cell]; rfl, by rw [h.b0.cell]; rfl, by rw [h.b0.cell]; rfl, by rw [h.b1.cell]; rfl, by rw [h.b1.cell]; rfl, by rw [h.b1.cell]; rfl, h⟩
theorem MX.step0 {W : World} {B : Nat} {n : Int} {b v : ByteArray} {W0 w' : World} (hb : Below W0.heap.size W0 w') (h : MX W B n b v W0) : MX W B n b v w' :=
  ⟨h.b0.below hb h.b0.lt, h.b1.below hb h.b1.lt, h.low.trans (hb.mono (by have := h.b0.lt; have := h.low.size; omega))⟩
theorem MX.step {W : World} {B : Nat} {n : Int} {b v : ByteArray} {W0 w' : World} (hb : Below W0.heap.size W0 w') (h : Hid (MX W B n b v W0)) : w'.cell? ⟨B, 0, none⟩ = some (.int .i64 n) ∧ w'.cell? ⟨B, 1, none⟩ = some (.string b) ∧ w'.cell? ⟨B, 2, none⟩ = some (.string v) ∧ w'.cell? ⟨B + 1, 0, none⟩ = some (.int .i64 0) ∧ w'.cell? ⟨B + 1, 1, none⟩ = some (.string ByteArray.empty) ∧ w'.cell? ⟨B + 1, 2, none⟩ = some (.string ByteArray.empty) ∧ Hid (MX W B n b v w') :=
  MX.of (MX.step0 hb h)
theorem MX.drew {W : World} {B : Nat} {n : Int} {b v : ByteArray} {W0 : World} (h : Hid (MX W B n b v W0)) : W0.drew.cell? ⟨B, 0, none⟩ = some (.int .i64 n) ∧ W0.drew.cell? ⟨B, 1, none⟩ = some (.string b) ∧ W0.drew.cell? ⟨B, 2, none⟩ = some (.string v) ∧ W0.drew.cell? ⟨B + 1, 0, none⟩ = some (.int .i64 0) ∧ W0.drew.cell? ⟨B + 1, 1, none⟩ = some (.string ByteArray.empty) ∧ W0.drew.cell? ⟨B + 1, 2, none⟩ = some (.string ByteArray.empty) ∧ Hid (MX W B n b v W0.drew) :=
  MX.of ⟨h.b0, h.b1, h.low.drew⟩
theorem MX.alloc {W : World} {B : Nat} {n : Int} {b v : ByteArray} {W0 : World} (h : Hid (MX W B n b v W0)) (x : Obj) : (W0.alloc x).cell? ⟨B, 0, none⟩ = some (.int .i64 n) ∧ (W0.alloc x).cell? ⟨B, 1, none⟩ = some (.string b) ∧ (W0.alloc x).cell? ⟨B, 2, none⟩ = some (.string v) ∧ (W0.alloc x).cell? ⟨B + 1, 0, none⟩ = some (.int .i64 0) ∧ (W0.alloc x).cell? ⟨B + 1, 1, none⟩ = some (.string ByteArray.empty) ∧ (W0.alloc x).cell? ⟨B + 1, 2, none⟩ = some (.string ByteArray.empty) ∧ Hid (MX W B n b v (W0.alloc x)) :=
  MX.of ⟨h.b0.alloc x, h.b1.alloc x, h.low.alloc (by have := h.b0.lt; have := h.low.size; omega) x⟩
theorem MX.new (W : World) (n : Int) (b v : ByteArray) : MX W W.heap.size n b v ((W.alloc (.cells #[.int .i64 n, .string b, .string v] 35)).alloc (.cells #[.int .i64 0, .string ByteArray.empty, .string ByteArray.empty] 35)) :=
  ⟨(Blk.new _ _ _).alloc _, by simpa using Blk.new (W.alloc (.cells #[.int .i64 n, .string b, .string v] 35)) 35 #[.int .i64 0, .string ByteArray.empty, .string ByteArray.empty], ((Below.refl _ _).alloc (Nat.le_refl _) _).alloc (by simp) _⟩
theorem bel3 {W w1 : World} (h : Below W.heap.size W w1) (x y z : Value) : Below W.heap.size W (((w1.setCell ⟨W.heap.size + 1, 0, none⟩ x).setCell ⟨W.heap.size + 1, 1, none⟩ y).setCell ⟨W.heap.size + 1, 2, none⟩ z) :=
  ((h.setCell (p := ⟨W.heap.size + 1, 0, none⟩) (by simp) _).setCell (p := ⟨W.heap.size + 1, 1, none⟩) (by simp) _).setCell (p := ⟨W.heap.size + 1, 2, none⟩) (by simp) _
end Go.Proofs.YtkbgmdabmebdhaaGreatDoor.reg

/- Plain facts: the order of registers. -/
namespace Go.Proofs.YtkbgmdabmebdhaaGreatDoor.reg
open Go.Lib (compareBytes)
theorem cb_swap (a b : List UInt8) : compareBytes b a = - compareBytes a b := by
  induction a generalizing b with
  | nil => cases b <;> simp [compareBytes]
  | cons x a ih =>
    cases b with
    | nil => simp [compareBytes]
    | cons y b =>
      simp only [compareBytes]
      by_cases h1 : x < y
      · have h2 : ¬ y < x := by simp [UInt8.lt_iff_toNat_lt] at h1 ⊢; omega
        rw [if_neg h2, if_pos h1, if_pos h1]; decide
      · by_cases h2 : y < x
        · rw [if_pos h2, if_neg h1, if_pos h2]
        · rw [if_neg h2, if_neg h1, if_neg h1, if_neg h2, ih]
theorem cb_cases (a b : List UInt8) : compareBytes a b = -1 ∨ compareBytes a b = 0 ∨ compareBytes a b = 1 := by
  induction a generalizing b with
  | nil => cases b <;> simp [compareBytes]
  | cons x a ih =>
    cases b with
    | nil => simp [compareBytes]
    | cons y b => simp only [compareBytes]; (repeat' split) <;> first | omega | exact ih b
theorem cb_eq (a b : List UInt8) (h : compareBytes a b = 0) : a = b := by
  induction a generalizing b with
  | nil => cases b <;> simp [compareBytes] at h ⊢
  | cons x a ih =>
    cases b with
    | nil => simp [compareBytes] at h
    | cons y b =>
      simp only [compareBytes] at h
      split at h
      · omega
      · split at h
        · omega
        · rename_i h1 h2
          have : x = y := by
            apply UInt8.toNat_inj.1
            simp [UInt8.lt_iff_toNat_lt] at h1 h2; omega
          rw [this, ih b h]
theorem cb_self (a : List UInt8) : compareBytes a a = 0 := by have := cb_swap a a; omega
theorem cb_trans (a b c : List UInt8) (h1 : 0 ≤ compareBytes a b) (h2 : 0 ≤ compareBytes b c) : 0 ≤ compareBytes a c ∧ (compareBytes a c = 0 → compareBytes a b = 0 ∧ compareBytes b c = 0) := by
  induction a generalizing b c with
  | nil =>
    cases b with
    | nil => exact ⟨h2, fun h => ⟨by simp [compareBytes], h⟩⟩
    | cons => simp [compareBytes] at h1
  | cons x a ih =>
    cases b with
    | nil =>
      cases c with
      | nil => simp [compareBytes]
      | cons => simp [compareBytes] at h2
    | cons y b =>
      cases c with
      | nil => simp [compareBytes]
      | cons z c =>
        simp only [compareBytes, UInt8.lt_iff_toNat_lt] at *
        by_cases p : x.toNat < y.toNat
        · rw [if_pos p] at h1; omega
        · by_cases q : y.toNat < z.toNat
          · rw [if_pos q] at h2; omega
          · by_cases r : y.toNat < x.toNat
            · rw [if_neg (show ¬ x.toNat < z.toNat by omega), if_pos (show z.toNat < x.toNat by omega)]; omega
            · by_cases s : z.toNat < y.toNat
              · rw [if_neg (show ¬ x.toNat < z.toNat by omega), if_pos (show z.toNat < x.toNat by omega)]; omega
              · rw [if_neg p, if_neg r] at h1
                rw [if_neg q, if_neg s] at h2
                rw [if_neg (show ¬ x.toNat < z.toNat by omega), if_neg (show ¬ z.toNat < x.toNat by omega), if_neg p, if_neg r, if_neg q, if_neg s]
                exact ih b c h1 h2
theorem ci_swap (a b : Int) : cmpI b a = - cmpI a b := by unfold cmpI; (repeat' split) <;> omega
theorem comp_swap (a b : Rg) : b.comp a = - a.comp b := by
  unfold Rg.comp or3
  rw [ci_swap a.n b.n, cb_swap a.by_.data.toList, cb_swap a.value.data.toList]
  (repeat' split) <;> omega
theorem comp_eq (a b : Rg) (h : a.comp b = 0) : a = b := by
  obtain ⟨an, ab, av⟩ := a
  obtain ⟨bn, bb, bv⟩ := b
  unfold Rg.comp or3 at h
  simp only at h
  split at h
  · omega
  · split at h
    · omega
    · rename_i h1 h2
      have e1 : an = bn := by unfold cmpI at h1; split at h1 <;> (try split at h1) <;> omega
      have e2 := cb_eq _ _ (by omega : compareBytes ab.data.toList bb.data.toList = 0)
      have e3 := cb_eq _ _ h
      subst e1
      have e2 : ab = bb := ByteArray.ext (Array.toList_inj.1 e2)
      have e3 : av = bv := ByteArray.ext (Array.toList_inj.1 e3)
      subst e2 e3; rfl
theorem comp_trans (a b c : Rg) (h1 : 0 ≤ a.comp b) (h2 : 0 ≤ b.comp c) : 0 ≤ a.comp c ∧ (a.comp c = 0 → a.comp b = 0 ∧ b.comp c = 0) := by
  unfold Rg.comp or3 at *
  have t1 := cb_trans a.by_.data.toList b.by_.data.toList c.by_.data.toList
  have t2 := cb_trans a.value.data.toList b.value.data.toList c.value.data.toList
  have c1 := cb_cases a.by_.data.toList b.by_.data.toList
  have c2 := cb_cases b.by_.data.toList c.by_.data.toList
  have c3 := cb_cases a.by_.data.toList c.by_.data.toList
  unfold cmpI at *
  by_cases p : a.n < b.n
  · simp [p] at h1
  · by_cases q : b.n < c.n
    · simp [q] at h2
    · by_cases r : b.n < a.n ∨ c.n < b.n
      · have e1 : ¬ a.n < c.n := by omega
        have e2 : c.n < a.n := by omega
        simp [e1, e2]
      · have e1 : a.n = b.n := by omega
        have e2 : b.n = c.n := by omega
        simp only [e1, e2, Int.lt_irrefl, if_false, ne_eq, not_true] at *
        generalize compareBytes a.by_.data.toList b.by_.data.toList = x1 at *
        generalize compareBytes b.by_.data.toList c.by_.data.toList = x2 at *
        generalize compareBytes a.by_.data.toList c.by_.data.toList = x3 at *
        generalize compareBytes a.value.data.toList b.value.data.toList = y1 at *
        generalize compareBytes b.value.data.toList c.value.data.toList = y2 at *
        generalize compareBytes a.value.data.toList c.value.data.toList = y3 at *
        by_cases u1 : x1 = 0 <;> by_cases u2 : x2 = 0 <;> by_cases u3 : x3 = 0 <;> simp [u1, u2, u3] at h1 h2 t1 ⊢ <;> omega
theorem newer_iff (a b : Rg) : a.newer b = true ↔ 0 < a.comp b := by unfold Rg.newer; simp
theorem newer_self (a : Rg) : a.newer a = false := by
  have := comp_swap a a
  cases h : a.newer a
  · rfl
  · rw [newer_iff] at h; omega
theorem newer_swap {a b : Rg} (h : a.newer b = true) : b.newer a = false := by
  rw [newer_iff] at h
  have := comp_swap a b
  cases h2 : b.newer a
  · rfl
  · rw [newer_iff] at h2; omega
theorem newer_total {a b : Rg} (h : a ≠ b) : a.newer b = true ∨ b.newer a = true := by
  have hs := comp_swap a b
  rw [newer_iff, newer_iff]
  by_cases h0 : a.comp b = 0
  · exact absurd (comp_eq a b h0) h
  · omega
theorem join_self (a : Rg) : a.join a = a := by unfold Rg.join; rw [newer_self]; rfl
theorem join_left {a b : Rg} (h : a.newer b = true) : a.join b = a := by unfold Rg.join; rw [newer_swap h]; rfl
theorem join_right {a b : Rg} (h : b.newer a = true) : a.join b = b := by unfold Rg.join; rw [h]; rfl
theorem join_swap (a b : Rg) : b.join a = a.join b := by
  by_cases h : a = b
  · subst h; rfl
  · rcases newer_total h with h | h
    · rw [join_left h, join_right h]
    · rw [join_left h, join_right h]
theorem join_assoc (a b c : Rg) : (a.join b).join c = a.join (b.join c) := by
  have tr : ∀ {x y z : Rg}, x.newer y = true → y.newer z = true → x.newer z = true := by
    intro x y z h1 h2
    rw [newer_iff] at *
    have := comp_trans x y z (by omega) (by omega)
    omega
  by_cases e1 : a = b
  · subst e1
    rw [join_self]
    by_cases e2 : a = c
    · subst e2; rw [join_self, join_self]
    · rcases newer_total e2 with h | h
      · rw [join_left h, join_self]
      · rw [join_right h, join_right h]
  · by_cases e2 : b = c
    · subst e2
      rw [join_self]
      rcases newer_total e1 with h | h
      · rw [join_left h, join_left h]
      · rw [join_right h, join_self]
    · rcases newer_total e1 with h | h <;> rcases newer_total e2 with k | k
      · rw [join_left h, join_left k, join_left h, join_left (tr h k)]
      · rw [join_left h, join_right k]
      · rw [join_right h, join_left k, join_right h]
      · rw [join_right h, join_right k, join_right (tr k h)]
end Go.Proofs.YtkbgmdabmebdhaaGreatDoor.reg

/- The walks of the reference's name and register. -/
namespace Go.Proofs.YtkbgmdabmebdhaaGreatDoor.reg
open Go.ChangeShapes Go.WideShapes Go.ChangeAt Go.RowKit Go.Proofs.Aid Go.Proofs.YtkbgmdabmebdhaaGreatDoor.name
theorem fitB_of {c : Int} (h : (97 ≤ c ∧ c ≤ 122) ∨ (48 ≤ c ∧ c ≤ 57) ∨ c = 45) : fitB c = true := by
  unfold fitB; simp only [Bool.or_eq_true, Bool.and_eq_true, decide_eq_true_eq, beq_iff_eq]; omega
theorem fitB_not {c : Int} (h : ¬ ((97 ≤ c ∧ c ≤ 122) ∨ (48 ≤ c ∧ c ≤ 57) ∨ c = 45)) : fitB c = false := by
  unfold fitB; simp only [Bool.or_eq_false_iff, Bool.and_eq_false_iff, decide_eq_false_iff_not, beq_eq_false_iff_ne]; omega
set_option maxHeartbeats 2000000 in
theorem rname_any (s : ByteArray) (w : World) (hs : s.size ≤ maxLen) : Calls Tryz.prog 25 #[.string s] w fun e w' => e = .returned (.bool (isName s.data.toList)) ∧ w' = w := by
  unfold maxLen at hs
  have hN := Lib.hid (show isName s.data.toList = (decide (1 ≤ s.size) && decide (s.size ≤ 16) && fits s.data.toList) from by unfold isName; simp)
  go_enter Tryz.func25, Tryz.ntmps25
  go_wp2_with fail
  go_loopw [3] (fun iv w' => ∃ k : Nat, k ≤ s.size ∧ iv = .int .i64 k ∧ w' = w ∧ Hid (fits s.data.toList = fits (s.data.toList.drop k))) (fun iv _ => s.size - (intOf iv).toNat)
  case atStart => exact ⟨0, by omega, rfl, rfl, by rw [List.drop_zero]; exact rfl⟩
  case round =>
    obtain ⟨k, hk, rfl, rfl, hI⟩ := hrel
    by_cases hp : k < s.size
    · have hd := Lib.hid (fits_drop s k hp)
      by_cases h1 : 97 ≤ ((s[k]'hp).toNat : Int) ∧ ((s[k]'hp).toNat : Int) ≤ 122
      · have hI2 := Lib.hid (hI.out.trans (hd.out.trans (by rw [fitB_of (.inl h1), Bool.true_and])))
        obtain ⟨x, y⟩ := h1
        go_wp2
        go_roundw
        case rel => exact ⟨k + 1, by omega, by go_num, trivial, hI2⟩
        case measure => simp [intOf]; omega
      · by_cases h2 : 48 ≤ ((s[k]'hp).toNat : Int) ∧ ((s[k]'hp).toNat : Int) ≤ 57
        · have hI2 := Lib.hid (hI.out.trans (hd.out.trans (by rw [fitB_of (.inr (.inl h2)), Bool.true_and])))
          obtain ⟨x, y⟩ := h2
          clear h1
          go_wp2
          go_roundw
          case rel => exact ⟨k + 1, by omega, by go_num, trivial, hI2⟩
          case measure => simp [intOf]; omega
        · by_cases h3 : ((s[k]'hp).toNat : Int) = 45
          · have hI2 := Lib.hid (hI.out.trans (hd.out.trans (by rw [fitB_of (.inr (.inr h3)), Bool.true_and])))
            clear h1 h2
            go_wp2
            all_goals try (exfalso; omega)
            go_roundw
            case rel => exact ⟨k + 1, by omega, by go_num, trivial, hI2⟩
            case measure => simp [intOf]; omega
          · have hI2 := Lib.hid (hI.out.trans (hd.out.trans (by rw [fitB_not (by omega), Bool.false_and])))
            have hN2 := Lib.hid (show isName s.data.toList = false by rw [hN.out, hI2.out]; simp)
            have h3' : (((s[k]'hp).toNat : Int) == 45) = false := by simpa using h3
            clear hN hI hI2 hd
            by_cases x : ((s[k]'hp).toNat : Int) < 97 <;> by_cases y : ((s[k]'hp).toNat : Int) < 48
            all_goals try (exfalso; omega)
            all_goals
              go_wp2
            all_goals try (exfalso; omega)
            all_goals
              go_ret
              exact ⟨ret_bool (by rw [hN2.out]), rfl⟩
    · have hI2 := Lib.hid (hI.out.trans (by rw [List.drop_eq_nil_of_le (by simp; omega)]))
      have hN2 := Lib.hid (show isName s.data.toList = (decide (1 ≤ s.size) && decide (s.size ≤ 16)) by rw [hN.out, hI2.out]; simp [fits])
      clear hN hI hI2
      go_wp2
      all_goals
        go_ret
        refine ⟨ret_bool ?_, rfl⟩
        rw [hN2.out]
        rw [Bool.eq_iff_iff]
        simp
        omega
theorem gtr_cmp : ∀ (a b : List UInt8), (!(Op.bytesLess a b || a == b)) = decide (0 < Lib.compareBytes a b)
  | [], [] => by simp [Op.bytesLess, Lib.compareBytes]
  | [], _ :: _ => by simp [Op.bytesLess, Lib.compareBytes]
  | _ :: _, [] => by simp [Op.bytesLess, Lib.compareBytes]
  | a :: l, b :: m => by
    have ih := gtr_cmp l m
    unfold Op.bytesLess Lib.compareBytes
    by_cases h1 : a < b
    · simp [h1]
    · by_cases h2 : b < a
      · have h3 : ¬ a = b := fun e => by subst e; exact h1 h2
        simp [h1, h2, h3]
      · have h3 : a = b := by
          apply UInt8.le_antisymm
          · exact UInt8.not_lt.mp h2
          · exact UInt8.not_lt.mp h1
        subst h3
        simp only [h1, if_false, decide_false, Bool.false_or, beq_self_eq_true, Bool.true_and]
        rw [← ih]
        simp
theorem newer_n {an bn : Int} {ab av bb bv : ByteArray} (h : an ≠ bn) : Rg.newer ⟨an, ab, av⟩ ⟨bn, bb, bv⟩ = decide (bn < an) := by
  unfold Rg.newer Rg.comp or3 cmpI
  simp only
  by_cases h1 : an < bn
  · have h2 : ¬ bn < an := by omega
    simp [h1, h2]
  · have h2 : bn < an := by omega
    simp [h1, h2]
theorem cmpI_self (a : Int) : cmpI a a = 0 := by unfold cmpI; simp
theorem newer_b {n : Int} {ab av bb bv : ByteArray} (h : ¬ ab.toList = bb.toList) : Rg.newer ⟨n, ab, av⟩ ⟨n, bb, bv⟩ = decide (0 < Lib.compareBytes ab.toList bb.toList) := by
  unfold Rg.newer Rg.comp or3
  simp only [cmpI_self]
  rw [Lib.toList_data, Lib.toList_data] at *
  have : Lib.compareBytes ab.data.toList bb.data.toList ≠ 0 := fun e => h (cb_eq _ _ e)
  simp [this]
theorem newer_v {n : Int} {ab av bb bv : ByteArray} (h : ab.toList = bb.toList) : Rg.newer ⟨n, ab, av⟩ ⟨n, bb, bv⟩ = decide (0 < Lib.compareBytes av.toList bv.toList) := by
  unfold Rg.newer Rg.comp or3
  simp only [cmpI_self]
  rw [Lib.toList_data, Lib.toList_data] at *
  rw [h, cb_self]
  by_cases h0 : Lib.compareBytes av.data.toList bv.data.toList = 0
  · simp [h0]
  · simp
theorem rname_bel (s : ByteArray) (w : World) (hs : s.size ≤ maxLen) : Calls Tryz.prog 25 #[.string s] w fun e w' => e = .returned (.bool (isName s.data.toList)) ∧ Below w.heap.size w w' :=
  (rname_any s w hs).mono fun e w' h => ⟨h.1, by rw [h.2]; exact Below.refl _ _⟩
end Go.Proofs.YtkbgmdabmebdhaaGreatDoor.reg

/- The walk of the reference's Next. -/
namespace Go.Proofs.YtkbgmdabmebdhaaGreatDoor.reg
open Go.ChangeShapes Go.WideShapes Go.ChangeAt Go.RowKit Go.Proofs.Aid Go.Proofs.YtkbgmdabmebdhaaGreatDoor.name
def Rg.few (r : Rg) : Bool := decide (r.by_.size ≤ 100) && decide (r.value.size ≤ 300)
theorem few_any (r : Rg) (W : World) (hb : r.by_.size ≤ maxLen) (hv : r.value.size ≤ maxLen) : Calls Tryz.prog 12 #[r.val] W fun e w' => e = .returned (.bool r.few) ∧ Below W.heap.size W w' := by
  obtain ⟨n, b, v⟩ := r
  simp only at hb hv
  unfold maxLen at hb hv
  have hF := Lib.hid (show Rg.few ⟨n, b, v⟩ = (decide (b.size ≤ 100) && decide (v.size ≤ 300)) from rfl)
  show Calls Tryz.prog 12 #[.agg #[.int .i64 n, .string b, .string v]] W _
  by_cases h1 : b.size ≤ 100
  · by_cases h2 : v.size ≤ 300
    all_goals
      go_enter Tryz.func12, Tryz.ntmps12
      go_wp2
      go_ret
      exact ⟨ret_bool (by rw [hF.out]; simp [h1, h2] <;> omega), (Below.refl _ _).alloc (Nat.le_refl _) _⟩
  · go_enter Tryz.func12, Tryz.ntmps12
    go_wp2
    go_ret
    exact ⟨ret_bool (by rw [hF.out]; simp [h1] <;> omega), (Below.refl _ _).alloc (Nat.le_refl _) _⟩
end Go.Proofs.YtkbgmdabmebdhaaGreatDoor.reg
