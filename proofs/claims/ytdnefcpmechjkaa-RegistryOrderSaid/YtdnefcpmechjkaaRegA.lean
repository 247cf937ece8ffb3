/- The walks of package register. -/
import Derived.Test.YtdnefcpmechjkaaOpen
import Derived.Test.YtdnefcpmechjkaaShelf
import Derived.Lib.Hide
import Derived.Deep.RegionHeld3
import Derived.Deep.QuietTactic
import Derived.BigQuiet
import Derived.WalkSpells
namespace Go.Proofs.Ytdnefcpmechjkaa.reg
open Go.ChangeShapes Go.WideShapes Go.ChangeAt Go.RowKit Go.Proofs.Aid
theorem ret_int {k : IntKind} {a b : Int} (h : a = b) : Ending.returned (.int k a) = .returned (.int k b) := by rw [h]
theorem ret_bool {a b : Bool} (h : a = b) : Ending.returned (.bool a) = .returned (.bool b) := by rw [h]
def cmpI (a b : Int) : Int := if a < b then -1 else if b < a then 1 else 0
theorem cmp_any (a b : Int) (w : World) : Calls Try.prog 50 #[.int .i64 a, .int .i64 b] w fun e w' => e = .returned (.int .i64 (cmpI a b)) ∧ w' = w := by
  have hc := Lib.hid (show cmpI a b = if a < b then -1 else if b < a then 1 else 0 from rfl)
  go_enter Try.func50, Try.ntmps50
  go_wp2_with (go_at_call 52; refine (Try.cmp_isNaN_int2 _ _).mono ?_; rintro e w1 ⟨rfl, rfl⟩)
  all_goals go_ret
  all_goals refine ⟨ret_int ?_, rfl⟩
  all_goals rw [hc.out]
  all_goals (repeat' split)
  all_goals omega
def or3 (a b c : Int) : Int := if a ≠ 0 then a else if b ≠ 0 then b else c
theorem or_any (x y z : Int) (g : Nat) (cap : Nat) (w : World) (h0 : w.cell? ⟨g, 0, none⟩ = some (.int .i64 x)) (h1 : w.cell? ⟨g, 1, none⟩ = some (.int .i64 y)) (h2 : w.cell? ⟨g, 2, none⟩ = some (.int .i64 z)) :
    Calls Try.prog 49 #[.slice (some ⟨g, 0, none⟩) 3 cap] w fun e w' => e = .returned (.int .i64 (or3 x y z)) ∧ w' = w := by
  have hc := Lib.hid (show or3 x y z = if x ≠ 0 then x else if y ≠ 0 then y else z from rfl)
  by_cases e0 : (x != 0) = true
  · have hc2 := Lib.hid (hc.out.trans (if_pos (by simpa using e0)))
    clear hc
    go_enter Try.func49, Try.ntmps49
    go_wp2
    refine wp_loop_rounds 1 ?_
    rw [rounds_succ]
    go_wp2
    go_ret
    exact ⟨ret_int (by rw [hc2.out]), rfl⟩
  · have e0 : (x != 0) = false := by simpa using e0
    have hx : x = 0 := by simpa using e0
    have hc2 := Lib.hid (hc.out.trans (if_neg (by simpa using hx)))
    clear hc hx
    by_cases e1 : (y != 0) = true
    · have hc3 := Lib.hid (hc2.out.trans (if_pos (by simpa using e1)))
      clear hc2
      go_enter Try.func49, Try.ntmps49
      go_wp2
      refine wp_loop_rounds 2 ?_
      rw [rounds_succ]
      go_wp2
      rw [rounds_succ]
      go_wp2
      go_ret
      exact ⟨ret_int (by rw [hc3.out]), rfl⟩
    · have e1 : (y != 0) = false := by simpa using e1
      have hy : y = 0 := by simpa using e1
      have hc3 := Lib.hid (hc2.out.trans (if_neg (by simpa using hy)))
      clear hc2 hy
      by_cases e2 : (z != 0) = true
      · go_enter Try.func49, Try.ntmps49
        go_wp2
        refine wp_loop_rounds 3 ?_
        rw [rounds_succ]
        go_wp2
        rw [rounds_succ]
        go_wp2
        rw [rounds_succ]
        go_wp2
        go_ret
        exact ⟨ret_int (by rw [hc3.out]), rfl⟩
      · have e2 : (z != 0) = false := by simpa using e2
        have hz := Lib.hid (show z = 0 by simpa using e2)
        go_enter Try.func49, Try.ntmps49
        go_wp2
        refine wp_loop_rounds 4 ?_
        rw [rounds_succ]
        go_wp2
        rw [rounds_succ]
        go_wp2
        rw [rounds_succ]
        go_wp2
        rw [rounds_succ]
        go_wp2
        go_ret
        exact ⟨ret_int (by rw [hc3.out, hz.out]), rfl⟩
theorem or_new (x y z : Int) (w : World) : Calls Try.prog 49 #[.slice (some ⟨w.heap.size, 0, none⟩) 3 3] (w.alloc (.cells #[.int .i64 x, .int .i64 y, .int .i64 z] 3)).drew fun e w' => e = .returned (.int .i64 (or3 x y z)) ∧ w' = (w.alloc (.cells #[.int .i64 x, .int .i64 y, .int .i64 z] 3)).drew := by
  have h : Blk (w.alloc (.cells #[.int .i64 x, .int .i64 y, .int .i64 z] 3)).drew w.heap.size 3 #[.int .i64 x, .int .i64 y, .int .i64 z] := Blk.new _ _ _
  exact or_any x y z w.heap.size 3 _ (by rw [h.cell]; rfl) (by rw [h.cell]; rfl) (by rw [h.cell]; rfl)
structure Rg where
  n : Int
  by_ : ByteArray
  value : ByteArray
  deriving DecidableEq
@[reducible] def Rg.val (r : Rg) : Value := .agg #[.int .i64 r.n, .string r.by_, .string r.value]
def Rg.comp (a b : Rg) : Int := or3 (cmpI a.n b.n) (Lib.compareBytes a.by_.data.toList b.by_.data.toList) (Lib.compareBytes a.value.data.toList b.value.data.toList)
structure MC (W : World) (B : Nat) (an bn : Int) (ab av bb bv : ByteArray) (w' : World) : Prop where
  b0 : Blk w' (B) 61 #[.int .i64 an, .string ab, .string av]
  b1 : Blk w' (B + 1) 61 #[.int .i64 bn, .string bb, .string bv]
  low : Below (B) W w'
theorem MC.of {W : World} {B : Nat} {an bn : Int} {ab av bb bv : ByteArray} {w' : World} (h : MC W B an bn ab av bb bv w') : w'.cell? ⟨B, 0, none⟩ = some (.int .i64 an) ∧ w'.cell? ⟨B, 1, none⟩ = some (.string ab) ∧ w'.cell? ⟨B, 2, none⟩ = some (.string av) ∧ w'.cell? ⟨B + 1, 0, none⟩ = some (.int .i64 bn) ∧ w'.cell? ⟨B + 1, 1, none⟩ = some (.string bb) ∧ w'.cell? ⟨B + 1, 2, none⟩ = some (.string bv) ∧ Hid (MC W B an bn ab av bb bv w') :=
  ⟨by rw [h.b0.cell]; rfl, by rw [h.b0.cell]; rfl, by rw [h.b0.cell]; rfl, by rw [h.b1.cell]; rfl, by rw [h.b1.cell]; rfl, by rw [h.b1.cell]; rfl, h⟩
theorem MC.step0 {W : World} {B : Nat} {an bn : Int} {ab av bb bv : ByteArray} {W0 w' : World} (hb : Below W0.heap.size W0 w') (h : MC W B an bn ab av bb bv W0) : MC W B an bn ab av bb bv w' :=
  ⟨h.b0.below hb h.b0.lt, h.b1.below hb h.b1.lt, h.low.trans (hb.mono (by have := h.b0.lt; have := h.low.size; omega))⟩
theorem MC.step {W : World} {B : Nat} {an bn : Int} {ab av bb bv : ByteArray} {W0 w' : World} (hb : Below W0.heap.size W0 w') (h : Hid (MC W B an bn ab av bb bv W0)) : w'.cell? ⟨B, 0, none⟩ = some (.int .i64 an) ∧ w'.cell? ⟨B, 1, none⟩ = some (.string ab) ∧ w'.cell? ⟨B, 2, none⟩ = some (.string av) ∧ w'.cell? ⟨B + 1, 0, none⟩ = some (.int .i64 bn) ∧ w'.cell? ⟨B + 1, 1, none⟩ = some (.string bb) ∧ w'.cell? ⟨B + 1, 2, none⟩ = some (.string bv) ∧ Hid (MC W B an bn ab av bb bv w') :=
  MC.of (MC.step0 hb h)
theorem MC.drew {W : World} {B : Nat} {an bn : Int} {ab av bb bv : ByteArray} {W0 : World} (h : Hid (MC W B an bn ab av bb bv W0)) : W0.drew.cell? ⟨B, 0, none⟩ = some (.int .i64 an) ∧ W0.drew.cell? ⟨B, 1, none⟩ = some (.string ab) ∧ W0.drew.cell? ⟨B, 2, none⟩ = some (.string av) ∧ W0.drew.cell? ⟨B + 1, 0, none⟩ = some (.int .i64 bn) ∧ W0.drew.cell? ⟨B + 1, 1, none⟩ = some (.string bb) ∧ W0.drew.cell? ⟨B + 1, 2, none⟩ = some (.string bv) ∧ Hid (MC W B an bn ab av bb bv W0.drew) :=
  MC.of ⟨h.b0, h.b1, h.low.drew⟩
theorem MC.alloc {W : World} {B : Nat} {an bn : Int} {ab av bb bv : ByteArray} {W0 : World} (h : Hid (MC W B an bn ab av bb bv W0)) (x : Obj) : (W0.alloc x).cell? ⟨B, 0, none⟩ = some (.int .i64 an) ∧ (W0.alloc x).cell? ⟨B, 1, none⟩ = some (.string ab) ∧ (W0.alloc x).cell? ⟨B, 2, none⟩ = some (.string av) ∧ (W0.alloc x).cell? ⟨B + 1, 0, none⟩ = some (.int .i64 bn) ∧ (W0.alloc x).cell? ⟨B + 1, 1, none⟩ = some (.string bb) ∧ (W0.alloc x).cell? ⟨B + 1, 2, none⟩ = some (.string bv) ∧ Hid (MC W B an bn ab av bb bv (W0.alloc x)) :=
  MC.of ⟨h.b0.alloc x, h.b1.alloc x, h.low.alloc (by have := h.b0.lt; have := h.low.size; omega) x⟩
theorem MC.new (W : World) (an bn : Int) (ab av bb bv : ByteArray) : MC W W.heap.size an bn ab av bb bv ((W.alloc (.cells #[.int .i64 an, .string ab, .string av] 61)).alloc (.cells #[.int .i64 bn, .string bb, .string bv] 61)) :=
  ⟨(Blk.new _ _ _).alloc _, by simpa using Blk.new (W.alloc (.cells #[.int .i64 an, .string ab, .string av] 61)) 61 #[.int .i64 bn, .string bb, .string bv], ((Below.refl _ _).alloc (Nat.le_refl _) _).alloc (by simp) _⟩
set_option maxHeartbeats 2000000 in
theorem comp_any (a b : Rg) (W : World) : Calls Try.prog 44 #[a.val, b.val] W fun e w' => e = .returned (.int .i64 (a.comp b)) ∧ Below W.heap.size W w' := by
  obtain ⟨an, ab, av⟩ := a
  obtain ⟨bn, bb, bv⟩ := b
  have hc := Lib.hid (show Rg.comp ⟨an, ab, av⟩ ⟨bn, bb, bv⟩ = or3 (cmpI an bn) (Lib.compareBytes ab.data.toList bb.data.toList) (Lib.compareBytes av.data.toList bv.data.toList) from rfl)
  have hM := MC.new W an bn ab av bb bv
  show Calls Try.prog 44 #[.agg #[.int .i64 an, .string ab, .string av], .agg #[.int .i64 bn, .string bb, .string bv]] W _
  go_enter Try.func44, Try.ntmps44
  go_wp2_with fail
  generalize (W.alloc (.cells #[.int .i64 an, .string ab, .string av] 61)).alloc (.cells #[.int .i64 bn, .string bb, .string bv] 61) = W1 at *
  generalize hB : W.heap.size = B at *
  have HB := Lib.hid hB
  clear hB
  have test := MC.drew hM
  go_region_held3 (fun w' => w'.cell? ⟨B, 0, none⟩ = some (.int .i64 an) ∧ w'.cell? ⟨B, 1, none⟩ = some (.string ab) ∧ w'.cell? ⟨B, 2, none⟩ = some (.string av) ∧ w'.cell? ⟨B + 1, 0, none⟩ = some (.int .i64 bn) ∧ w'.cell? ⟨B + 1, 1, none⟩ = some (.string bb) ∧ w'.cell? ⟨B + 1, 2, none⟩ = some (.string bv) ∧ Hid (MC W B an bn ab av bb bv w'))
    ((first | assumption | exact MC.drew (by assumption) | (go_split_ands; exact MC.drew (by assumption)) | (go_split_ands; exact MC.step (by assumption) (by assumption)) | (go_split_ands; exact MC.alloc (by assumption) _)))
    (first
      | (go_at_call 50; refine (cmp_any _ _ _).mono ?_; rintro e w' ⟨rfl, rfl⟩)
      | (go_at_call 51; refine (Try.strings_Compare _ _ _).mono ?_; rintro e w' ⟨rfl, rfl⟩)
      | (go_at_call 49; refine (or_new _ _ _ _).mono ?_; rintro e w' ⟨rfl, rfl⟩))
  rename_i hheld
  have hlast := Lib.hid hheld.2.2.2.2.2.2.low
  clear hheld test hM
  go_wp2
  go_ret
  exact ⟨ret_int (by rw [hc.out]), by rw [HB.out]; exact hlast.out⟩
def Rg.newer (a b : Rg) : Bool := decide (0 < a.comp b)
structure MN (W : World) (B : Nat) (an bn : Int) (ab av bb bv : ByteArray) (w' : World) : Prop where
  b0 : Blk w' (B) 28 #[.int .i64 an, .string ab, .string av]
  b1 : Blk w' (B + 1) 28 #[.int .i64 bn, .string bb, .string bv]
  low : Below (B) W w'
theorem MN.of {W : World} {B : Nat} {an bn : Int} {ab av bb bv : ByteArray} {w' : World} (h : MN W B an bn ab av bb bv w') : w'.cell? ⟨B, 0, none⟩ = some (.int .i64 an) ∧ w'.cell? ⟨B, 1, none⟩ = some (.string ab) ∧ w'.cell? ⟨B, 2, none⟩ = some (.string av) ∧ w'.cell? ⟨B + 1, 0, none⟩ = some (.int .i64 bn) ∧ w'.cell? ⟨B + 1, 1, none⟩ = some (.string bb) ∧ w'.cell? ⟨B + 1, 2, none⟩ = some (.string bv) ∧ Hid (MN W B an bn ab av bb bv w') :=
  ⟨by rw [h.b0.cell]; rfl, by rw [h.b0.cell]; rfl, by rw [h.b0.cell]; rfl, by rw [h.b1.cell]; rfl, by rw [h.b1.cell]; rfl, by rw [h.b1.cell]; rfl, h⟩
theorem MN.step0 {W : World} {B : Nat} {an bn : Int} {ab av bb bv : ByteArray} {W0 w' : World} (hb : Below W0.heap.size W0 w') (h : MN W B an bn ab av bb bv W0) : MN W B an bn ab av bb bv w' :=
  ⟨h.b0.below hb h.b0.lt, h.b1.below hb h.b1.lt, h.low.trans (hb.mono (by have := h.b0.lt; have := h.low.size; omega))⟩
theorem MN.step {W : World} {B : Nat} {an bn : Int} {ab av bb bv : ByteArray} {W0 w' : World} (hb : Below W0.heap.size W0 w') (h : Hid (MN W B an bn ab av bb bv W0)) : w'.cell? ⟨B, 0, none⟩ = some (.int .i64 an) ∧ w'.cell? ⟨B, 1, none⟩ = some (.string ab) ∧ w'.cell? ⟨B, 2, none⟩ = some (.string av) ∧ w'.cell? ⟨B + 1, 0, none⟩ = some (.int .i64 bn) ∧ w'.cell? ⟨B + 1, 1, none⟩ = some (.string bb) ∧ w'.cell? ⟨B + 1, 2, none⟩ = some (.string bv) ∧ Hid (MN W B an bn ab av bb bv w') :=
  MN.of (MN.step0 hb h)
theorem MN.drew {W : World} {B : Nat} {an bn : Int} {ab av bb bv : ByteArray} {W0 : World} (h : Hid (MN W B an bn ab av bb bv W0)) : W0.drew.cell? ⟨B, 0, none⟩ = some (.int .i64 an) ∧ W0.drew.cell? ⟨B, 1, none⟩ = some (.string ab) ∧ W0.drew.cell? ⟨B, 2, none⟩ = some (.string av) ∧ W0.drew.cell? ⟨B + 1, 0, none⟩ = some (.int .i64 bn) ∧ W0.drew.cell? ⟨B + 1, 1, none⟩ = some (.string bb) ∧ W0.drew.cell? ⟨B + 1, 2, none⟩ = some (.string bv) ∧ Hid (MN W B an bn ab av bb bv W0.drew) :=
  MN.of ⟨h.b0, h.b1, h.low.drew⟩
theorem MN.alloc {W : World} {B : Nat} {an bn : Int} {ab av bb bv : ByteArray} {W0 : World} (h : Hid (MN W B an bn ab av bb bv W0)) (x : Obj) : (W0.alloc x).cell? ⟨B, 0, none⟩ = some (.int .i64 an) ∧ (W0.alloc x).cell? ⟨B, 1, none⟩ = some (.string ab) ∧ (W0.alloc x).cell? ⟨B, 2, none⟩ = some (.string av) ∧ (W0.alloc x).cell? ⟨B + 1, 0, none⟩ = some (.int .i64 bn) ∧ (W0.alloc x).cell? ⟨B + 1, 1, none⟩ = some (.string bb) ∧ (W0.alloc x).cell? ⟨B + 1, 2, none⟩ = some (.string bv) ∧ Hid (MN W B an bn ab av bb bv (W0.alloc x)) :=
  MN.of ⟨h.b0.alloc x, h.b1.alloc x, h.low.alloc (by have := h.b0.lt; have := h.low.size; omega) x⟩
theorem MN.new (W : World) (an bn : Int) (ab av bb bv : ByteArray) : MN W W.heap.size an bn ab av bb bv ((W.alloc (.cells #[.int .i64 an, .string ab, .string av] 28)).alloc (.cells #[.int .i64 bn, .string bb, .string bv] 28)) :=
  ⟨(Blk.new _ _ _).alloc _, by simpa using Blk.new (W.alloc (.cells #[.int .i64 an, .string ab, .string av] 28)) 28 #[.int .i64 bn, .string bb, .string bv], ((Below.refl _ _).alloc (Nat.le_refl _) _).alloc (by simp) _⟩
theorem newer_any (a b : Rg) (W : World) : Calls Try.prog 33 #[a.val, b.val] W fun e w' => e = .returned (.bool (a.newer b)) ∧ Below W.heap.size W w' := by
  obtain ⟨an, ab, av⟩ := a
  obtain ⟨bn, bb, bv⟩ := b
  have hN := Lib.hid (show Rg.newer ⟨an, ab, av⟩ ⟨bn, bb, bv⟩ = decide (0 < Rg.comp ⟨an, ab, av⟩ ⟨bn, bb, bv⟩) from rfl)
  have hM := MN.new W an bn ab av bb bv
  show Calls Try.prog 33 #[.agg #[.int .i64 an, .string ab, .string av], .agg #[.int .i64 bn, .string bb, .string bv]] W _
  go_enter Try.func33, Try.ntmps33
  go_wp2_with fail
  refine (comp_any ⟨an, ab, av⟩ ⟨bn, bb, bv⟩ _).mono ?_
  generalize Rg.comp ⟨an, ab, av⟩ ⟨bn, bb, bv⟩ = c at *
  rintro e w1 ⟨rfl, hb⟩
  have hlow := Lib.hid (MN.step0 hb hM).low
  clear hb hM
  go_wp2
  go_ret
  exact ⟨ret_bool (by rw [hN.out]), hlow.out⟩
def Rg.join (a b : Rg) : Rg := if b.newer a then b else a
theorem join_any (a b : Rg) (W : World) : Calls Try.prog 39 #[a.val, b.val] W fun e w' => e = .returned (a.join b).val ∧ Below W.heap.size W w' := by
  obtain ⟨an, ab, av⟩ := a
  obtain ⟨bn, bb, bv⟩ := b
  have hN := Lib.hid (show Rg.join ⟨an, ab, av⟩ ⟨bn, bb, bv⟩ = if Rg.newer ⟨bn, bb, bv⟩ ⟨an, ab, av⟩ then ⟨bn, bb, bv⟩ else ⟨an, ab, av⟩ from rfl)
  have hM := (MN.new W an bn ab av bb bv)
  have hD : Blk (((W.alloc (.cells #[.int .i64 an, .string ab, .string av] 28)).alloc (.cells #[.int .i64 bn, .string bb, .string bv] 28)).alloc (.cells #[.int .i64 0, .string ByteArray.empty, .string ByteArray.empty] 28)) (W.heap.size + 2) 28 #[.int .i64 0, .string ByteArray.empty, .string ByteArray.empty] := by
    simpa using Blk.new ((W.alloc (.cells #[.int .i64 an, .string ab, .string av] 28)).alloc (.cells #[.int .i64 bn, .string bb, .string bv] 28)) 28 #[.int .i64 0, .string ByteArray.empty, .string ByteArray.empty]
  show Calls Try.prog 39 #[.agg #[.int .i64 an, .string ab, .string av], .agg #[.int .i64 bn, .string bb, .string bv]] W _
  have hM := (MN.alloc hM (.cells #[.int .i64 0, .string ByteArray.empty, .string ByteArray.empty] 28)).2.2.2.2.2.2
  go_enter Try.func39, Try.ntmps39
  go_wp2_with fail
  refine (newer_any ⟨bn, bb, bv⟩ ⟨an, ab, av⟩ _).mono ?_
  cases hq : Rg.newer ⟨bn, bb, bv⟩ ⟨an, ab, av⟩
  all_goals
    rw [hq] at hN
    have hN2 := Lib.hid hN.out
    simp only [if_true, Bool.false_eq_true, if_false] at hN2
    clear hN hq
    rintro e w1 ⟨rfl, hb⟩
    have hM1 := MN.step0 hb hM
    have hD1 := hD.below hb hD.lt
    obtain ⟨b0, b1, b2, a0, a1, a2, -⟩ := MN.of hM1
    have d0 : w1.cell? ⟨W.heap.size + 2, 0, none⟩ = some (.int .i64 0) := by rw [hD1.cell]; rfl
    have d1 : w1.cell? ⟨W.heap.size + 2, 1, none⟩ = some (.string ByteArray.empty) := by rw [hD1.cell]; rfl
    have d2 : w1.cell? ⟨W.heap.size + 2, 2, none⟩ = some (.string ByteArray.empty) := by rw [hD1.cell]; rfl
    have f0 := hD1.frozen 0
    have f1 := hD1.frozen 1
    have f2 := hD1.frozen 2
    have hlow := Lib.hid hM1.low
    clear hb hM1 hD1 hD hM
    go_wp2
  · exact bodyPost_ret (v := .agg #[.int .i64 an, .string ab, .string av]) (by simp [results, Try.results39, go_sem, d0, d1, d2]) rfl ⟨by rw [hN2.out], ((hlow.out.setCell (by simp; omega) _).setCell (by simp; omega) _).setCell (by simp; omega) _⟩
  · exact bodyPost_ret (v := .agg #[.int .i64 bn, .string bb, .string bv]) (by simp [results, Try.results39, go_sem, d0, d1, d2]) rfl ⟨by rw [hN2.out], ((hlow.out.setCell (by simp; omega) _).setCell (by simp; omega) _).setCell (by simp; omega) _⟩
end Go.Proofs.Ytdnefcpmechjkaa.reg
