/- The walk of RegisterOrder. -/
import Derived.Test.YtcfipdlcmpploaaC
namespace Go.Proofs.Ytcfipdlcmpploaa.reg
open Go.ChangeShapes Go.WideShapes Go.ChangeAt Go.RowKit Go.Proofs.Aid Go.Proofs.Ytcfipdlcmpploaa.name
def Rg.few (r : Rg) : Bool := decide (r.by_.size ≤ 100) && decide (r.value.size ≤ 300)
theorem few_any (r : Rg) (W : World) (hb : r.by_.size ≤ maxLen) (hv : r.value.size ≤ maxLen) : Calls Try.prog 6 #[r.val] W fun e w' => e = .returned (.bool r.few) ∧ Below W.heap.size W w' := by
  obtain ⟨n, b, v⟩ := r
  simp only at hb hv
  unfold maxLen at hb hv
  have hF := Lib.hid (show Rg.few ⟨n, b, v⟩ = (decide (b.size ≤ 100) && decide (v.size ≤ 300)) from rfl)
  show Calls Try.prog 6 #[.agg #[.int .i64 n, .string b, .string v]] W _
  by_cases h1 : b.size ≤ 100
  · by_cases h2 : v.size ≤ 300
    all_goals
      go_enter Try.func6, Try.ntmps6
      go_wp2
      go_ret
      exact ⟨ret_bool (by rw [hF.out]; simp [h1, h2] <;> omega), (Below.refl _ _).alloc (Nat.le_refl _) _⟩
  · go_enter Try.func6, Try.ntmps6
    go_wp2
    go_ret
    exact ⟨ret_bool (by rw [hF.out]; simp [h1] <;> omega), (Below.refl _ _).alloc (Nat.le_refl _) _⟩
theorem ops0 {x : Oper} {l : List Oper} : (x :: l).toArray[0]? = some x := rfl
theorem opsS {x y : Oper} {l : List Oper} {i : Nat} (h : l.toArray[i]? = some y) : (x :: l).toArray[i + 1]? = some y := by simpa using h
abbrev JoinAt (a b r : Rg) : Prop := ∀ w : World, Calls Try.prog 12 #[a.val, b.val] w fun e w' => e = .returned r.val ∧ Below w.heap.size w w'
theorem joinAt {a b r : Rg} (h : a.join b = r) : JoinAt a b r := fun w => by have := join_any a b w; rw [h] at this; exact this
abbrev NewerAt (a b : Rg) (r : Bool) : Prop := ∀ w : World, Calls Try.prog 10 #[a.val, b.val] w fun e w' => e = .returned (.bool r) ∧ Below w.heap.size w w'
theorem newerAt {a b : Rg} {r : Bool} (h : a.newer b = r) : NewerAt a b r := fun w => by have := newer_any a b w; rw [h] at this; exact this
structure MO (W : World) (B C : Nat) (an bn cn en : Int) (ab av bb bv cb cv eb ev : ByteArray) (w' : World) : Prop where
  b0 : Blk w' (B) 23 #[.int .i64 an, .string ab, .string av]
  b1 : Blk w' (B + 1) 23 #[.int .i64 bn, .string bb, .string bv]
  b2 : Blk w' (B + 1 + 1) 23 #[.int .i64 cn, .string cb, .string cv]
  b3 : Blk w' (C) 23 #[.int .i64 en, .string eb, .string ev]
  low : Below (B) W w'
theorem MO.of {W : World} {B C : Nat} {an bn cn en : Int} {ab av bb bv cb cv eb ev : ByteArray} {w' : World} (h : MO W B C an bn cn en ab av bb bv cb cv eb ev w') : w'.cell? ⟨B, 0, none⟩ = some (.int .i64 an) ∧ w'.cell? ⟨B, 1, none⟩ = some (.string ab) ∧ w'.cell? ⟨B, 2, none⟩ = some (.string av) ∧ w'.cell? ⟨B + 1, 0, none⟩ = some (.int .i64 bn) ∧ w'.cell? ⟨B + 1, 1, none⟩ = some (.string bb) ∧ w'.cell? ⟨B + 1, 2, none⟩ = some (.string bv) ∧ w'.cell? ⟨B + 1 + 1, 0, none⟩ = some (.int .i64 cn) ∧ w'.cell? ⟨B + 1 + 1, 1, none⟩ = some (.string cb) ∧ w'.cell? ⟨B + 1 + 1, 2, none⟩ = some (.string cv) ∧ w'.cell? ⟨C, 0, none⟩ = some (.int .i64 en) ∧ w'.cell? ⟨C, 1, none⟩ = some (.string eb) ∧ w'.cell? ⟨C, 2, none⟩ = some (.string ev) ∧ Hid (MO W B C an bn cn en ab av bb bv cb cv eb ev w') :=
  ⟨by rw [h.b0.cell]; rfl, by rw [h.b0.cell]; rfl, by rw [h.b0.cell]; rfl, by rw [h.b1.cell]; rfl, by rw [h.b1.cell]; rfl, by rw [h.b1.cell]; rfl, by rw [h.b2.cell]; rfl, by rw [h.b2.cell]; rfl, by rw [h.b2.cell]; rfl, by rw [h.b3.cell]; rfl, by rw [h.b3.cell]; rfl, by rw [h.b3.cell]; rfl, h⟩
theorem MO.step0 {W : World} {B C : Nat} {an bn cn en : Int} {ab av bb bv cb cv eb ev : ByteArray} {W0 w' : World} (hb : Below W0.heap.size W0 w') (h : MO W B C an bn cn en ab av bb bv cb cv eb ev W0) : MO W B C an bn cn en ab av bb bv cb cv eb ev w' :=
  ⟨h.b0.below hb h.b0.lt, h.b1.below hb h.b1.lt, h.b2.below hb h.b2.lt, h.b3.below hb h.b3.lt, h.low.trans (hb.mono (by have := h.b0.lt; have := h.low.size; omega))⟩
theorem MO.step {W : World} {B C : Nat} {an bn cn en : Int} {ab av bb bv cb cv eb ev : ByteArray} {W0 w' : World} (hb : Below W0.heap.size W0 w') (h : Hid (MO W B C an bn cn en ab av bb bv cb cv eb ev W0)) : w'.cell? ⟨B, 0, none⟩ = some (.int .i64 an) ∧ w'.cell? ⟨B, 1, none⟩ = some (.string ab) ∧ w'.cell? ⟨B, 2, none⟩ = some (.string av) ∧ w'.cell? ⟨B + 1, 0, none⟩ = some (.int .i64 bn) ∧ w'.cell? ⟨B + 1, 1, none⟩ = some (.string bb) ∧ w'.cell? ⟨B + 1, 2, none⟩ = some (.string bv) ∧ w'.cell? ⟨B + 1 + 1, 0, none⟩ = some (.int .i64 cn) ∧ w'.cell? ⟨B + 1 + 1, 1, none⟩ = some (.string cb) ∧ w'.cell? ⟨B + 1 + 1, 2, none⟩ = some (.string cv) ∧ w'.cell? ⟨C, 0, none⟩ = some (.int .i64 en) ∧ w'.cell? ⟨C, 1, none⟩ = some (.string eb) ∧ w'.cell? ⟨C, 2, none⟩ = some (.string ev) ∧ Hid (MO W B C an bn cn en ab av bb bv cb cv eb ev w') :=
  MO.of (MO.step0 hb h)
theorem MO.drew {W : World} {B C : Nat} {an bn cn en : Int} {ab av bb bv cb cv eb ev : ByteArray} {W0 : World} (h : Hid (MO W B C an bn cn en ab av bb bv cb cv eb ev W0)) : W0.drew.cell? ⟨B, 0, none⟩ = some (.int .i64 an) ∧ W0.drew.cell? ⟨B, 1, none⟩ = some (.string ab) ∧ W0.drew.cell? ⟨B, 2, none⟩ = some (.string av) ∧ W0.drew.cell? ⟨B + 1, 0, none⟩ = some (.int .i64 bn) ∧ W0.drew.cell? ⟨B + 1, 1, none⟩ = some (.string bb) ∧ W0.drew.cell? ⟨B + 1, 2, none⟩ = some (.string bv) ∧ W0.drew.cell? ⟨B + 1 + 1, 0, none⟩ = some (.int .i64 cn) ∧ W0.drew.cell? ⟨B + 1 + 1, 1, none⟩ = some (.string cb) ∧ W0.drew.cell? ⟨B + 1 + 1, 2, none⟩ = some (.string cv) ∧ W0.drew.cell? ⟨C, 0, none⟩ = some (.int .i64 en) ∧ W0.drew.cell? ⟨C, 1, none⟩ = some (.string eb) ∧ W0.drew.cell? ⟨C, 2, none⟩ = some (.string ev) ∧ Hid (MO W B C an bn cn en ab av bb bv cb cv eb ev W0.drew) :=
  MO.of ⟨h.b0, h.b1, h.b2, h.b3, h.low.drew⟩
theorem MO.alloc {W : World} {B C : Nat} {an bn cn en : Int} {ab av bb bv cb cv eb ev : ByteArray} {W0 : World} (h : Hid (MO W B C an bn cn en ab av bb bv cb cv eb ev W0)) (x : Obj) : (W0.alloc x).cell? ⟨B, 0, none⟩ = some (.int .i64 an) ∧ (W0.alloc x).cell? ⟨B, 1, none⟩ = some (.string ab) ∧ (W0.alloc x).cell? ⟨B, 2, none⟩ = some (.string av) ∧ (W0.alloc x).cell? ⟨B + 1, 0, none⟩ = some (.int .i64 bn) ∧ (W0.alloc x).cell? ⟨B + 1, 1, none⟩ = some (.string bb) ∧ (W0.alloc x).cell? ⟨B + 1, 2, none⟩ = some (.string bv) ∧ (W0.alloc x).cell? ⟨B + 1 + 1, 0, none⟩ = some (.int .i64 cn) ∧ (W0.alloc x).cell? ⟨B + 1 + 1, 1, none⟩ = some (.string cb) ∧ (W0.alloc x).cell? ⟨B + 1 + 1, 2, none⟩ = some (.string cv) ∧ (W0.alloc x).cell? ⟨C, 0, none⟩ = some (.int .i64 en) ∧ (W0.alloc x).cell? ⟨C, 1, none⟩ = some (.string eb) ∧ (W0.alloc x).cell? ⟨C, 2, none⟩ = some (.string ev) ∧ Hid (MO W B C an bn cn en ab av bb bv cb cv eb ev (W0.alloc x)) :=
  MO.of ⟨h.b0.alloc x, h.b1.alloc x, h.b2.alloc x, h.b3.alloc x, h.low.alloc (by have := h.b0.lt; have := h.low.size; omega) x⟩
structure MP (W : World) (B : Nat) (an bn cn : Int) (ab av bb bv cb cv : ByteArray) (w' : World) : Prop where
  b0 : Blk w' (B) 23 #[.int .i64 an, .string ab, .string av]
  b1 : Blk w' (B + 1) 23 #[.int .i64 bn, .string bb, .string bv]
  b2 : Blk w' (B + 1 + 1) 23 #[.int .i64 cn, .string cb, .string cv]
  low : Below (B) W w'
theorem MP.of {W : World} {B : Nat} {an bn cn : Int} {ab av bb bv cb cv : ByteArray} {w' : World} (h : MP W B an bn cn ab av bb bv cb cv w') : w'.cell? ⟨B, 0, none⟩ = some (.int .i64 an) ∧ w'.cell? ⟨B, 1, none⟩ = some (.string ab) ∧ w'.cell? ⟨B, 2, none⟩ = some (.string av) ∧ w'.cell? ⟨B + 1, 0, none⟩ = some (.int .i64 bn) ∧ w'.cell? ⟨B + 1, 1, none⟩ = some (.string bb) ∧ w'.cell? ⟨B + 1, 2, none⟩ = some (.string bv) ∧ w'.cell? ⟨B + 1 + 1, 0, none⟩ = some (.int .i64 cn) ∧ w'.cell? ⟨B + 1 + 1, 1, none⟩ = some (.string cb) ∧ w'.cell? ⟨B + 1 + 1, 2, none⟩ = some (.string cv) ∧ Hid (MP W B an bn cn ab av bb bv cb cv w') :=
  ⟨by rw [h.b0.cell]; rfl, by rw [h.b0.cell]; rfl, by rw [h.b0.cell]; rfl, by rw [h.b1.cell]; rfl, by rw [h.b1.cell]; rfl, by rw [h.b1.cell]; rfl, by rw [h.b2.cell]; rfl, by rw [h.b2.cell]; rfl, by rw [h.b2.cell]; rfl, h⟩
theorem MP.step0 {W : World} {B : Nat} {an bn cn : Int} {ab av bb bv cb cv : ByteArray} {W0 w' : World} (hb : Below W0.heap.size W0 w') (h : MP W B an bn cn ab av bb bv cb cv W0) : MP W B an bn cn ab av bb bv cb cv w' :=
  ⟨h.b0.below hb h.b0.lt, h.b1.below hb h.b1.lt, h.b2.below hb h.b2.lt, h.low.trans (hb.mono (by have := h.b0.lt; have := h.low.size; omega))⟩
theorem MP.step {W : World} {B : Nat} {an bn cn : Int} {ab av bb bv cb cv : ByteArray} {W0 w' : World} (hb : Below W0.heap.size W0 w') (h : Hid (MP W B an bn cn ab av bb bv cb cv W0)) : w'.cell? ⟨B, 0, none⟩ = some (.int .i64 an) ∧ w'.cell? ⟨B, 1, none⟩ = some (.string ab) ∧ w'.cell? ⟨B, 2, none⟩ = some (.string av) ∧ w'.cell? ⟨B + 1, 0, none⟩ = some (.int .i64 bn) ∧ w'.cell? ⟨B + 1, 1, none⟩ = some (.string bb) ∧ w'.cell? ⟨B + 1, 2, none⟩ = some (.string bv) ∧ w'.cell? ⟨B + 1 + 1, 0, none⟩ = some (.int .i64 cn) ∧ w'.cell? ⟨B + 1 + 1, 1, none⟩ = some (.string cb) ∧ w'.cell? ⟨B + 1 + 1, 2, none⟩ = some (.string cv) ∧ Hid (MP W B an bn cn ab av bb bv cb cv w') :=
  MP.of (MP.step0 hb h)
theorem MP.drew {W : World} {B : Nat} {an bn cn : Int} {ab av bb bv cb cv : ByteArray} {W0 : World} (h : Hid (MP W B an bn cn ab av bb bv cb cv W0)) : W0.drew.cell? ⟨B, 0, none⟩ = some (.int .i64 an) ∧ W0.drew.cell? ⟨B, 1, none⟩ = some (.string ab) ∧ W0.drew.cell? ⟨B, 2, none⟩ = some (.string av) ∧ W0.drew.cell? ⟨B + 1, 0, none⟩ = some (.int .i64 bn) ∧ W0.drew.cell? ⟨B + 1, 1, none⟩ = some (.string bb) ∧ W0.drew.cell? ⟨B + 1, 2, none⟩ = some (.string bv) ∧ W0.drew.cell? ⟨B + 1 + 1, 0, none⟩ = some (.int .i64 cn) ∧ W0.drew.cell? ⟨B + 1 + 1, 1, none⟩ = some (.string cb) ∧ W0.drew.cell? ⟨B + 1 + 1, 2, none⟩ = some (.string cv) ∧ Hid (MP W B an bn cn ab av bb bv cb cv W0.drew) :=
  MP.of ⟨h.b0, h.b1, h.b2, h.low.drew⟩
theorem MP.alloc {W : World} {B : Nat} {an bn cn : Int} {ab av bb bv cb cv : ByteArray} {W0 : World} (h : Hid (MP W B an bn cn ab av bb bv cb cv W0)) (x : Obj) : (W0.alloc x).cell? ⟨B, 0, none⟩ = some (.int .i64 an) ∧ (W0.alloc x).cell? ⟨B, 1, none⟩ = some (.string ab) ∧ (W0.alloc x).cell? ⟨B, 2, none⟩ = some (.string av) ∧ (W0.alloc x).cell? ⟨B + 1, 0, none⟩ = some (.int .i64 bn) ∧ (W0.alloc x).cell? ⟨B + 1, 1, none⟩ = some (.string bb) ∧ (W0.alloc x).cell? ⟨B + 1, 2, none⟩ = some (.string bv) ∧ (W0.alloc x).cell? ⟨B + 1 + 1, 0, none⟩ = some (.int .i64 cn) ∧ (W0.alloc x).cell? ⟨B + 1 + 1, 1, none⟩ = some (.string cb) ∧ (W0.alloc x).cell? ⟨B + 1 + 1, 2, none⟩ = some (.string cv) ∧ Hid (MP W B an bn cn ab av bb bv cb cv (W0.alloc x)) :=
  MP.of ⟨h.b0.alloc x, h.b1.alloc x, h.b2.alloc x, h.low.alloc (by have := h.b0.lt; have := h.low.size; omega) x⟩
theorem MP.new (W : World) (an bn cn : Int) (ab av bb bv cb cv : ByteArray) : MP W W.heap.size an bn cn ab av bb bv cb cv (((W.alloc (.cells #[.int .i64 an, .string ab, .string av] 23)).alloc (.cells #[.int .i64 bn, .string bb, .string bv] 23)).alloc (.cells #[.int .i64 cn, .string cb, .string cv] 23)) :=
  ⟨((Blk.new _ _ _).alloc _).alloc _, by simpa using (Blk.new (W.alloc (.cells #[.int .i64 an, .string ab, .string av] 23)) 23 #[.int .i64 bn, .string bb, .string bv]).alloc (.cells #[.int .i64 cn, .string cb, .string cv] 23),
    by simpa using Blk.new ((W.alloc (.cells #[.int .i64 an, .string ab, .string av] 23)).alloc (.cells #[.int .i64 bn, .string bb, .string bv] 23)) 23 #[.int .i64 cn, .string cb, .string cv],
    (((Below.refl _ _).alloc (Nat.le_refl _) _).alloc (by simp) _).alloc (by simp; omega) _⟩
theorem neq_at {n m : Int} {b v c u : ByteArray} (h : ¬ (n = m ∧ b = c ∧ v = u)) (w : World) : (binOp .neq 23 (.agg #[.int .i64 n, .string b, .string v]) (.agg #[.int .i64 m, .string c, .string u])).run Try.prog w = .ok (.bool true) w := by
  go_simp
  intro h1 h2 h3
  refine h ⟨h1, ?_, ?_⟩
  · apply ByteArray.ext; apply Array.toList_inj.1; rw [← Lib.toList_data, ← Lib.toList_data]; exact h2
  · apply ByteArray.ext; apply Array.toList_inj.1; rw [← Lib.toList_data, ← Lib.toList_data]; exact h3
set_option maxHeartbeats 8000000 in
theorem order_left (W : World) (an bn cn dn rn : Int) (ab av bb bv cb cv db dv rb rv : ByteArray)
    (sa : ab.size ≤ maxLen) (sav : av.size ≤ maxLen) (sb : bb.size ≤ maxLen) (sbv : bv.size ≤ maxLen) (sc : cb.size ≤ maxLen) (scv : cv.size ≤ maxLen)
    (fa : Rg.few ⟨an, ab, av⟩ = true) (fb : Rg.few ⟨bn, bb, bv⟩ = true) (fc : Rg.few ⟨cn, cb, cv⟩ = true)
    (k0 : JoinAt ⟨an, ab, av⟩ ⟨bn, bb, bv⟩ ⟨an, ab, av⟩) (k1 : JoinAt ⟨bn, bb, bv⟩ ⟨an, ab, av⟩ ⟨an, ab, av⟩) (k2 : JoinAt ⟨an, ab, av⟩ ⟨an, ab, av⟩ ⟨an, ab, av⟩) (k3 : JoinAt ⟨an, ab, av⟩ ⟨cn, cb, cv⟩ ⟨rn, rb, rv⟩) (k4 : JoinAt ⟨bn, bb, bv⟩ ⟨cn, cb, cv⟩ ⟨dn, db, dv⟩) (k5 : JoinAt ⟨an, ab, av⟩ ⟨dn, db, dv⟩ ⟨rn, rb, rv⟩)
    (n1 : NewerAt ⟨an, ab, av⟩ ⟨bn, bb, bv⟩ true) (n2 : NewerAt ⟨bn, bb, bv⟩ ⟨an, ab, av⟩ false) (hne : ¬ (an = bn ∧ ab = bb ∧ av = bv)) :
    Calls Try.prog 5 #[.agg #[.int .i64 an, .string ab, .string av], .agg #[.int .i64 bn, .string bb, .string bv], .agg #[.int .i64 cn, .string cb, .string cv]] W fun e w' => e = .returned (.bool true) ∧ Below W.heap.size W w' := by
  have SA := Lib.hid sa; have SAV := Lib.hid sav; have SB := Lib.hid sb; have SBV := Lib.hid sbv; have SC := Lib.hid sc; have SCV := Lib.hid scv
  clear sa sav sb sbv sc scv
  have K0 := Lib.hid k0; have K1 := Lib.hid k1; have K2 := Lib.hid k2; have K3 := Lib.hid k3; have K4 := Lib.hid k4; have K5 := Lib.hid k5; have N1 := Lib.hid n1; have N2 := Lib.hid n2
  clear k0 k1 k2 k3 k4 k5 n1 n2
  have FA := Lib.hid fa; have FB := Lib.hid fb; have FC := Lib.hid fc
  clear fa fb fc
  have hq := fun w => neq_at hne w
  have hq2 := fun w => neq_at (show ¬ (bn = an ∧ bb = ab ∧ bv = av) from fun h => hne ⟨h.1.symm, h.2.1.symm, h.2.2.symm⟩) w
  clear hne
  have hM := MP.new W an bn cn ab av bb bv cb cv
  go_enter Try.func5, Try.ntmps5
  go_wp2_with fail
  refine (few_any ⟨an, ab, av⟩ _ SA.out SAV.out).mono ?_
  rw [FA.out]
  rintro e w1 ⟨rfl, hb⟩
  replace hM := MP.step hb hM
  obtain ⟨a0, a1, a2, b0, b1, b2, c0, c1, c2, hM⟩ := hM
  clear hb
  go_wp2_with fail
  refine (few_any ⟨bn, bb, bv⟩ _ SB.out SBV.out).mono ?_
  rw [FB.out]
  rintro e w2 ⟨rfl, hb⟩
  clear a0 a1 a2 b0 b1 b2 c0 c1 c2
  replace hM := MP.step hb hM
  obtain ⟨a0, a1, a2, b0, b1, b2, c0, c1, c2, hM⟩ := hM
  clear hb
  go_wp2_with fail
  refine (few_any ⟨cn, cb, cv⟩ _ SC.out SCV.out).mono ?_
  rw [FC.out]
  rintro e w3 ⟨rfl, hb⟩
  clear a0 a1 a2 b0 b1 b2 c0 c1 c2
  replace hM := MP.step hb hM
  obtain ⟨a0, a1, a2, b0, b1, b2, c0, c1, c2, hM⟩ := hM
  clear hb
  go_wp2_with fail
  refine (K0.out _).mono ?_
  rintro e w4 ⟨rfl, hb⟩
  clear a0 a1 a2 b0 b1 b2 c0 c1 c2
  have hM := MP.step0 hb hM
  clear hb
  have hO : MO W W.heap.size w4.heap.size an bn cn an ab av bb bv cb cv ab av (w4.alloc (.cells #[.int .i64 an, .string ab, .string av] 23)) :=
    ⟨hM.b0.alloc _, hM.b1.alloc _, hM.b2.alloc _, Blk.new _ _ _, hM.low.alloc hM.low.size _⟩
  clear hM
  go_wp2_with fail
  generalize w4.alloc (.cells #[.int .i64 an, .string ab, .string av] 23) = W5 at *
  generalize w4.heap.size = C at *
  generalize hB : W.heap.size = B at *
  have HB := Lib.hid hB
  clear hB
  have test := MO.drew hO
  clear hO
  refine wp_region_held_drew (S := (fun w' => w'.cell? ⟨B, 0, none⟩ = some (.int .i64 an) ∧ w'.cell? ⟨B, 1, none⟩ = some (.string ab) ∧ w'.cell? ⟨B, 2, none⟩ = some (.string av) ∧ w'.cell? ⟨B + 1, 0, none⟩ = some (.int .i64 bn) ∧ w'.cell? ⟨B + 1, 1, none⟩ = some (.string bb) ∧ w'.cell? ⟨B + 1, 2, none⟩ = some (.string bv) ∧ w'.cell? ⟨B + 1 + 1, 0, none⟩ = some (.int .i64 cn) ∧ w'.cell? ⟨B + 1 + 1, 1, none⟩ = some (.string cb) ∧ w'.cell? ⟨B + 1 + 1, 2, none⟩ = some (.string cv) ∧ w'.cell? ⟨C, 0, none⟩ = some (.int .i64 an) ∧ w'.cell? ⟨C, 1, none⟩ = some (.string ab) ∧ w'.cell? ⟨C, 2, none⟩ = some (.string av) ∧ Hid (MO W B C an (bn) cn (an) ab av (bb) (bv) cb cv (ab) (av) w'))) (by kernel_rfl) ?_ (fun hHeldp0 => ?_)
  · exact test
  refine wpAnyH_take (i := 0) (v := ?vp0) ops0 (by kernel_rfl) (by kernel_rfl) (by kernel_rfl) (fun _ _ _ h => h) (Or.inl ⟨by rfl, ?yp0⟩) hHeldp0 ?_
  case yp0 => (intro w hSw; (try dsimp only at hSw); go_simp; try (with_reducible rfl))
  try simp only [Act.put, List.setIfInBounds_toArray, List.set_cons_zero, List.set_cons_succ]
  refine wpAnyH_take (i := 1) (v := ?vp1) (opsS ops0) (by kernel_rfl) (by kernel_rfl) (by kernel_rfl) (fun _ _ _ h => h) (Or.inl ⟨by rfl, ?yp1⟩) hHeldp0 ?_
  case yp1 => (intro w hSw; (try dsimp only at hSw); go_simp; try (with_reducible rfl))
  try simp only [Act.put, List.setIfInBounds_toArray, List.set_cons_zero, List.set_cons_succ]
  refine wpAnyH_take (i := 2) (v := ?vp2) (opsS (opsS ops0)) (by kernel_rfl) (by kernel_rfl) (by kernel_rfl) (fun _ _ _ h => h) (Or.inl ⟨by rfl, ?yp2⟩) hHeldp0 ?_
  case yp2 => (intro w hSw; (try dsimp only at hSw); go_simp; try (with_reducible rfl))
  try simp only [Act.put, List.setIfInBounds_toArray, List.set_cons_zero, List.set_cons_succ]
  refine wpAnyH_ready (rs := [3]) (by kernel_rfl) (by simp) ?_
  refine AllReadyH.cons (opsS (opsS (opsS ops0))) (fun K hK => ?_) AllReadyH.nil
  go_simp
  (first | (with_reducible refine (K1.out _).mono ?_) | (with_reducible refine (K2.out _).mono ?_)); rintro e w' ⟨rfl, hb⟩
  dsimp only
  refine hK.out _ _ ?_ (fun hHeldp1 => ?_)
  · (first | assumption | exact MO.drew (by assumption) | (go_split_ands; exact MO.drew (by assumption)) | (go_split_ands; exact MO.step (by assumption) (by assumption)) | (go_split_ands; exact MO.alloc (by assumption) _))
  clear hK K hHeldp0
  try clear hb
  try simp only [Act.put, List.setIfInBounds_toArray, List.set_cons_zero, List.set_cons_succ]
  refine wpAnyH_take (i := 4) (v := ?vp4) (opsS (opsS (opsS (opsS ops0)))) (by kernel_rfl) (by kernel_rfl) (by kernel_rfl) (fun _ _ _ h => h) (Or.inl ⟨by rfl, ?yp4⟩) hHeldp1 ?_
  case yp4 => (intro w hSw; (try dsimp only at hSw); go_simp; try (with_reducible rfl))
  try simp only [Act.put, List.setIfInBounds_toArray, List.set_cons_zero, List.set_cons_succ]
  refine wpAnyH_take (i := 5) (v := ?vp5) (opsS (opsS (opsS (opsS (opsS ops0))))) (by kernel_rfl) (by kernel_rfl) (by kernel_rfl) (fun _ _ _ h => h) (Or.inl ⟨by rfl, ?yp5⟩) hHeldp1 ?_
  case yp5 => (intro w hSw; (try dsimp only at hSw); go_simp; try (with_reducible rfl))
  try simp only [Act.put, List.setIfInBounds_toArray, List.set_cons_zero, List.set_cons_succ]
  refine wpAnyH_take (i := 6) (v := ?vp6) (opsS (opsS (opsS (opsS (opsS (opsS ops0)))))) (by kernel_rfl) (by kernel_rfl) (by kernel_rfl) (fun _ _ _ h => h) (Or.inl ⟨by rfl, ?yp6⟩) hHeldp1 ?_
  case yp6 => (intro w hSw; (try dsimp only at hSw); go_simp; try (with_reducible rfl))
  try simp only [Act.put, List.setIfInBounds_toArray, List.set_cons_zero, List.set_cons_succ]
  refine wpAnyH_take (i := 7) (v := ?vp7) (opsS (opsS (opsS (opsS (opsS (opsS (opsS ops0))))))) (by kernel_rfl) (by kernel_rfl) (by kernel_rfl) (fun _ _ _ h => h) (Or.inl ⟨by rfl, ?yp7⟩) hHeldp1 ?_
  case yp7 => (intro w hSw; (try dsimp only at hSw); go_simp; try (with_reducible rfl))
  try simp only [Act.put, List.setIfInBounds_toArray, List.set_cons_zero, List.set_cons_succ]
  refine wpAnyH_take (i := 9) (v := ?vp9) (opsS (opsS (opsS (opsS (opsS (opsS (opsS (opsS (opsS ops0))))))))) (by kernel_rfl) (by kernel_rfl) (by kernel_rfl) (fun _ _ _ h => h) (Or.inl ⟨by rfl, ?yp9⟩) hHeldp1 ?_
  case yp9 => (intro w hSw; (try dsimp only at hSw); go_simp; try (with_reducible rfl))
  try simp only [Act.put, List.setIfInBounds_toArray, List.set_cons_zero, List.set_cons_succ]
  refine wpAnyH_ready (rs := [8]) (by kernel_rfl) (by simp) ?_
  refine AllReadyH.cons (opsS (opsS (opsS (opsS (opsS (opsS (opsS (opsS ops0)))))))) (fun K hK => ?_) AllReadyH.nil
  go_simp
  (first | (with_reducible refine (K1.out _).mono ?_) | (with_reducible refine (K2.out _).mono ?_)); rintro e w' ⟨rfl, hb⟩
  dsimp only
  refine hK.out _ _ ?_ (fun hHeldp2 => ?_)
  · (first | assumption | exact MO.drew (by assumption) | (go_split_ands; exact MO.drew (by assumption)) | (go_split_ands; exact MO.step (by assumption) (by assumption)) | (go_split_ands; exact MO.alloc (by assumption) _))
  clear hK K hHeldp1
  try clear hb
  try simp only [Act.put, List.setIfInBounds_toArray, List.set_cons_zero, List.set_cons_succ]
  refine wpAnyH_take (i := 10) (v := ?vp10) (opsS (opsS (opsS (opsS (opsS (opsS (opsS (opsS (opsS (opsS ops0)))))))))) (by kernel_rfl) (by kernel_rfl) (by kernel_rfl) (fun _ _ _ h => h) (Or.inl ⟨by rfl, ?yp10⟩) hHeldp2 ?_
  case yp10 => (intro w hSw; (try dsimp only at hSw); go_simp; try (with_reducible rfl))
  try simp only [Act.put, List.setIfInBounds_toArray, List.set_cons_zero, List.set_cons_succ]
  refine wpAnyH_take (i := 11) (v := ?vp11) (opsS (opsS (opsS (opsS (opsS (opsS (opsS (opsS (opsS (opsS (opsS ops0))))))))))) (by kernel_rfl) (by kernel_rfl) (by kernel_rfl) (fun _ _ _ h => h) (Or.inl ⟨by rfl, ?yp11⟩) hHeldp2 ?_
  case yp11 => (intro w hSw; (try dsimp only at hSw); go_simp; try (with_reducible rfl))
  try simp only [Act.put, List.setIfInBounds_toArray, List.set_cons_zero, List.set_cons_succ]
  refine wpAnyH_take (i := 12) (v := ?vp12) (opsS (opsS (opsS (opsS (opsS (opsS (opsS (opsS (opsS (opsS (opsS (opsS ops0)))))))))))) (by kernel_rfl) (by kernel_rfl) (by kernel_rfl) (fun _ _ _ h => h) (Or.inl ⟨by rfl, ?yp12⟩) hHeldp2 ?_
  case yp12 => (intro w hSw; (try dsimp only at hSw); go_simp; try (with_reducible rfl))
  try simp only [Act.put, List.setIfInBounds_toArray, List.set_cons_zero, List.set_cons_succ]
  refine wpAnyH_take (i := 13) (v := ?vp13) (opsS (opsS (opsS (opsS (opsS (opsS (opsS (opsS (opsS (opsS (opsS (opsS (opsS ops0))))))))))))) (by kernel_rfl) (by kernel_rfl) (by kernel_rfl) (fun _ _ _ h => h) (Or.inl ⟨by rfl, ?yp13⟩) hHeldp2 ?_
  case yp13 => (intro w hSw; (try dsimp only at hSw); go_simp; try (with_reducible rfl))
  try simp only [Act.put, List.setIfInBounds_toArray, List.set_cons_zero, List.set_cons_succ]
  refine wpAnyH_take (i := 14) (v := ?vp14) (opsS (opsS (opsS (opsS (opsS (opsS (opsS (opsS (opsS (opsS (opsS (opsS (opsS (opsS ops0)))))))))))))) (by kernel_rfl) (by kernel_rfl) (by kernel_rfl) (fun _ _ _ h => h) (Or.inl ⟨by rfl, ?yp14⟩) hHeldp2 ?_
  case yp14 => (intro w hSw; (try dsimp only at hSw); go_simp; try (with_reducible rfl))
  try simp only [Act.put, List.setIfInBounds_toArray, List.set_cons_zero, List.set_cons_succ]
  refine wpAnyH_take (i := 15) (v := ?vp15) (opsS (opsS (opsS (opsS (opsS (opsS (opsS (opsS (opsS (opsS (opsS (opsS (opsS (opsS (opsS ops0))))))))))))))) (by kernel_rfl) (by kernel_rfl) (by kernel_rfl) (fun _ _ _ h => h) (Or.inl ⟨by rfl, ?yp15⟩) hHeldp2 ?_
  case yp15 => (intro w hSw; (try dsimp only at hSw); go_simp; try (with_reducible rfl))
  try simp only [Act.put, List.setIfInBounds_toArray, List.set_cons_zero, List.set_cons_succ]
  refine wpAnyH_take (i := 16) (v := ?vp16) (opsS (opsS (opsS (opsS (opsS (opsS (opsS (opsS (opsS (opsS (opsS (opsS (opsS (opsS (opsS (opsS ops0)))))))))))))))) (by kernel_rfl) (by kernel_rfl) (by kernel_rfl) (fun _ _ _ h => h) (Or.inl ⟨by rfl, ?yp16⟩) hHeldp2 ?_
  case yp16 => (intro w hSw; (try dsimp only at hSw); go_simp; try (with_reducible rfl))
  try simp only [Act.put, List.setIfInBounds_toArray, List.set_cons_zero, List.set_cons_succ]
  refine wpAnyH_take (i := 17) (v := undef) (opsS (opsS (opsS (opsS (opsS (opsS (opsS (opsS (opsS (opsS (opsS (opsS (opsS (opsS (opsS (opsS (opsS ops0))))))))))))))))) (by kernel_rfl) (by kernel_rfl) (by kernel_rfl) (fun _ _ _ h => h) (Or.inr ⟨by rfl, rfl⟩) hHeldp2 ?_
  try simp only [Act.put, List.setIfInBounds_toArray, List.set_cons_zero, List.set_cons_succ]
  refine wpAnyH_take (i := 18) (v := undef) (opsS (opsS (opsS (opsS (opsS (opsS (opsS (opsS (opsS (opsS (opsS (opsS (opsS (opsS (opsS (opsS (opsS (opsS ops0)))))))))))))))))) (by kernel_rfl) (by kernel_rfl) (by kernel_rfl) (fun _ _ _ h => h) (Or.inr ⟨by rfl, rfl⟩) hHeldp2 ?_
  try simp only [Act.put, List.setIfInBounds_toArray, List.set_cons_zero, List.set_cons_succ]
  refine wpAnyH_take (i := 19) (v := undef) (opsS (opsS (opsS (opsS (opsS (opsS (opsS (opsS (opsS (opsS (opsS (opsS (opsS (opsS (opsS (opsS (opsS (opsS (opsS ops0))))))))))))))))))) (by kernel_rfl) (by kernel_rfl) (by kernel_rfl) (fun _ _ _ h => h) (Or.inr ⟨by rfl, rfl⟩) hHeldp2 ?_
  try simp only [Act.put, List.setIfInBounds_toArray, List.set_cons_zero, List.set_cons_succ]
  refine wpAnyH_take (i := 20) (v := ?vp20) (opsS (opsS (opsS (opsS (opsS (opsS (opsS (opsS (opsS (opsS (opsS (opsS (opsS (opsS (opsS (opsS (opsS (opsS (opsS (opsS ops0)))))))))))))))))))) (by kernel_rfl) (by kernel_rfl) (by kernel_rfl) (fun _ _ _ h => h) (Or.inl ⟨by rfl, ?yp20⟩) hHeldp2 ?_
  case yp20 => (intro w hSw; (try dsimp only at hSw); go_simp; try (with_reducible rfl))
  try simp only [Act.put, List.setIfInBounds_toArray, List.set_cons_zero, List.set_cons_succ]
  refine wpAnyH_take (i := 21) (v := ?vp21) (opsS (opsS (opsS (opsS (opsS (opsS (opsS (opsS (opsS (opsS (opsS (opsS (opsS (opsS (opsS (opsS (opsS (opsS (opsS (opsS (opsS ops0))))))))))))))))))))) (by kernel_rfl) (by kernel_rfl) (by kernel_rfl) (fun _ _ _ h => h) (Or.inl ⟨by rfl, ?yp21⟩) hHeldp2 ?_
  case yp21 => (intro w hSw; (try dsimp only at hSw); go_simp; try (with_reducible rfl))
  try simp only [Act.put, List.setIfInBounds_toArray, List.set_cons_zero, List.set_cons_succ]
  refine wpAnyH_take (i := 22) (v := ?vp22) (opsS (opsS (opsS (opsS (opsS (opsS (opsS (opsS (opsS (opsS (opsS (opsS (opsS (opsS (opsS (opsS (opsS (opsS (opsS (opsS (opsS (opsS ops0)))))))))))))))))))))) (by kernel_rfl) (by kernel_rfl) (by kernel_rfl) (fun _ _ _ h => h) (Or.inl ⟨by rfl, ?yp22⟩) hHeldp2 ?_
  case yp22 => (intro w hSw; (try dsimp only at hSw); go_simp; try (with_reducible rfl))
  try simp only [Act.put, List.setIfInBounds_toArray, List.set_cons_zero, List.set_cons_succ]
  refine wpAnyH_take (i := 23) (v := ?vp23) (opsS (opsS (opsS (opsS (opsS (opsS (opsS (opsS (opsS (opsS (opsS (opsS (opsS (opsS (opsS (opsS (opsS (opsS (opsS (opsS (opsS (opsS (opsS ops0))))))))))))))))))))))) (by kernel_rfl) (by kernel_rfl) (by kernel_rfl) (fun _ _ _ h => h) (Or.inl ⟨by rfl, ?yp23⟩) hHeldp2 ?_
  case yp23 => (intro w hSw; (try dsimp only at hSw); go_simp; try (with_reducible rfl))
  try simp only [Act.put, List.setIfInBounds_toArray, List.set_cons_zero, List.set_cons_succ]
  refine wpAnyH_take (i := 24) (v := ?vp24) (opsS (opsS (opsS (opsS (opsS (opsS (opsS (opsS (opsS (opsS (opsS (opsS (opsS (opsS (opsS (opsS (opsS (opsS (opsS (opsS (opsS (opsS (opsS (opsS ops0)))))))))))))))))))))))) (by kernel_rfl) (by kernel_rfl) (by kernel_rfl) (fun _ _ _ h => h) (Or.inl ⟨by rfl, ?yp24⟩) hHeldp2 ?_
  case yp24 => (intro w hSw; (try dsimp only at hSw); go_simp; try (with_reducible rfl))
  try simp only [Act.put, List.setIfInBounds_toArray, List.set_cons_zero, List.set_cons_succ]
  refine wpAnyH_ready (rs := [25]) (by kernel_rfl) (by simp) ?_
  refine AllReadyH.cons (opsS (opsS (opsS (opsS (opsS (opsS (opsS (opsS (opsS (opsS (opsS (opsS (opsS (opsS (opsS (opsS (opsS (opsS (opsS (opsS (opsS (opsS (opsS (opsS (opsS ops0))))))))))))))))))))))))) (fun K hK => ?_) AllReadyH.nil
  go_simp
  (first | (with_reducible refine (N1.out _).mono ?_) | (with_reducible refine (N2.out _).mono ?_)); rintro e w' ⟨rfl, hb⟩
  dsimp only
  refine hK.out _ _ ?_ (fun hHeldp3 => ?_)
  · (first | assumption | exact MO.drew (by assumption) | (go_split_ands; exact MO.drew (by assumption)) | (go_split_ands; exact MO.step (by assumption) (by assumption)) | (go_split_ands; exact MO.alloc (by assumption) _))
  clear hK K hHeldp2
  try clear hb
  try simp only [Act.put, List.setIfInBounds_toArray, List.set_cons_zero, List.set_cons_succ]
  refine wpAnyH_take (i := 26) (v := ?vp26) (opsS (opsS (opsS (opsS (opsS (opsS (opsS (opsS (opsS (opsS (opsS (opsS (opsS (opsS (opsS (opsS (opsS (opsS (opsS (opsS (opsS (opsS (opsS (opsS (opsS (opsS ops0)))))))))))))))))))))))))) (by kernel_rfl) (by kernel_rfl) (by kernel_rfl) (fun _ _ _ h => h) (Or.inl ⟨by rfl, ?yp26⟩) hHeldp3 ?_
  case yp26 => (intro w hSw; (try dsimp only at hSw); go_simp; try (with_reducible rfl))
  try simp only [Act.put, List.setIfInBounds_toArray, List.set_cons_zero, List.set_cons_succ]
  refine wpAnyH_take (i := 27) (v := ?vp27) (opsS (opsS (opsS (opsS (opsS (opsS (opsS (opsS (opsS (opsS (opsS (opsS (opsS (opsS (opsS (opsS (opsS (opsS (opsS (opsS (opsS (opsS (opsS (opsS (opsS (opsS (opsS ops0))))))))))))))))))))))))))) (by kernel_rfl) (by kernel_rfl) (by kernel_rfl) (fun _ _ _ h => h) (Or.inl ⟨by rfl, ?yp27⟩) hHeldp3 ?_
  case yp27 => (intro w hSw; (try dsimp only at hSw); go_simp; try (with_reducible rfl))
  try simp only [Act.put, List.setIfInBounds_toArray, List.set_cons_zero, List.set_cons_succ]
  refine wpAnyH_take (i := 28) (v := ?vp28) (opsS (opsS (opsS (opsS (opsS (opsS (opsS (opsS (opsS (opsS (opsS (opsS (opsS (opsS (opsS (opsS (opsS (opsS (opsS (opsS (opsS (opsS (opsS (opsS (opsS (opsS (opsS (opsS ops0)))))))))))))))))))))))))))) (by kernel_rfl) (by kernel_rfl) (by kernel_rfl) (fun _ _ _ h => h) (Or.inl ⟨by rfl, ?yp28⟩) hHeldp3 ?_
  case yp28 => (intro w hSw; (try dsimp only at hSw); go_simp; try (with_reducible rfl))
  try simp only [Act.put, List.setIfInBounds_toArray, List.set_cons_zero, List.set_cons_succ]
  refine wpAnyH_ready (rs := [29]) (by kernel_rfl) (by simp) ?_
  refine AllReadyH.cons (opsS (opsS (opsS (opsS (opsS (opsS (opsS (opsS (opsS (opsS (opsS (opsS (opsS (opsS (opsS (opsS (opsS (opsS (opsS (opsS (opsS (opsS (opsS (opsS (opsS (opsS (opsS (opsS (opsS ops0))))))))))))))))))))))))))))) (fun K hK => ?_) AllReadyH.nil
  go_simp
  (first | (with_reducible refine (N1.out _).mono ?_) | (with_reducible refine (N2.out _).mono ?_)); rintro e w' ⟨rfl, hb⟩
  dsimp only
  refine hK.out _ _ ?_ (fun hHeldp4 => ?_)
  · (first | assumption | exact MO.drew (by assumption) | (go_split_ands; exact MO.drew (by assumption)) | (go_split_ands; exact MO.step (by assumption) (by assumption)) | (go_split_ands; exact MO.alloc (by assumption) _))
  clear hK K hHeldp3
  try clear hb
  try simp only [Act.put, List.setIfInBounds_toArray, List.set_cons_zero, List.set_cons_succ]
  refine wpAnyH_take (i := 30) (v := ?vp30) (opsS (opsS (opsS (opsS (opsS (opsS (opsS (opsS (opsS (opsS (opsS (opsS (opsS (opsS (opsS (opsS (opsS (opsS (opsS (opsS (opsS (opsS (opsS (opsS (opsS (opsS (opsS (opsS (opsS (opsS ops0)))))))))))))))))))))))))))))) (by kernel_rfl) (by kernel_rfl) (by kernel_rfl) (fun _ _ _ h => h) (Or.inl ⟨by rfl, ?yp30⟩) hHeldp4 ?_
  case yp30 => (intro w hSw; (try dsimp only at hSw); go_simp; try (with_reducible rfl))
  try simp only [Act.put, List.setIfInBounds_toArray, List.set_cons_zero, List.set_cons_succ]
  refine wpAnyH_take (i := 31) (v := ?vp31) (opsS (opsS (opsS (opsS (opsS (opsS (opsS (opsS (opsS (opsS (opsS (opsS (opsS (opsS (opsS (opsS (opsS (opsS (opsS (opsS (opsS (opsS (opsS (opsS (opsS (opsS (opsS (opsS (opsS (opsS (opsS ops0))))))))))))))))))))))))))))))) (by kernel_rfl) (by kernel_rfl) (by kernel_rfl) (fun _ _ _ h => h) (Or.inl ⟨by rfl, ?yp31⟩) hHeldp4 ?_
  case yp31 => (intro w hSw; (try dsimp only at hSw); go_simp; try (with_reducible rfl))
  try simp only [Act.put, List.setIfInBounds_toArray, List.set_cons_zero, List.set_cons_succ]
  refine wpAnyH_done (by kernel_rfl) ?_ _
  obtain ⟨a0, a1, a2, b0, b1, b2, c0, c1, c2, e0, e1, e2, hO⟩ := hHeldp4
  clear test
  go_wp2_with fail
  refine (N1.out _).mono ?_
  rintro e w6 ⟨rfl, hb⟩
  clear a0 a1 a2 b0 b1 b2 c0 c1 c2 e0 e1 e2
  replace hO := MO.step hb hO
  obtain ⟨a0, a1, a2, b0, b1, b2, c0, c1, c2, e0, e1, e2, hO⟩ := hO
  clear hb
  go_wp2_with fail
  have test := MO.drew hO
  clear a0 a1 a2 b0 b1 b2 c0 c1 c2 e0 e1 e2 hO
  refine wp_region_held_drew (S := (fun w' => w'.cell? ⟨B, 0, none⟩ = some (.int .i64 an) ∧ w'.cell? ⟨B, 1, none⟩ = some (.string ab) ∧ w'.cell? ⟨B, 2, none⟩ = some (.string av) ∧ w'.cell? ⟨B + 1, 0, none⟩ = some (.int .i64 bn) ∧ w'.cell? ⟨B + 1, 1, none⟩ = some (.string bb) ∧ w'.cell? ⟨B + 1, 2, none⟩ = some (.string bv) ∧ w'.cell? ⟨B + 1 + 1, 0, none⟩ = some (.int .i64 cn) ∧ w'.cell? ⟨B + 1 + 1, 1, none⟩ = some (.string cb) ∧ w'.cell? ⟨B + 1 + 1, 2, none⟩ = some (.string cv) ∧ w'.cell? ⟨C, 0, none⟩ = some (.int .i64 an) ∧ w'.cell? ⟨C, 1, none⟩ = some (.string ab) ∧ w'.cell? ⟨C, 2, none⟩ = some (.string av) ∧ Hid (MO W B C an (bn) cn (an) ab av (bb) (bv) cb cv (ab) (av) w'))) (by kernel_rfl) ?_ (fun hHeldq0 => ?_)
  · exact test
  refine wpAnyH_take (i := 0) (v := ?vq0) ops0 (by kernel_rfl) (by kernel_rfl) (by kernel_rfl) (fun _ _ _ h => h) (Or.inl ⟨by rfl, ?yq0⟩) hHeldq0 ?_
  case yq0 => (intro w hSw; (try dsimp only at hSw); go_simp; try (with_reducible rfl))
  try simp only [Act.put, List.setIfInBounds_toArray, List.set_cons_zero, List.set_cons_succ]
  refine wpAnyH_take (i := 1) (v := ?vq1) (opsS ops0) (by kernel_rfl) (by kernel_rfl) (by kernel_rfl) (fun _ _ _ h => h) (Or.inl ⟨by rfl, ?yq1⟩) hHeldq0 ?_
  case yq1 => (intro w hSw; (try dsimp only at hSw); go_simp; try (with_reducible rfl))
  try simp only [Act.put, List.setIfInBounds_toArray, List.set_cons_zero, List.set_cons_succ]
  refine wpAnyH_take (i := 3) (v := ?vq3) (opsS (opsS (opsS ops0))) (by kernel_rfl) (by kernel_rfl) (by kernel_rfl) (fun _ _ _ h => h) (Or.inl ⟨by rfl, ?yq3⟩) hHeldq0 ?_
  case yq3 => (intro w hSw; (try dsimp only at hSw); go_simp; try (with_reducible rfl))
  try simp only [Act.put, List.setIfInBounds_toArray, List.set_cons_zero, List.set_cons_succ]
  refine wpAnyH_take (i := 4) (v := ?vq4) (opsS (opsS (opsS (opsS ops0)))) (by kernel_rfl) (by kernel_rfl) (by kernel_rfl) (fun _ _ _ h => h) (Or.inl ⟨by rfl, ?yq4⟩) hHeldq0 ?_
  case yq4 => (intro w hSw; (try dsimp only at hSw); go_simp; try (with_reducible rfl))
  try simp only [Act.put, List.setIfInBounds_toArray, List.set_cons_zero, List.set_cons_succ]
  refine wpAnyH_take (i := 5) (v := ?vq5) (opsS (opsS (opsS (opsS (opsS ops0))))) (by kernel_rfl) (by kernel_rfl) (by kernel_rfl) (fun _ _ _ h => h) (Or.inl ⟨by rfl, ?yq5⟩) hHeldq0 ?_
  case yq5 => (intro w hSw; (try dsimp only at hSw); go_simp; try (with_reducible rfl))
  try simp only [Act.put, List.setIfInBounds_toArray, List.set_cons_zero, List.set_cons_succ]
  refine wpAnyH_ready (rs := [2]) (by kernel_rfl) (by simp) ?_
  refine AllReadyH.cons (opsS (opsS ops0)) (fun K hK => ?_) AllReadyH.nil
  go_simp
  (first | (with_reducible refine (K3.out _).mono ?_) | (with_reducible refine (K4.out _).mono ?_) | (with_reducible refine (K5.out _).mono ?_)); rintro e w' ⟨rfl, hb⟩
  dsimp only
  refine hK.out _ _ ?_ (fun hHeldq1 => ?_)
  · (first | assumption | exact MO.drew (by assumption) | (go_split_ands; exact MO.drew (by assumption)) | (go_split_ands; exact MO.step (by assumption) (by assumption)) | (go_split_ands; exact MO.alloc (by assumption) _))
  clear hK K hHeldq0
  try clear hb
  try simp only [Act.put, List.setIfInBounds_toArray, List.set_cons_zero, List.set_cons_succ]
  refine wpAnyH_ready (rs := [6]) (by kernel_rfl) (by simp) ?_
  refine AllReadyH.cons (opsS (opsS (opsS (opsS (opsS (opsS ops0)))))) (fun K hK => ?_) AllReadyH.nil
  go_simp
  (first | (with_reducible refine (K3.out _).mono ?_) | (with_reducible refine (K4.out _).mono ?_) | (with_reducible refine (K5.out _).mono ?_)); rintro e w' ⟨rfl, hb⟩
  dsimp only
  refine hK.out _ _ ?_ (fun hHeldq2 => ?_)
  · (first | assumption | exact MO.drew (by assumption) | (go_split_ands; exact MO.drew (by assumption)) | (go_split_ands; exact MO.step (by assumption) (by assumption)) | (go_split_ands; exact MO.alloc (by assumption) _))
  clear hK K hHeldq1
  try clear hb
  try simp only [Act.put, List.setIfInBounds_toArray, List.set_cons_zero, List.set_cons_succ]
  refine wpAnyH_ready (rs := [7]) (by kernel_rfl) (by simp) ?_
  refine AllReadyH.cons (opsS (opsS (opsS (opsS (opsS (opsS (opsS ops0))))))) (fun K hK => ?_) AllReadyH.nil
  go_simp
  (first | (with_reducible refine (K3.out _).mono ?_) | (with_reducible refine (K4.out _).mono ?_) | (with_reducible refine (K5.out _).mono ?_)); rintro e w' ⟨rfl, hb⟩
  dsimp only
  refine hK.out _ _ ?_ (fun hHeldq3 => ?_)
  · (first | assumption | exact MO.drew (by assumption) | (go_split_ands; exact MO.drew (by assumption)) | (go_split_ands; exact MO.step (by assumption) (by assumption)) | (go_split_ands; exact MO.alloc (by assumption) _))
  clear hK K hHeldq2
  try clear hb
  try simp only [Act.put, List.setIfInBounds_toArray, List.set_cons_zero, List.set_cons_succ]
  refine wpAnyH_take (i := 8) (v := ?vq8) (opsS (opsS (opsS (opsS (opsS (opsS (opsS (opsS ops0)))))))) (by kernel_rfl) (by kernel_rfl) (by kernel_rfl) (fun _ _ _ h => h) (Or.inl ⟨by rfl, ?yq8⟩) hHeldq3 ?_
  case yq8 => (intro w hSw; (try dsimp only at hSw); go_simp; try (with_reducible rfl))
  try simp only [Act.put, List.setIfInBounds_toArray, List.set_cons_zero, List.set_cons_succ]
  refine wpAnyH_take (i := 9) (v := ?vq9) (opsS (opsS (opsS (opsS (opsS (opsS (opsS (opsS (opsS ops0))))))))) (by kernel_rfl) (by kernel_rfl) (by kernel_rfl) (fun _ _ _ h => h) (Or.inl ⟨by rfl, ?yq9⟩) hHeldq3 ?_
  case yq9 => (intro w hSw; (try dsimp only at hSw); go_simp; try (with_reducible rfl))
  try simp only [Act.put, List.setIfInBounds_toArray, List.set_cons_zero, List.set_cons_succ]
  refine wpAnyH_ready (rs := [10]) (by kernel_rfl) (by simp) ?_
  refine AllReadyH.cons (opsS (opsS (opsS (opsS (opsS (opsS (opsS (opsS (opsS (opsS ops0)))))))))) (fun K hK => ?_) AllReadyH.nil
  go_simp
  refine (awake_any _).mono ?_; rintro e w' ⟨rfl, hb⟩
  dsimp only
  refine hK.out _ _ ?_ (fun hHeldq4 => ?_)
  · (first | assumption | exact MO.drew (by assumption) | (go_split_ands; exact MO.drew (by assumption)) | (go_split_ands; exact MO.step (by assumption) (by assumption)) | (go_split_ands; exact MO.alloc (by assumption) _))
  clear hK K hHeldq3
  try clear hb
  try simp only [Act.put, List.setIfInBounds_toArray, List.set_cons_zero, List.set_cons_succ]
  refine wpAnyH_take (i := 11) (v := ?vq11) (opsS (opsS (opsS (opsS (opsS (opsS (opsS (opsS (opsS (opsS (opsS ops0))))))))))) (by kernel_rfl) (by kernel_rfl) (by kernel_rfl) (fun _ _ _ h => h) (Or.inl ⟨by rfl, ?yq11⟩) hHeldq4 ?_
  case yq11 => (intro w hSw; (try dsimp only at hSw); go_simp; try (with_reducible rfl))
  try simp only [Act.put, List.setIfInBounds_toArray, List.set_cons_zero, List.set_cons_succ]
  refine wpAnyH_take (i := 12) (v := ?vq12) (opsS (opsS (opsS (opsS (opsS (opsS (opsS (opsS (opsS (opsS (opsS (opsS ops0)))))))))))) (by kernel_rfl) (by kernel_rfl) (by kernel_rfl) (fun _ _ _ h => h) (Or.inl ⟨by rfl, ?yq12⟩) hHeldq4 ?_
  case yq12 => (intro w hSw; (try dsimp only at hSw); go_simp; try (with_reducible rfl))
  try simp only [Act.put, List.setIfInBounds_toArray, List.set_cons_zero, List.set_cons_succ]
  refine wpAnyH_done (by kernel_rfl) ?_ _
  have hfin := hHeldq4.2.2.2.2.2.2.2.2.2.2.2.2.low
  clear hHeldq4 test
  go_wp2
  go_ret
  exact ⟨rfl, by rw [HB.out]; exact hfin⟩
set_option maxHeartbeats 8000000 in
theorem order_right (W : World) (an bn cn rn : Int) (ab av bb bv cb cv rb rv : ByteArray)
    (sa : ab.size ≤ maxLen) (sav : av.size ≤ maxLen) (sb : bb.size ≤ maxLen) (sbv : bv.size ≤ maxLen) (sc : cb.size ≤ maxLen) (scv : cv.size ≤ maxLen)
    (fa : Rg.few ⟨an, ab, av⟩ = true) (fb : Rg.few ⟨bn, bb, bv⟩ = true) (fc : Rg.few ⟨cn, cb, cv⟩ = true)
    (k0 : JoinAt ⟨an, ab, av⟩ ⟨bn, bb, bv⟩ ⟨bn, bb, bv⟩) (k1 : JoinAt ⟨bn, bb, bv⟩ ⟨an, ab, av⟩ ⟨bn, bb, bv⟩) (k2 : JoinAt ⟨an, ab, av⟩ ⟨an, ab, av⟩ ⟨an, ab, av⟩) (k3 : JoinAt ⟨bn, bb, bv⟩ ⟨cn, cb, cv⟩ ⟨rn, rb, rv⟩) (k4 : JoinAt ⟨bn, bb, bv⟩ ⟨cn, cb, cv⟩ ⟨rn, rb, rv⟩) (k5 : JoinAt ⟨an, ab, av⟩ ⟨rn, rb, rv⟩ ⟨rn, rb, rv⟩)
    (n1 : NewerAt ⟨an, ab, av⟩ ⟨bn, bb, bv⟩ false) (n2 : NewerAt ⟨bn, bb, bv⟩ ⟨an, ab, av⟩ true) (hne : ¬ (an = bn ∧ ab = bb ∧ av = bv)) :
    Calls Try.prog 5 #[.agg #[.int .i64 an, .string ab, .string av], .agg #[.int .i64 bn, .string bb, .string bv], .agg #[.int .i64 cn, .string cb, .string cv]] W fun e w' => e = .returned (.bool true) ∧ Below W.heap.size W w' := by
  have SA := Lib.hid sa; have SAV := Lib.hid sav; have SB := Lib.hid sb; have SBV := Lib.hid sbv; have SC := Lib.hid sc; have SCV := Lib.hid scv
  clear sa sav sb sbv sc scv
  have K0 := Lib.hid k0; have K1 := Lib.hid k1; have K2 := Lib.hid k2; have K3 := Lib.hid k3; have K4 := Lib.hid k4; have K5 := Lib.hid k5; have N1 := Lib.hid n1; have N2 := Lib.hid n2
  clear k0 k1 k2 k3 k4 k5 n1 n2
  have FA := Lib.hid fa; have FB := Lib.hid fb; have FC := Lib.hid fc
  clear fa fb fc
  have hq := fun w => neq_at hne w
  have hq2 := fun w => neq_at (show ¬ (bn = an ∧ bb = ab ∧ bv = av) from fun h => hne ⟨h.1.symm, h.2.1.symm, h.2.2.symm⟩) w
  clear hne
  have hM := MP.new W an bn cn ab av bb bv cb cv
  go_enter Try.func5, Try.ntmps5
  go_wp2_with fail
  refine (few_any ⟨an, ab, av⟩ _ SA.out SAV.out).mono ?_
  rw [FA.out]
  rintro e w1 ⟨rfl, hb⟩
  replace hM := MP.step hb hM
  obtain ⟨a0, a1, a2, b0, b1, b2, c0, c1, c2, hM⟩ := hM
  clear hb
  go_wp2_with fail
  refine (few_any ⟨bn, bb, bv⟩ _ SB.out SBV.out).mono ?_
  rw [FB.out]
  rintro e w2 ⟨rfl, hb⟩
  clear a0 a1 a2 b0 b1 b2 c0 c1 c2
  replace hM := MP.step hb hM
  obtain ⟨a0, a1, a2, b0, b1, b2, c0, c1, c2, hM⟩ := hM
  clear hb
  go_wp2_with fail
  refine (few_any ⟨cn, cb, cv⟩ _ SC.out SCV.out).mono ?_
  rw [FC.out]
  rintro e w3 ⟨rfl, hb⟩
  clear a0 a1 a2 b0 b1 b2 c0 c1 c2
  replace hM := MP.step hb hM
  obtain ⟨a0, a1, a2, b0, b1, b2, c0, c1, c2, hM⟩ := hM
  clear hb
  go_wp2_with fail
  refine (K0.out _).mono ?_
  rintro e w4 ⟨rfl, hb⟩
  clear a0 a1 a2 b0 b1 b2 c0 c1 c2
  have hM := MP.step0 hb hM
  clear hb
  have hO : MO W W.heap.size w4.heap.size an bn cn bn ab av bb bv cb cv bb bv (w4.alloc (.cells #[.int .i64 bn, .string bb, .string bv] 23)) :=
    ⟨hM.b0.alloc _, hM.b1.alloc _, hM.b2.alloc _, Blk.new _ _ _, hM.low.alloc hM.low.size _⟩
  clear hM
  go_wp2_with fail
  generalize w4.alloc (.cells #[.int .i64 bn, .string bb, .string bv] 23) = W5 at *
  generalize w4.heap.size = C at *
  generalize hB : W.heap.size = B at *
  have HB := Lib.hid hB
  clear hB
  have test := MO.drew hO
  clear hO
  refine wp_region_held_drew (S := (fun w' => w'.cell? ⟨B, 0, none⟩ = some (.int .i64 an) ∧ w'.cell? ⟨B, 1, none⟩ = some (.string ab) ∧ w'.cell? ⟨B, 2, none⟩ = some (.string av) ∧ w'.cell? ⟨B + 1, 0, none⟩ = some (.int .i64 bn) ∧ w'.cell? ⟨B + 1, 1, none⟩ = some (.string bb) ∧ w'.cell? ⟨B + 1, 2, none⟩ = some (.string bv) ∧ w'.cell? ⟨B + 1 + 1, 0, none⟩ = some (.int .i64 cn) ∧ w'.cell? ⟨B + 1 + 1, 1, none⟩ = some (.string cb) ∧ w'.cell? ⟨B + 1 + 1, 2, none⟩ = some (.string cv) ∧ w'.cell? ⟨C, 0, none⟩ = some (.int .i64 bn) ∧ w'.cell? ⟨C, 1, none⟩ = some (.string bb) ∧ w'.cell? ⟨C, 2, none⟩ = some (.string bv) ∧ Hid (MO W B C an (bn) cn (bn) ab av (bb) (bv) cb cv (bb) (bv) w'))) (by kernel_rfl) ?_ (fun hHeldp0 => ?_)
  · exact test
  refine wpAnyH_take (i := 0) (v := ?vp0) ops0 (by kernel_rfl) (by kernel_rfl) (by kernel_rfl) (fun _ _ _ h => h) (Or.inl ⟨by rfl, ?yp0⟩) hHeldp0 ?_
  case yp0 => (intro w hSw; (try dsimp only at hSw); go_simp; try (with_reducible rfl))
  try simp only [Act.put, List.setIfInBounds_toArray, List.set_cons_zero, List.set_cons_succ]
  refine wpAnyH_take (i := 1) (v := ?vp1) (opsS ops0) (by kernel_rfl) (by kernel_rfl) (by kernel_rfl) (fun _ _ _ h => h) (Or.inl ⟨by rfl, ?yp1⟩) hHeldp0 ?_
  case yp1 => (intro w hSw; (try dsimp only at hSw); go_simp; try (with_reducible rfl))
  try simp only [Act.put, List.setIfInBounds_toArray, List.set_cons_zero, List.set_cons_succ]
  refine wpAnyH_take (i := 2) (v := ?vp2) (opsS (opsS ops0)) (by kernel_rfl) (by kernel_rfl) (by kernel_rfl) (fun _ _ _ h => h) (Or.inl ⟨by rfl, ?yp2⟩) hHeldp0 ?_
  case yp2 => (intro w hSw; (try dsimp only at hSw); go_simp; try (with_reducible rfl))
  try simp only [Act.put, List.setIfInBounds_toArray, List.set_cons_zero, List.set_cons_succ]
  refine wpAnyH_ready (rs := [3]) (by kernel_rfl) (by simp) ?_
  refine AllReadyH.cons (opsS (opsS (opsS ops0))) (fun K hK => ?_) AllReadyH.nil
  go_simp
  (first | (with_reducible refine (K1.out _).mono ?_) | (with_reducible refine (K2.out _).mono ?_)); rintro e w' ⟨rfl, hb⟩
  dsimp only
  refine hK.out _ _ ?_ (fun hHeldp1 => ?_)
  · (first | assumption | exact MO.drew (by assumption) | (go_split_ands; exact MO.drew (by assumption)) | (go_split_ands; exact MO.step (by assumption) (by assumption)) | (go_split_ands; exact MO.alloc (by assumption) _))
  clear hK K hHeldp0
  try clear hb
  try simp only [Act.put, List.setIfInBounds_toArray, List.set_cons_zero, List.set_cons_succ]
  refine wpAnyH_take (i := 4) (v := ?vp4) (opsS (opsS (opsS (opsS ops0)))) (by kernel_rfl) (by kernel_rfl) (by kernel_rfl) (fun _ _ _ h => h) (Or.inl ⟨by rfl, ?yp4⟩) hHeldp1 ?_
  case yp4 => (intro w hSw; (try dsimp only at hSw); go_simp; try (with_reducible rfl))
  try simp only [Act.put, List.setIfInBounds_toArray, List.set_cons_zero, List.set_cons_succ]
  refine wpAnyH_take (i := 5) (v := ?vp5) (opsS (opsS (opsS (opsS (opsS ops0))))) (by kernel_rfl) (by kernel_rfl) (by kernel_rfl) (fun _ _ _ h => h) (Or.inl ⟨by rfl, ?yp5⟩) hHeldp1 ?_
  case yp5 => (intro w hSw; (try dsimp only at hSw); go_simp; try (with_reducible rfl))
  try simp only [Act.put, List.setIfInBounds_toArray, List.set_cons_zero, List.set_cons_succ]
  refine wpAnyH_take (i := 6) (v := ?vp6) (opsS (opsS (opsS (opsS (opsS (opsS ops0)))))) (by kernel_rfl) (by kernel_rfl) (by kernel_rfl) (fun _ _ _ h => h) (Or.inl ⟨by rfl, ?yp6⟩) hHeldp1 ?_
  case yp6 => (intro w hSw; (try dsimp only at hSw); go_simp; try (with_reducible rfl))
  try simp only [Act.put, List.setIfInBounds_toArray, List.set_cons_zero, List.set_cons_succ]
  refine wpAnyH_take (i := 7) (v := ?vp7) (opsS (opsS (opsS (opsS (opsS (opsS (opsS ops0))))))) (by kernel_rfl) (by kernel_rfl) (by kernel_rfl) (fun _ _ _ h => h) (Or.inl ⟨by rfl, ?yp7⟩) hHeldp1 ?_
  case yp7 => (intro w hSw; (try dsimp only at hSw); go_simp; try (with_reducible rfl))
  try simp only [Act.put, List.setIfInBounds_toArray, List.set_cons_zero, List.set_cons_succ]
  refine wpAnyH_take (i := 9) (v := ?vp9) (opsS (opsS (opsS (opsS (opsS (opsS (opsS (opsS (opsS ops0))))))))) (by kernel_rfl) (by kernel_rfl) (by kernel_rfl) (fun _ _ _ h => h) (Or.inl ⟨by rfl, ?yp9⟩) hHeldp1 ?_
  case yp9 => (intro w hSw; (try dsimp only at hSw); go_simp; try (with_reducible rfl))
  try simp only [Act.put, List.setIfInBounds_toArray, List.set_cons_zero, List.set_cons_succ]
  refine wpAnyH_ready (rs := [8]) (by kernel_rfl) (by simp) ?_
  refine AllReadyH.cons (opsS (opsS (opsS (opsS (opsS (opsS (opsS (opsS ops0)))))))) (fun K hK => ?_) AllReadyH.nil
  go_simp
  (first | (with_reducible refine (K1.out _).mono ?_) | (with_reducible refine (K2.out _).mono ?_)); rintro e w' ⟨rfl, hb⟩
  dsimp only
  refine hK.out _ _ ?_ (fun hHeldp2 => ?_)
  · (first | assumption | exact MO.drew (by assumption) | (go_split_ands; exact MO.drew (by assumption)) | (go_split_ands; exact MO.step (by assumption) (by assumption)) | (go_split_ands; exact MO.alloc (by assumption) _))
  clear hK K hHeldp1
  try clear hb
  try simp only [Act.put, List.setIfInBounds_toArray, List.set_cons_zero, List.set_cons_succ]
  refine wpAnyH_take (i := 10) (v := ?vp10) (opsS (opsS (opsS (opsS (opsS (opsS (opsS (opsS (opsS (opsS ops0)))))))))) (by kernel_rfl) (by kernel_rfl) (by kernel_rfl) (fun _ _ _ h => h) (Or.inl ⟨by rfl, ?yp10⟩) hHeldp2 ?_
  case yp10 => (intro w hSw; (try dsimp only at hSw); go_simp; try (with_reducible rfl))
  try simp only [Act.put, List.setIfInBounds_toArray, List.set_cons_zero, List.set_cons_succ]
  refine wpAnyH_take (i := 11) (v := ?vp11) (opsS (opsS (opsS (opsS (opsS (opsS (opsS (opsS (opsS (opsS (opsS ops0))))))))))) (by kernel_rfl) (by kernel_rfl) (by kernel_rfl) (fun _ _ _ h => h) (Or.inl ⟨by rfl, ?yp11⟩) hHeldp2 ?_
  case yp11 => (intro w hSw; (try dsimp only at hSw); go_simp; try (with_reducible rfl))
  try simp only [Act.put, List.setIfInBounds_toArray, List.set_cons_zero, List.set_cons_succ]
  refine wpAnyH_take (i := 12) (v := ?vp12) (opsS (opsS (opsS (opsS (opsS (opsS (opsS (opsS (opsS (opsS (opsS (opsS ops0)))))))))))) (by kernel_rfl) (by kernel_rfl) (by kernel_rfl) (fun _ _ _ h => h) (Or.inl ⟨by rfl, ?yp12⟩) hHeldp2 ?_
  case yp12 => (intro w hSw; (try dsimp only at hSw); go_simp; try (with_reducible rfl))
  try simp only [Act.put, List.setIfInBounds_toArray, List.set_cons_zero, List.set_cons_succ]
  refine wpAnyH_take (i := 13) (v := ?vp13) (opsS (opsS (opsS (opsS (opsS (opsS (opsS (opsS (opsS (opsS (opsS (opsS (opsS ops0))))))))))))) (by kernel_rfl) (by kernel_rfl) (by kernel_rfl) (fun _ _ _ h => h) (Or.inl ⟨by rfl, ?yp13⟩) hHeldp2 ?_
  case yp13 => (intro w hSw; (try dsimp only at hSw); go_simp; try (with_reducible rfl))
  try simp only [Act.put, List.setIfInBounds_toArray, List.set_cons_zero, List.set_cons_succ]
  refine wpAnyH_take (i := 14) (v := ?vp14) (opsS (opsS (opsS (opsS (opsS (opsS (opsS (opsS (opsS (opsS (opsS (opsS (opsS (opsS ops0)))))))))))))) (by kernel_rfl) (by kernel_rfl) (by kernel_rfl) (fun _ _ _ h => h) (Or.inl ⟨by rfl, ?yp14⟩) hHeldp2 ?_
  case yp14 => (intro w hSw; (try dsimp only at hSw); go_simp; try (with_reducible rfl))
  try simp only [Act.put, List.setIfInBounds_toArray, List.set_cons_zero, List.set_cons_succ]
  refine wpAnyH_take (i := 15) (v := ?vp15) (opsS (opsS (opsS (opsS (opsS (opsS (opsS (opsS (opsS (opsS (opsS (opsS (opsS (opsS (opsS ops0))))))))))))))) (by kernel_rfl) (by kernel_rfl) (by kernel_rfl) (fun _ _ _ h => h) (Or.inl ⟨by rfl, ?yp15⟩) hHeldp2 ?_
  case yp15 => (intro w hSw; (try dsimp only at hSw); go_simp; try (with_reducible rfl))
  try simp only [Act.put, List.setIfInBounds_toArray, List.set_cons_zero, List.set_cons_succ]
  refine wpAnyH_take (i := 16) (v := ?vp16) (opsS (opsS (opsS (opsS (opsS (opsS (opsS (opsS (opsS (opsS (opsS (opsS (opsS (opsS (opsS (opsS ops0)))))))))))))))) (by kernel_rfl) (by kernel_rfl) (by kernel_rfl) (fun _ _ _ h => h) (Or.inl ⟨by rfl, ?yp16⟩) hHeldp2 ?_
  case yp16 => (intro w hSw; (try dsimp only at hSw); go_simp; try (with_reducible rfl))
  try simp only [Act.put, List.setIfInBounds_toArray, List.set_cons_zero, List.set_cons_succ]
  refine wpAnyH_take (i := 17) (v := ?vp17) (opsS (opsS (opsS (opsS (opsS (opsS (opsS (opsS (opsS (opsS (opsS (opsS (opsS (opsS (opsS (opsS (opsS ops0))))))))))))))))) (by kernel_rfl) (by kernel_rfl) (by kernel_rfl) (fun _ _ _ h => h) (Or.inl ⟨by rfl, ?yp17⟩) hHeldp2 ?_
  case yp17 => (intro w hSw; (try dsimp only at hSw); go_simp; try (with_reducible rfl))
  try simp only [Act.put, List.setIfInBounds_toArray, List.set_cons_zero, List.set_cons_succ]
  refine wpAnyH_take (i := 18) (v := ?vp18) (opsS (opsS (opsS (opsS (opsS (opsS (opsS (opsS (opsS (opsS (opsS (opsS (opsS (opsS (opsS (opsS (opsS (opsS ops0)))))))))))))))))) (by kernel_rfl) (by kernel_rfl) (by kernel_rfl) (fun _ _ _ h => h) (Or.inl ⟨by rfl, ?yp18⟩) hHeldp2 ?_
  case yp18 => (intro w hSw; (try dsimp only at hSw); go_simp; try (with_reducible rfl))
  try simp only [Act.put, List.setIfInBounds_toArray, List.set_cons_zero, List.set_cons_succ]
  refine wpAnyH_take (i := 19) (v := ?vp19) (opsS (opsS (opsS (opsS (opsS (opsS (opsS (opsS (opsS (opsS (opsS (opsS (opsS (opsS (opsS (opsS (opsS (opsS (opsS ops0))))))))))))))))))) (by kernel_rfl) (by kernel_rfl) (by kernel_rfl) (fun _ _ _ h => h) (Or.inl ⟨by rfl, ?yp19⟩) hHeldp2 ?_
  case yp19 => (intro w hSw; (try dsimp only at hSw); go_simp; try (with_reducible rfl))
  try simp only [Act.put, List.setIfInBounds_toArray, List.set_cons_zero, List.set_cons_succ]
  refine wpAnyH_take (i := 20) (v := ?vp20) (opsS (opsS (opsS (opsS (opsS (opsS (opsS (opsS (opsS (opsS (opsS (opsS (opsS (opsS (opsS (opsS (opsS (opsS (opsS (opsS ops0)))))))))))))))))))) (by kernel_rfl) (by kernel_rfl) (by kernel_rfl) (fun _ _ _ h => h) (Or.inl ⟨by rfl, ?yp20⟩) hHeldp2 ?_
  case yp20 => (intro w hSw; (try dsimp only at hSw); go_simp; try (with_reducible rfl))
  try simp only [Act.put, List.setIfInBounds_toArray, List.set_cons_zero, List.set_cons_succ]
  refine wpAnyH_take (i := 21) (v := ?vp21) (opsS (opsS (opsS (opsS (opsS (opsS (opsS (opsS (opsS (opsS (opsS (opsS (opsS (opsS (opsS (opsS (opsS (opsS (opsS (opsS (opsS ops0))))))))))))))))))))) (by kernel_rfl) (by kernel_rfl) (by kernel_rfl) (fun _ _ _ h => h) (Or.inl ⟨by rfl, ?yp21⟩) hHeldp2 ?_
  case yp21 => (intro w hSw; (try dsimp only at hSw); go_simp; try (with_reducible rfl))
  try simp only [Act.put, List.setIfInBounds_toArray, List.set_cons_zero, List.set_cons_succ]
  refine wpAnyH_take (i := 22) (v := ?vp22) (opsS (opsS (opsS (opsS (opsS (opsS (opsS (opsS (opsS (opsS (opsS (opsS (opsS (opsS (opsS (opsS (opsS (opsS (opsS (opsS (opsS (opsS ops0)))))))))))))))))))))) (by kernel_rfl) (by kernel_rfl) (by kernel_rfl) (fun _ _ _ h => h) (Or.inl ⟨by rfl, ?yp22⟩) hHeldp2 ?_
  case yp22 => (intro w hSw; (try dsimp only at hSw); go_simp; try (with_reducible rfl))
  try simp only [Act.put, List.setIfInBounds_toArray, List.set_cons_zero, List.set_cons_succ]
  refine wpAnyH_take (i := 23) (v := ?vp23) (opsS (opsS (opsS (opsS (opsS (opsS (opsS (opsS (opsS (opsS (opsS (opsS (opsS (opsS (opsS (opsS (opsS (opsS (opsS (opsS (opsS (opsS (opsS ops0))))))))))))))))))))))) (by kernel_rfl) (by kernel_rfl) (by kernel_rfl) (fun _ _ _ h => h) (Or.inl ⟨by rfl, ?yp23⟩) hHeldp2 ?_
  case yp23 => (intro w hSw; (try dsimp only at hSw); go_simp; try (with_reducible rfl))
  try simp only [Act.put, List.setIfInBounds_toArray, List.set_cons_zero, List.set_cons_succ]
  refine wpAnyH_take (i := 24) (v := ?vp24) (opsS (opsS (opsS (opsS (opsS (opsS (opsS (opsS (opsS (opsS (opsS (opsS (opsS (opsS (opsS (opsS (opsS (opsS (opsS (opsS (opsS (opsS (opsS (opsS ops0)))))))))))))))))))))))) (by kernel_rfl) (by kernel_rfl) (by kernel_rfl) (fun _ _ _ h => h) (Or.inl ⟨by rfl, ?yp24⟩) hHeldp2 ?_
  case yp24 => (intro w hSw; (try dsimp only at hSw); go_simp; try (with_reducible rfl))
  try simp only [Act.put, List.setIfInBounds_toArray, List.set_cons_zero, List.set_cons_succ]
  refine wpAnyH_ready (rs := [25]) (by kernel_rfl) (by simp) ?_
  refine AllReadyH.cons (opsS (opsS (opsS (opsS (opsS (opsS (opsS (opsS (opsS (opsS (opsS (opsS (opsS (opsS (opsS (opsS (opsS (opsS (opsS (opsS (opsS (opsS (opsS (opsS (opsS ops0))))))))))))))))))))))))) (fun K hK => ?_) AllReadyH.nil
  go_simp
  (first | (with_reducible refine (N1.out _).mono ?_) | (with_reducible refine (N2.out _).mono ?_)); rintro e w' ⟨rfl, hb⟩
  dsimp only
  refine hK.out _ _ ?_ (fun hHeldp3 => ?_)
  · (first | assumption | exact MO.drew (by assumption) | (go_split_ands; exact MO.drew (by assumption)) | (go_split_ands; exact MO.step (by assumption) (by assumption)) | (go_split_ands; exact MO.alloc (by assumption) _))
  clear hK K hHeldp2
  try clear hb
  try simp only [Act.put, List.setIfInBounds_toArray, List.set_cons_zero, List.set_cons_succ]
  refine wpAnyH_take (i := 26) (v := ?vp26) (opsS (opsS (opsS (opsS (opsS (opsS (opsS (opsS (opsS (opsS (opsS (opsS (opsS (opsS (opsS (opsS (opsS (opsS (opsS (opsS (opsS (opsS (opsS (opsS (opsS (opsS ops0)))))))))))))))))))))))))) (by kernel_rfl) (by kernel_rfl) (by kernel_rfl) (fun _ _ _ h => h) (Or.inl ⟨by rfl, ?yp26⟩) hHeldp3 ?_
  case yp26 => (intro w hSw; (try dsimp only at hSw); go_simp; try (with_reducible rfl))
  try simp only [Act.put, List.setIfInBounds_toArray, List.set_cons_zero, List.set_cons_succ]
  refine wpAnyH_take (i := 27) (v := undef) (opsS (opsS (opsS (opsS (opsS (opsS (opsS (opsS (opsS (opsS (opsS (opsS (opsS (opsS (opsS (opsS (opsS (opsS (opsS (opsS (opsS (opsS (opsS (opsS (opsS (opsS (opsS ops0))))))))))))))))))))))))))) (by kernel_rfl) (by kernel_rfl) (by kernel_rfl) (fun _ _ _ h => h) (Or.inr ⟨by rfl, rfl⟩) hHeldp3 ?_
  try simp only [Act.put, List.setIfInBounds_toArray, List.set_cons_zero, List.set_cons_succ]
  refine wpAnyH_take (i := 28) (v := undef) (opsS (opsS (opsS (opsS (opsS (opsS (opsS (opsS (opsS (opsS (opsS (opsS (opsS (opsS (opsS (opsS (opsS (opsS (opsS (opsS (opsS (opsS (opsS (opsS (opsS (opsS (opsS (opsS ops0)))))))))))))))))))))))))))) (by kernel_rfl) (by kernel_rfl) (by kernel_rfl) (fun _ _ _ h => h) (Or.inr ⟨by rfl, rfl⟩) hHeldp3 ?_
  try simp only [Act.put, List.setIfInBounds_toArray, List.set_cons_zero, List.set_cons_succ]
  refine wpAnyH_take (i := 29) (v := undef) (opsS (opsS (opsS (opsS (opsS (opsS (opsS (opsS (opsS (opsS (opsS (opsS (opsS (opsS (opsS (opsS (opsS (opsS (opsS (opsS (opsS (opsS (opsS (opsS (opsS (opsS (opsS (opsS (opsS ops0))))))))))))))))))))))))))))) (by kernel_rfl) (by kernel_rfl) (by kernel_rfl) (fun _ _ _ h => h) (Or.inr ⟨by rfl, rfl⟩) hHeldp3 ?_
  try simp only [Act.put, List.setIfInBounds_toArray, List.set_cons_zero, List.set_cons_succ]
  refine wpAnyH_take (i := 30) (v := ?vp30) (opsS (opsS (opsS (opsS (opsS (opsS (opsS (opsS (opsS (opsS (opsS (opsS (opsS (opsS (opsS (opsS (opsS (opsS (opsS (opsS (opsS (opsS (opsS (opsS (opsS (opsS (opsS (opsS (opsS (opsS ops0)))))))))))))))))))))))))))))) (by kernel_rfl) (by kernel_rfl) (by kernel_rfl) (fun _ _ _ h => h) (Or.inl ⟨by rfl, ?yp30⟩) hHeldp3 ?_
  case yp30 => (intro w hSw; (try dsimp only at hSw); go_simp; try (with_reducible rfl))
  try simp only [Act.put, List.setIfInBounds_toArray, List.set_cons_zero, List.set_cons_succ]
  refine wpAnyH_take (i := 31) (v := ?vp31) (opsS (opsS (opsS (opsS (opsS (opsS (opsS (opsS (opsS (opsS (opsS (opsS (opsS (opsS (opsS (opsS (opsS (opsS (opsS (opsS (opsS (opsS (opsS (opsS (opsS (opsS (opsS (opsS (opsS (opsS (opsS ops0))))))))))))))))))))))))))))))) (by kernel_rfl) (by kernel_rfl) (by kernel_rfl) (fun _ _ _ h => h) (Or.inl ⟨by rfl, ?yp31⟩) hHeldp3 ?_
  case yp31 => (intro w hSw; (try dsimp only at hSw); go_simp; try (with_reducible rfl))
  try simp only [Act.put, List.setIfInBounds_toArray, List.set_cons_zero, List.set_cons_succ]
  refine wpAnyH_done (by kernel_rfl) ?_ _
  obtain ⟨a0, a1, a2, b0, b1, b2, c0, c1, c2, e0, e1, e2, hO⟩ := hHeldp3
  clear test
  go_wp2_with fail
  refine (N1.out _).mono ?_
  rintro e w6 ⟨rfl, hb⟩
  clear a0 a1 a2 b0 b1 b2 c0 c1 c2 e0 e1 e2
  replace hO := MO.step hb hO
  obtain ⟨a0, a1, a2, b0, b1, b2, c0, c1, c2, e0, e1, e2, hO⟩ := hO
  clear hb
  go_wp2_with fail
  refine (N2.out _).mono ?_
  rintro e w6 ⟨rfl, hb⟩
  clear a0 a1 a2 b0 b1 b2 c0 c1 c2 e0 e1 e2
  replace hO := MO.step hb hO
  obtain ⟨a0, a1, a2, b0, b1, b2, c0, c1, c2, e0, e1, e2, hO⟩ := hO
  clear hb
  go_wp2_with fail
  have test := MO.drew hO
  clear a0 a1 a2 b0 b1 b2 c0 c1 c2 e0 e1 e2 hO
  refine wp_region_held_drew (S := (fun w' => w'.cell? ⟨B, 0, none⟩ = some (.int .i64 an) ∧ w'.cell? ⟨B, 1, none⟩ = some (.string ab) ∧ w'.cell? ⟨B, 2, none⟩ = some (.string av) ∧ w'.cell? ⟨B + 1, 0, none⟩ = some (.int .i64 bn) ∧ w'.cell? ⟨B + 1, 1, none⟩ = some (.string bb) ∧ w'.cell? ⟨B + 1, 2, none⟩ = some (.string bv) ∧ w'.cell? ⟨B + 1 + 1, 0, none⟩ = some (.int .i64 cn) ∧ w'.cell? ⟨B + 1 + 1, 1, none⟩ = some (.string cb) ∧ w'.cell? ⟨B + 1 + 1, 2, none⟩ = some (.string cv) ∧ w'.cell? ⟨C, 0, none⟩ = some (.int .i64 bn) ∧ w'.cell? ⟨C, 1, none⟩ = some (.string bb) ∧ w'.cell? ⟨C, 2, none⟩ = some (.string bv) ∧ Hid (MO W B C an (bn) cn (bn) ab av (bb) (bv) cb cv (bb) (bv) w'))) (by kernel_rfl) ?_ (fun hHeldq0 => ?_)
  · exact test
  refine wpAnyH_take (i := 0) (v := ?vq0) ops0 (by kernel_rfl) (by kernel_rfl) (by kernel_rfl) (fun _ _ _ h => h) (Or.inl ⟨by rfl, ?yq0⟩) hHeldq0 ?_
  case yq0 => (intro w hSw; (try dsimp only at hSw); go_simp; try (with_reducible rfl))
  try simp only [Act.put, List.setIfInBounds_toArray, List.set_cons_zero, List.set_cons_succ]
  refine wpAnyH_take (i := 1) (v := ?vq1) (opsS ops0) (by kernel_rfl) (by kernel_rfl) (by kernel_rfl) (fun _ _ _ h => h) (Or.inl ⟨by rfl, ?yq1⟩) hHeldq0 ?_
  case yq1 => (intro w hSw; (try dsimp only at hSw); go_simp; try (with_reducible rfl))
  try simp only [Act.put, List.setIfInBounds_toArray, List.set_cons_zero, List.set_cons_succ]
  refine wpAnyH_take (i := 3) (v := ?vq3) (opsS (opsS (opsS ops0))) (by kernel_rfl) (by kernel_rfl) (by kernel_rfl) (fun _ _ _ h => h) (Or.inl ⟨by rfl, ?yq3⟩) hHeldq0 ?_
  case yq3 => (intro w hSw; (try dsimp only at hSw); go_simp; try (with_reducible rfl))
  try simp only [Act.put, List.setIfInBounds_toArray, List.set_cons_zero, List.set_cons_succ]
  refine wpAnyH_take (i := 4) (v := ?vq4) (opsS (opsS (opsS (opsS ops0)))) (by kernel_rfl) (by kernel_rfl) (by kernel_rfl) (fun _ _ _ h => h) (Or.inl ⟨by rfl, ?yq4⟩) hHeldq0 ?_
  case yq4 => (intro w hSw; (try dsimp only at hSw); go_simp; try (with_reducible rfl))
  try simp only [Act.put, List.setIfInBounds_toArray, List.set_cons_zero, List.set_cons_succ]
  refine wpAnyH_take (i := 5) (v := ?vq5) (opsS (opsS (opsS (opsS (opsS ops0))))) (by kernel_rfl) (by kernel_rfl) (by kernel_rfl) (fun _ _ _ h => h) (Or.inl ⟨by rfl, ?yq5⟩) hHeldq0 ?_
  case yq5 => (intro w hSw; (try dsimp only at hSw); go_simp; try (with_reducible rfl))
  try simp only [Act.put, List.setIfInBounds_toArray, List.set_cons_zero, List.set_cons_succ]
  refine wpAnyH_ready (rs := [2]) (by kernel_rfl) (by simp) ?_
  refine AllReadyH.cons (opsS (opsS ops0)) (fun K hK => ?_) AllReadyH.nil
  go_simp
  (first | (with_reducible refine (K3.out _).mono ?_) | (with_reducible refine (K4.out _).mono ?_) | (with_reducible refine (K5.out _).mono ?_)); rintro e w' ⟨rfl, hb⟩
  dsimp only
  refine hK.out _ _ ?_ (fun hHeldq1 => ?_)
  · (first | assumption | exact MO.drew (by assumption) | (go_split_ands; exact MO.drew (by assumption)) | (go_split_ands; exact MO.step (by assumption) (by assumption)) | (go_split_ands; exact MO.alloc (by assumption) _))
  clear hK K hHeldq0
  try clear hb
  try simp only [Act.put, List.setIfInBounds_toArray, List.set_cons_zero, List.set_cons_succ]
  refine wpAnyH_ready (rs := [6]) (by kernel_rfl) (by simp) ?_
  refine AllReadyH.cons (opsS (opsS (opsS (opsS (opsS (opsS ops0)))))) (fun K hK => ?_) AllReadyH.nil
  go_simp
  (first | (with_reducible refine (K3.out _).mono ?_) | (with_reducible refine (K4.out _).mono ?_) | (with_reducible refine (K5.out _).mono ?_)); rintro e w' ⟨rfl, hb⟩
  dsimp only
  refine hK.out _ _ ?_ (fun hHeldq2 => ?_)
  · (first | assumption | exact MO.drew (by assumption) | (go_split_ands; exact MO.drew (by assumption)) | (go_split_ands; exact MO.step (by assumption) (by assumption)) | (go_split_ands; exact MO.alloc (by assumption) _))
  clear hK K hHeldq1
  try clear hb
  try simp only [Act.put, List.setIfInBounds_toArray, List.set_cons_zero, List.set_cons_succ]
  refine wpAnyH_ready (rs := [7]) (by kernel_rfl) (by simp) ?_
  refine AllReadyH.cons (opsS (opsS (opsS (opsS (opsS (opsS (opsS ops0))))))) (fun K hK => ?_) AllReadyH.nil
  go_simp
  (first | (with_reducible refine (K3.out _).mono ?_) | (with_reducible refine (K4.out _).mono ?_) | (with_reducible refine (K5.out _).mono ?_)); rintro e w' ⟨rfl, hb⟩
  dsimp only
  refine hK.out _ _ ?_ (fun hHeldq3 => ?_)
  · (first | assumption | exact MO.drew (by assumption) | (go_split_ands; exact MO.drew (by assumption)) | (go_split_ands; exact MO.step (by assumption) (by assumption)) | (go_split_ands; exact MO.alloc (by assumption) _))
  clear hK K hHeldq2
  try clear hb
  try simp only [Act.put, List.setIfInBounds_toArray, List.set_cons_zero, List.set_cons_succ]
  refine wpAnyH_take (i := 8) (v := ?vq8) (opsS (opsS (opsS (opsS (opsS (opsS (opsS (opsS ops0)))))))) (by kernel_rfl) (by kernel_rfl) (by kernel_rfl) (fun _ _ _ h => h) (Or.inl ⟨by rfl, ?yq8⟩) hHeldq3 ?_
  case yq8 => (intro w hSw; (try dsimp only at hSw); go_simp; try (with_reducible rfl))
  try simp only [Act.put, List.setIfInBounds_toArray, List.set_cons_zero, List.set_cons_succ]
  refine wpAnyH_take (i := 9) (v := ?vq9) (opsS (opsS (opsS (opsS (opsS (opsS (opsS (opsS (opsS ops0))))))))) (by kernel_rfl) (by kernel_rfl) (by kernel_rfl) (fun _ _ _ h => h) (Or.inl ⟨by rfl, ?yq9⟩) hHeldq3 ?_
  case yq9 => (intro w hSw; (try dsimp only at hSw); go_simp; try (with_reducible rfl))
  try simp only [Act.put, List.setIfInBounds_toArray, List.set_cons_zero, List.set_cons_succ]
  refine wpAnyH_ready (rs := [10]) (by kernel_rfl) (by simp) ?_
  refine AllReadyH.cons (opsS (opsS (opsS (opsS (opsS (opsS (opsS (opsS (opsS (opsS ops0)))))))))) (fun K hK => ?_) AllReadyH.nil
  go_simp
  refine (awake_any _).mono ?_; rintro e w' ⟨rfl, hb⟩
  dsimp only
  refine hK.out _ _ ?_ (fun hHeldq4 => ?_)
  · (first | assumption | exact MO.drew (by assumption) | (go_split_ands; exact MO.drew (by assumption)) | (go_split_ands; exact MO.step (by assumption) (by assumption)) | (go_split_ands; exact MO.alloc (by assumption) _))
  clear hK K hHeldq3
  try clear hb
  try simp only [Act.put, List.setIfInBounds_toArray, List.set_cons_zero, List.set_cons_succ]
  refine wpAnyH_take (i := 11) (v := ?vq11) (opsS (opsS (opsS (opsS (opsS (opsS (opsS (opsS (opsS (opsS (opsS ops0))))))))))) (by kernel_rfl) (by kernel_rfl) (by kernel_rfl) (fun _ _ _ h => h) (Or.inl ⟨by rfl, ?yq11⟩) hHeldq4 ?_
  case yq11 => (intro w hSw; (try dsimp only at hSw); go_simp; try (with_reducible rfl))
  try simp only [Act.put, List.setIfInBounds_toArray, List.set_cons_zero, List.set_cons_succ]
  refine wpAnyH_take (i := 12) (v := ?vq12) (opsS (opsS (opsS (opsS (opsS (opsS (opsS (opsS (opsS (opsS (opsS (opsS ops0)))))))))))) (by kernel_rfl) (by kernel_rfl) (by kernel_rfl) (fun _ _ _ h => h) (Or.inl ⟨by rfl, ?yq12⟩) hHeldq4 ?_
  case yq12 => (intro w hSw; (try dsimp only at hSw); go_simp; try (with_reducible rfl))
  try simp only [Act.put, List.setIfInBounds_toArray, List.set_cons_zero, List.set_cons_succ]
  refine wpAnyH_done (by kernel_rfl) ?_ _
  have hfin := hHeldq4.2.2.2.2.2.2.2.2.2.2.2.2.low
  clear hHeldq4 test
  go_wp2
  go_ret
  exact ⟨rfl, by rw [HB.out]; exact hfin⟩
set_option maxHeartbeats 8000000 in
theorem order_same (W : World) (an cn rn : Int) (ab av cb cv rb rv : ByteArray)
    (sa : ab.size ≤ maxLen) (sav : av.size ≤ maxLen) (sb : ab.size ≤ maxLen) (sbv : av.size ≤ maxLen) (sc : cb.size ≤ maxLen) (scv : cv.size ≤ maxLen)
    (fa : Rg.few ⟨an, ab, av⟩ = true) (fb : Rg.few ⟨an, ab, av⟩ = true) (fc : Rg.few ⟨cn, cb, cv⟩ = true)
    (k0 : JoinAt ⟨an, ab, av⟩ ⟨an, ab, av⟩ ⟨an, ab, av⟩) (k1 : JoinAt ⟨an, ab, av⟩ ⟨an, ab, av⟩ ⟨an, ab, av⟩) (k2 : JoinAt ⟨an, ab, av⟩ ⟨an, ab, av⟩ ⟨an, ab, av⟩) (k3 : JoinAt ⟨an, ab, av⟩ ⟨cn, cb, cv⟩ ⟨rn, rb, rv⟩) (k4 : JoinAt ⟨an, ab, av⟩ ⟨cn, cb, cv⟩ ⟨rn, rb, rv⟩) (k5 : JoinAt ⟨an, ab, av⟩ ⟨rn, rb, rv⟩ ⟨rn, rb, rv⟩)
    (n1 : NewerAt ⟨an, ab, av⟩ ⟨an, ab, av⟩ false) (n2 : NewerAt ⟨an, ab, av⟩ ⟨an, ab, av⟩ false) :
    Calls Try.prog 5 #[.agg #[.int .i64 an, .string ab, .string av], .agg #[.int .i64 an, .string ab, .string av], .agg #[.int .i64 cn, .string cb, .string cv]] W fun e w' => e = .returned (.bool true) ∧ Below W.heap.size W w' := by
  have SA := Lib.hid sa; have SAV := Lib.hid sav; have SB := Lib.hid sb; have SBV := Lib.hid sbv; have SC := Lib.hid sc; have SCV := Lib.hid scv
  clear sa sav sb sbv sc scv
  have K0 := Lib.hid k0; have K1 := Lib.hid k1; have K2 := Lib.hid k2; have K3 := Lib.hid k3; have K4 := Lib.hid k4; have K5 := Lib.hid k5; have N1 := Lib.hid n1; have N2 := Lib.hid n2
  clear k0 k1 k2 k3 k4 k5 n1 n2
  have FA := Lib.hid fa; have FB := Lib.hid fb; have FC := Lib.hid fc
  clear fa fb fc
  have hM := MP.new W an an cn ab av ab av cb cv
  go_enter Try.func5, Try.ntmps5
  go_wp2_with fail
  refine (few_any ⟨an, ab, av⟩ _ SA.out SAV.out).mono ?_
  rw [FA.out]
  rintro e w1 ⟨rfl, hb⟩
  replace hM := MP.step hb hM
  obtain ⟨a0, a1, a2, b0, b1, b2, c0, c1, c2, hM⟩ := hM
  clear hb
  go_wp2_with fail
  refine (few_any ⟨an, ab, av⟩ _ SB.out SBV.out).mono ?_
  rw [FB.out]
  rintro e w2 ⟨rfl, hb⟩
  clear a0 a1 a2 b0 b1 b2 c0 c1 c2
  replace hM := MP.step hb hM
  obtain ⟨a0, a1, a2, b0, b1, b2, c0, c1, c2, hM⟩ := hM
  clear hb
  go_wp2_with fail
  refine (few_any ⟨cn, cb, cv⟩ _ SC.out SCV.out).mono ?_
  rw [FC.out]
  rintro e w3 ⟨rfl, hb⟩
  clear a0 a1 a2 b0 b1 b2 c0 c1 c2
  replace hM := MP.step hb hM
  obtain ⟨a0, a1, a2, b0, b1, b2, c0, c1, c2, hM⟩ := hM
  clear hb
  go_wp2_with fail
  refine (K0.out _).mono ?_
  rintro e w4 ⟨rfl, hb⟩
  clear a0 a1 a2 b0 b1 b2 c0 c1 c2
  have hM := MP.step0 hb hM
  clear hb
  have hO : MO W W.heap.size w4.heap.size an an cn an ab av ab av cb cv ab av (w4.alloc (.cells #[.int .i64 an, .string ab, .string av] 23)) :=
    ⟨hM.b0.alloc _, hM.b1.alloc _, hM.b2.alloc _, Blk.new _ _ _, hM.low.alloc hM.low.size _⟩
  clear hM
  go_wp2_with fail
  generalize w4.alloc (.cells #[.int .i64 an, .string ab, .string av] 23) = W5 at *
  generalize w4.heap.size = C at *
  generalize hB : W.heap.size = B at *
  have HB := Lib.hid hB
  clear hB
  have test := MO.drew hO
  clear hO
  refine wp_region_held_drew (S := (fun w' => w'.cell? ⟨B, 0, none⟩ = some (.int .i64 an) ∧ w'.cell? ⟨B, 1, none⟩ = some (.string ab) ∧ w'.cell? ⟨B, 2, none⟩ = some (.string av) ∧ w'.cell? ⟨B + 1, 0, none⟩ = some (.int .i64 an) ∧ w'.cell? ⟨B + 1, 1, none⟩ = some (.string ab) ∧ w'.cell? ⟨B + 1, 2, none⟩ = some (.string av) ∧ w'.cell? ⟨B + 1 + 1, 0, none⟩ = some (.int .i64 cn) ∧ w'.cell? ⟨B + 1 + 1, 1, none⟩ = some (.string cb) ∧ w'.cell? ⟨B + 1 + 1, 2, none⟩ = some (.string cv) ∧ w'.cell? ⟨C, 0, none⟩ = some (.int .i64 an) ∧ w'.cell? ⟨C, 1, none⟩ = some (.string ab) ∧ w'.cell? ⟨C, 2, none⟩ = some (.string av) ∧ Hid (MO W B C an (an) cn (an) ab av (ab) (av) cb cv (ab) (av) w'))) (by kernel_rfl) ?_ (fun hHeldp0 => ?_)
  · exact test
  refine wpAnyH_take (i := 0) (v := ?vp0) ops0 (by kernel_rfl) (by kernel_rfl) (by kernel_rfl) (fun _ _ _ h => h) (Or.inl ⟨by rfl, ?yp0⟩) hHeldp0 ?_
  case yp0 => (intro w hSw; (try dsimp only at hSw); go_simp; try (with_reducible rfl))
  try simp only [Act.put, List.setIfInBounds_toArray, List.set_cons_zero, List.set_cons_succ]
  refine wpAnyH_take (i := 1) (v := ?vp1) (opsS ops0) (by kernel_rfl) (by kernel_rfl) (by kernel_rfl) (fun _ _ _ h => h) (Or.inl ⟨by rfl, ?yp1⟩) hHeldp0 ?_
  case yp1 => (intro w hSw; (try dsimp only at hSw); go_simp; try (with_reducible rfl))
  try simp only [Act.put, List.setIfInBounds_toArray, List.set_cons_zero, List.set_cons_succ]
  refine wpAnyH_take (i := 2) (v := ?vp2) (opsS (opsS ops0)) (by kernel_rfl) (by kernel_rfl) (by kernel_rfl) (fun _ _ _ h => h) (Or.inl ⟨by rfl, ?yp2⟩) hHeldp0 ?_
  case yp2 => (intro w hSw; (try dsimp only at hSw); go_simp; try (with_reducible rfl))
  try simp only [Act.put, List.setIfInBounds_toArray, List.set_cons_zero, List.set_cons_succ]
  refine wpAnyH_ready (rs := [3]) (by kernel_rfl) (by simp) ?_
  refine AllReadyH.cons (opsS (opsS (opsS ops0))) (fun K hK => ?_) AllReadyH.nil
  go_simp
  (first | (with_reducible refine (K1.out _).mono ?_) | (with_reducible refine (K2.out _).mono ?_)); rintro e w' ⟨rfl, hb⟩
  dsimp only
  refine hK.out _ _ ?_ (fun hHeldp1 => ?_)
  · (first | assumption | exact MO.drew (by assumption) | (go_split_ands; exact MO.drew (by assumption)) | (go_split_ands; exact MO.step (by assumption) (by assumption)) | (go_split_ands; exact MO.alloc (by assumption) _))
  clear hK K hHeldp0
  try clear hb
  try simp only [Act.put, List.setIfInBounds_toArray, List.set_cons_zero, List.set_cons_succ]
  refine wpAnyH_take (i := 4) (v := ?vp4) (opsS (opsS (opsS (opsS ops0)))) (by kernel_rfl) (by kernel_rfl) (by kernel_rfl) (fun _ _ _ h => h) (Or.inl ⟨by rfl, ?yp4⟩) hHeldp1 ?_
  case yp4 => (intro w hSw; (try dsimp only at hSw); go_simp; try (with_reducible rfl))
  try simp only [Act.put, List.setIfInBounds_toArray, List.set_cons_zero, List.set_cons_succ]
  refine wpAnyH_take (i := 5) (v := ?vp5) (opsS (opsS (opsS (opsS (opsS ops0))))) (by kernel_rfl) (by kernel_rfl) (by kernel_rfl) (fun _ _ _ h => h) (Or.inl ⟨by rfl, ?yp5⟩) hHeldp1 ?_
  case yp5 => (intro w hSw; (try dsimp only at hSw); go_simp; try (with_reducible rfl))
  try simp only [Act.put, List.setIfInBounds_toArray, List.set_cons_zero, List.set_cons_succ]
  refine wpAnyH_take (i := 6) (v := ?vp6) (opsS (opsS (opsS (opsS (opsS (opsS ops0)))))) (by kernel_rfl) (by kernel_rfl) (by kernel_rfl) (fun _ _ _ h => h) (Or.inl ⟨by rfl, ?yp6⟩) hHeldp1 ?_
  case yp6 => (intro w hSw; (try dsimp only at hSw); go_simp; try (with_reducible rfl))
  try simp only [Act.put, List.setIfInBounds_toArray, List.set_cons_zero, List.set_cons_succ]
  refine wpAnyH_take (i := 7) (v := ?vp7) (opsS (opsS (opsS (opsS (opsS (opsS (opsS ops0))))))) (by kernel_rfl) (by kernel_rfl) (by kernel_rfl) (fun _ _ _ h => h) (Or.inl ⟨by rfl, ?yp7⟩) hHeldp1 ?_
  case yp7 => (intro w hSw; (try dsimp only at hSw); go_simp; try (with_reducible rfl))
  try simp only [Act.put, List.setIfInBounds_toArray, List.set_cons_zero, List.set_cons_succ]
  refine wpAnyH_take (i := 9) (v := ?vp9) (opsS (opsS (opsS (opsS (opsS (opsS (opsS (opsS (opsS ops0))))))))) (by kernel_rfl) (by kernel_rfl) (by kernel_rfl) (fun _ _ _ h => h) (Or.inl ⟨by rfl, ?yp9⟩) hHeldp1 ?_
  case yp9 => (intro w hSw; (try dsimp only at hSw); go_simp; try (with_reducible rfl))
  try simp only [Act.put, List.setIfInBounds_toArray, List.set_cons_zero, List.set_cons_succ]
  refine wpAnyH_ready (rs := [8]) (by kernel_rfl) (by simp) ?_
  refine AllReadyH.cons (opsS (opsS (opsS (opsS (opsS (opsS (opsS (opsS ops0)))))))) (fun K hK => ?_) AllReadyH.nil
  go_simp
  (first | (with_reducible refine (K1.out _).mono ?_) | (with_reducible refine (K2.out _).mono ?_)); rintro e w' ⟨rfl, hb⟩
  dsimp only
  refine hK.out _ _ ?_ (fun hHeldp2 => ?_)
  · (first | assumption | exact MO.drew (by assumption) | (go_split_ands; exact MO.drew (by assumption)) | (go_split_ands; exact MO.step (by assumption) (by assumption)) | (go_split_ands; exact MO.alloc (by assumption) _))
  clear hK K hHeldp1
  try clear hb
  try simp only [Act.put, List.setIfInBounds_toArray, List.set_cons_zero, List.set_cons_succ]
  refine wpAnyH_take (i := 10) (v := ?vp10) (opsS (opsS (opsS (opsS (opsS (opsS (opsS (opsS (opsS (opsS ops0)))))))))) (by kernel_rfl) (by kernel_rfl) (by kernel_rfl) (fun _ _ _ h => h) (Or.inl ⟨by rfl, ?yp10⟩) hHeldp2 ?_
  case yp10 => (intro w hSw; (try dsimp only at hSw); go_simp; try (with_reducible rfl))
  try simp only [Act.put, List.setIfInBounds_toArray, List.set_cons_zero, List.set_cons_succ]
  refine wpAnyH_take (i := 11) (v := ?vp11) (opsS (opsS (opsS (opsS (opsS (opsS (opsS (opsS (opsS (opsS (opsS ops0))))))))))) (by kernel_rfl) (by kernel_rfl) (by kernel_rfl) (fun _ _ _ h => h) (Or.inl ⟨by rfl, ?yp11⟩) hHeldp2 ?_
  case yp11 => (intro w hSw; (try dsimp only at hSw); go_simp; try (with_reducible rfl))
  try simp only [Act.put, List.setIfInBounds_toArray, List.set_cons_zero, List.set_cons_succ]
  refine wpAnyH_take (i := 12) (v := ?vp12) (opsS (opsS (opsS (opsS (opsS (opsS (opsS (opsS (opsS (opsS (opsS (opsS ops0)))))))))))) (by kernel_rfl) (by kernel_rfl) (by kernel_rfl) (fun _ _ _ h => h) (Or.inl ⟨by rfl, ?yp12⟩) hHeldp2 ?_
  case yp12 => (intro w hSw; (try dsimp only at hSw); go_simp; try (with_reducible rfl))
  try simp only [Act.put, List.setIfInBounds_toArray, List.set_cons_zero, List.set_cons_succ]
  refine wpAnyH_take (i := 13) (v := ?vp13) (opsS (opsS (opsS (opsS (opsS (opsS (opsS (opsS (opsS (opsS (opsS (opsS (opsS ops0))))))))))))) (by kernel_rfl) (by kernel_rfl) (by kernel_rfl) (fun _ _ _ h => h) (Or.inl ⟨by rfl, ?yp13⟩) hHeldp2 ?_
  case yp13 => (intro w hSw; (try dsimp only at hSw); go_simp; try (with_reducible rfl))
  try simp only [Act.put, List.setIfInBounds_toArray, List.set_cons_zero, List.set_cons_succ]
  refine wpAnyH_take (i := 14) (v := ?vp14) (opsS (opsS (opsS (opsS (opsS (opsS (opsS (opsS (opsS (opsS (opsS (opsS (opsS (opsS ops0)))))))))))))) (by kernel_rfl) (by kernel_rfl) (by kernel_rfl) (fun _ _ _ h => h) (Or.inl ⟨by rfl, ?yp14⟩) hHeldp2 ?_
  case yp14 => (intro w hSw; (try dsimp only at hSw); go_simp; try (with_reducible rfl))
  try simp only [Act.put, List.setIfInBounds_toArray, List.set_cons_zero, List.set_cons_succ]
  refine wpAnyH_take (i := 15) (v := ?vp15) (opsS (opsS (opsS (opsS (opsS (opsS (opsS (opsS (opsS (opsS (opsS (opsS (opsS (opsS (opsS ops0))))))))))))))) (by kernel_rfl) (by kernel_rfl) (by kernel_rfl) (fun _ _ _ h => h) (Or.inl ⟨by rfl, ?yp15⟩) hHeldp2 ?_
  case yp15 => (intro w hSw; (try dsimp only at hSw); go_simp; try (with_reducible rfl))
  try simp only [Act.put, List.setIfInBounds_toArray, List.set_cons_zero, List.set_cons_succ]
  refine wpAnyH_take (i := 16) (v := ?vp16) (opsS (opsS (opsS (opsS (opsS (opsS (opsS (opsS (opsS (opsS (opsS (opsS (opsS (opsS (opsS (opsS ops0)))))))))))))))) (by kernel_rfl) (by kernel_rfl) (by kernel_rfl) (fun _ _ _ h => h) (Or.inl ⟨by rfl, ?yp16⟩) hHeldp2 ?_
  case yp16 => (intro w hSw; (try dsimp only at hSw); go_simp; try (with_reducible rfl))
  try simp only [Act.put, List.setIfInBounds_toArray, List.set_cons_zero, List.set_cons_succ]
  refine wpAnyH_take (i := 17) (v := undef) (opsS (opsS (opsS (opsS (opsS (opsS (opsS (opsS (opsS (opsS (opsS (opsS (opsS (opsS (opsS (opsS (opsS ops0))))))))))))))))) (by kernel_rfl) (by kernel_rfl) (by kernel_rfl) (fun _ _ _ h => h) (Or.inr ⟨by rfl, rfl⟩) hHeldp2 ?_
  try simp only [Act.put, List.setIfInBounds_toArray, List.set_cons_zero, List.set_cons_succ]
  refine wpAnyH_take (i := 18) (v := undef) (opsS (opsS (opsS (opsS (opsS (opsS (opsS (opsS (opsS (opsS (opsS (opsS (opsS (opsS (opsS (opsS (opsS (opsS ops0)))))))))))))))))) (by kernel_rfl) (by kernel_rfl) (by kernel_rfl) (fun _ _ _ h => h) (Or.inr ⟨by rfl, rfl⟩) hHeldp2 ?_
  try simp only [Act.put, List.setIfInBounds_toArray, List.set_cons_zero, List.set_cons_succ]
  refine wpAnyH_take (i := 19) (v := undef) (opsS (opsS (opsS (opsS (opsS (opsS (opsS (opsS (opsS (opsS (opsS (opsS (opsS (opsS (opsS (opsS (opsS (opsS (opsS ops0))))))))))))))))))) (by kernel_rfl) (by kernel_rfl) (by kernel_rfl) (fun _ _ _ h => h) (Or.inr ⟨by rfl, rfl⟩) hHeldp2 ?_
  try simp only [Act.put, List.setIfInBounds_toArray, List.set_cons_zero, List.set_cons_succ]
  refine wpAnyH_take (i := 20) (v := ?vp20) (opsS (opsS (opsS (opsS (opsS (opsS (opsS (opsS (opsS (opsS (opsS (opsS (opsS (opsS (opsS (opsS (opsS (opsS (opsS (opsS ops0)))))))))))))))))))) (by kernel_rfl) (by kernel_rfl) (by kernel_rfl) (fun _ _ _ h => h) (Or.inl ⟨by rfl, ?yp20⟩) hHeldp2 ?_
  case yp20 => (intro w hSw; (try dsimp only at hSw); go_simp; try (with_reducible rfl))
  try simp only [Act.put, List.setIfInBounds_toArray, List.set_cons_zero, List.set_cons_succ]
  refine wpAnyH_take (i := 21) (v := ?vp21) (opsS (opsS (opsS (opsS (opsS (opsS (opsS (opsS (opsS (opsS (opsS (opsS (opsS (opsS (opsS (opsS (opsS (opsS (opsS (opsS (opsS ops0))))))))))))))))))))) (by kernel_rfl) (by kernel_rfl) (by kernel_rfl) (fun _ _ _ h => h) (Or.inl ⟨by rfl, ?yp21⟩) hHeldp2 ?_
  case yp21 => (intro w hSw; (try dsimp only at hSw); go_simp; try (with_reducible rfl))
  try simp only [Act.put, List.setIfInBounds_toArray, List.set_cons_zero, List.set_cons_succ]
  refine wpAnyH_take (i := 22) (v := ?vp22) (opsS (opsS (opsS (opsS (opsS (opsS (opsS (opsS (opsS (opsS (opsS (opsS (opsS (opsS (opsS (opsS (opsS (opsS (opsS (opsS (opsS (opsS ops0)))))))))))))))))))))) (by kernel_rfl) (by kernel_rfl) (by kernel_rfl) (fun _ _ _ h => h) (Or.inl ⟨by rfl, ?yp22⟩) hHeldp2 ?_
  case yp22 => (intro w hSw; (try dsimp only at hSw); go_simp; try (with_reducible rfl))
  try simp only [Act.put, List.setIfInBounds_toArray, List.set_cons_zero, List.set_cons_succ]
  refine wpAnyH_take (i := 23) (v := ?vp23) (opsS (opsS (opsS (opsS (opsS (opsS (opsS (opsS (opsS (opsS (opsS (opsS (opsS (opsS (opsS (opsS (opsS (opsS (opsS (opsS (opsS (opsS (opsS ops0))))))))))))))))))))))) (by kernel_rfl) (by kernel_rfl) (by kernel_rfl) (fun _ _ _ h => h) (Or.inl ⟨by rfl, ?yp23⟩) hHeldp2 ?_
  case yp23 => (intro w hSw; (try dsimp only at hSw); go_simp; try (with_reducible rfl))
  try simp only [Act.put, List.setIfInBounds_toArray, List.set_cons_zero, List.set_cons_succ]
  refine wpAnyH_take (i := 24) (v := ?vp24) (opsS (opsS (opsS (opsS (opsS (opsS (opsS (opsS (opsS (opsS (opsS (opsS (opsS (opsS (opsS (opsS (opsS (opsS (opsS (opsS (opsS (opsS (opsS (opsS ops0)))))))))))))))))))))))) (by kernel_rfl) (by kernel_rfl) (by kernel_rfl) (fun _ _ _ h => h) (Or.inl ⟨by rfl, ?yp24⟩) hHeldp2 ?_
  case yp24 => (intro w hSw; (try dsimp only at hSw); go_simp; try (with_reducible rfl))
  try simp only [Act.put, List.setIfInBounds_toArray, List.set_cons_zero, List.set_cons_succ]
  refine wpAnyH_ready (rs := [25]) (by kernel_rfl) (by simp) ?_
  refine AllReadyH.cons (opsS (opsS (opsS (opsS (opsS (opsS (opsS (opsS (opsS (opsS (opsS (opsS (opsS (opsS (opsS (opsS (opsS (opsS (opsS (opsS (opsS (opsS (opsS (opsS (opsS ops0))))))))))))))))))))))))) (fun K hK => ?_) AllReadyH.nil
  go_simp
  (first | (with_reducible refine (N1.out _).mono ?_) | (with_reducible refine (N2.out _).mono ?_)); rintro e w' ⟨rfl, hb⟩
  dsimp only
  refine hK.out _ _ ?_ (fun hHeldp3 => ?_)
  · (first | assumption | exact MO.drew (by assumption) | (go_split_ands; exact MO.drew (by assumption)) | (go_split_ands; exact MO.step (by assumption) (by assumption)) | (go_split_ands; exact MO.alloc (by assumption) _))
  clear hK K hHeldp2
  try clear hb
  try simp only [Act.put, List.setIfInBounds_toArray, List.set_cons_zero, List.set_cons_succ]
  refine wpAnyH_take (i := 26) (v := ?vp26) (opsS (opsS (opsS (opsS (opsS (opsS (opsS (opsS (opsS (opsS (opsS (opsS (opsS (opsS (opsS (opsS (opsS (opsS (opsS (opsS (opsS (opsS (opsS (opsS (opsS (opsS ops0)))))))))))))))))))))))))) (by kernel_rfl) (by kernel_rfl) (by kernel_rfl) (fun _ _ _ h => h) (Or.inl ⟨by rfl, ?yp26⟩) hHeldp3 ?_
  case yp26 => (intro w hSw; (try dsimp only at hSw); go_simp; try (with_reducible rfl))
  try simp only [Act.put, List.setIfInBounds_toArray, List.set_cons_zero, List.set_cons_succ]
  refine wpAnyH_take (i := 27) (v := undef) (opsS (opsS (opsS (opsS (opsS (opsS (opsS (opsS (opsS (opsS (opsS (opsS (opsS (opsS (opsS (opsS (opsS (opsS (opsS (opsS (opsS (opsS (opsS (opsS (opsS (opsS (opsS ops0))))))))))))))))))))))))))) (by kernel_rfl) (by kernel_rfl) (by kernel_rfl) (fun _ _ _ h => h) (Or.inr ⟨by rfl, rfl⟩) hHeldp3 ?_
  try simp only [Act.put, List.setIfInBounds_toArray, List.set_cons_zero, List.set_cons_succ]
  refine wpAnyH_take (i := 28) (v := undef) (opsS (opsS (opsS (opsS (opsS (opsS (opsS (opsS (opsS (opsS (opsS (opsS (opsS (opsS (opsS (opsS (opsS (opsS (opsS (opsS (opsS (opsS (opsS (opsS (opsS (opsS (opsS (opsS ops0)))))))))))))))))))))))))))) (by kernel_rfl) (by kernel_rfl) (by kernel_rfl) (fun _ _ _ h => h) (Or.inr ⟨by rfl, rfl⟩) hHeldp3 ?_
  try simp only [Act.put, List.setIfInBounds_toArray, List.set_cons_zero, List.set_cons_succ]
  refine wpAnyH_take (i := 29) (v := undef) (opsS (opsS (opsS (opsS (opsS (opsS (opsS (opsS (opsS (opsS (opsS (opsS (opsS (opsS (opsS (opsS (opsS (opsS (opsS (opsS (opsS (opsS (opsS (opsS (opsS (opsS (opsS (opsS (opsS ops0))))))))))))))))))))))))))))) (by kernel_rfl) (by kernel_rfl) (by kernel_rfl) (fun _ _ _ h => h) (Or.inr ⟨by rfl, rfl⟩) hHeldp3 ?_
  try simp only [Act.put, List.setIfInBounds_toArray, List.set_cons_zero, List.set_cons_succ]
  refine wpAnyH_take (i := 30) (v := ?vp30) (opsS (opsS (opsS (opsS (opsS (opsS (opsS (opsS (opsS (opsS (opsS (opsS (opsS (opsS (opsS (opsS (opsS (opsS (opsS (opsS (opsS (opsS (opsS (opsS (opsS (opsS (opsS (opsS (opsS (opsS ops0)))))))))))))))))))))))))))))) (by kernel_rfl) (by kernel_rfl) (by kernel_rfl) (fun _ _ _ h => h) (Or.inl ⟨by rfl, ?yp30⟩) hHeldp3 ?_
  case yp30 => (intro w hSw; (try dsimp only at hSw); go_simp; try (with_reducible rfl))
  try simp only [Act.put, List.setIfInBounds_toArray, List.set_cons_zero, List.set_cons_succ]
  refine wpAnyH_take (i := 31) (v := ?vp31) (opsS (opsS (opsS (opsS (opsS (opsS (opsS (opsS (opsS (opsS (opsS (opsS (opsS (opsS (opsS (opsS (opsS (opsS (opsS (opsS (opsS (opsS (opsS (opsS (opsS (opsS (opsS (opsS (opsS (opsS (opsS ops0))))))))))))))))))))))))))))))) (by kernel_rfl) (by kernel_rfl) (by kernel_rfl) (fun _ _ _ h => h) (Or.inl ⟨by rfl, ?yp31⟩) hHeldp3 ?_
  case yp31 => (intro w hSw; (try dsimp only at hSw); go_simp; try (with_reducible rfl))
  try simp only [Act.put, List.setIfInBounds_toArray, List.set_cons_zero, List.set_cons_succ]
  refine wpAnyH_done (by kernel_rfl) ?_ _
  obtain ⟨a0, a1, a2, b0, b1, b2, c0, c1, c2, e0, e1, e2, hO⟩ := hHeldp3
  clear test
  go_wp2_with fail
  have test := MO.drew hO
  clear a0 a1 a2 b0 b1 b2 c0 c1 c2 e0 e1 e2 hO
  refine wp_region_held_drew (S := (fun w' => w'.cell? ⟨B, 0, none⟩ = some (.int .i64 an) ∧ w'.cell? ⟨B, 1, none⟩ = some (.string ab) ∧ w'.cell? ⟨B, 2, none⟩ = some (.string av) ∧ w'.cell? ⟨B + 1, 0, none⟩ = some (.int .i64 an) ∧ w'.cell? ⟨B + 1, 1, none⟩ = some (.string ab) ∧ w'.cell? ⟨B + 1, 2, none⟩ = some (.string av) ∧ w'.cell? ⟨B + 1 + 1, 0, none⟩ = some (.int .i64 cn) ∧ w'.cell? ⟨B + 1 + 1, 1, none⟩ = some (.string cb) ∧ w'.cell? ⟨B + 1 + 1, 2, none⟩ = some (.string cv) ∧ w'.cell? ⟨C, 0, none⟩ = some (.int .i64 an) ∧ w'.cell? ⟨C, 1, none⟩ = some (.string ab) ∧ w'.cell? ⟨C, 2, none⟩ = some (.string av) ∧ Hid (MO W B C an (an) cn (an) ab av (ab) (av) cb cv (ab) (av) w'))) (by kernel_rfl) ?_ (fun hHeldq0 => ?_)
  · exact test
  refine wpAnyH_take (i := 0) (v := ?vq0) ops0 (by kernel_rfl) (by kernel_rfl) (by kernel_rfl) (fun _ _ _ h => h) (Or.inl ⟨by rfl, ?yq0⟩) hHeldq0 ?_
  case yq0 => (intro w hSw; (try dsimp only at hSw); go_simp; try (with_reducible rfl))
  try simp only [Act.put, List.setIfInBounds_toArray, List.set_cons_zero, List.set_cons_succ]
  refine wpAnyH_take (i := 1) (v := ?vq1) (opsS ops0) (by kernel_rfl) (by kernel_rfl) (by kernel_rfl) (fun _ _ _ h => h) (Or.inl ⟨by rfl, ?yq1⟩) hHeldq0 ?_
  case yq1 => (intro w hSw; (try dsimp only at hSw); go_simp; try (with_reducible rfl))
  try simp only [Act.put, List.setIfInBounds_toArray, List.set_cons_zero, List.set_cons_succ]
  refine wpAnyH_take (i := 3) (v := ?vq3) (opsS (opsS (opsS ops0))) (by kernel_rfl) (by kernel_rfl) (by kernel_rfl) (fun _ _ _ h => h) (Or.inl ⟨by rfl, ?yq3⟩) hHeldq0 ?_
  case yq3 => (intro w hSw; (try dsimp only at hSw); go_simp; try (with_reducible rfl))
  try simp only [Act.put, List.setIfInBounds_toArray, List.set_cons_zero, List.set_cons_succ]
  refine wpAnyH_take (i := 4) (v := ?vq4) (opsS (opsS (opsS (opsS ops0)))) (by kernel_rfl) (by kernel_rfl) (by kernel_rfl) (fun _ _ _ h => h) (Or.inl ⟨by rfl, ?yq4⟩) hHeldq0 ?_
  case yq4 => (intro w hSw; (try dsimp only at hSw); go_simp; try (with_reducible rfl))
  try simp only [Act.put, List.setIfInBounds_toArray, List.set_cons_zero, List.set_cons_succ]
  refine wpAnyH_take (i := 5) (v := ?vq5) (opsS (opsS (opsS (opsS (opsS ops0))))) (by kernel_rfl) (by kernel_rfl) (by kernel_rfl) (fun _ _ _ h => h) (Or.inl ⟨by rfl, ?yq5⟩) hHeldq0 ?_
  case yq5 => (intro w hSw; (try dsimp only at hSw); go_simp; try (with_reducible rfl))
  try simp only [Act.put, List.setIfInBounds_toArray, List.set_cons_zero, List.set_cons_succ]
  refine wpAnyH_ready (rs := [2]) (by kernel_rfl) (by simp) ?_
  refine AllReadyH.cons (opsS (opsS ops0)) (fun K hK => ?_) AllReadyH.nil
  go_simp
  (first | (with_reducible refine (K3.out _).mono ?_) | (with_reducible refine (K4.out _).mono ?_) | (with_reducible refine (K5.out _).mono ?_)); rintro e w' ⟨rfl, hb⟩
  dsimp only
  refine hK.out _ _ ?_ (fun hHeldq1 => ?_)
  · (first | assumption | exact MO.drew (by assumption) | (go_split_ands; exact MO.drew (by assumption)) | (go_split_ands; exact MO.step (by assumption) (by assumption)) | (go_split_ands; exact MO.alloc (by assumption) _))
  clear hK K hHeldq0
  try clear hb
  try simp only [Act.put, List.setIfInBounds_toArray, List.set_cons_zero, List.set_cons_succ]
  refine wpAnyH_ready (rs := [6]) (by kernel_rfl) (by simp) ?_
  refine AllReadyH.cons (opsS (opsS (opsS (opsS (opsS (opsS ops0)))))) (fun K hK => ?_) AllReadyH.nil
  go_simp
  (first | (with_reducible refine (K3.out _).mono ?_) | (with_reducible refine (K4.out _).mono ?_) | (with_reducible refine (K5.out _).mono ?_)); rintro e w' ⟨rfl, hb⟩
  dsimp only
  refine hK.out _ _ ?_ (fun hHeldq2 => ?_)
  · (first | assumption | exact MO.drew (by assumption) | (go_split_ands; exact MO.drew (by assumption)) | (go_split_ands; exact MO.step (by assumption) (by assumption)) | (go_split_ands; exact MO.alloc (by assumption) _))
  clear hK K hHeldq1
  try clear hb
  try simp only [Act.put, List.setIfInBounds_toArray, List.set_cons_zero, List.set_cons_succ]
  refine wpAnyH_ready (rs := [7]) (by kernel_rfl) (by simp) ?_
  refine AllReadyH.cons (opsS (opsS (opsS (opsS (opsS (opsS (opsS ops0))))))) (fun K hK => ?_) AllReadyH.nil
  go_simp
  (first | (with_reducible refine (K3.out _).mono ?_) | (with_reducible refine (K4.out _).mono ?_) | (with_reducible refine (K5.out _).mono ?_)); rintro e w' ⟨rfl, hb⟩
  dsimp only
  refine hK.out _ _ ?_ (fun hHeldq3 => ?_)
  · (first | assumption | exact MO.drew (by assumption) | (go_split_ands; exact MO.drew (by assumption)) | (go_split_ands; exact MO.step (by assumption) (by assumption)) | (go_split_ands; exact MO.alloc (by assumption) _))
  clear hK K hHeldq2
  try clear hb
  try simp only [Act.put, List.setIfInBounds_toArray, List.set_cons_zero, List.set_cons_succ]
  refine wpAnyH_take (i := 8) (v := ?vq8) (opsS (opsS (opsS (opsS (opsS (opsS (opsS (opsS ops0)))))))) (by kernel_rfl) (by kernel_rfl) (by kernel_rfl) (fun _ _ _ h => h) (Or.inl ⟨by rfl, ?yq8⟩) hHeldq3 ?_
  case yq8 => (intro w hSw; (try dsimp only at hSw); go_simp; try (with_reducible rfl))
  try simp only [Act.put, List.setIfInBounds_toArray, List.set_cons_zero, List.set_cons_succ]
  refine wpAnyH_take (i := 9) (v := ?vq9) (opsS (opsS (opsS (opsS (opsS (opsS (opsS (opsS (opsS ops0))))))))) (by kernel_rfl) (by kernel_rfl) (by kernel_rfl) (fun _ _ _ h => h) (Or.inl ⟨by rfl, ?yq9⟩) hHeldq3 ?_
  case yq9 => (intro w hSw; (try dsimp only at hSw); go_simp; try (with_reducible rfl))
  try simp only [Act.put, List.setIfInBounds_toArray, List.set_cons_zero, List.set_cons_succ]
  refine wpAnyH_ready (rs := [10]) (by kernel_rfl) (by simp) ?_
  refine AllReadyH.cons (opsS (opsS (opsS (opsS (opsS (opsS (opsS (opsS (opsS (opsS ops0)))))))))) (fun K hK => ?_) AllReadyH.nil
  go_simp
  refine (awake_any _).mono ?_; rintro e w' ⟨rfl, hb⟩
  dsimp only
  refine hK.out _ _ ?_ (fun hHeldq4 => ?_)
  · (first | assumption | exact MO.drew (by assumption) | (go_split_ands; exact MO.drew (by assumption)) | (go_split_ands; exact MO.step (by assumption) (by assumption)) | (go_split_ands; exact MO.alloc (by assumption) _))
  clear hK K hHeldq3
  try clear hb
  try simp only [Act.put, List.setIfInBounds_toArray, List.set_cons_zero, List.set_cons_succ]
  refine wpAnyH_take (i := 11) (v := ?vq11) (opsS (opsS (opsS (opsS (opsS (opsS (opsS (opsS (opsS (opsS (opsS ops0))))))))))) (by kernel_rfl) (by kernel_rfl) (by kernel_rfl) (fun _ _ _ h => h) (Or.inl ⟨by rfl, ?yq11⟩) hHeldq4 ?_
  case yq11 => (intro w hSw; (try dsimp only at hSw); go_simp; try (with_reducible rfl))
  try simp only [Act.put, List.setIfInBounds_toArray, List.set_cons_zero, List.set_cons_succ]
  refine wpAnyH_take (i := 12) (v := ?vq12) (opsS (opsS (opsS (opsS (opsS (opsS (opsS (opsS (opsS (opsS (opsS (opsS ops0)))))))))))) (by kernel_rfl) (by kernel_rfl) (by kernel_rfl) (fun _ _ _ h => h) (Or.inl ⟨by rfl, ?yq12⟩) hHeldq4 ?_
  case yq12 => (intro w hSw; (try dsimp only at hSw); go_simp; try (with_reducible rfl))
  try simp only [Act.put, List.setIfInBounds_toArray, List.set_cons_zero, List.set_cons_succ]
  refine wpAnyH_done (by kernel_rfl) ?_ _
  have hfin := hHeldq4.2.2.2.2.2.2.2.2.2.2.2.2.low
  clear hHeldq4 test
  go_wp2
  go_ret
  exact ⟨rfl, by rw [HB.out]; exact hfin⟩
theorem order_few (W : World) (a b c : Rg) (ha : a.by_.size ≤ maxLen) (hav : a.value.size ≤ maxLen) (hb : b.by_.size ≤ maxLen) (hbv : b.value.size ≤ maxLen) (hc : c.by_.size ≤ maxLen) (hcv : c.value.size ≤ maxLen)
    (fa : a.few = true) (fb : b.few = true) (fc : c.few = true) :
    Calls Try.prog 5 #[a.val, b.val, c.val] W fun e w' => e = .returned (.bool true) ∧ Below W.heap.size W w' := by
  have hA := join_assoc a b c
  have hS := join_swap a b
  by_cases e : a = b
  · subst e
    have hJ : a.join (a.join c) = a.join c := by rw [← hA, join_self]
    exact order_same W a.n c.n (a.join c).n a.by_ a.value c.by_ c.value (a.join c).by_ (a.join c).value ha hav hb hbv hc hcv fa fb fc (joinAt (join_self a)) (joinAt (join_self a)) (joinAt (join_self a)) (joinAt rfl) (joinAt rfl) (joinAt hJ) (newerAt (newer_self a)) (newerAt (newer_self a))
  · have hne : ¬ (a.n = b.n ∧ a.by_ = b.by_ ∧ a.value = b.value) := by
      rintro ⟨h1, h2, h3⟩; apply e; cases a; cases b; simp_all
    rcases newer_total e with h | h
    · have hl := join_left h
      rw [hl] at hA
      exact order_left W a.n b.n c.n (b.join c).n (a.join c).n a.by_ a.value b.by_ b.value c.by_ c.value (b.join c).by_ (b.join c).value (a.join c).by_ (a.join c).value ha hav hb hbv hc hcv fa fb fc (joinAt hl) (joinAt (hS.trans hl)) (joinAt (join_self a)) (joinAt rfl) (joinAt rfl) (joinAt hA.symm) (newerAt h) (newerAt (newer_swap h)) hne
    · have hl := join_right h
      rw [hl] at hA
      exact order_right W a.n b.n c.n (b.join c).n a.by_ a.value b.by_ b.value c.by_ c.value (b.join c).by_ (b.join c).value ha hav hb hbv hc hcv fa fb fc (joinAt hl) (joinAt (hS.trans hl)) (joinAt (join_self a)) (joinAt rfl) (joinAt rfl) (joinAt hA.symm) (newerAt (newer_swap h)) (newerAt h) hne
theorem order_not (W : World) (a b c : Rg) (ha : a.by_.size ≤ maxLen) (hav : a.value.size ≤ maxLen) (hb : b.by_.size ≤ maxLen) (hbv : b.value.size ≤ maxLen) (hc : c.by_.size ≤ maxLen) (hcv : c.value.size ≤ maxLen)
    (hf : a.few = false ∨ (a.few = true ∧ b.few = false) ∨ (a.few = true ∧ b.few = true ∧ c.few = false)) :
    Calls Try.prog 5 #[a.val, b.val, c.val] W fun e w' => e = .returned (.bool true) ∧ Below W.heap.size W w' := by
  obtain ⟨an, ab, av⟩ := a
  obtain ⟨bn, bb, bv⟩ := b
  obtain ⟨cn, cb, cv⟩ := c
  simp only at ha hav hb hbv hc hcv
  have SA := Lib.hid ha; have SAV := Lib.hid hav; have SB := Lib.hid hb; have SBV := Lib.hid hbv; have SC := Lib.hid hc; have SCV := Lib.hid hcv
  clear ha hav hb hbv hc hcv
  show Calls Try.prog 5 #[.agg #[.int .i64 an, .string ab, .string av], .agg #[.int .i64 bn, .string bb, .string bv], .agg #[.int .i64 cn, .string cb, .string cv]] W _
  have hM := MP.new W an bn cn ab av bb bv cb cv
  rcases hf with fa | ⟨fa, fb⟩ | ⟨fa, fb, fc⟩
  · have FA := Lib.hid fa
    clear fa
    go_enter Try.func5, Try.ntmps5
    go_wp2_with fail
    refine (few_any ⟨an, ab, av⟩ _ SA.out SAV.out).mono ?_
    rw [FA.out]
    rintro e w1 ⟨rfl, hb⟩
    have hM := MP.step0 hb hM
    clear hb
    go_wp2_with fail
    refine (awake_any _).mono ?_
    rintro e w2 ⟨rfl, hb⟩
    have hl := Lib.hid (MP.step0 hb hM).low
    clear hb hM
    go_wp2
    go_ret
    exact ⟨rfl, hl.out⟩
  · have FA := Lib.hid fa; have FB := Lib.hid fb
    clear fa fb
    go_enter Try.func5, Try.ntmps5
    go_wp2_with fail
    refine (few_any ⟨an, ab, av⟩ _ SA.out SAV.out).mono ?_
    rw [FA.out]
    rintro e w1 ⟨rfl, hb⟩
    replace hM := MP.step hb hM
    obtain ⟨a0, a1, a2, b0, b1, b2, c0, c1, c2, hM⟩ := hM
    clear hb
    go_wp2_with fail
    refine (few_any ⟨bn, bb, bv⟩ _ SB.out SBV.out).mono ?_
    rw [FB.out]
    rintro e w2 ⟨rfl, hb⟩
    have hM := MP.step0 hb hM
    clear hb a0 a1 a2 b0 b1 b2 c0 c1 c2
    go_wp2_with fail
    refine (awake_any _).mono ?_
    rintro e w2 ⟨rfl, hb⟩
    have hl := Lib.hid (MP.step0 hb hM).low
    clear hb hM
    go_wp2
    go_ret
    exact ⟨rfl, hl.out⟩
  · have FA := Lib.hid fa; have FB := Lib.hid fb; have FC := Lib.hid fc
    clear fa fb fc
    go_enter Try.func5, Try.ntmps5
    go_wp2_with fail
    refine (few_any ⟨an, ab, av⟩ _ SA.out SAV.out).mono ?_
    rw [FA.out]
    rintro e w1 ⟨rfl, hb⟩
    replace hM := MP.step hb hM
    obtain ⟨a0, a1, a2, b0, b1, b2, c0, c1, c2, hM⟩ := hM
    clear hb
    go_wp2_with fail
    refine (few_any ⟨bn, bb, bv⟩ _ SB.out SBV.out).mono ?_
    rw [FB.out]
    rintro e w2 ⟨rfl, hb⟩
    clear a0 a1 a2 b0 b1 b2 c0 c1 c2
    replace hM := MP.step hb hM
    obtain ⟨a0, a1, a2, b0, b1, b2, c0, c1, c2, hM⟩ := hM
    clear hb
    go_wp2_with fail
    refine (few_any ⟨cn, cb, cv⟩ _ SC.out SCV.out).mono ?_
    rw [FC.out]
    rintro e w3 ⟨rfl, hb⟩
    have hM := MP.step0 hb hM
    clear hb a0 a1 a2 b0 b1 b2 c0 c1 c2
    go_wp2_with fail
    refine (awake_any _).mono ?_
    rintro e w2 ⟨rfl, hb⟩
    have hl := Lib.hid (MP.step0 hb hM).low
    clear hb hM
    go_wp2
    go_ret
    exact ⟨rfl, hl.out⟩
theorem order_all (W : World) (v0 : Value) (v1 : Value) (v2 : Value) (h0 : V23 W v0) (h1 : V23 W v1) (h2 : V23 W v2) :
    Calls Try.prog 5 #[v0, v1, v2] W fun e w' => e = .returned (.bool true) ∧ Below W.heap.size W w' := by
  obtain ⟨⟨an, ab, av⟩, rfl, -, p1, p2⟩ := h0
  obtain ⟨⟨bn, bb, bv⟩, rfl, -, p3, p4⟩ := h1
  obtain ⟨⟨cn, cb, cv⟩, rfl, -, p5, p6⟩ := h2
  cases fa : Rg.few ⟨an, ab, av⟩
  · exact order_not W ⟨an, ab, av⟩ ⟨bn, bb, bv⟩ ⟨cn, cb, cv⟩ p1 p2 p3 p4 p5 p6 (.inl fa)
  · cases fb : Rg.few ⟨bn, bb, bv⟩
    · exact order_not W ⟨an, ab, av⟩ ⟨bn, bb, bv⟩ ⟨cn, cb, cv⟩ p1 p2 p3 p4 p5 p6 (.inr (.inl ⟨fa, fb⟩))
    · cases fc : Rg.few ⟨cn, cb, cv⟩
      · exact order_not W ⟨an, ab, av⟩ ⟨bn, bb, bv⟩ ⟨cn, cb, cv⟩ p1 p2 p3 p4 p5 p6 (.inr (.inr ⟨fa, fb, fc⟩))
      · exact order_few W ⟨an, ab, av⟩ ⟨bn, bb, bv⟩ ⟨cn, cb, cv⟩ p1 p2 p3 p4 p5 p6 fa fb fc
end Go.Proofs.Ytcfipdlcmpploaa.reg
