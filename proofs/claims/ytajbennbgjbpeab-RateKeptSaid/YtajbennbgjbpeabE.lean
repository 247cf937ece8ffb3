/- The walk of what must come of package rate, whatever the arguments are. -/
import Derived.Test.YtajbennbgjbpeabD
namespace Go.Proofs.Ytajbennbgjbpeab.rate
open Go.ChangeShapes Go.WideShapes Go.ChangeAt Go.RowKit Go.Proofs.Aid
theorem k1 : fullI 3 2 = ⟨2, 3⟩ := by kernel_rfl
theorem k2 : takeI ⟨2, 3⟩ 3 1 2 = (⟨1, 3⟩, true) := by kernel_rfl
theorem k3 : takeI ⟨1, 3⟩ 3 1 2 = (⟨0, 3⟩, true) := by kernel_rfl
theorem k4 : takeI ⟨0, 3⟩ 3 1 2 = (⟨0, 3⟩, false) := by kernel_rfl
theorem k5 : takeI ⟨0, 3⟩ 4 1 2 = (⟨0, 4⟩, true) := by kernel_rfl
theorem k6 : fillI ⟨0, 4⟩ 9 1 2 = ⟨2, 9⟩ := by kernel_rfl
theorem k7 : mostI 3 5 4 2 = 10 := by kernel_rfl
theorem full_at (w : World) : Calls Try.prog 10 #[.int .i64 3, .int .i64 2] w fun e w' => e = .returned (.agg #[.int .i64 2, .int .i64 3]) ∧ Below w.heap.size w w' := by
  have := full_any 3 2 w; rw [k1] at this; exact this
theorem take1 (w : World) : Calls Try.prog 6 #[.agg #[.int .i64 2, .int .i64 3], .int .i64 3, .int .i64 1, .int .i64 2] w fun e w' => e = .returned (.tuple #[.agg #[.int .i64 1, .int .i64 3], .bool true]) ∧ Below w.heap.size w w' := by
  have := take_any ⟨2, 3⟩ 3 1 2 w; rw [k2] at this; exact this
theorem take2 (w : World) : Calls Try.prog 6 #[.agg #[.int .i64 1, .int .i64 3], .int .i64 3, .int .i64 1, .int .i64 2] w fun e w' => e = .returned (.tuple #[.agg #[.int .i64 0, .int .i64 3], .bool true]) ∧ Below w.heap.size w w' := by
  have := take_any ⟨1, 3⟩ 3 1 2 w; rw [k3] at this; exact this
theorem take3 (w : World) : Calls Try.prog 6 #[.agg #[.int .i64 0, .int .i64 3], .int .i64 3, .int .i64 1, .int .i64 2] w fun e w' => e = .returned (.tuple #[.agg #[.int .i64 0, .int .i64 3], .bool false]) ∧ Below w.heap.size w w' := by
  have := take_any ⟨0, 3⟩ 3 1 2 w; rw [k4] at this; exact this
theorem take4 (w : World) : Calls Try.prog 6 #[.agg #[.int .i64 0, .int .i64 3], .int .i64 4, .int .i64 1, .int .i64 2] w fun e w' => e = .returned (.tuple #[.agg #[.int .i64 0, .int .i64 4], .bool true]) ∧ Below w.heap.size w w' := by
  have := take_any ⟨0, 3⟩ 4 1 2 w; rw [k5] at this; exact this
theorem fill_at (w : World) : Calls Try.prog 8 #[.agg #[.int .i64 0, .int .i64 4], .int .i64 9, .int .i64 1, .int .i64 2] w fun e w' => e = .returned (.agg #[.int .i64 2, .int .i64 9]) ∧ Below w.heap.size w w' := by
  have := fill_any ⟨0, 4⟩ 9 1 2 w; rw [k6] at this; exact this
theorem most_at (w : World) : Calls Try.prog 12 #[.int .i64 3, .int .i64 5, .int .i64 4, .int .i64 2] w fun e w' => e = .returned (.int .i64 10) ∧ Below w.heap.size w w' := by
  have := most_any 3 5 4 2 w; rw [k7] at this; exact this
theorem step_blk {w1 w2 : World} {cs : Array Value} {ty : TypeId} (hb : Below (w1.alloc (.cells cs ty)).heap.size (w1.alloc (.cells cs ty)) w2) :
    Blk w2 w1.heap.size ty cs ∧ w1.heap.size < w2.heap.size ∧ Below w1.heap.size w1 w2 := by
  have h := Blk.new w1 ty cs
  have h2 := h.below hb h.lt
  exact ⟨h2, h2.lt, ((Below.refl _ _).alloc (Nat.le_refl _) _).trans (hb.mono (by simp))⟩
theorem Blk.two {w : World} {g : Nat} {ty : TypeId} {x y : Value} (h : Blk w g ty #[x, y]) : w.cell? ⟨g, 0, none⟩ = some x ∧ w.cell? ⟨g, 1, none⟩ = some y :=
  ⟨by rw [h.cell]; rfl, by rw [h.cell]; rfl⟩
set_option maxHeartbeats 1000000 in
theorem awake_any (w : World) : Calls Try.prog 14 #[] w fun e w' => e = .returned (.bool true) ∧ Below w.heap.size w w' := by
  go_enter Try.func14, Try.ntmps14
  go_wp2_with fail
  refine (full_at _).mono ?_
  rintro e w1 ⟨rfl, hb1⟩
  go_wp2_with fail
  refine (take1 _).mono ?_
  rintro e w2 ⟨rfl, hb2⟩
  obtain ⟨b1, z1, l2⟩ := step_blk hb2
  have L2 := Lib.hid (hb1.trans (l2.mono hb1.size))
  clear hb1 hb2 l2
  generalize hB : w1.heap.size = B1 at *
  clear hB
  go_wp2_with fail
  refine (take2 _).mono ?_
  rintro e w3 ⟨rfl, hb3⟩
  obtain ⟨b2, z2, l3⟩ := step_blk hb3
  have b1 := b1.below l3 (by omega)
  have L3 := Lib.hid (L2.out.trans (l3.mono L2.out.size))
  clear hb3 L2 l3 b2 z1
  go_wp2_with fail
  refine (take3 _).mono ?_
  rintro e w4 ⟨rfl, hb4⟩
  obtain ⟨b3, z3, l4⟩ := step_blk hb4
  have b1 := b1.below l4 b1.lt
  have L4 := Lib.hid (L3.out.trans (l4.mono L3.out.size))
  obtain ⟨c0, c1⟩ := Blk.two b3
  clear hb4 L3 l4 z2
  go_wp2_with fail
  refine (take4 _).mono ?_
  rintro e w5 ⟨rfl, hb5⟩
  obtain ⟨b4, z4, l5⟩ := step_blk hb5
  have b1 := b1.below l5 b1.lt
  have L5 := Lib.hid (L4.out.trans (l5.mono L4.out.size))
  obtain ⟨d0, d1⟩ := Blk.two b1
  have zz := b1.lt
  clear hb5 L4 l5 b4 z3 b3 c0 c1
  go_wp2_with fail
  refine (fill_at _).mono ?_
  rintro e w6 ⟨rfl, hb6⟩
  obtain ⟨b5, z5, l6⟩ := step_blk hb6
  have L6 := Lib.hid (L5.out.trans (l6.mono L5.out.size))
  clear hb6 L5 l6
  go_wp2_with fail
  refine (most_at _).mono ?_
  rintro e w7 ⟨rfl, hb7⟩
  have L7 := Lib.hid (L6.out.trans (hb7.mono L6.out.size))
  go_wp2
  go_ret
  exact ⟨rfl, L7.out⟩
end Go.Proofs.Ytajbennbgjbpeab.rate
