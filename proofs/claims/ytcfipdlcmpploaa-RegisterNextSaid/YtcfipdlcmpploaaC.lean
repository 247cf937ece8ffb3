/- The walk of what must come of package register, whatever the arguments are. -/
import Derived.Test.YtcfipdlcmpploaaB
import Derived.Test.YtcfipdlcmpploaaMath
namespace Go.Proofs.Ytcfipdlcmpploaa.reg
open Go.ChangeShapes Go.WideShapes Go.ChangeAt Go.RowKit Go.Proofs.Aid Go.Proofs.Ytcfipdlcmpploaa.name
theorem w1 : Rg.next ⟨0, ⟨#[]⟩, ⟨#[]⟩⟩ ⟨#[110, 49]⟩ ⟨#[120]⟩ = (⟨1, ⟨#[110, 49]⟩, ⟨#[120]⟩⟩, 0) := by kernel_rfl
theorem w2 : Rg.next ⟨1, ⟨#[110, 49]⟩, ⟨#[120]⟩⟩ ⟨#[110, 50]⟩ ⟨#[121]⟩ = (⟨2, ⟨#[110, 50]⟩, ⟨#[121]⟩⟩, 0) := by kernel_rfl
theorem w3 : Rg.next ⟨1, ⟨#[110, 49]⟩, ⟨#[120]⟩⟩ ⟨#[78]⟩ ⟨#[121]⟩ = (⟨0, ⟨#[]⟩, ⟨#[]⟩⟩, 1) := by kernel_rfl
theorem w4 : Rg.newer ⟨2, ⟨#[110, 50]⟩, ⟨#[121]⟩⟩ ⟨1, ⟨#[110, 49]⟩, ⟨#[120]⟩⟩ = true := by kernel_rfl
theorem w5 : Rg.join ⟨1, ⟨#[110, 49]⟩, ⟨#[120]⟩⟩ ⟨2, ⟨#[110, 50]⟩, ⟨#[121]⟩⟩ = ⟨2, ⟨#[110, 50]⟩, ⟨#[121]⟩⟩ := by kernel_rfl
theorem w6 : Rg.join ⟨2, ⟨#[110, 50]⟩, ⟨#[121]⟩⟩ ⟨1, ⟨#[110, 49]⟩, ⟨#[120]⟩⟩ = ⟨2, ⟨#[110, 50]⟩, ⟨#[121]⟩⟩ := by kernel_rfl
theorem w7 : Rg.check ⟨1, ⟨#[110, 49]⟩, ⟨#[120]⟩⟩ = 0 := by kernel_rfl
theorem w8 : Rg.check ⟨0, ⟨#[]⟩, ⟨#[]⟩⟩ = 1 := by kernel_rfl
theorem next1 (w : World) : Calls Try.prog 14 #[.agg #[.int .i64 0, .string ⟨#[]⟩, .string ⟨#[]⟩], .string ⟨#[110, 49]⟩, .string ⟨#[120]⟩] w fun e w' => e = .returned (.tuple #[.agg #[.int .i64 1, .string ⟨#[110, 49]⟩, .string ⟨#[120]⟩], .int .i64 0]) ∧ Below w.heap.size w w' := by
  have := next_any ⟨0, ⟨#[]⟩, ⟨#[]⟩⟩ ⟨#[110, 49]⟩ ⟨#[120]⟩ w (by decide) (by decide) (by decide) (by decide); rw [w1] at this; exact this
theorem next2 (w : World) : Calls Try.prog 14 #[.agg #[.int .i64 1, .string ⟨#[110, 49]⟩, .string ⟨#[120]⟩], .string ⟨#[110, 50]⟩, .string ⟨#[121]⟩] w fun e w' => e = .returned (.tuple #[.agg #[.int .i64 2, .string ⟨#[110, 50]⟩, .string ⟨#[121]⟩], .int .i64 0]) ∧ Below w.heap.size w w' := by
  have := next_any ⟨1, ⟨#[110, 49]⟩, ⟨#[120]⟩⟩ ⟨#[110, 50]⟩ ⟨#[121]⟩ w (by decide) (by decide) (by decide) (by decide); rw [w2] at this; exact this
theorem next3 (w : World) : Calls Try.prog 14 #[.agg #[.int .i64 1, .string ⟨#[110, 49]⟩, .string ⟨#[120]⟩], .string ⟨#[78]⟩, .string ⟨#[121]⟩] w fun e w' => e = .returned (.tuple #[.agg #[.int .i64 0, .string ⟨#[]⟩, .string ⟨#[]⟩], .int .i64 1]) ∧ Below w.heap.size w w' := by
  have := next_any ⟨1, ⟨#[110, 49]⟩, ⟨#[120]⟩⟩ ⟨#[78]⟩ ⟨#[121]⟩ w (by decide) (by decide) (by decide) (by decide); rw [w3] at this; exact this
theorem newer1 (w : World) : Calls Try.prog 10 #[.agg #[.int .i64 2, .string ⟨#[110, 50]⟩, .string ⟨#[121]⟩], .agg #[.int .i64 1, .string ⟨#[110, 49]⟩, .string ⟨#[120]⟩]] w fun e w' => e = .returned (.bool true) ∧ Below w.heap.size w w' := by
  have := newer_any ⟨2, ⟨#[110, 50]⟩, ⟨#[121]⟩⟩ ⟨1, ⟨#[110, 49]⟩, ⟨#[120]⟩⟩ w; rw [w4] at this; exact this
theorem join1 (w : World) : Calls Try.prog 12 #[.agg #[.int .i64 1, .string ⟨#[110, 49]⟩, .string ⟨#[120]⟩], .agg #[.int .i64 2, .string ⟨#[110, 50]⟩, .string ⟨#[121]⟩]] w fun e w' => e = .returned (.agg #[.int .i64 2, .string ⟨#[110, 50]⟩, .string ⟨#[121]⟩]) ∧ Below w.heap.size w w' := by
  have := join_any ⟨1, ⟨#[110, 49]⟩, ⟨#[120]⟩⟩ ⟨2, ⟨#[110, 50]⟩, ⟨#[121]⟩⟩ w; rw [w5] at this; exact this
theorem join2 (w : World) : Calls Try.prog 12 #[.agg #[.int .i64 2, .string ⟨#[110, 50]⟩, .string ⟨#[121]⟩], .agg #[.int .i64 1, .string ⟨#[110, 49]⟩, .string ⟨#[120]⟩]] w fun e w' => e = .returned (.agg #[.int .i64 2, .string ⟨#[110, 50]⟩, .string ⟨#[121]⟩]) ∧ Below w.heap.size w w' := by
  have := join_any ⟨2, ⟨#[110, 50]⟩, ⟨#[121]⟩⟩ ⟨1, ⟨#[110, 49]⟩, ⟨#[120]⟩⟩ w; rw [w6] at this; exact this
theorem check1 (w : World) : Calls Try.prog 8 #[.agg #[.int .i64 1, .string ⟨#[110, 49]⟩, .string ⟨#[120]⟩]] w fun e w' => e = .returned (.int .i64 0) ∧ Below w.heap.size w w' := by
  have := check_any ⟨1, ⟨#[110, 49]⟩, ⟨#[120]⟩⟩ w (by decide) (by decide); rw [w7] at this; exact this
theorem check2 (w : World) : Calls Try.prog 8 #[.agg #[.int .i64 0, .string ⟨#[]⟩, .string ⟨#[]⟩]] w fun e w' => e = .returned (.int .i64 1) ∧ Below w.heap.size w w' := by
  have := check_any ⟨0, ⟨#[]⟩, ⟨#[]⟩⟩ w (by decide) (by decide); rw [w8] at this; exact this
theorem step_blk {w1 w2 : World} {cs : Array Value} {ty : TypeId} (hb : Below (w1.alloc (.cells cs ty)).heap.size (w1.alloc (.cells cs ty)) w2) :
    Blk w2 w1.heap.size ty cs ∧ w1.heap.size < w2.heap.size ∧ Below w1.heap.size w1 w2 := by
  have h := Blk.new w1 ty cs
  have h2 := h.below hb h.lt
  exact ⟨h2, h2.lt, ((Below.refl _ _).alloc (Nat.le_refl _) _).trans (hb.mono (by simp))⟩
theorem Blk.three {w : World} {g : Nat} {ty : TypeId} {x y z : Value} (h : Blk w g ty #[x, y, z]) : w.cell? ⟨g, 0, none⟩ = some x ∧ w.cell? ⟨g, 1, none⟩ = some y ∧ w.cell? ⟨g, 2, none⟩ = some z :=
  ⟨by rw [h.cell]; rfl, by rw [h.cell]; rfl, by rw [h.cell]; rfl⟩
structure MA (W : World) (B C : Nat) (w' : World) : Prop where
  b0 : Blk w' (B) 23 #[.int .i64 1, .string ⟨#[110, 49]⟩, .string ⟨#[120]⟩]
  b1 : Blk w' (C) 23 #[.int .i64 2, .string ⟨#[110, 50]⟩, .string ⟨#[121]⟩]
  low : Below (W.heap.size) W w'
theorem MA.of {W : World} {B C : Nat} {w' : World} (h : MA W B C w') : w'.cell? ⟨B, 0, none⟩ = some (.int .i64 1) ∧ w'.cell? ⟨B, 1, none⟩ = some (.string ⟨#[110, 49]⟩) ∧ w'.cell? ⟨B, 2, none⟩ = some (.string ⟨#[120]⟩) ∧ w'.cell? ⟨C, 0, none⟩ = some (.int .i64 2) ∧ w'.cell? ⟨C, 1, none⟩ = some (.string ⟨#[110, 50]⟩) ∧ w'.cell? ⟨C, 2, none⟩ = some (.string ⟨#[121]⟩) ∧ Hid (MA W B C w') :=
  ⟨by rw [h.b0.cell]; rfl, by rw [h.b0.cell]; rfl, by rw [h.b0.cell]; rfl, by rw [h.b1.cell]; rfl, by rw [h.b1.cell]; rfl, by rw [h.b1.cell]; rfl, h⟩
theorem MA.step0 {W : World} {B C : Nat} {W0 w' : World} (hb : Below W0.heap.size W0 w') (h : MA W B C W0) : MA W B C w' :=
  ⟨h.b0.below hb h.b0.lt, h.b1.below hb h.b1.lt, h.low.trans (hb.mono (by have := h.b0.lt; have := h.low.size; omega))⟩
theorem MA.step {W : World} {B C : Nat} {W0 w' : World} (hb : Below W0.heap.size W0 w') (h : Hid (MA W B C W0)) : w'.cell? ⟨B, 0, none⟩ = some (.int .i64 1) ∧ w'.cell? ⟨B, 1, none⟩ = some (.string ⟨#[110, 49]⟩) ∧ w'.cell? ⟨B, 2, none⟩ = some (.string ⟨#[120]⟩) ∧ w'.cell? ⟨C, 0, none⟩ = some (.int .i64 2) ∧ w'.cell? ⟨C, 1, none⟩ = some (.string ⟨#[110, 50]⟩) ∧ w'.cell? ⟨C, 2, none⟩ = some (.string ⟨#[121]⟩) ∧ Hid (MA W B C w') :=
  MA.of (MA.step0 hb h)
theorem MA.drew {W : World} {B C : Nat} {W0 : World} (h : Hid (MA W B C W0)) : W0.drew.cell? ⟨B, 0, none⟩ = some (.int .i64 1) ∧ W0.drew.cell? ⟨B, 1, none⟩ = some (.string ⟨#[110, 49]⟩) ∧ W0.drew.cell? ⟨B, 2, none⟩ = some (.string ⟨#[120]⟩) ∧ W0.drew.cell? ⟨C, 0, none⟩ = some (.int .i64 2) ∧ W0.drew.cell? ⟨C, 1, none⟩ = some (.string ⟨#[110, 50]⟩) ∧ W0.drew.cell? ⟨C, 2, none⟩ = some (.string ⟨#[121]⟩) ∧ Hid (MA W B C W0.drew) :=
  MA.of ⟨h.b0, h.b1, h.low.drew⟩
theorem MA.alloc {W : World} {B C : Nat} {W0 : World} (h : Hid (MA W B C W0)) (x : Obj) : (W0.alloc x).cell? ⟨B, 0, none⟩ = some (.int .i64 1) ∧ (W0.alloc x).cell? ⟨B, 1, none⟩ = some (.string ⟨#[110, 49]⟩) ∧ (W0.alloc x).cell? ⟨B, 2, none⟩ = some (.string ⟨#[120]⟩) ∧ (W0.alloc x).cell? ⟨C, 0, none⟩ = some (.int .i64 2) ∧ (W0.alloc x).cell? ⟨C, 1, none⟩ = some (.string ⟨#[110, 50]⟩) ∧ (W0.alloc x).cell? ⟨C, 2, none⟩ = some (.string ⟨#[121]⟩) ∧ Hid (MA W B C (W0.alloc x)) :=
  MA.of ⟨h.b0.alloc x, h.b1.alloc x, h.low.alloc (by have := h.b0.lt; have := h.low.size; omega) x⟩
set_option maxHeartbeats 4000000 in
theorem awake_any (W : World) : Calls Try.prog 7 #[] W fun e w' => e = .returned (.bool true) ∧ Below W.heap.size W w' := by
  go_enter Try.func7, Try.ntmps7
  go_wp2_with fail
  refine (next1 _).mono ?_
  rintro e w1 ⟨rfl, hb1⟩
  go_wp2_with fail
  refine (next2 _).mono ?_
  rintro e w2 ⟨rfl, hb2⟩
  obtain ⟨b1, z1, l2⟩ := step_blk hb2
  have L2 := Lib.hid (hb1.trans (l2.mono hb1.size))
  have hsz := Lib.hid hb1.size
  clear hb1 hb2 l2
  generalize w1.heap.size = B at *
  obtain ⟨c0, c1, c2⟩ := Blk.three b1
  go_wp2_with fail
  refine (next3 _).mono ?_
  rintro e w3 ⟨rfl, hb3⟩
  obtain ⟨b2, z2, l3⟩ := step_blk hb3
  have b1 := b1.below l3 (by omega)
  have L3 := Lib.hid (L2.out.trans (l3.mono L2.out.size))
  have hsz2 := Lib.hid L2.out.size
  clear hb3 L2 l3 c0 c1 c2 z1
  generalize w2.heap.size = C at *
  have hM := MA.alloc (W := W) (B := B) (C := C) (W0 := w3) ⟨b1, b2, L3.out⟩ (.cells #[.int .i64 0, .string ⟨#[]⟩, .string ⟨#[]⟩] 23)
  go_wp2_with fail
  clear b1 b2 L3 hsz hsz2 z2
  replace hM := hM.2.2.2.2.2.2
  generalize w3.alloc (.cells #[.int .i64 0, .string ⟨#[]⟩, .string ⟨#[]⟩] 23) = W3 at *
  have test := MA.drew hM
  go_region_held3 (fun w' => w'.cell? ⟨B, 0, none⟩ = some (.int .i64 1) ∧ w'.cell? ⟨B, 1, none⟩ = some (.string ⟨#[110, 49]⟩) ∧ w'.cell? ⟨B, 2, none⟩ = some (.string ⟨#[120]⟩) ∧ w'.cell? ⟨C, 0, none⟩ = some (.int .i64 2) ∧ w'.cell? ⟨C, 1, none⟩ = some (.string ⟨#[110, 50]⟩) ∧ w'.cell? ⟨C, 2, none⟩ = some (.string ⟨#[121]⟩) ∧ Hid (MA W B C w'))
    ((first | assumption | exact MA.drew (by assumption) | (go_split_ands; exact MA.drew (by assumption)) | (go_split_ands; exact MA.step (by assumption) (by assumption)) | (go_split_ands; exact MA.alloc (by assumption) _)))
    (first
      | (go_at_call 10; refine (newer1 _).mono ?_; rintro e w' ⟨rfl, hb⟩)
      | (go_at_call 12; (first | (with_reducible refine (join1 _).mono ?_) | (with_reducible refine (join2 _).mono ?_)); rintro e w' ⟨rfl, hb⟩)
      | (go_at_call 8; (first | (with_reducible refine (check1 _).mono ?_) | (with_reducible refine (check2 _).mono ?_)); rintro e w' ⟨rfl, hb⟩))
  all_goals
    rename_i hheld
    have hfin := hheld.2.2.2.2.2.2.low
    clear hheld test hM
    go_wp2
    go_ret
    exact ⟨rfl, hfin⟩
end Go.Proofs.Ytcfipdlcmpploaa.reg
