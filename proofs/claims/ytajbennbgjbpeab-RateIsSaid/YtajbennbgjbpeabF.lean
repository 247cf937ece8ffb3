/- The walk of RateIs. -/
import Derived.Test.YtajbennbgjbpeabE
namespace Go.Proofs.Ytajbennbgjbpeab.rate
open Go.ChangeShapes Go.WideShapes Go.ChangeAt Go.RowKit Go.Proofs.Aid
theorem Blk.four {w : World} {g : Nat} {ty : TypeId} {x y z u : Value} (h : Blk w g ty #[x, y, z, u]) : w.cell? ⟨g, 0, none⟩ = some x ∧ w.cell? ⟨g, 1, none⟩ = some y ∧ w.cell? ⟨g, 2, none⟩ = some z ∧ w.cell? ⟨g, 3, none⟩ = some u :=
  ⟨by rw [h.cell]; rfl, by rw [h.cell]; rfl, by rw [h.cell]; rfl, by rw [h.cell]; rfl⟩
structure M3 (W : World) (B C E : Nat) (l t n0 n1 n2 n3 tl tt : Int) (w' : World) : Prop where
  b0 : Blk w' (B) 23 #[.int .i64 l, .int .i64 t]
  b1 : Blk w' (B + 1) 24 #[.int .i64 n0, .int .i64 n1, .int .i64 n2, .int .i64 n3]
  b2 : Blk w' (C) 23 #[.int .i64 tl, .int .i64 tt]
  b3 : Blk w' (E) 23 #[.int .i64 tl, .int .i64 tt]
  low : Below (B) W w'
theorem M3.of {W : World} {B C E : Nat} {l t n0 n1 n2 n3 tl tt : Int} {w' : World} (h : M3 W B C E l t n0 n1 n2 n3 tl tt w') : w'.cell? ⟨B, 0, none⟩ = some (.int .i64 l) ∧ w'.cell? ⟨B, 1, none⟩ = some (.int .i64 t) ∧ w'.cell? ⟨B + 1, 0, none⟩ = some (.int .i64 n0) ∧ w'.cell? ⟨B + 1, 1, none⟩ = some (.int .i64 n1) ∧ w'.cell? ⟨B + 1, 2, none⟩ = some (.int .i64 n2) ∧ w'.cell? ⟨B + 1, 3, none⟩ = some (.int .i64 n3) ∧ w'.cell? ⟨C, 0, none⟩ = some (.int .i64 tl) ∧ w'.cell? ⟨C, 1, none⟩ = some (.int .i64 tt) ∧ w'.cell? ⟨E, 0, none⟩ = some (.int .i64 tl) ∧ w'.cell? ⟨E, 1, none⟩ = some (.int .i64 tt) ∧ Hid (M3 W B C E l t n0 n1 n2 n3 tl tt w') :=
  ⟨by rw [h.b0.cell]; rfl, by rw [h.b0.cell]; rfl, by rw [h.b1.cell]; rfl, by rw [h.b1.cell]; rfl, by rw [h.b1.cell]; rfl, by rw [h.b1.cell]; rfl, by rw [h.b2.cell]; rfl, by rw [h.b2.cell]; rfl, by rw [h.b3.cell]; rfl, by rw [h.b3.cell]; rfl, h⟩
theorem M3.step0 {W : World} {B C E : Nat} {l t n0 n1 n2 n3 tl tt : Int} {W0 w' : World} (hb : Below W0.heap.size W0 w') (h : M3 W B C E l t n0 n1 n2 n3 tl tt W0) : M3 W B C E l t n0 n1 n2 n3 tl tt w' :=
  ⟨h.b0.below hb h.b0.lt, h.b1.below hb h.b1.lt, h.b2.below hb h.b2.lt, h.b3.below hb h.b3.lt, h.low.trans (hb.mono (by have := h.b0.lt; omega))⟩
theorem M3.step {W : World} {B C E : Nat} {l t n0 n1 n2 n3 tl tt : Int} {W0 w' : World} (hb : Below W0.heap.size W0 w') (h : Hid (M3 W B C E l t n0 n1 n2 n3 tl tt W0)) : w'.cell? ⟨B, 0, none⟩ = some (.int .i64 l) ∧ w'.cell? ⟨B, 1, none⟩ = some (.int .i64 t) ∧ w'.cell? ⟨B + 1, 0, none⟩ = some (.int .i64 n0) ∧ w'.cell? ⟨B + 1, 1, none⟩ = some (.int .i64 n1) ∧ w'.cell? ⟨B + 1, 2, none⟩ = some (.int .i64 n2) ∧ w'.cell? ⟨B + 1, 3, none⟩ = some (.int .i64 n3) ∧ w'.cell? ⟨C, 0, none⟩ = some (.int .i64 tl) ∧ w'.cell? ⟨C, 1, none⟩ = some (.int .i64 tt) ∧ w'.cell? ⟨E, 0, none⟩ = some (.int .i64 tl) ∧ w'.cell? ⟨E, 1, none⟩ = some (.int .i64 tt) ∧ Hid (M3 W B C E l t n0 n1 n2 n3 tl tt w') :=
  M3.of (M3.step0 hb h)
theorem M3.drew {W : World} {B C E : Nat} {l t n0 n1 n2 n3 tl tt : Int} {W0 : World} (h : Hid (M3 W B C E l t n0 n1 n2 n3 tl tt W0)) : W0.drew.cell? ⟨B, 0, none⟩ = some (.int .i64 l) ∧ W0.drew.cell? ⟨B, 1, none⟩ = some (.int .i64 t) ∧ W0.drew.cell? ⟨B + 1, 0, none⟩ = some (.int .i64 n0) ∧ W0.drew.cell? ⟨B + 1, 1, none⟩ = some (.int .i64 n1) ∧ W0.drew.cell? ⟨B + 1, 2, none⟩ = some (.int .i64 n2) ∧ W0.drew.cell? ⟨B + 1, 3, none⟩ = some (.int .i64 n3) ∧ W0.drew.cell? ⟨C, 0, none⟩ = some (.int .i64 tl) ∧ W0.drew.cell? ⟨C, 1, none⟩ = some (.int .i64 tt) ∧ W0.drew.cell? ⟨E, 0, none⟩ = some (.int .i64 tl) ∧ W0.drew.cell? ⟨E, 1, none⟩ = some (.int .i64 tt) ∧ Hid (M3 W B C E l t n0 n1 n2 n3 tl tt W0.drew) :=
  M3.of ⟨h.b0, h.b1, h.b2, h.b3, h.low.drew⟩
set_option maxHeartbeats 2000000 in
theorem is_walk (W : World) (l t n0 n1 n2 n3 : Int) :
    Calls Try.prog 3 #[.agg #[.int .i64 l, .int .i64 t], .agg #[.int .i64 n0, .int .i64 n1, .int .i64 n2, .int .i64 n3]] W fun e w' => e = .returned (.bool true) ∧ Below W.heap.size W w' := by
  have b := (Blk.new W 23 #[.int .i64 l, .int .i64 t]).alloc (.cells #[.int .i64 n0, .int .i64 n1, .int .i64 n2, .int .i64 n3] 24)
  have a : Blk ((W.alloc (.cells #[.int .i64 l, .int .i64 t] 23)).alloc (.cells #[.int .i64 n0, .int .i64 n1, .int .i64 n2, .int .i64 n3] 24)) (W.heap.size + 1) 24 #[.int .i64 n0, .int .i64 n1, .int .i64 n2, .int .i64 n3] := by
    simpa using Blk.new (W.alloc (.cells #[.int .i64 l, .int .i64 t] 23)) 24 #[.int .i64 n0, .int .i64 n1, .int .i64 n2, .int .i64 n3]
  have L0 := Lib.hid (((Below.refl W.heap.size W).alloc (Nat.le_refl _) (.cells #[.int .i64 l, .int .i64 t] 23)).alloc (by simp) (.cells #[.int .i64 n0, .int .i64 n1, .int .i64 n2, .int .i64 n3] 24))
  go_enter Try.func3, Try.ntmps3
  go_wp2_with fail
  refine (take_any ⟨l, t⟩ _ _ _ _).mono ?_
  generalize hT : takeI ⟨l, t⟩ n0 n1 n2 = T
  have HT := Lib.hid hT
  clear hT
  obtain ⟨⟨tl, tt⟩, ok⟩ := T
  rintro e w1 ⟨rfl, hb⟩
  have b := b.below hb b.lt
  have a := a.below hb a.lt
  have L1 := Lib.hid (L0.out.trans (hb.mono L0.out.size))
  clear L0 hb
  generalize hB : W.heap.size = B at *
  have HB := Lib.hid hB
  clear hB
  obtain ⟨b0, b1⟩ := Blk.two b
  obtain ⟨a0, a1, a2, a3⟩ := Blk.four a
  have za := a.lt
  have zb := b.lt
  go_wp2_with fail
  have hT := rtake_any ⟨l, t⟩ n0 n1 n2
  rw [HT.out] at hT
  refine (hT _).mono ?_
  clear hT
  rintro e w2 ⟨rfl, hb⟩
  obtain ⟨c, zc, l2⟩ := step_blk hb
  have b := b.below l2 zb
  have a := a.below l2 za
  have L2 := Lib.hid (L1.out.trans (l2.mono (by omega)))
  clear L1 hb l2 b0 b1 a0 a1 a2 a3 za zb
  generalize w1.heap.size = C at *
  -- both buckets lie there now
  have hd : Blk (w2.alloc (.cells #[.int .i64 tl, .int .i64 tt] 23)) w2.heap.size 23 #[.int .i64 tl, .int .i64 tt] := Blk.new _ _ _
  have za := a.lt
  have zb := b.lt
  obtain ⟨b0, b1⟩ := Blk.two b
  obtain ⟨a0, a1, a2, a3⟩ := Blk.four a
  obtain ⟨c0, c1⟩ := Blk.two c
  have hM : M3 W B C w2.heap.size l t n0 n1 n2 n3 tl tt (w2.alloc (.cells #[.int .i64 tl, .int .i64 tt] 23)) :=
    ⟨b.alloc _, a.alloc _, c.alloc _, hd, L2.out.alloc (by omega) _⟩
  go_wp2_with fail
  clear b0 b1 a0 a1 a2 a3 c0 c1 hd c a b L2 za
  have hlt : B ≤ w2.heap.size + 1 := by omega
  generalize w2.alloc (.cells #[.int .i64 tl, .int .i64 tt] 23) = W3 at *
  generalize w2.heap.size = E at *
  have test := M3.drew hM
  dsimp only [List.append]
  go_region_held3 (fun w' => w'.cell? ⟨B, 0, none⟩ = some (.int .i64 l) ∧ w'.cell? ⟨B, 1, none⟩ = some (.int .i64 t) ∧ w'.cell? ⟨B + 1, 0, none⟩ = some (.int .i64 n0) ∧ w'.cell? ⟨B + 1, 1, none⟩ = some (.int .i64 n1) ∧ w'.cell? ⟨B + 1, 2, none⟩ = some (.int .i64 n2) ∧ w'.cell? ⟨B + 1, 3, none⟩ = some (.int .i64 n3) ∧ w'.cell? ⟨C, 0, none⟩ = some (.int .i64 tl) ∧ w'.cell? ⟨C, 1, none⟩ = some (.int .i64 tt) ∧ w'.cell? ⟨E, 0, none⟩ = some (.int .i64 tl) ∧ w'.cell? ⟨E, 1, none⟩ = some (.int .i64 tt) ∧ Hid (M3 W B C E l t n0 n1 n2 n3 tl tt w'))
    ((first | assumption | exact M3.drew (by assumption) | (go_split_ands; exact M3.drew (by assumption)) | (go_split_ands; exact M3.step (by assumption) (by assumption))))
    (first
      | (go_at_call 8; refine (fill_any ⟨l, t⟩ _ _ _ _).mono ?_; rintro e w' ⟨rfl, hb⟩)
      | (go_at_call 9; refine (rfill_any ⟨l, t⟩ _ _ _ _).mono ?_; rintro e w' ⟨rfl, hb⟩)
      | (go_at_call 10; refine (full_any _ _ _).mono ?_; rintro e w' ⟨rfl, hb⟩)
      | (go_at_call 11; refine (rfull_any _ _ _).mono ?_; rintro e w' ⟨rfl, hb⟩)
      | (go_at_call 12; refine (most_any _ _ _ _ _).mono ?_; rintro e w' ⟨rfl, hb⟩)
      | (go_at_call 13; refine (rmost_any _ _ _ _ _).mono ?_; rintro e w' ⟨rfl, rfl⟩)
      | (go_at_call 14; refine (awake_any _).mono ?_; rintro e w' ⟨rfl, hb⟩))
  rename_i hheld
  obtain ⟨-, -, -, -, -, -, -, -, -, -, hfin⟩ := hheld
  go_wp2
  go_ret
  exact ⟨rfl, by rw [HB.out]; exact hfin.low⟩
theorem is_all (W : World) (v0 : Value) (v1 : Value) (h0 : V23 W v0) (h1 : V24 W v1) :
    Calls Try.prog 3 #[v0, v1] W fun e w' => e = .returned (.bool true) ∧ Below W.heap.size W w' := by
  obtain ⟨⟨l, t⟩, rfl, -⟩ := h0
  obtain ⟨⟨n0, n1, n2, n3⟩, rfl, -⟩ := h1
  exact is_walk W l t n0 n1 n2 n3
end Go.Proofs.Ytajbennbgjbpeab.rate
