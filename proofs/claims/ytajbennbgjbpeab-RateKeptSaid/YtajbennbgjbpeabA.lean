/- The walks of package rate and of its reference. -/
import Derived.Test.YtajbennbgjbpeabOpen
import Derived.Lib.Hide
import Derived.Deep.RegionHeld3
import Derived.Deep.QuietTactic
import Derived.BigQuiet
import Derived.WalkSpells
namespace Go.Proofs.Ytajbennbgjbpeab.rate
open Go.ChangeShapes Go.WideShapes Go.ChangeAt Go.RowKit Go.Proofs.Aid
def clamp (n m : Int) : Int := if n < 0 then 0 else if m < n then m else n
theorem clamp_b (n m : Int) (h : 0 ≤ m) : 0 ≤ clamp n m ∧ clamp n m ≤ m := by unfold clamp; split <;> (try split) <;> omega
theorem ret_int {k : IntKind} {a b : Int} (h : a = b) : Ending.returned (.int k a) = .returned (.int k b) := by rw [h]
set_option maxHeartbeats 400000 in
theorem hold_any (n m : Int) (w : World) (hm : 0 ≤ m) :
    Calls Try.prog 27 #[.agg #[.int .i64 0, .int .i64 m], .int .i64 n] w fun e w' => e = .returned (.int .i64 (clamp n m)) ∧ Below w.heap.size w w' := by
  go_enter Try.func27, Try.ntmps27
  go_wp2
  all_goals go_ret
  all_goals refine ⟨ret_int ?_, (Below.refl _ _).alloc (Nat.le_refl _) _⟩
  all_goals unfold clamp
  all_goals (rename_i q; split at q <;> (repeat' split) <;> omega)
theorem held_any (n : Int) (w : World) :
    Calls Try.prog 22 #[.int .i64 n] w fun e w' => e = .returned (.int .i64 (clamp n 1099511627776)) ∧ Below w.heap.size w w' := by
  go_enter Try.func22, Try.ntmps22
  go_wp2_with fail
  refine (hold_any _ _ _ (by decide)).mono ?_
  rintro e w' ⟨rfl, hb⟩
  go_wp2
  go_ret
  exact ⟨rfl, hb⟩
theorem heldRate_any (n : Int) (w : World) :
    Calls Try.prog 20 #[.int .i64 n] w fun e w' => e = .returned (.int .i64 (clamp n 1048576)) ∧ Below w.heap.size w w' := by
  go_enter Try.func20, Try.ntmps20
  go_wp2_with fail
  refine (hold_any _ _ _ (by decide)).mono ?_
  rintro e w' ⟨rfl, hb⟩
  go_wp2
  go_ret
  exact ⟨rfl, hb⟩
def goneI (a b : Int) : Int := if clamp a 1099511627776 < clamp b 1099511627776 then clamp b 1099511627776 - clamp a 1099511627776 else 0
theorem gone_b (a b : Int) : 0 ≤ goneI a b ∧ goneI a b ≤ 1099511627776 := by
  have := clamp_b a 1099511627776 (by decide); have := clamp_b b 1099511627776 (by decide)
  unfold goneI; split <;> omega
theorem gone_any (a b : Int) (w : World) :
    Calls Try.prog 21 #[.int .i64 a, .int .i64 b] w fun e w' => e = .returned (.int .i64 (goneI a b)) ∧ Below w.heap.size w w' := by
  have h1 := clamp_b a 1099511627776 (by decide); have h2 := clamp_b b 1099511627776 (by decide)
  have hg := Lib.hid (show goneI a b = if clamp a 1099511627776 < clamp b 1099511627776 then clamp b 1099511627776 - clamp a 1099511627776 else 0 from rfl)
  go_enter Try.func21, Try.ntmps21
  go_wp2_with fail
  refine (held_any _ _).mono ?_
  rintro e w1 ⟨rfl, hb1⟩
  go_wp2_with fail
  refine (held_any _ _).mono ?_
  rintro e w2 ⟨rfl, hb2⟩
  generalize clamp b 1099511627776 = y at *
  generalize clamp a 1099511627776 = x at *
  go_wp2
  all_goals go_ret
  all_goals refine ⟨ret_int (by rw [hg.out]; split <;> omega), hb1.trans (hb2.mono hb1.size)⟩
structure Bk where
  left : Int
  at_ : Int
def fillI (b : Bk) (now rate burst : Int) : Bk := ⟨min (clamp b.left 1048576 + clamp rate 1048576 * goneI b.at_ now) (clamp burst 1048576), max (clamp b.at_ 1099511627776) (clamp now 1099511627776)⟩
@[reducible] def Bk.val (b : Bk) : Value := .agg #[.int .i64 b.left, .int .i64 b.at_]
/-- What a cell of the result's block holds, whatever it is. -/
def cv (w : World) (b j : Nat) : Value := (w.cell? ⟨b, j, none⟩).getD .nilIface
structure St (w : World) (B : Nat) (l t : Int) (w' : World) : Prop where
  one : Blk w' B 23 #[.int .i64 l, .int .i64 t]
  two : ∃ x y, Blk w' (B + 1) 23 #[x, y]
  low : Below B w w'
theorem S2.of {w : World} {B : Nat} {l t : Int} {w' : World} (h : St w B l t w') : w'.cell? ⟨B, 0, none⟩ = some (.int .i64 l) ∧ w'.cell? ⟨B, 1, none⟩ = some (.int .i64 t) ∧ w'.cell? ⟨B + 1, 0, none⟩ = some (cv w' (B + 1) 0) ∧ w'.cell? ⟨B + 1, 1, none⟩ = some (cv w' (B + 1) 1) ∧ w'.frozen? ⟨B + 1, 0, none⟩ = false ∧ w'.frozen? ⟨B + 1, 1, none⟩ = false ∧ Hid (St w B l t w') := by
  obtain ⟨h1, ⟨x, y, h2⟩, h3⟩ := h
  exact ⟨by rw [h1.cell]; rfl, by rw [h1.cell]; rfl, by unfold cv; rw [h2.cell]; rfl, by unfold cv; rw [h2.cell]; rfl, h2.frozen _, h2.frozen _, h1, ⟨x, y, h2⟩, h3⟩
theorem S2.step {w : World} {B : Nat} {l t : Int} {W w' : World} (hb : Below W.heap.size W w') (h : Hid (St w B l t W)) : w'.cell? ⟨B, 0, none⟩ = some (.int .i64 l) ∧ w'.cell? ⟨B, 1, none⟩ = some (.int .i64 t) ∧ w'.cell? ⟨B + 1, 0, none⟩ = some (cv w' (B + 1) 0) ∧ w'.cell? ⟨B + 1, 1, none⟩ = some (cv w' (B + 1) 1) ∧ w'.frozen? ⟨B + 1, 0, none⟩ = false ∧ w'.frozen? ⟨B + 1, 1, none⟩ = false ∧ Hid (St w B l t w') := by
  obtain ⟨h1, ⟨x, y, h2⟩, h3⟩ := h
  exact S2.of ⟨h1.below hb h1.lt, ⟨x, y, h2.below hb h2.lt⟩, h3.trans (hb.mono (by have := h1.lt; omega))⟩
theorem S2.store {w : World} {B : Nat} {l t : Int} {W : World} {u v : Value} (h : Hid (St w B l t W)) : ((W.setCell ⟨B + 1, 0, none⟩ u).setCell ⟨B + 1, 1, none⟩ v).cell? ⟨B, 0, none⟩ = some (.int .i64 l) ∧ ((W.setCell ⟨B + 1, 0, none⟩ u).setCell ⟨B + 1, 1, none⟩ v).cell? ⟨B, 1, none⟩ = some (.int .i64 t) ∧ ((W.setCell ⟨B + 1, 0, none⟩ u).setCell ⟨B + 1, 1, none⟩ v).cell? ⟨B + 1, 0, none⟩ = some (cv ((W.setCell ⟨B + 1, 0, none⟩ u).setCell ⟨B + 1, 1, none⟩ v) (B + 1) 0) ∧ ((W.setCell ⟨B + 1, 0, none⟩ u).setCell ⟨B + 1, 1, none⟩ v).cell? ⟨B + 1, 1, none⟩ = some (cv ((W.setCell ⟨B + 1, 0, none⟩ u).setCell ⟨B + 1, 1, none⟩ v) (B + 1) 1) ∧ ((W.setCell ⟨B + 1, 0, none⟩ u).setCell ⟨B + 1, 1, none⟩ v).frozen? ⟨B + 1, 0, none⟩ = false ∧ ((W.setCell ⟨B + 1, 0, none⟩ u).setCell ⟨B + 1, 1, none⟩ v).frozen? ⟨B + 1, 1, none⟩ = false ∧ Hid (St w B l t ((W.setCell ⟨B + 1, 0, none⟩ u).setCell ⟨B + 1, 1, none⟩ v)) := by
  obtain ⟨h1, ⟨x, y, h2⟩, h3⟩ := h
  exact S2.of ⟨(h1.far (p := ⟨B + 1, 0, none⟩) (by simp) u).far (p := ⟨B + 1, 1, none⟩) (by simp) v, ⟨u, v, by simpa using (h2.set_ 0 u).set_ 1 v⟩, (h3.setCell (p := ⟨B + 1, 0, none⟩) (by simp) u).setCell (p := ⟨B + 1, 1, none⟩) (by simp) v⟩
theorem S2.drew {w : World} {B : Nat} {l t : Int} {W : World} (h : Hid (St w B l t W)) : W.drew.cell? ⟨B, 0, none⟩ = some (.int .i64 l) ∧ W.drew.cell? ⟨B, 1, none⟩ = some (.int .i64 t) ∧ W.drew.cell? ⟨B + 1, 0, none⟩ = some (cv W.drew (B + 1) 0) ∧ W.drew.cell? ⟨B + 1, 1, none⟩ = some (cv W.drew (B + 1) 1) ∧ W.drew.frozen? ⟨B + 1, 0, none⟩ = false ∧ W.drew.frozen? ⟨B + 1, 1, none⟩ = false ∧ Hid (St w B l t W.drew) := by
  obtain ⟨h1, ⟨x, y, h2⟩, h3⟩ := h
  exact S2.of ⟨h1, ⟨x, y, h2⟩, h3.drew⟩
theorem St.new (w : World) (l t : Int) : St w w.heap.size l t ((w.alloc (.cells #[.int .i64 l, .int .i64 t] 23)).alloc (.cells #[.int .i64 0, .int .i64 0] 23)) :=
  ⟨(Blk.new w 23 _).alloc _, ⟨_, _, by simpa using Blk.new (w.alloc (.cells #[.int .i64 l, .int .i64 t] 23)) 23 #[.int .i64 0, .int .i64 0]⟩, ((Below.refl _ _).alloc (Nat.le_refl _) _).alloc (by simp) _⟩
theorem mul_b {x y : Int} (hx : 0 ≤ x ∧ x ≤ 1048576) (hy : 0 ≤ y ∧ y ≤ 1099511627776) : 0 ≤ x * y ∧ x * y ≤ 1152921504606846976 :=
  ⟨Int.mul_nonneg hx.1 hy.1, by have := Int.mul_le_mul hx.2 hy.2 hy.1 (by decide : (0 : Int) ≤ 1048576); omega⟩
theorem mul_in {x y : Int} (hx : 0 ≤ x ∧ x ≤ 1048576) (hy : 0 ≤ y ∧ y ≤ 1099511627776) : IntKind.i64.wrap (x * y) = x * y :=
  IntWalk.i64_in _ (by have := mul_b hx hy; omega)
set_option maxHeartbeats 1000000 in
theorem fill_any (b : Bk) (now rate burst : Int) (w : World) :
    Calls Try.prog 8 #[b.val, .int .i64 now, .int .i64 rate, .int .i64 burst] w fun e w' => e = .returned (fillI b now rate burst).val ∧ Below w.heap.size w w' := by
  obtain ⟨l, t⟩ := b
  show Calls Try.prog 8 #[.agg #[.int .i64 l, .int .i64 t], .int .i64 now, .int .i64 rate, .int .i64 burst] w _
  have hst := St.new w l t
  go_enter Try.func8, Try.ntmps8
  go_wp2_with fail
  obtain ⟨c0, c1, d0, d1, f0, f1, hst⟩ := S2.of hst
  generalize (w.alloc (Obj.cells #[Value.int IntKind.i64 l, Value.int IntKind.i64 t] 23)).alloc (Obj.cells #[Value.int IntKind.i64 0, Value.int IntKind.i64 0] 23) = W1 at *
  generalize hB : w.heap.size = B at *
  have HB := Lib.hid hB
  clear hB
  have test := S2.drew hst
  have hw := Lib.hid (mul_in (clamp_b rate 1048576 (by decide)) (gone_b t now))
  have hv := Lib.hid (mul_b (clamp_b rate 1048576 (by decide)) (gone_b t now))
  go_region_held3 (fun w' => w'.cell? ⟨B, 0, none⟩ = some (.int .i64 l) ∧ w'.cell? ⟨B, 1, none⟩ = some (.int .i64 t) ∧ w'.cell? ⟨B + 1, 0, none⟩ = some (cv w' (B + 1) 0) ∧ w'.cell? ⟨B + 1, 1, none⟩ = some (cv w' (B + 1) 1) ∧ w'.frozen? ⟨B + 1, 0, none⟩ = false ∧ w'.frozen? ⟨B + 1, 1, none⟩ = false ∧ Hid (St w B l t w'))
    (first
      | assumption
      | exact S2.drew (by assumption)
      | (go_split_ands; exact S2.drew (by assumption))
      | (go_split_ands; exact S2.step (by assumption) (by assumption))
      | (go_split_ands; exact S2.store (by assumption)))
    (first
      | (go_at_call 20; refine (heldRate_any _ _).mono ?_; rintro e w' ⟨rfl, hb⟩)
      | (go_at_call 21; refine (gone_any _ _ _).mono ?_; rintro e w' ⟨rfl, hb⟩))
  rename_i hhold
  obtain ⟨k0, k1, e0, e1, g0, g1, hst2⟩ := hhold
  have test2 := S2.drew hst2
  clear test hst d0 d1 f0 f1 c0 c1
  rw [hw.out]
  have hx := hv.out
  have hf := Lib.hid (show fillI ⟨l, t⟩ now rate burst = ⟨min (clamp l 1048576 + clamp rate 1048576 * goneI t now) (clamp burst 1048576), max (clamp t 1099511627776) (clamp now 1099511627776)⟩ from rfl)
  clear hw hv
  generalize clamp rate 1048576 * goneI t now = p at *
  have hl := clamp_b l 1048576 (by decide)
  go_wp2_with fail
  have hl2 := clamp_b burst 1048576 (by decide)
  have hs : IntKind.i64.wrap (clamp l 1048576 + p) = clamp l 1048576 + p := IntWalk.i64_in _ (by omega)
  have hzz : max (clamp t 1099511627776) (clamp now 1099511627776) = if clamp t 1099511627776 < clamp now 1099511627776 then clamp now 1099511627776 else clamp t 1099511627776 := by split <;> omega
  have hzm : min (clamp l 1048576 + p) (clamp burst 1048576) = if clamp burst 1048576 < clamp l 1048576 + p then clamp burst 1048576 else clamp l 1048576 + p := by split <;> omega
  obtain ⟨M, hM⟩ : ∃ M, (if clamp burst 1048576 < clamp l 1048576 + p then clamp burst 1048576 else clamp l 1048576 + p) = M := ⟨_, rfl⟩
  obtain ⟨X, hX⟩ : ∃ X, (if clamp t 1099511627776 < clamp now 1099511627776 then clamp now 1099511627776 else clamp t 1099511627776) = X := ⟨_, rfl⟩
  have HF := Lib.hid (hf.out.trans (by rw [hzz, hzm, hM, hX] : _ = (⟨M, X⟩ : Bk)))
  clear hzz hzm hf
  all_goals
    go_region_held3 (fun w' => w'.cell? ⟨B, 0, none⟩ = some (.int .i64 l) ∧ w'.cell? ⟨B, 1, none⟩ = some (.int .i64 t) ∧ w'.cell? ⟨B + 1, 0, none⟩ = some (cv w' (B + 1) 0) ∧ w'.cell? ⟨B + 1, 1, none⟩ = some (cv w' (B + 1) 1) ∧ w'.frozen? ⟨B + 1, 0, none⟩ = false ∧ w'.frozen? ⟨B + 1, 1, none⟩ = false ∧ Hid (St w B l t w'))
      (first
        | assumption
        | exact S2.drew (by assumption)
        | (go_split_ands; exact S2.drew (by assumption))
        | (go_split_ands; exact S2.step (by assumption) (by assumption))
        | (go_split_ands; exact S2.store (by assumption)))
      (first
        | (go_at_call 20; refine (heldRate_any _ _).mono ?_; rintro e w' ⟨rfl, hb⟩)
        | (go_at_call 22; refine (held_any _ _).mono ?_; rintro e w' ⟨rfl, hb⟩))
    all_goals
      rename_i w2 hb2 w3 hb3 w4 hb4 hhold
      have q2 := (S2.step hb2 (S2.drew hst2).2.2.2.2.2.2).2.2.2.2.2.2
      have q3 := (S2.step hb3 q2).2.2.2.2.2.2
      have q4 := (S2.step hb4 q3).2.2.2.2.2.2
      have q5 := (S2.step hb q4).2.2.2.2.2.2
      obtain ⟨-, -, e0, e1, -, -, -⟩ := S2.of q5
      have hlast := hhold.2.2.2.2.2.2
      clear hhold test2 q2 q3 q4 hb2 hb3 hb4 hb hst2 hM hX hs hx hl hl2 hst k0 k1 g0 g1
      have HF2 := Lib.hid hlast.low
      clear hlast q5
      go_wp2
      exact bodyPost_ret (v := .agg #[.int .i64 M, .int .i64 X]) (by simp [results, Try.results8, go_sem, e0, e1]) rfl ⟨by rw [HF.out], by rw [HB.out]; exact HF2.out⟩
end Go.Proofs.Ytajbennbgjbpeab.rate
