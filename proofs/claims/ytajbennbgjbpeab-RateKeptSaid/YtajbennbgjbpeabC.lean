/- The other walks of package rate and of its reference. -/
import Derived.Test.YtajbennbgjbpeabA
namespace Go.Proofs.Ytajbennbgjbpeab.rate
open Go.ChangeShapes Go.WideShapes Go.ChangeAt Go.RowKit Go.Proofs.Aid
theorem bcell {W w1 : World} (hb : Below W.heap.size W w1) : (∀ b o, b < W.heap.size → w1.cell? ⟨b, o, none⟩ = W.cell? ⟨b, o, none⟩) ∧ (∀ b o, b < W.heap.size → w1.frozen? ⟨b, o, none⟩ = W.frozen? ⟨b, o, none⟩) :=
  ⟨fun b o h => hb.cell (p := ⟨b, o, none⟩) h, fun b o h => hb.frozen (p := ⟨b, o, none⟩) h⟩
def fullI (now burst : Int) : Bk := ⟨clamp burst 1048576, clamp now 1099511627776⟩
theorem full_any (now burst : Int) (w : World) :
    Calls Try.prog 10 #[.int .i64 now, .int .i64 burst] w fun e w' => e = .returned (fullI now burst).val ∧ Below w.heap.size w w' := by
  have h0 : Blk (w.alloc (.cells #[.int .i64 0, .int .i64 0] 23)) w.heap.size 23 #[.int .i64 0, .int .i64 0] := Blk.new _ _ _
  have hb0 := Lib.hid (((Below.refl w.heap.size w).alloc (Nat.le_refl _) (.cells #[.int .i64 0, .int .i64 0] 23)))
  go_enter Try.func10, Try.ntmps10
  go_wp2_with fail
  refine (heldRate_any _ _).mono ?_
  rintro e w1 ⟨rfl, hb⟩
  have h1 := h0.below hb h0.lt
  have hb1 := Lib.hid (hb0.out.trans (hb.mono (by simp)))
  clear hb hb0 h0
  go_wp2_with fail
  refine (held_any _ _).mono ?_
  rintro e w2 ⟨rfl, hb⟩
  have h2 := h1.below hb h1.lt
  have hb2 := Lib.hid (hb1.out.trans (hb.mono (by have := h1.lt; omega)))
  have c0 : w2.cell? ⟨w.heap.size, 0, none⟩ = some (.int .i64 0) := by rw [h2.cell]; rfl
  have c1 : w2.cell? ⟨w.heap.size, 1, none⟩ = some (.int .i64 0) := by rw [h2.cell]; rfl
  have f0 := h2.frozen 0
  have f1 := h2.frozen 1
  clear hb hb1 h1 h2
  go_wp2
  exact bodyPost_ret (v := (fullI now burst).val) (by simp [results, Try.results10, go_sem, c0, c1, fullI]) rfl ⟨rfl, ((hb2.out.setCell (by simp) _).setCell (by simp) _)⟩
def mostI (a b rate burst : Int) : Int := clamp burst 1048576 + clamp rate 1048576 * goneI a b
theorem most_any (a b rate burst : Int) (w : World) :
    Calls Try.prog 12 #[.int .i64 a, .int .i64 b, .int .i64 rate, .int .i64 burst] w fun e w' => e = .returned (.int .i64 (mostI a b rate burst)) ∧ Below w.heap.size w w' := by
  have hw := Lib.hid (mul_in (clamp_b rate 1048576 (by decide)) (gone_b a b))
  have hv := mul_b (clamp_b rate 1048576 (by decide)) (gone_b a b)
  have hc := clamp_b burst 1048576 (by decide)
  have hm := Lib.hid (show mostI a b rate burst = clamp burst 1048576 + clamp rate 1048576 * goneI a b from rfl)
  go_enter Try.func12, Try.ntmps12
  go_wp2_with fail
  refine (heldRate_any _ _).mono ?_
  rintro e w1 ⟨rfl, hb1⟩
  go_wp2_with fail
  refine (heldRate_any _ _).mono ?_
  rintro e w2 ⟨rfl, hb2⟩
  go_wp2_with fail
  refine (gone_any _ _ _).mono ?_
  rintro e w3 ⟨rfl, hb3⟩
  have hbb := hb1.trans ((hb2.trans (hb3.mono hb2.size)).mono hb1.size)
  clear hb1 hb2 hb3
  obtain ⟨p, hp⟩ : ∃ p, clamp rate 1048576 * goneI a b = p := ⟨_, rfl⟩
  rw [hp] at hw hv hm
  have hq : wrap64 (clamp rate 1048576 * goneI a b) = p := by rw [hp]; exact IntWalk.wrap64_in _ (by omega)
  clear hp hw
  go_wp2
  go_ret
  exact ⟨ret_int (by rw [hm.out]), hbb⟩
def takeI (b : Bk) (now rate burst : Int) : Bk × Bool := let c := fillI b now rate burst; if c.left = 0 then (c, false) else (⟨c.left - 1, c.at_⟩, true)
theorem fill_b (b : Bk) (now rate burst : Int) : 0 ≤ (fillI b now rate burst).left ∧ (fillI b now rate burst).left ≤ 1048576 := by
  have h1 := clamp_b b.left 1048576 (by decide)
  have h2 := clamp_b burst 1048576 (by decide)
  have h3 := mul_b (clamp_b rate 1048576 (by decide)) (gone_b b.at_ now)
  unfold fillI
  simp only
  omega
theorem take_any (b : Bk) (now rate burst : Int) (w : World) :
    Calls Try.prog 6 #[b.val, .int .i64 now, .int .i64 rate, .int .i64 burst] w fun e w' => e = .returned (.tuple #[(takeI b now rate burst).1.val, .bool (takeI b now rate burst).2]) ∧ Below w.heap.size w w' := by
  obtain ⟨l, t⟩ := b
  show Calls Try.prog 6 #[.agg #[.int .i64 l, .int .i64 t], .int .i64 now, .int .i64 rate, .int .i64 burst] w _
  have hst := St.new w l t
  have hfb := fill_b ⟨l, t⟩ now rate burst
  have hT := Lib.hid (show takeI ⟨l, t⟩ now rate burst = if (fillI ⟨l, t⟩ now rate burst).left = 0 then (fillI ⟨l, t⟩ now rate burst, false) else (⟨(fillI ⟨l, t⟩ now rate burst).left - 1, (fillI ⟨l, t⟩ now rate burst).at_⟩, true) from rfl)
  go_enter Try.func6, Try.ntmps6
  go_wp2_with fail
  refine (fill_any ⟨l, t⟩ _ _ _ _).mono ?_
  generalize fillI ⟨l, t⟩ now rate burst = c at *
  obtain ⟨cl, ct⟩ := c
  rintro e w1 ⟨rfl, hb⟩
  have s1 := (S2.step hb hst).2.2.2.2.2.2
  obtain ⟨c0, c1, d0, d1, f0, f1, -⟩ := S2.of s1
  have g0 := s1.one.frozen 0
  have g1 := s1.one.frozen 1
  have hlow := Lib.hid s1.low
  clear hst s1 hb
  simp only at hfb
  by_cases hz : cl = 0
  · subst hz
    rw [if_pos rfl] at hT
    go_wp2
    exact bodyPost_ret (v := .tuple #[.agg #[.int .i64 0, .int .i64 ct], .bool false]) (by simp [results, Try.results6, go_sem, c0, c1, d0, d1]) rfl
      ⟨by rw [hT.out], (((hlow.out.setCell (by simp) _).setCell (by simp) _).setCell (by simp) _).setCell (by simp) _⟩
  · have hT2 := Lib.hid (hT.out.trans (if_neg (by simpa using hz)))
    clear hT
    go_wp2
    exact bodyPost_ret (v := .tuple #[.agg #[.int .i64 (cl - 1), .int .i64 ct], .bool true]) (by simp [results, Try.results6, go_sem, c0, c1, d0, d1]) rfl
      ⟨by rw [hT2.out], ((((hlow.out.setCell (by simp) _).setCell (by simp) _).setCell (by simp) _).setCell (by simp) _).setCell (by simp) _⟩
end Go.Proofs.Ytajbennbgjbpeab.rate
