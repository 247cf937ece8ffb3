/- OctetNobody: a reader that nobody made reads nothing, is bad, and does not fail. -/
import Derived.Test.YtpdmchkmdkdfgaaOcA
namespace Go.Proofs.Ytpdmchkmdkdfgaa.oc
set_option linter.unusedSimpArgs false
set_option linter.unusedVariables false
open Go.ChangeShapes Go.WideShapes Go.ChangeAt Go.RowKit Go.Proofs.Aid
open Go.Proofs.Ytpdmchkmdkdfgaa.texts (tc)
def RV (o : Option Nat) (b : Nat) (w : World) : Prop := RAt (some b) none w ∧ RAt o none w
theorem RAt.nil (w : World) : RAt none none w := ⟨trivial, rfl⟩
/-- What stays of the two readers and their slice. -/
structure Two (W : World) (w : World) : Prop where
  r : RAt (some W.heap.size) none w
  s : Blk w (W.heap.size + 1) 40 #[.pointer none, pb W.heap.size]
  low : Below W.heap.size W w
theorem Two.step {W w w' : World} {o : Option Nat} (h : Two W w) (ho : o = none ∨ o = some W.heap.size) (h1 : RAt o none w') (h2 : w.grownBy w' o) : Two W w' := by
  have hz := h.low.size
  rcases ho with rfl | rfl
  · exact ⟨h.r.grown h2 (fun _ _ => by simp), h.s.grown h2 (by simp), low_none h.low h2 hz⟩
  · exact ⟨h1, h.s.grown h2 (by simp), low_of h.low h2 (Nat.le_refl _) hz⟩
theorem Two.cells {W w : World} (h : Two W w) : w.cell? ⟨W.heap.size + 1, 0, none⟩ = some (.pointer none) ∧ w.cell? ⟨W.heap.size + 1, 1, none⟩ = some (pb W.heap.size) := ⟨by rw [h.s.cell]; rfl, by rw [h.s.cell]; rfl⟩
set_option maxRecDepth 100000 in
set_option maxHeartbeats 8000000 in
theorem nobody_walk (W : World) (most : Int) :
    Calls Try.prog 6 #[.int .i64 most] W fun e w' => e = .returned (.bool true) ∧ Below W.heap.size W w' := by
  have hT0 : Two W ((W.alloc (.cells #[.string ⟨#[]⟩, .bool false] 54)).alloc (.cells #[.pointer none, pb W.heap.size] 40)) :=
    ⟨RAt.alloc (w := W.alloc (.cells #[.string ⟨#[]⟩, .bool false] 54)) (o := some W.heap.size) (st := none) ⟨trivial, Blk.new W _ _⟩ _, by have h := Blk.new (W.alloc (.cells #[.string ⟨#[]⟩, .bool false] 54)) 40 #[.pointer none, pb W.heap.size]; rw [World.size_alloc] at h; exact h, below_lit2 _ _ _⟩
  have HT0 := Lib.hid hT0
  clear hT0
  go_enter Try.func6, Try.ntmps6
  go_wp2_with fail
  go_loopw [4] (fun iv wr => ∃ k : Nat, k ≤ 2 ∧ iv = .int .i64 k ∧ Hid (Two W wr)) (fun iv _ => 2 - (intOf iv).toNat)
  case atStart => exact ⟨0, by omega, rfl, HT0⟩
  case round =>
    clear HT0
    obtain ⟨k, hk, rfl, ht⟩ := hrel
    by_cases h0 : k = 0
    · subst h0
      obtain ⟨c0, c1⟩ := ht.out.cells
      go_wp2_with fail
      clear c0 c1
      refine (rbyte_any (none) none _ (RAt.nil _)).mono ?_
      rintro e w2 ⟨rfl, h1, h2⟩
      replace ht := Lib.hid (ht.out.step (.inl rfl) h1 h2)
      clear h1 h2
      obtain ⟨c0, c1⟩ := ht.out.cells
      go_wp2_with fail
      clear c0 c1
      refine (rint_any (none) none _ (RAt.nil _)).mono ?_
      rintro e w2 ⟨rfl, h1, h2⟩
      replace ht := Lib.hid (ht.out.step (.inl rfl) h1 h2)
      clear h1 h2
      obtain ⟨c0, c1⟩ := ht.out.cells
      go_wp2_with fail
      clear c0 c1
      refine (nb_count (none) most _ (RAt.nil _)).mono ?_
      rintro e w2 ⟨rfl, h1, h2⟩
      replace ht := Lib.hid (ht.out.step (.inl rfl) h1 h2)
      clear h1 h2
      obtain ⟨c0, c1⟩ := ht.out.cells
      go_wp2_with fail
      clear c0 c1
      refine (nb_text (none) _ (RAt.nil _)).mono ?_
      rintro e w2 ⟨rfl, h1, h2⟩
      replace ht := Lib.hid (ht.out.step (.inl rfl) h1 h2)
      clear h1 h2
      obtain ⟨c0, c1⟩ := ht.out.cells
      go_wp2_with fail
      clear c0 c1
      refine (nb_texts (none) _ (RAt.nil _)).mono ?_
      rintro e w2 ⟨v, rfl, hrow, h1, h2⟩
      replace ht := Lib.hid (ht.out.step (.inl rfl) h1 h2)
      obtain ⟨A, c, rfl⟩ := hrow.form
      clear h1 h2 hrow
      obtain ⟨c0, c1⟩ := ht.out.cells
      go_wp2_with fail
      clear c0 c1
      refine (bad_any (none) none _ (RAt.nil _)).mono ?_
      rintro e w2 ⟨rfl, rfl⟩
      obtain ⟨c0, c1⟩ := ht.out.cells
      go_wp2_with fail
      clear c0 c1
      refine (done_any (none) none _ (RAt.nil _)).mono ?_
      rintro e w2 ⟨rfl, rfl⟩
      go_wp2
      go_roundw
      case rel => exact ⟨1, by omega, rfl, ht⟩
      case measure => simp [intOf]
    · by_cases h1 : k = 1
      · subst h1
        obtain ⟨c0, c1⟩ := ht.out.cells
        go_wp2_with fail
        clear c0 c1
        refine (rbyte_any (some W.heap.size) none _ ht.out.r).mono ?_
        rintro e w2 ⟨rfl, h1, h2⟩
        replace ht := Lib.hid (ht.out.step (.inr rfl) h1 h2)
        clear h1 h2
        obtain ⟨c0, c1⟩ := ht.out.cells
        go_wp2_with fail
        clear c0 c1
        refine (rint_any (some W.heap.size) none _ ht.out.r).mono ?_
        rintro e w2 ⟨rfl, h1, h2⟩
        replace ht := Lib.hid (ht.out.step (.inr rfl) h1 h2)
        clear h1 h2
        obtain ⟨c0, c1⟩ := ht.out.cells
        go_wp2_with fail
        clear c0 c1
        refine (nb_count (some W.heap.size) most _ ht.out.r).mono ?_
        rintro e w2 ⟨rfl, h1, h2⟩
        replace ht := Lib.hid (ht.out.step (.inr rfl) h1 h2)
        clear h1 h2
        obtain ⟨c0, c1⟩ := ht.out.cells
        go_wp2_with fail
        clear c0 c1
        refine (nb_text (some W.heap.size) _ ht.out.r).mono ?_
        rintro e w2 ⟨rfl, h1, h2⟩
        replace ht := Lib.hid (ht.out.step (.inr rfl) h1 h2)
        clear h1 h2
        obtain ⟨c0, c1⟩ := ht.out.cells
        go_wp2_with fail
        clear c0 c1
        refine (nb_texts (some W.heap.size) _ ht.out.r).mono ?_
        rintro e w2 ⟨v, rfl, hrow, h1, h2⟩
        replace ht := Lib.hid (ht.out.step (.inr rfl) h1 h2)
        obtain ⟨A, c, rfl⟩ := hrow.form
        clear h1 h2 hrow
        obtain ⟨c0, c1⟩ := ht.out.cells
        go_wp2_with fail
        clear c0 c1
        refine (bad_any (some W.heap.size) none _ ht.out.r).mono ?_
        rintro e w2 ⟨rfl, rfl⟩
        obtain ⟨c0, c1⟩ := ht.out.cells
        go_wp2_with fail
        clear c0 c1
        refine (done_any (some W.heap.size) none _ ht.out.r).mono ?_
        rintro e w2 ⟨rfl, rfl⟩
        go_wp2
        go_roundw
        case rel => exact ⟨2, by omega, rfl, ht⟩
        case measure => simp [intOf]
      · have h2 : k = 2 := by omega
        subst h2
        have hl := Lib.hid ht.out.low
        clear ht h0 h1 hk
        go_wp2_with fail
        refine (awake_any wr).mono ?_
        rintro e w2 ⟨rfl, hb⟩
        have HF := Lib.hid (hl.out.trans (hb.mono hl.out.size))
        clear hb
        go_wp2
        go_ret
        exact ⟨rfl, HF.out⟩
end Go.Proofs.Ytpdmchkmdkdfgaa.oc
