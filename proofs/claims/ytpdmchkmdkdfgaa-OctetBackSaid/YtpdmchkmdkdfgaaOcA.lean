/- Readers that nobody made; few texts; the awake reader and writer. No condition. -/
import Derived.Test.YtpdmchkmdkdfgaaOcY
import Derived.Test.YtpdmchkmdkdfgaaOcP
namespace Go.Proofs.Ytpdmchkmdkdfgaa.oc
set_option linter.unusedSimpArgs false
set_option linter.unusedVariables false
open Go.ChangeShapes Go.WideShapes Go.ChangeAt Go.RowKit Go.Proofs.Aid
open Go.Proofs.Ytpdmchkmdkdfgaa.texts (tc)
abbrev pb (b : Nat) : Value := .pointer (some ⟨b, 0, none⟩)
theorem low_of {B b : Nat} {a w w' : World} (h : Below B a w) (hg : w.grownBy w' (some b)) (hb : B ≤ b) (hB : B ≤ w.heap.size) : Below B a w' :=
  h.grown hg hB (fun q hq => by injection hq with hq; omega)
theorem low_none {B : Nat} {a w w' : World} (h : Below B a w) (hg : w.grownBy w' none) (hB : B ≤ w.heap.size) : Below B a w' :=
  h.grown hg hB (fun q hq => by cases hq)
theorem RAt.new (s : ByteArray) (hs : s.size ≤ 9223372036854775807) (w : World) : RAt (some w.heap.size) (some s) (w.alloc (.cells #[.string s, .bool true] 54)) := ⟨hs, Blk.new w _ _⟩
theorem RAt.drewN {o : Option Nat} {st : St} {w : World} (h : RAt o st w) (n : Nat) : RAt o st (w.drewN n) := h
set_option maxHeartbeats 1000000 in
theorem new_any (s : ByteArray) (w : World) :
    Calls Try.prog 20 #[.string s] w fun e w' => e = .returned (pb w.heap.size) ∧ w' = w.alloc (.cells #[.string s, .bool true] 54) := by
  go_enter Try.func20, Try.ntmps20
  go_wp2
  go_ret
  exact ⟨rfl, rfl⟩
set_option maxRecDepth 100000 in
set_option maxHeartbeats 4000000 in
theorem qfew_any (w : World) (A : Option Addr) (ca : Nat) (l : List ByteArray) (hl : l.length ≤ maxLen) (hr : Reads w w.heap.size 1 A l.length (l.flatMap tc)) (hz : ∀ s ∈ l, s.size ≤ maxLen) :
    Calls Try.prog 7 #[.slice A l.length ca] w (SomeB (fun b => b = true → l.length ≤ 20 ∧ ∀ s ∈ l, s.size ≤ 1024) w) := by
  have H1 := Lib.hid hr
  have HS := Lib.hid hz
  unfold maxLen at hl
  clear hr hz
  go_enter Try.func7, Try.ntmps7
  go_wp2_with fail
  go_loopw [3] (fun iv wr => ∃ k : Nat, k ≤ l.length ∧ k ≤ 20 ∧ iv = .int .i64 k ∧ Hid (∀ j (_ : j < l.length), j < k → l[j].size ≤ 1024) ∧ wr = w) (fun iv _ => l.length - (intOf iv).toNat)
  case atStart => exact ⟨0, by omega, by omega, rfl, fun _ _ h => by omega, rfl⟩
  case round =>
    obtain ⟨k, hk, hk20, rfl, hI, rfl⟩ := hrel
    by_cases hlt : k < l.length
    · by_cases h20 : k < 20
      · obtain ⟨ad, rfl, had, c0⟩ := H1.out.elem1 hlt
        have hsz := HS.out _ (List.getElem_mem hlt)
        unfold maxLen at hsz
        have hnx : Hid (l[k].size ≤ 1024 → ∀ j (_ : j < l.length), j < k + 1 → l[j].size ≤ 1024) := fun h j hj hjk => by
          by_cases e : j < k
          · exact hI.out j hj e
          · have : j = k := by omega
            subst this; exact h
        clear hI
        generalize l[k] = s at *
        by_cases hs : s.size ≤ 1024
        · have hN := Lib.hid (hnx.out hs)
          clear hnx
          go_wp2
          go_roundw
          case rel => exact ⟨k + 1, by omega, by omega, by go_num, hN, by trivial⟩
          case measure => simp [intOf]; omega
        · go_wp2
          go_ret
          exact ⟨_, rfl, rfl, fun h => by cases h⟩
      · have hk2 : k = 20 := by omega
        go_wp2
        go_ret
        exact ⟨_, rfl, rfl, fun h => by simp at h; omega⟩
    · have hkl : k = l.length := by omega
      have hI2 : Hid (∀ x ∈ l, x.size ≤ 1024) := fun x hx => by
        obtain ⟨j, hj, rfl⟩ := List.getElem_of_mem hx
        exact hI.out j hj (by omega)
      clear hI
      go_wp2
      go_ret
      exact ⟨_, rfl, rfl, fun h => ⟨by simp at h; omega, hI2.out⟩⟩
theorem countS_none (most : Int) : countS most none = (0, none) := by
  unfold countS
  split
  · rfl
  · rfl
theorem textS_none : textS none = (⟨#[]⟩, none) := by unfold textS; rw [countS_none]; rfl
theorem textsS_none : textsS none = ([], none) := by unfold textsS; rw [countS_none]; rfl
theorem nb_count (o : Option Nat) (most : Int) (w : World) (h : RAt o none w) : Calls Try.prog 25 #[pv o, .int .i64 most] w (RPost o (.int .i64 0) none w) := by
  have := rcount_any o none most w h; rw [countS_none] at this; exact this
theorem nb_text (o : Option Nat) (w : World) (h : RAt o none w) : Calls Try.prog 27 #[pv o] w (RPost o (.string ⟨#[]⟩) none w) := by
  have := rtext_any o none w h; rw [textS_none] at this; exact this
theorem nb_texts (o : Option Nat) (w : World) (h : RAt o none w) : Calls Try.prog 30 #[pv o] w (LPost o [] none w) := by
  have := rtexts_any o none w h; rw [textsS_none] at this; exact this
abbrev sAb : ByteArray := ⟨#[97, 98]⟩
abbrev bAw : List UInt8 := [0, 0, 0, 2, 97, 98, 255, 255, 255, 255, 255, 255, 255, 255]
abbrev bRest : List UInt8 := [255, 255, 255, 255, 255, 255, 255, 255]
theorem aw_bytes : [] ++ teB sAb ++ be 8 (-1) = bAw := by kernel_rfl
theorem aw_text : textS (some ⟨bAw.toArray⟩) = (sAb, some ⟨bRest.toArray⟩) := by kernel_rfl
theorem aw_int : numS 8 (some ⟨bRest.toArray⟩) = (-1, some ⟨#[]⟩) := by kernel_rfl
theorem aw_byte : numS 1 (some ⟨#[]⟩) = (0, none) := by kernel_rfl
set_option maxRecDepth 100000 in
set_option maxHeartbeats 4000000 in
theorem awake_any (W : World) :
    Calls Try.prog 8 #[] W fun e w' => e = .returned (.bool true) ∧ Below W.heap.size W w' := by
  have HW0 : Hid (Wr W.heap.size [] (W.alloc (.cells #[.pointer none, .slice none 0 0, .pointer none] 31))) := .inr ⟨rfl, Blk.new W _ _⟩
  have HL0 := Lib.hid (below_lit W (.cells #[.pointer none, .slice none 0 0, .pointer none] 31))
  go_enter Try.func8, Try.ntmps8
  go_wp2_with fail
  refine (text_any W.heap.size [] sAb _ HW0.out (by decide) (by decide)).mono ?_
  rintro e w1 ⟨rfl, h1, h2⟩
  have HW1 : Hid (Wr W.heap.size _ w1) := .inl h1
  have HL1 := Lib.hid (HL0.out.trans h2)
  clear h1 h2 HW0 HL0
  go_wp2_with fail
  refine (int_any W.heap.size _ (-1) w1 HW1.out (by decide)).mono ?_
  rintro e w2 ⟨rfl, h1, h2⟩
  rw [aw_bytes] at h1
  have HW2 : Hid (Wr W.heap.size bAw w2) := .inl h1
  have HL2 := Lib.hid (HL1.out.trans h2)
  clear h1 h2 HW1 HL1
  go_wp2_with fail
  refine (bytes_any W.heap.size bAw w2 HW2.out).mono ?_
  rintro e w3 ⟨rfl, h1, h2, -⟩
  have HW3 := Lib.hid h1
  have HL3 := Lib.hid (HL2.out.trans h2)
  clear h1 h2 HW2 HL2
  have hs3 : W.heap.size < w3.heap.size := HW3.out.lt
  go_wp2_with fail
  refine (new_any ⟨bAw.toArray⟩ w3).mono ?_
  rintro e w4 ⟨rfl, rfl⟩
  have HR4 := Lib.hid (RAt.new ⟨bAw.toArray⟩ (by decide) w3)
  have HK4 := Lib.hid (below_lit w3 (.cells #[.string ⟨bAw.toArray⟩, .bool true] 54))
  generalize w3.alloc (.cells #[.string ⟨bAw.toArray⟩, .bool true] 54) = w4 at *
  generalize hb : w3.heap.size = b at *
  have hb := Lib.hid hb
  have hx := rtext_any (some b) (some ⟨bAw.toArray⟩) w4 HR4.out
  rw [aw_text] at hx
  have HX := Lib.hid hx
  clear hx HR4
  go_wp2_with fail
  refine HX.out.mono ?_
  rintro e w5 ⟨rfl, h1, h2⟩
  have HK5 := Lib.hid (low_of HK4.out h2 (Nat.le_refl _) (by rw [← hb.out]; exact HK4.out.size))
  have hx := rint_any (some b) (some ⟨bRest.toArray⟩) w5 h1
  rw [aw_int] at hx
  clear HX h1 h2 HK4
  have HX := Lib.hid hx
  clear hx
  go_wp2_with fail
  refine HX.out.mono ?_
  rintro e w6 ⟨rfl, h1, h2⟩
  have HK6 := Lib.hid (low_of HK5.out h2 (Nat.le_refl _) (by rw [← hb.out]; exact HK5.out.size))
  have HD := Lib.hid (done_any (some b) (some ⟨#[]⟩) w6 h1)
  have hx := rbyte_any (some b) (some ⟨#[]⟩) w6 h1
  rw [aw_byte] at hx
  clear HX h1 h2 HK5
  have HX := Lib.hid hx
  clear hx
  go_wp2_with fail
  refine HD.out.mono ?_
  rintro e w7 ⟨rfl, rfl⟩
  clear HD
  go_wp2_with fail
  refine HX.out.mono ?_
  rintro e w8 ⟨rfl, h1, h2⟩
  have HK8 := Lib.hid (low_of HK6.out h2 (Nat.le_refl _) (by rw [← hb.out]; exact HK6.out.size))
  have HR8 := Lib.hid h1
  clear HX h1 h2 HK6
  have hx : Below w3.heap.size w3 w8 := by rw [hb.out]; exact HK8.out
  have HY := Lib.hid (bytes_any W.heap.size bAw w8 (HW3.out.below hx))
  have HL8 := Lib.hid (HL3.out.trans (hx.mono (Nat.le_of_lt (by rw [hb.out]; exact hs3))))
  clear hx HK8
  have hlt8 : b < w8.heap.size := HR8.out.lt
  go_wp2_with fail
  refine HY.out.mono ?_
  rintro e w9 ⟨rfl, h1, h2, h3⟩
  have HR9 : Hid (RAt (some b) none w9) := ⟨trivial, h3 b _ _ (by decide) HR8.out.2⟩
  have HL9 := Lib.hid (HL8.out.trans h2)
  have HB9 := Lib.hid (bad_any (some b) none w9 HR9.out)
  have HD9 := Lib.hid (done_any (some b) none w9 HR9.out)
  clear h1 h2 h3 HY HL8 HR8
  go_wp2_with fail
  refine HB9.out.mono ?_
  rintro e w10 ⟨rfl, rfl⟩
  go_wp2_with fail
  refine HD9.out.mono ?_
  rintro e w11 ⟨rfl, rfl⟩
  go_wp2
  go_ret
  exact ⟨rfl, HL9.out⟩
end Go.Proofs.Ytpdmchkmdkdfgaa.oc
