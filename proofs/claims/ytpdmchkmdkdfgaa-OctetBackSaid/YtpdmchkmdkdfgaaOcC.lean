/- OctetWrites: the bytes of any number, as a byte, a number and a count, and of any texts. -/
import Derived.Test.YtpdmchkmdkdfgaaOcA
namespace Go.Proofs.Ytpdmchkmdkdfgaa.oc
set_option linter.unusedSimpArgs false
set_option linter.unusedVariables false
open Go.ChangeShapes Go.WideShapes Go.ChangeAt Go.RowKit Go.Proofs.Aid
open Go.Proofs.Ytpdmchkmdkdfgaa.texts (tc)
theorem tes_len (l : List ByteArray) (h : l.length ≤ 20) (hs : ∀ s ∈ l, s.size ≤ 1024) : (tesB l).length ≤ 30000 := by
  have h1 := flat_len (m := 1024) l hs
  have : l.length * (4 + 1024) ≤ 20 * (4 + 1024) := Nat.mul_le_mul_right _ h
  unfold tesB
  rw [List.length_append, be_length]; omega
set_option maxRecDepth 100000 in
set_option maxHeartbeats 8000000 in
theorem writes_walk (W : World) (n : Int) (s : ByteArray) (A : Option Addr) (ca : Nat) (l : List ByteArray) (hs : s.size ≤ maxLen) (hl : l.length ≤ maxLen) (h1 : Reads W W.heap.size 1 A l.length (l.flatMap tc)) (hz : ∀ t ∈ l, t.size ≤ maxLen) :
    Calls Try.prog 3 #[.int .i64 n, .string s, .slice A l.length ca] W fun e w' => e = .returned (.bool true) ∧ Below W.heap.size W w' := by
  have HF := Lib.hid (qfew_any W A ca l hl h1 hz)
  have H1 := Lib.hid h1
  have HL := Lib.hid (Below.refl W.heap.size W)
  unfold maxLen at hs
  clear h1 hz hl
  by_cases hsz : s.size ≤ 1024
  case neg =>
    go_enter Try.func3, Try.ntmps3
    go_wp2_with fail
    refine (awake_any _).mono ?_; rintro e w9 ⟨rfl, hb⟩; have HL9 := Lib.hid (HL.out.trans (hb.mono HL.out.size)); clear hb; go_wp2; go_ret; exact ⟨rfl, HL9.out⟩
  go_enter Try.func3, Try.ntmps3
  go_wp2_with fail
  refine HF.out.mono ?_
  rintro e w0 ⟨b1, rfl, rfl, hb⟩
  cases b1 with
  | false =>
    clear hb
    go_wp2_with fail
    refine (awake_any _).mono ?_; rintro e w9 ⟨rfl, hb⟩; have HL9 := Lib.hid (HL.out.trans (hb.mono HL.out.size)); clear hb; go_wp2; go_ret; exact ⟨rfl, HL9.out⟩
  | true =>
    obtain ⟨hl20, hz0⟩ := hb rfl
    have HZ := Lib.hid hz0
    clear hb hz0
    have HW : Hid (Wr w0.heap.size [] (w0.alloc (.cells #[.pointer none, .slice none 0 0, .pointer none] 31))) := .inr ⟨rfl, Blk.new w0 _ _⟩
    replace HL := Lib.hid (below_lit w0 (.cells #[.pointer none, .slice none 0 0, .pointer none] 31))
    have hlt := Lib.hid (tes_len l hl20 HZ.out)
    have hls := Lib.hid (teB_length s)
    go_wp2_with fail
    refine (byte_any w0.heap.size [] n _ HW.out (by decide)).mono ?_
    rintro e w1 ⟨rfl, h1, h2⟩
    replace HW : Hid (Wr w0.heap.size (([] : List UInt8) ++ be 1 n) w1) := .inl h1
    replace HL := Lib.hid (HL.out.trans h2)
    clear h1 h2
    go_wp2_with fail
    refine (int_any w0.heap.size _ n _ HW.out (by simp [be_length])).mono ?_
    rintro e w2 ⟨rfl, h1, h2⟩
    replace HW : Hid (Wr w0.heap.size (([] : List UInt8) ++ be 1 n ++ be 8 n) w2) := .inl h1
    replace HL := Lib.hid (HL.out.trans h2)
    clear h1 h2
    go_wp2_with fail
    refine (count_any w0.heap.size _ n _ HW.out (by simp [be_length])).mono ?_
    rintro e w3 ⟨rfl, h1, h2⟩
    replace HW : Hid (Wr w0.heap.size (([] : List UInt8) ++ be 1 n ++ be 8 n ++ be 4 n) w3) := .inl h1
    replace HL := Lib.hid (HL.out.trans h2)
    clear h1 h2
    go_wp2_with fail
    refine (text_any w0.heap.size _ s _ HW.out (by unfold maxLen; omega) (by simp [be_length]; omega)).mono ?_
    rintro e w4 ⟨rfl, h1, h2⟩
    replace HW : Hid (Wr w0.heap.size (([] : List UInt8) ++ be 1 n ++ be 8 n ++ be 4 n ++ teB s) w4) := .inl h1
    replace HL := Lib.hid (HL.out.trans h2)
    clear h1 h2
    have HT := Lib.hid (texts_any w0.heap.size _ A ca l w4 HW.out (by omega) (fun t ht => Nat.le_trans (HZ.out t ht) (by decide)) (by simp [be_length, hls.out]; omega) (H1.out.below HL.out))
    go_wp2_with fail
    refine HT.out.mono ?_
    rintro e w5 ⟨rfl, h1, h2⟩
    replace HW : Hid (Wr w0.heap.size (([] : List UInt8) ++ be 1 n ++ be 8 n ++ be 4 n ++ teB s ++ tesB l) w5) := .inl h1
    replace HL := Lib.hid (HL.out.trans h2)
    clear h1 h2 HT
    go_wp2_with fail
    refine (byte_nil n w5).mono ?_
    rintro e w6 ⟨rfl, hb⟩
    replace HW := Lib.hid (HW.out.below hb)
    replace HL := Lib.hid (HL.out.trans (hb.mono HL.out.size))
    clear hb
    go_wp2_with fail
    refine (text_nil s w6 (by unfold maxLen; omega)).mono ?_
    rintro e w7 ⟨rfl, hb⟩
    replace HW := Lib.hid (HW.out.below hb)
    replace HL := Lib.hid (HL.out.trans (hb.mono HL.out.size))
    clear hb
    go_wp2_with fail
    refine (bytes_any w0.heap.size _ w7 HW.out).mono ?_
    rintro e w8 ⟨he, h1, h2, -⟩
    have he : e = .returned (.string (bz (([] : List UInt8) ++ be 1 n ++ be 8 n ++ be 4 n ++ teB s ++ tesB l))) := he
    subst he
    replace HL := Lib.hid (HL.out.trans h2)
    clear h1 h2 HW
    have hx1 := qbyteB_any n
    have HX1 := Lib.hid hx1
    have HX2 := Lib.hid (qintB_any n)
    have HX3 := Lib.hid (qcountB_any n)
    have HX4 := Lib.hid (fun w => qtextB_any s w (by omega))
    have HX5 := Lib.hid (fun w h => qtextsB_any A ca l w (by omega) (fun t ht => Nat.le_trans (HZ.out t ht) (by decide)) h)
    clear hx1
    have z1 : (bz (be 1 n)).size = 1 := by rw [bz_size, be_length]
    have z2 : (bz (be 8 n)).size = 8 := by rw [bz_size, be_length]
    have z3 : (bz (be 4 n)).size = 4 := by rw [bz_size, be_length]
    have z4 : (bz (teB s)).size ≤ 1028 := by rw [bz_size, hls.out]; omega
    have z5 : (bz (tesB l)).size ≤ 30000 := by rw [bz_size]; exact hlt.out
    have y2 : bz (be 1 n) ++ bz (be 8 n) = bz (([] : List UInt8) ++ be 1 n ++ be 8 n) := bz_append _ _
    have y3 : bz (([] : List UInt8) ++ be 1 n ++ be 8 n) ++ bz (be 4 n) = bz (([] : List UInt8) ++ be 1 n ++ be 8 n ++ be 4 n) := bz_append _ _
    have y4 : bz (([] : List UInt8) ++ be 1 n ++ be 8 n ++ be 4 n) ++ bz (teB s) = bz (([] : List UInt8) ++ be 1 n ++ be 8 n ++ be 4 n ++ teB s) := bz_append _ _
    have y5 : bz (([] : List UInt8) ++ be 1 n ++ be 8 n ++ be 4 n ++ teB s) ++ bz (tesB l) = bz (([] : List UInt8) ++ be 1 n ++ be 8 n ++ be 4 n ++ teB s ++ tesB l) := bz_append _ _
    have zy2 : (bz (([] : List UInt8) ++ be 1 n ++ be 8 n)).size ≤ 100 := by rw [bz_size]; simp [be_length]
    have zy3 : (bz (([] : List UInt8) ++ be 1 n ++ be 8 n ++ be 4 n)).size ≤ 100 := by rw [bz_size]; simp [be_length]
    have zy4 : (bz (([] : List UInt8) ++ be 1 n ++ be 8 n ++ be 4 n ++ teB s)).size ≤ 2000 := by rw [bz_size]; simp [be_length, hls.out]; omega
    generalize bz (([] : List UInt8) ++ be 1 n ++ be 8 n ++ be 4 n ++ teB s ++ tesB l) = R at *
    generalize bz (([] : List UInt8) ++ be 1 n ++ be 8 n ++ be 4 n ++ teB s) = Y4 at *
    generalize bz (([] : List UInt8) ++ be 1 n ++ be 8 n ++ be 4 n) = Y3 at *
    generalize bz (([] : List UInt8) ++ be 1 n ++ be 8 n) = Y2 at *
    generalize bz (be 1 n) = X1 at *
    generalize bz (be 8 n) = X2 at *
    generalize bz (be 4 n) = X3 at *
    generalize bz (teB s) = X4 at *
    generalize bz (tesB l) = X5 at *
    have Y2e := Lib.hid y2
    have Y3e := Lib.hid y3
    have Y4e := Lib.hid y4
    have Y5e := Lib.hid y5
    clear y2 y3 y4 y5
    go_wp2_with fail
    refine (HX1.out _).mono ?_
    rintro e w9 ⟨rfl, hb⟩
    replace HL := Lib.hid (HL.out.trans (hb.mono HL.out.size))
    clear hb
    go_wp2_with fail
    refine (HX2.out _).mono ?_
    rintro e w10 ⟨rfl, hb⟩
    replace HL := Lib.hid (HL.out.trans (hb.mono HL.out.size))
    clear hb
    have y2 := Y2e.out
    go_wp2_with fail
    refine (HX3.out _).mono ?_
    rintro e w11 ⟨rfl, hb⟩
    replace HL := Lib.hid (HL.out.trans (hb.mono HL.out.size))
    clear hb
    have y3 := Y3e.out
    go_wp2_with fail
    refine (HX4.out _).mono ?_
    rintro e w12 ⟨rfl, hb⟩
    replace HL := Lib.hid (HL.out.trans (hb.mono HL.out.size))
    clear hb
    have y4 := Y4e.out
    go_wp2_with fail
    refine (HX5.out _ (H1.out.more_below HL.out)).mono ?_
    rintro e w13 ⟨rfl, hb⟩
    replace HL := Lib.hid (HL.out.trans (hb.mono HL.out.size))
    clear hb
    have y5 := Y5e.out
    go_wp2_with fail
    refine (bytes_nil _).mono ?_
    rintro e w14 ⟨rfl, rfl⟩
    go_wp2_with fail
    refine (awake_any _).mono ?_; rintro e w9 ⟨rfl, hb⟩; have HL9 := Lib.hid (HL.out.trans (hb.mono HL.out.size)); clear hb; go_wp2; go_ret; exact ⟨rfl, HL9.out⟩
end Go.Proofs.Ytpdmchkmdkdfgaa.oc
