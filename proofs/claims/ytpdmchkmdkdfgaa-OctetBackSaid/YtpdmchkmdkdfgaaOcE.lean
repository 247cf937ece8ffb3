/- OctetBack: what is written is read as it was, one behind the other; cut anywhere it is bad, or not all was read. -/
import Derived.Test.YtpdmchkmdkdfgaaOcC
import Derived.Test.YtpdmchkmdkdfgaaOcN
namespace Go.Proofs.Ytpdmchkmdkdfgaa.oc
set_option linter.unusedSimpArgs false
set_option linter.unusedVariables false
open Go.ChangeShapes Go.WideShapes Go.ChangeAt Go.RowKit Go.Proofs.Aid
open Go.Proofs.Ytpdmchkmdkdfgaa.texts (tc)
set_option maxRecDepth 100000 in
set_option maxHeartbeats 8000000 in
theorem back_walk (W : World) (n0 n1 : Int) (s : ByteArray) (A : Option Addr) (ca : Nat) (l : List ByteArray) (hn0 : -9223372036854775808 ≤ n0 ∧ n0 ≤ 9223372036854775807) (hn1 : -9223372036854775808 ≤ n1 ∧ n1 ≤ 9223372036854775807) (hs : s.size ≤ maxLen) (hl : l.length ≤ maxLen) (h1 : Reads W W.heap.size 1 A l.length (l.flatMap tc)) (hz : ∀ t ∈ l, t.size ≤ maxLen) :
    Calls Try.prog 5 #[.agg #[.int .i64 n0, .int .i64 n1], .string s, .slice A l.length ca] W fun e w' => e = .returned (.bool true) ∧ Below W.heap.size W w' := by
  have HL := Lib.hid (below_lit W (.cells #[.int .i64 n0, .int .i64 n1] 50))
  have HX := Lib.hid (Blk.new W 50 #[.int .i64 n0, .int .i64 n1])
  have H1 := Lib.hid (h1.more_below HL.out)
  have HF := Lib.hid (qfew_any _ A ca l hl H1.out hz)
  unfold maxLen at hs
  clear h1 hz hl
  by_cases hsz : s.size ≤ 1024
  case neg =>
    go_enter Try.func5, Try.ntmps5
    go_wp2_with fail
    refine (awake_any _).mono ?_; rintro e w9 ⟨rfl, hb⟩; have HL9 := Lib.hid (HL.out.trans (hb.mono HL.out.size)); clear hb; go_wp2; go_ret; exact ⟨rfl, HL9.out⟩
  go_enter Try.func5, Try.ntmps5
  go_wp2_with fail
  refine HF.out.mono ?_
  generalize W.alloc (.cells #[.int .i64 n0, .int .i64 n1] 50) = W1 at *
  rintro e w0 ⟨b1, rfl, rfl, hb⟩
  cases b1 with
  | false =>
    clear hb
    go_wp2_with fail
    refine (awake_any _).mono ?_; rintro e w9 ⟨rfl, hb⟩; have HL9 := Lib.hid (HL.out.trans (hb.mono HL.out.size)); clear hb; go_wp2; go_ret; exact ⟨rfl, HL9.out⟩
  | true =>
    obtain ⟨hl20, hz0⟩ := hb rfl
    have HZ := Lib.hid hz0
    clear hb hz0 HF
    have HZ2 : Hid (∀ t ∈ l, t.size ≤ 1048576) := fun t ht => Nat.le_trans (HZ.out t ht) (by decide)
    have HW : Hid (Wr w0.heap.size [] (w0.alloc (.cells #[.pointer none, .slice none 0 0, .pointer none] 31))) := .inr ⟨rfl, Blk.new w0 _ _⟩
    have HK := Lib.hid (below_lit w0 (.cells #[.pointer none, .slice none 0 0, .pointer none] 31))
    have hlt := Lib.hid (tes_len l hl20 HZ.out)
    have hls := Lib.hid (teB_length s)
    have HT := Lib.hid (texts_any w0.heap.size [] A ca l _ HW.out (by omega) HZ2.out (by decide) (H1.out.alloc (Nat.le_refl _) _))
    go_wp2_with fail
    refine HT.out.mono ?_
    rintro e w1 ⟨rfl, h1, h2⟩
    replace HW : Hid (Wr w0.heap.size (([] : List UInt8) ++ tesB l) w1) := .inl h1
    replace HK := Lib.hid (HK.out.trans h2)
    clear h1 h2 HT
    have cx : w1.cell? ⟨W.heap.size, 0, none⟩ = some (.int .i64 n0) := by rw [HK.out.cell (p := ⟨W.heap.size, 0, none⟩) HX.out.lt, HX.out.cell]; rfl
    go_wp2_with fail
    refine (int_any w0.heap.size _ n0 _ HW.out (by simp; have := hlt.out; omega)).mono ?_
    rintro e w2 ⟨rfl, h1, h2⟩
    replace HW : Hid (Wr w0.heap.size (([] : List UInt8) ++ tesB l ++ be 8 n0) w2) := .inl h1
    replace HK := Lib.hid (HK.out.trans h2)
    clear h1 h2 cx
    go_wp2_with fail
    refine (text_any w0.heap.size _ s _ HW.out (by unfold maxLen; omega) (by simp [be_length]; have := hlt.out; omega)).mono ?_
    rintro e w3 ⟨rfl, h1, h2⟩
    replace HW : Hid (Wr w0.heap.size (([] : List UInt8) ++ tesB l ++ be 8 n0 ++ teB s) w3) := .inl h1
    replace HK := Lib.hid (HK.out.trans h2)
    clear h1 h2
    go_wp2_with fail
    refine (bytes_any w0.heap.size _ w3 HW.out).mono ?_
    rintro e w4 ⟨he, h1, h2, -⟩
    have he : e = .returned (.string (bz (tesB l ++ (be 8 n0 ++ teB s)))) := by rw [he, List.nil_append, List.append_assoc]; rfl
    subst he
    replace HK := Lib.hid (HK.out.trans h2)
    clear h1 h2 HW
    have hnb := be8_back n0 hn0.1 hn0.2
    have hb1 := texts_back l (be 8 n0 ++ teB s) (by omega) HZ2.out
    have hb2 := num_back 8 n0 (teB s) hnb
    have hb3 : textS (some (bz (teB s))) = (s, some ⟨#[]⟩) := by
      have h := text_back s [] (by omega)
      rw [List.append_nil] at h
      exact h
    have hcut := Lib.hid (cut_bad l n0 s (by omega) HZ2.out hnb (by omega))
    have hbsz : (bz (tesB l ++ (be 8 n0 ++ teB s))).size ≤ 40000 ∧ 0 < (bz (tesB l ++ (be 8 n0 ++ teB s))).size := by
      rw [bz_size, List.length_append, List.length_append, be_length, hls.out]
      have := hlt.out
      omega
    obtain ⟨hbz1, hbz2⟩ := hbsz
    generalize bz (tesB l ++ (be 8 n0 ++ teB s)) = b at *
    generalize bz (be 8 n0 ++ teB s) = r1 at *
    generalize bz (teB s) = r2 at *
    have HR := Lib.hid (RAt.new b (by omega) w4)
    have HKn := Lib.hid (below_lit w4 (.cells #[.string b, .bool true] 54))
    have hz4 := HK.out.size
    go_wp2_with fail
    refine (new_any b w4).mono ?_
    rintro e w5 ⟨rfl, rfl⟩
    generalize w4.alloc (.cells #[.string b, .bool true] 54) = w5 at *
    replace HK := Lib.hid (HK.out.trans (HKn.out.mono hz4))
    generalize hg : w4.heap.size = g at *
    have hgle : w0.heap.size ≤ g := hz4
    clear hg hz4 HKn
    have hx := rtexts_any (some g) (some b) w5 HR.out
    rw [hb1] at hx
    have HT := Lib.hid hx
    clear hx hb1
    have hglt : g < w5.heap.size := HR.out.lt
    go_wp2_with fail
    refine HT.out.mono ?_
    rintro e w6 ⟨v, rfl, hrow, h1, h2⟩
    replace HK := Lib.hid (low_of HK.out h2 hgle HK.out.size)
    have hx := rint_any (some g) (some r1) w6 h1
    rw [hb2] at hx
    clear HT h1 h2 hb2 HR
    have HT := Lib.hid hx
    clear hx
    obtain ⟨A1, c1, rfl⟩ := hrow.form
    go_wp2_with fail
    refine HT.out.mono ?_
    rintro e w7 ⟨rfl, h1, h2⟩
    replace HK := Lib.hid (low_of HK.out h2 hgle HK.out.size)
    replace hrow := hrow.kept h2 (fun q hq e => by have := (hrow.own hq).1; injection e with e; omega)
    have hx := rtext_any (some g) (some r2) w7 h1
    rw [hb3] at hx
    clear HT h1 h2 hb3
    have HT := Lib.hid hx
    clear hx
    go_wp2_with fail
    refine HT.out.mono ?_
    rintro e w8 ⟨rfl, h1, h2⟩
    replace HK := Lib.hid (low_of HK.out h2 hgle HK.out.size)
    replace hrow := hrow.kept h2 (fun q hq e => by have := (hrow.own hq).1; injection e with e; omega)
    obtain ⟨A3, c3, e3, hRA⟩ := hrow.reads
    injection e3 with e3 _ e3c
    subst e3 e3c
    have hsm := Lib.hid (texts.sameTexts_same w8 A1 A c1 ca l (by omega) hRA (H1.out.more_below HK.out))
    have HR := Lib.hid h1
    clear HT h1 h2 hrow hRA
    go_wp2_with fail
    refine hsm.out.mono ?_
    rintro e w9 ⟨rfl, hb⟩
    replace HK := Lib.hid (HK.out.trans (hb.mono HK.out.size))
    replace HR := Lib.hid (RAt.grown HR.out (only_of_below hb none) (by simp))
    clear hb hsm
    have cx : w9.cell? ⟨W.heap.size, 0, none⟩ = some (.int .i64 n0) := by rw [HK.out.cell (p := ⟨W.heap.size, 0, none⟩) HX.out.lt, HX.out.cell]; rfl
    have cy : w9.cell? ⟨W.heap.size, 1, none⟩ = some (.int .i64 n1) := by rw [HK.out.cell (p := ⟨W.heap.size, 1, none⟩) HX.out.lt, HX.out.cell]; rfl
    go_wp2_with fail
    refine (done_any (some g) _ w9 HR.out).mono ?_
    rintro e w10 ⟨rfl, rfl⟩
    go_wp2_with fail
    refine (bad_any (some g) _ _ HR.out).mono ?_
    rintro e w11 ⟨rfl, rfl⟩
    clear HR he hnb hn0 hn1
    obtain ⟨k, hk, hkb⟩ : ∃ k : Nat, (IntKind.u64.wrap n1).tmod (b.size : Int) = k ∧ k < b.size := by
      have h0 := wrap_u64_nonneg n1
      have h1 := Int.emod_nonneg (IntKind.u64.wrap n1) (show (b.size : Int) ≠ 0 by omega)
      have h2 := Int.emod_lt_of_pos (IntKind.u64.wrap n1) (show (0 : Int) < b.size by omega)
      refine ⟨((IntKind.u64.wrap n1) % (b.size : Int)).toNat, ?_, by omega⟩
      rw [Int.tmod_eq_emod_of_nonneg h0]; omega
    have hc := hcut.out k hkb
    have HC := Lib.hid hc
    clear hc hcut
    have hcs : (b.extract 0 k).size ≤ 40000 := by rw [ByteArray.size_extract]; omega
    unfold threeS at HC
    generalize hcd : b.extract 0 k = c at *
    have hcd := Lib.hid hcd
    go_wp2_with fail
    refine (new_any c w11).mono ?_
    rintro e w12 ⟨rfl, rfl⟩
    have HR := Lib.hid (RAt.new c (by omega) w11)
    have HKn := Lib.hid (below_lit w11 (.cells #[.string c, .bool true] 54))
    have hz11 := HK.out.size
    generalize w11.alloc (.cells #[.string c, .bool true] 54) = w12 at *
    replace HK := Lib.hid (HK.out.trans (HKn.out.mono hz11))
    generalize hg2 : w11.heap.size = g2 at *
    have hgle2 : w0.heap.size ≤ g2 := hz11
    clear hg2 hz11 HKn cx cy hk
    have HT := Lib.hid (rtexts_any (some g2) (some c) w12 HR.out)
    clear HR
    generalize (textsS (some c)).1 = L1 at *
    generalize (textsS (some c)).2 = st1 at *
    go_wp2_with fail
    refine HT.out.mono ?_
    rintro e w13 ⟨v, rfl, hrow, h1, h2⟩
    replace HK := Lib.hid (low_of HK.out h2 hgle2 HK.out.size)
    clear HT hrow h2
    have HT := Lib.hid (rint_any (some g2) st1 w13 h1)
    clear h1
    generalize (numS 8 st1).1 = m1 at *
    generalize (numS 8 st1).2 = st2 at *
    go_wp2_with fail
    refine HT.out.mono ?_
    rintro e w14 ⟨rfl, h1, h2⟩
    replace HK := Lib.hid (low_of HK.out h2 hgle2 HK.out.size)
    clear HT h2
    have hT := rtext_any (some g2) st2 w14 h1
    rw [HC.out] at hT
    have HT := Lib.hid hT
    clear h1 hT HC
    generalize (textS st2).1 = t1 at *
    go_wp2_with fail
    refine HT.out.mono ?_
    rintro e w15 ⟨rfl, h1, h2⟩
    replace HK := Lib.hid (low_of HK.out h2 hgle2 HK.out.size)
    have HB := Lib.hid (bad_any (some g2) none w15 h1)
    have HD := Lib.hid (done_any (some g2) none w15 h1)
    replace HL := Lib.hid (HL.out.trans (HK.out.mono HL.out.size))
    clear HT h1 h2 HK
    go_wp2_with fail
    refine HB.out.mono ?_
    rintro e w16 ⟨rfl, rfl⟩
    go_wp2_with fail
    refine HD.out.mono ?_
    rintro e w17 ⟨rfl, rfl⟩
    go_wp2_with fail
    refine (awake_any _).mono ?_; rintro e w9 ⟨rfl, hb⟩; have HL9 := Lib.hid (HL.out.trans (hb.mono HL.out.size)); clear hb; go_wp2; go_ret; exact ⟨rfl, HL9.out⟩
end Go.Proofs.Ytpdmchkmdkdfgaa.oc
