/- Token: the law Good. -/
import Derived.Test.YtkbgmdabmebdhaaDoorTkD
import Derived.Test.YtkbgmdabmebdhaaDoorOpen
namespace Go.Proofs.YtkbgmdabmebdhaaDoor.tk
open Go.ChangeShapes Go.WideShapes Go.ChangeAt Go.RowKit Go.Proofs.Aid Go.Proofs.YtkbgmdabmebdhaaDoor.rgy Go.Proofs.YtkbgmdabmebdhaaDoor.name
open Go.Proofs.YtkbgmdabmebdhaaDoor.oc (be be_length bz bz_append teB textS numS St RAt RPost pv pb)
open Go.Proofs.YtkbgmdabmebdhaaDoor.mac (macB msum_any MStr IsD is_yes is_no)
open Go.Proofs.YtkbgmdabmebdhaaDoor.te
set_option linter.unusedVariables false
theorem i64_wf {n : Int} (h : (Lit.int .i64 n).wf = true) : -9223372036854775808 ≤ n ∧ n ≤ 9223372036854775807 := by
  simpa [Lit.wf, IntKind.min, IntKind.max, IntKind.signed, IntKind.bits] using h
theorem name_sz {s : ByteArray} (h : isName s.data.toList = true) : s.size ≤ 16 := by
  unfold isName at h
  simp at h
  omega
set_option maxRecDepth 100000 in
set_option maxHeartbeats 4000000 in
theorem good_all (W : World) (v0 v1 v2 : Value) (h0 : V22 W v0) (h1 : V3 W v1) (h2 : V3 W v2) (HLt : Hid (nm.Lets W)) :
    Calls Tryd.prog 3 #[v0, v1, v2] W fun e w' => e = .returned (.bool true) ∧ Below W.heap.size W w' := by
  obtain ⟨⟨a, b, c⟩, rfl, ha, hb, hc⟩ := h0
  obtain ⟨⟨n⟩, rfl, hn⟩ := h1
  obtain ⟨⟨m⟩, rfl, hm⟩ := h2
  obtain ⟨hn0, hn1⟩ := i64_wf hn
  obtain ⟨hm0, hm1⟩ := i64_wf hm
  simp only at hn0 hn1 hm0 hm1 ha hb hc
  clear hn hm
  have HIA := Lib.hid (fun w => reg.rname_any a w ha)
  have HIB := Lib.hid (fun w => reg.rname_any b w hb)
  have HB : Hid (Below W.heap.size W (W.alloc (.cells #[.string a, .string b, .string c] 22))) := below_lit _ _
  have HX : Hid (Blk (W.alloc (.cells #[.string a, .string b, .string c] 22)) W.heap.size 22 #[.string a, .string b, .string c]) := Blk.new _ _ _
  have c0 : (W.alloc (.cells #[.string a, .string b, .string c] 22)).cell? ⟨W.heap.size, 0, none⟩ = some (.string a) := by rw [HX.out.cell]; rfl
  have c1 : (W.alloc (.cells #[.string a, .string b, .string c] 22)).cell? ⟨W.heap.size, 1, none⟩ = some (.string b) := by rw [HX.out.cell]; rfl
  have c2 : (W.alloc (.cells #[.string a, .string b, .string c] 22)).cell? ⟨W.heap.size, 2, none⟩ = some (.string c) := by rw [HX.out.cell]; rfl
  unfold maxLen at ha hb hc
  simp only [R22.val, R3.val]
  have HNA := Lib.hid (@name_sz a)
  have HNB := Lib.hid (@name_sz b)
  obtain ⟨b1, hb1⟩ : ∃ b1, isName a.data.toList = b1 := ⟨_, rfl⟩
  obtain ⟨b2, hb2⟩ : ∃ b2, isName b.data.toList = b2 := ⟨_, rfl⟩
  have Hb1 := Lib.hid hb1
  have Hb2 := Lib.hid hb2
  rw [hb1] at HIA HNA
  rw [hb2] at HIB HNB
  clear hb1 hb2
  cases b1 with
  | false =>
    go_enter Tryd.func3, Tryd.ntmps3; go_wp2_with fail; generalize W.alloc (.cells #[.string a, .string b, .string c] 22) = wa at *
    refine (HIA.out wa).mono ?_
    rintro e w1 ⟨rfl, rfl⟩
    go_wp2_with fail
    refine (awake_any _ (Lib.hid (HLt.out.next HB.out))).mono ?_; rintro e wz ⟨rfl, hB⟩; have HZ := Lib.hid (HB.out.trans (hB.mono HB.out.size)); clear hB; go_wp2; go_ret; exact ⟨rfl, HZ.out⟩
  | true =>
    cases b2 with
    | false =>
      go_enter Tryd.func3, Tryd.ntmps3; go_wp2_with fail; generalize W.alloc (.cells #[.string a, .string b, .string c] 22) = wa at *
      refine (HIA.out _).mono ?_
      rintro e w1 ⟨rfl, rfl⟩
      go_wp2_with fail
      refine (HIB.out _).mono ?_
      rintro e w1 ⟨rfl, rfl⟩
      go_wp2_with fail
      refine (awake_any _ (Lib.hid (HLt.out.next HB.out))).mono ?_; rintro e wz ⟨rfl, hB⟩; have HZ := Lib.hid (HB.out.trans (hB.mono HB.out.size)); clear hB; go_wp2; go_ret; exact ⟨rfl, HZ.out⟩
    | true =>
      by_cases hs1 : c.size < 1
      · have hs2 : (c.size : Int) < 1 := by omega
        go_enter Tryd.func3, Tryd.ntmps3; go_wp2_with fail; generalize W.alloc (.cells #[.string a, .string b, .string c] 22) = wa at *
        refine (HIA.out _).mono ?_
        rintro e w1 ⟨rfl, rfl⟩
        go_wp2_with fail
        refine (HIB.out _).mono ?_
        rintro e w1 ⟨rfl, rfl⟩
        go_wp2_with fail
        refine (awake_any _ (Lib.hid (HLt.out.next HB.out))).mono ?_; rintro e wz ⟨rfl, hB⟩; have HZ := Lib.hid (HB.out.trans (hB.mono HB.out.size)); clear hB; go_wp2; go_ret; exact ⟨rfl, HZ.out⟩
      · have hs2 : ¬ (c.size : Int) < 1 := by omega
        by_cases hs3 : 64 < c.size
        · have hs4 : (64 : Int) < (c.size : Int) := by omega
          go_enter Tryd.func3, Tryd.ntmps3; go_wp2_with fail; generalize W.alloc (.cells #[.string a, .string b, .string c] 22) = wa at *
          refine (HIA.out _).mono ?_
          rintro e w1 ⟨rfl, rfl⟩
          go_wp2_with fail
          refine (HIB.out _).mono ?_
          rintro e w1 ⟨rfl, rfl⟩
          go_wp2_with fail
          refine (awake_any _ (Lib.hid (HLt.out.next HB.out))).mono ?_; rintro e wz ⟨rfl, hB⟩; have HZ := Lib.hid (HB.out.trans (hB.mono HB.out.size)); clear hB; go_wp2; go_ret; exact ⟨rfl, HZ.out⟩
        · have hs4 : ¬ (64 : Int) < (c.size : Int) := by omega
          have hsec : isSec c = true := by unfold isSec; simp; omega
          have hL : (macB c.data.toList (saysB a b n)).length = 32 := mac.macB_length _ _
          have HA16 := HNA.out rfl
          have HB16 := HNB.out rfl
          have HM := Lib.hid (fun w hl => make_any c a b n w (by omega) (by omega) (by omega) hl)
          have HC := Lib.hid (fun w h => check_one a b c n m (macB c.data.toList (saysB a b n)) w hL Hb1.out Hb2.out hsec (by omega) (by omega) hn0 hn1 h)
          have HC2 := Lib.hid (fun w h1 h => check_any w none 0 [] (bz (saysB a b n ++ macB c.data.toList (saysB a b n))) m (Nat.zero_le _) h1 (fun x hx => by cases hx) (says_sz a b n _ hL (by omega) (by omega)) h)
          have HKN := Lib.hid (fun w => known_any a c w (by omega))
          rw [decide_eq_true rfl, Bool.true_and] at HC
          simp only [chk_nil] at HC2
          have ht : Hid (tokB c a b n = saysB a b n ++ macB c.data.toList (saysB a b n)) := rfl
          rw [ht.out] at HM
          clear ht hsec Hb1 Hb2 HNA HNB HA16 HB16
          generalize (rA (cutA (bz (saysB a b n ++ macB c.data.toList (saysB a b n))))).1 = z1 at *
          generalize (rB (cutA (bz (saysB a b n ++ macB c.data.toList (saysB a b n))))).1 = z2 at *
          generalize bz (saysB a b n ++ macB c.data.toList (saysB a b n)) = s0 at *
          unfold Ck at HC HC2
          simp only [Bool.false_eq_true, if_false] at HC2
          clear hL hn0 hn1 hm0 hm1
          by_cases hnm : n < m
          · rw [show decide (m ≤ n) = false from decide_eq_false (by omega)] at HC
            simp only [Bool.false_eq_true, if_false] at HC
            go_enter Tryd.func3, Tryd.ntmps3; go_wp2_with fail; generalize W.alloc (.cells #[.string a, .string b, .string c] 22) = wa at *
            refine (HIA.out _).mono ?_
            rintro e w1 ⟨rfl, rfl⟩
            go_wp2_with fail
            refine (HIB.out _).mono ?_
            rintro e w1 ⟨rfl, rfl⟩
            go_wp2_with fail
            refine (HM.out _ (HLt.out.next HB.out).sh).mono ?_
            rintro e w2 ⟨rfl, hb⟩
            replace HX := Lib.hid (HX.out.below hb HX.out.lt); replace HB := Lib.hid (HB.out.trans (hb.mono HB.out.size)); clear hb c0 c1 c2; have c0 : w2.cell? ⟨W.heap.size, 0, none⟩ = some (.string a) := by rw [HX.out.cell]; rfl
            have c1 : w2.cell? ⟨W.heap.size, 1, none⟩ = some (.string b) := by rw [HX.out.cell]; rfl
            have c2 : w2.cell? ⟨W.heap.size, 2, none⟩ = some (.string c) := by rw [HX.out.cell]; rfl
            clear HM HIA HIB
            go_wp2_with fail
            refine (HKN.out _).mono ?_
            rintro e w3 ⟨rfl, rfl⟩
            have HD := Lib.hid (HC.out w2 (Lib.hid (HLt.out.next HB.out)))
            replace HB := Lib.hid (HB.out.alloc HB.out.size (.cells #[.string (tkey a fS), .int .i64 1, .string ⟨#[]⟩, .string c] 58))
            clear HC HC2 HKN HX c0 c1 c2
            generalize w2.alloc (.cells #[.string (tkey a fS), .int .i64 1, .string ⟨#[]⟩, .string c] 58) = w3 at *
            generalize w2.heap.size = g2 at *
            go_wp2_with fail
            refine HD.out.mono ?_
            rintro e w4 ⟨rfl, hb⟩
            replace HB := Lib.hid (HB.out.trans (hb.mono HB.out.size))
            clear hb HD
            go_wp2_with fail
            refine (awake_any _ (Lib.hid (HLt.out.next HB.out))).mono ?_; rintro e wz ⟨rfl, hB⟩; have HZ := Lib.hid (HB.out.trans (hB.mono HB.out.size)); clear hB; go_wp2; go_ret; exact ⟨rfl, HZ.out⟩
          · rw [show decide (m ≤ n) = true from decide_eq_true (by omega)] at HC
            simp only [if_true] at HC
            go_enter Tryd.func3, Tryd.ntmps3; go_wp2_with fail; generalize W.alloc (.cells #[.string a, .string b, .string c] 22) = wa at *
            refine (HIA.out _).mono ?_
            rintro e w1 ⟨rfl, rfl⟩
            go_wp2_with fail
            refine (HIB.out _).mono ?_
            rintro e w1 ⟨rfl, rfl⟩
            go_wp2_with fail
            refine (HM.out _ (HLt.out.next HB.out).sh).mono ?_
            rintro e w2 ⟨rfl, hb⟩
            replace HX := Lib.hid (HX.out.below hb HX.out.lt); replace HB := Lib.hid (HB.out.trans (hb.mono HB.out.size)); clear hb c0 c1 c2; have c0 : w2.cell? ⟨W.heap.size, 0, none⟩ = some (.string a) := by rw [HX.out.cell]; rfl
            have c1 : w2.cell? ⟨W.heap.size, 1, none⟩ = some (.string b) := by rw [HX.out.cell]; rfl
            have c2 : w2.cell? ⟨W.heap.size, 2, none⟩ = some (.string c) := by rw [HX.out.cell]; rfl
            clear HM HIA HIB
            go_wp2_with fail
            refine (HKN.out _).mono ?_
            rintro e w3 ⟨rfl, rfl⟩
            have HD := Lib.hid (HC.out w2 (Lib.hid (HLt.out.next HB.out)))
            replace HX := Lib.hid (HX.out.alloc (.cells #[.string (tkey a fS), .int .i64 1, .string ⟨#[]⟩, .string c] 58))
            replace HB := Lib.hid (HB.out.alloc HB.out.size (.cells #[.string (tkey a fS), .int .i64 1, .string ⟨#[]⟩, .string c] 58))
            clear HC HKN c0 c1 c2
            generalize w2.alloc (.cells #[.string (tkey a fS), .int .i64 1, .string ⟨#[]⟩, .string c] 58) = w3 at *
            generalize w2.heap.size = g2 at *
            have c0 : True := trivial
            have c1 : True := trivial
            have c2 : True := trivial
            go_wp2_with fail
            refine HD.out.mono ?_
            rintro e w4 ⟨rfl, hb⟩
            replace HX := Lib.hid (HX.out.below hb HX.out.lt); replace HB := Lib.hid (HB.out.trans (hb.mono HB.out.size)); clear hb c0 c1 c2; have c0 : w4.cell? ⟨W.heap.size, 0, none⟩ = some (.string a) := by rw [HX.out.cell]; rfl
            have c1 : w4.cell? ⟨W.heap.size, 1, none⟩ = some (.string b) := by rw [HX.out.cell]; rfl
            have c2 : w4.cell? ⟨W.heap.size, 2, none⟩ = some (.string c) := by rw [HX.out.cell]; rfl
            clear HD
            go_wp2_with fail
            refine (HC2.out w4 Reads.none_ (Lib.hid (HLt.out.next HB.out))).mono ?_
            rintro e w5 ⟨rfl, hb⟩
            replace HX := Lib.hid (HX.out.below hb HX.out.lt); replace HB := Lib.hid (HB.out.trans (hb.mono HB.out.size)); clear hb c0 c1 c2; have c0 : w5.cell? ⟨W.heap.size, 0, none⟩ = some (.string a) := by rw [HX.out.cell]; rfl
            have c1 : w5.cell? ⟨W.heap.size, 1, none⟩ = some (.string b) := by rw [HX.out.cell]; rfl
            have c2 : w5.cell? ⟨W.heap.size, 2, none⟩ = some (.string c) := by rw [HX.out.cell]; rfl
            clear HC2
            go_wp2_with fail
            refine (awake_any _ (Lib.hid (HLt.out.next HB.out))).mono ?_; rintro e wz ⟨rfl, hB⟩; have HZ := Lib.hid (HB.out.trans (hB.mono HB.out.size)); clear hB; go_wp2; go_ret; exact ⟨rfl, HZ.out⟩
end Go.Proofs.YtkbgmdabmebdhaaDoor.tk
