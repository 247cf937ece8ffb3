/- What answers to a read come to, by the package. -/
import Derived.Test.YtcbfcmnnahbblaaC
namespace Go.Proofs.Ytcbfcmnnahbblaa.quorum
open Go.ChangeShapes Go.WideShapes Go.ChangeAt Go.RowKit Go.Proofs.Aid Go.Proofs.Ytcbfcmnnahbblaa.texts
def rdI (r pr : Int) (pb : Bool) (L a b c d n m : Nat) : Int :=
  if (decide (r ≤ (a : Int)) && decide (pr ≤ (b : Int))) = true then (if n = 0 then 3 else 1)
  else if (pb && decide (n = 0) && decide (L < 2 * m)) = true then 3
  else if (decide (r ≤ (a : Int) + c) && decide (pr ≤ (b : Int) + d)) = true then 0 else 2
set_option maxRecDepth 100000 in
set_option maxHeartbeats 8000000 in
theorem read_yes (w : World) (A FF M N : Option Addr) (ca cf cm cn : Nat) (cs : List R38) (fs ms ns : List ByteArray) (pn pr pw qr qw : Int) (ps pb : Bool) (hl : cs.length ≤ 1000) (hf : fs.length ≤ 1000) (hm : ms.length ≤ 1000) (hn : ns.length ≤ 1000) (h1 : Reads w w.heap.size 2 A cs.length (cs.flatMap R38.cells)) (h2 : Reads w w.heap.size 1 FF fs.length (fs.flatMap tc)) (h3 : Reads w w.heap.size 1 M ms.length (ms.flatMap tc)) (h4 : Reads w w.heap.size 1 N ns.length (ns.flatMap tc)) :
    Calls Try.prog 11 #[.agg #[.int .i64 pn, .int .i64 pr, .int .i64 pw, .int .i64 qr, .int .i64 qw, .bool ps, .bool true, .bool pb], .slice A cs.length ca, .slice FF fs.length cf, .slice M ms.length cm, .slice N ns.length cn] w fun e w' => e = .returned (.int .i64 (rdI pr qr pb cs.length (nA (inAny [fs, ms]) cs) (nB (inAny [fs, ms]) cs) (nA (fun s => !inAny [fs, ms, ns] s) cs) (nB (fun s => !inAny [fs, ms, ns] s) cs) (nA (memB fs) cs) (nA (memB ms) cs))) ∧ Below w.heap.size w w' := by
  have HBK := Lib.hid (Blk.new w 23 #[.int .i64 pn, .int .i64 pr, .int .i64 pw, .int .i64 qr, .int .i64 qw, .bool ps, .bool true, .bool pb])
  have hb := below_lit w (.cells #[.int .i64 pn, .int .i64 pr, .int .i64 pw, .int .i64 qr, .int .i64 qw, .bool ps, .bool true, .bool pb] 23)
  have H1 := Lib.hid (h1.more_below hb)
  have HF := Lib.hid (h2.more_below hb)
  have HM := Lib.hid (h3.more_below hb)
  have HN := Lib.hid (h4.more_below hb)
  have HL := Lib.hid hb
  clear h1 h2 h3 h4 hb
  go_enter Try.func11, Try.ntmps11
  go_wp2_with fail
  have hll0 := LL.one (c := cf) HF.out hf
  rw [World.size_alloc] at hll0
  have hll := Lib.hid hll0
  clear hll0
  have hb := below_lit (w.alloc (.cells #[.int .i64 pn, .int .i64 pr, .int .i64 pw, .int .i64 qr, .int .i64 qw, .bool ps, .bool true, .bool pb] 23)) (.cells #[.slice FF fs.length cf] 25)
  replace HBK := Lib.hid (Blk.below (Hid.out HBK) hb (Hid.out HBK).lt)
  replace H1 := Lib.hid ((Hid.out H1).more_below hb)
  replace HF := Lib.hid ((Hid.out HF).more_below hb)
  replace HM := Lib.hid ((Hid.out HM).more_below hb)
  replace HN := Lib.hid ((Hid.out HN).more_below hb)
  replace HL := Lib.hid ((Hid.out HL).trans (hb.mono (Hid.out HL).size))
  clear hb
  refine (amongN_any _ _ 1 1 [fs] _ rfl (by decide) hll.out).mono ?_
  rintro e w2 ⟨p, rfl, hP, hb⟩
  replace HBK := Lib.hid (Blk.below (Hid.out HBK) hb (Hid.out HBK).lt)
  replace H1 := Lib.hid ((Hid.out H1).more_below hb)
  replace HF := Lib.hid ((Hid.out HF).more_below hb)
  replace HM := Lib.hid ((Hid.out HM).more_below hb)
  replace HN := Lib.hid ((Hid.out HN).more_below hb)
  replace HL := Lib.hid ((Hid.out HL).trans (hb.mono (Hid.out HL).size))
  clear hb
  clear hll
  have k6 : w2.cell? ⟨w.heap.size, 6, none⟩ = some (.bool true) := HBK.out.cell 6
  go_wp2_with fail
  have hll := Lib.hid (LL.two (c := cf) (d := cm) HF.out HM.out hf hm)
  have hb := below_lit w2 (.cells #[.slice FF fs.length cf, .slice M ms.length cm] 25)
  clear k6 hP
  replace HBK := Lib.hid (Blk.below (Hid.out HBK) hb (Hid.out HBK).lt)
  replace H1 := Lib.hid ((Hid.out H1).more_below hb)
  replace HF := Lib.hid ((Hid.out HF).more_below hb)
  replace HM := Lib.hid ((Hid.out HM).more_below hb)
  replace HN := Lib.hid ((Hid.out HN).more_below hb)
  replace HL := Lib.hid ((Hid.out HL).trans (hb.mono (Hid.out HL).size))
  clear hb
  refine (amongN_any _ _ 2 2 [fs, ms] _ rfl (by decide) hll.out).mono ?_
  rintro e w3 ⟨p3, rfl, hP, hb⟩
  replace HBK := Lib.hid (Blk.below (Hid.out HBK) hb (Hid.out HBK).lt)
  replace H1 := Lib.hid ((Hid.out H1).more_below hb)
  replace HF := Lib.hid ((Hid.out HF).more_below hb)
  replace HM := Lib.hid ((Hid.out HM).more_below hb)
  replace HN := Lib.hid ((Hid.out HN).more_below hb)
  replace HL := Lib.hid ((Hid.out HL).trans (hb.mono (Hid.out HL).size))
  clear hb
  clear hll
  go_wp2_with fail
  refine (count_any _ A ca cs hl H1.out 24 enters24 p3 _ hP).mono ?_
  rintro e w4 ⟨rfl, hb⟩
  replace HBK := Lib.hid (Blk.below (Hid.out HBK) hb (Hid.out HBK).lt)
  replace H1 := Lib.hid ((Hid.out H1).more_below hb)
  replace HF := Lib.hid ((Hid.out HF).more_below hb)
  replace HM := Lib.hid ((Hid.out HM).more_below hb)
  replace HN := Lib.hid ((Hid.out HN).more_below hb)
  replace HL := Lib.hid ((Hid.out HL).trans (hb.mono (Hid.out HL).size))
  clear hb
  clear hP
  obtain ⟨hcA1, hcA2⟩ := cnt_le (inAny [fs, ms]) cs cs.length
  change nA (inAny [fs, ms]) cs ≤ _ at hcA1
  change nB (inAny [fs, ms]) cs ≤ _ at hcA2
  generalize hA : nA (inAny [fs, ms]) cs = a at *
  generalize hB : nB (inAny [fs, ms]) cs = b at *
  have HA := Lib.hid hA
  have HB := Lib.hid hB
  clear hA hB
  have HT := Lib.hid (Blk.new w4 43 #[.int .i64 a, .int .i64 b])
  have hb := below_lit w4 (.cells #[.int .i64 a, .int .i64 b] 43)
  have hz3 := HL.out.size
  have hBl := HBK.out.lt
  replace HBK := Lib.hid (Blk.below (Hid.out HBK) hb (Hid.out HBK).lt)
  replace H1 := Lib.hid ((Hid.out H1).more_below hb)
  replace HF := Lib.hid ((Hid.out HF).more_below hb)
  replace HM := Lib.hid ((Hid.out HM).more_below hb)
  replace HN := Lib.hid ((Hid.out HN).more_below hb)
  replace HL := Lib.hid ((Hid.out HL).trans (hb.mono (Hid.out HL).size))
  clear hb
  go_wp2_with fail
  have hll0 := LL.three (c := cf) (d := cm) (e := cn) HF.out HM.out HN.out hf hm hn
  rw [World.size_alloc] at hll0
  have hll := Lib.hid hll0
  clear hll0
  have hb := below_lit (w4.alloc (.cells #[.int .i64 a, .int .i64 b] 43)) (.cells #[.slice FF fs.length cf, .slice M ms.length cm, .slice N ns.length cn] 25)
  replace HBK := Lib.hid (Blk.below (Hid.out HBK) hb (Hid.out HBK).lt)
  replace HT := Lib.hid (Blk.below (Hid.out HT) hb (Hid.out HT).lt)
  replace H1 := Lib.hid ((Hid.out H1).more_below hb)
  replace HF := Lib.hid ((Hid.out HF).more_below hb)
  replace HM := Lib.hid ((Hid.out HM).more_below hb)
  replace HL := Lib.hid ((Hid.out HL).trans (hb.mono (Hid.out HL).size))
  clear hb
  refine (amongN_any _ _ 3 3 [fs, ms, ns] _ rfl (by decide) hll.out).mono ?_
  rintro e w5 ⟨p5, rfl, hP, hb⟩
  replace HBK := Lib.hid (Blk.below (Hid.out HBK) hb (Hid.out HBK).lt)
  replace HT := Lib.hid (Blk.below (Hid.out HT) hb (Hid.out HT).lt)
  replace H1 := Lib.hid ((Hid.out H1).more_below hb)
  replace HF := Lib.hid ((Hid.out HF).more_below hb)
  replace HM := Lib.hid ((Hid.out HM).more_below hb)
  replace HL := Lib.hid ((Hid.out HL).trans (hb.mono (Hid.out HL).size))
  clear hb
  clear hll HN
  go_wp2_with fail
  refine (not_any _ 24 enters24 p5 _ hP).mono ?_
  rintro e w6 ⟨p6, rfl, hP6, hb⟩
  replace HBK := Lib.hid (Blk.below (Hid.out HBK) hb (Hid.out HBK).lt)
  replace HT := Lib.hid (Blk.below (Hid.out HT) hb (Hid.out HT).lt)
  replace H1 := Lib.hid ((Hid.out H1).more_below hb)
  replace HF := Lib.hid ((Hid.out HF).more_below hb)
  replace HM := Lib.hid ((Hid.out HM).more_below hb)
  replace HL := Lib.hid ((Hid.out HL).trans (hb.mono (Hid.out HL).size))
  clear hb
  clear hP
  go_wp2_with fail
  refine (count_any _ A ca cs hl H1.out 28 enters28 p6 _ hP6).mono ?_
  rintro e w7 ⟨rfl, hb⟩
  replace HBK := Lib.hid (Blk.below (Hid.out HBK) hb (Hid.out HBK).lt)
  replace HT := Lib.hid (Blk.below (Hid.out HT) hb (Hid.out HT).lt)
  replace H1 := Lib.hid ((Hid.out H1).more_below hb)
  replace HF := Lib.hid ((Hid.out HF).more_below hb)
  replace HM := Lib.hid ((Hid.out HM).more_below hb)
  replace HL := Lib.hid ((Hid.out HL).trans (hb.mono (Hid.out HL).size))
  clear hb
  clear hP6
  obtain ⟨hcO1, hcO2⟩ := cnt_le (fun s => !inAny [fs, ms, ns] s) cs cs.length
  change nA (fun s => !inAny [fs, ms, ns] s) cs ≤ _ at hcO1
  change nB (fun s => !inAny [fs, ms, ns] s) cs ≤ _ at hcO2
  generalize hC : nA (fun s => !inAny [fs, ms, ns] s) cs = c at *
  generalize hD : nB (fun s => !inAny [fs, ms, ns] s) cs = d at *
  have HC := Lib.hid hC
  have HD := Lib.hid hD
  clear hC hD
  have HU := Lib.hid (Blk.new w7 43 #[.int .i64 c, .int .i64 d])
  have hb := below_lit w7 (.cells #[.int .i64 c, .int .i64 d] 43)
  have hlt1 := HBK.out.lt
  have hlt2 := HT.out.lt
  replace HBK := Lib.hid (Blk.below (Hid.out HBK) hb (Hid.out HBK).lt)
  replace HT := Lib.hid (Blk.below (Hid.out HT) hb (Hid.out HT).lt)
  replace H1 := Lib.hid ((Hid.out H1).more_below hb)
  replace HF := Lib.hid ((Hid.out HF).more_below hb)
  replace HM := Lib.hid ((Hid.out HM).more_below hb)
  replace HL := Lib.hid ((Hid.out HL).trans (hb.mono (Hid.out HL).size))
  clear hb
  go_wp2_with fail
  have hll0 := LL.one (c := cf) HF.out hf
  rw [World.size_alloc] at hll0
  have hll := Lib.hid hll0
  clear hll0
  have hb := below_lit (w7.alloc (.cells #[.int .i64 c, .int .i64 d] 43)) (.cells #[.slice FF fs.length cf] 25)
  replace HBK := Lib.hid (Blk.below (Hid.out HBK) hb (Hid.out HBK).lt)
  replace HT := Lib.hid (Blk.below (Hid.out HT) hb (Hid.out HT).lt)
  replace HU := Lib.hid (Blk.below (Hid.out HU) hb (Hid.out HU).lt)
  replace H1 := Lib.hid ((Hid.out H1).more_below hb)
  replace HM := Lib.hid ((Hid.out HM).more_below hb)
  replace HL := Lib.hid ((Hid.out HL).trans (hb.mono (Hid.out HL).size))
  clear hb
  refine (amongN_any _ _ 1 1 [fs] _ rfl (by decide) hll.out).mono ?_
  rintro e w8 ⟨p8, rfl, hP, hb⟩
  replace HBK := Lib.hid (Blk.below (Hid.out HBK) hb (Hid.out HBK).lt)
  replace HT := Lib.hid (Blk.below (Hid.out HT) hb (Hid.out HT).lt)
  replace HU := Lib.hid (Blk.below (Hid.out HU) hb (Hid.out HU).lt)
  replace H1 := Lib.hid ((Hid.out H1).more_below hb)
  replace HM := Lib.hid ((Hid.out HM).more_below hb)
  replace HL := Lib.hid ((Hid.out HL).trans (hb.mono (Hid.out HL).size))
  clear hb
  clear hll
  go_wp2_with fail
  refine (count_any _ A ca cs hl H1.out 24 enters24 p8 _ hP).mono ?_
  rw [inAny_one]
  rintro e w9 ⟨rfl, hb⟩
  replace HBK := Lib.hid (Blk.below (Hid.out HBK) hb (Hid.out HBK).lt)
  replace HT := Lib.hid (Blk.below (Hid.out HT) hb (Hid.out HT).lt)
  replace HU := Lib.hid (Blk.below (Hid.out HU) hb (Hid.out HU).lt)
  replace H1 := Lib.hid ((Hid.out H1).more_below hb)
  replace HM := Lib.hid ((Hid.out HM).more_below hb)
  replace HL := Lib.hid ((Hid.out HL).trans (hb.mono (Hid.out HL).size))
  clear hb
  clear hP
  obtain ⟨hcN1, -⟩ := cnt_le (memB fs) cs cs.length
  change nA (memB fs) cs ≤ _ at hcN1
  generalize hN : nA (memB fs) cs = n at *
  have HNe := Lib.hid hN
  clear hN
  have hfd : ∀ (i j : Int) (w : World), (Instr.field 43 (.agg #[.int .i64 i, .int .i64 j]) 0).run Try.prog w = .ok (.int .i64 i) w := fun _ _ _ => by kernel_rfl
  go_wp2_with fail
  have hll := Lib.hid (LL.one (c := cm) HM.out hm)
  have hb := below_lit w9 (.cells #[.slice M ms.length cm] 25)
  replace HBK := Lib.hid (Blk.below (Hid.out HBK) hb (Hid.out HBK).lt)
  replace HT := Lib.hid (Blk.below (Hid.out HT) hb (Hid.out HT).lt)
  replace HU := Lib.hid (Blk.below (Hid.out HU) hb (Hid.out HU).lt)
  replace H1 := Lib.hid ((Hid.out H1).more_below hb)
  replace HL := Lib.hid ((Hid.out HL).trans (hb.mono (Hid.out HL).size))
  clear hb
  refine (amongN_any _ _ 1 1 [ms] _ rfl (by decide) hll.out).mono ?_
  rintro e w10 ⟨p10, rfl, hP, hb⟩
  replace HBK := Lib.hid (Blk.below (Hid.out HBK) hb (Hid.out HBK).lt)
  replace HT := Lib.hid (Blk.below (Hid.out HT) hb (Hid.out HT).lt)
  replace HU := Lib.hid (Blk.below (Hid.out HU) hb (Hid.out HU).lt)
  replace H1 := Lib.hid ((Hid.out H1).more_below hb)
  replace HL := Lib.hid ((Hid.out HL).trans (hb.mono (Hid.out HL).size))
  clear hb
  clear hll
  go_wp2_with fail
  refine (count_any _ A ca cs hl H1.out 24 enters24 p10 _ hP).mono ?_
  rw [inAny_one]
  rintro e w11 ⟨rfl, hb⟩
  replace HBK := Lib.hid (Blk.below (Hid.out HBK) hb (Hid.out HBK).lt)
  replace HT := Lib.hid (Blk.below (Hid.out HT) hb (Hid.out HT).lt)
  replace HU := Lib.hid (Blk.below (Hid.out HU) hb (Hid.out HU).lt)
  replace HL := Lib.hid ((Hid.out HL).trans (hb.mono (Hid.out HL).size))
  clear hb
  clear hP H1
  obtain ⟨hcM1, -⟩ := cnt_le (memB ms) cs cs.length
  change nA (memB ms) cs ≤ _ at hcM1
  generalize hM : nA (memB ms) cs = m at *
  have HMe := Lib.hid hM
  clear hM
  have hM : Hid (MW w w.heap.size w4.heap.size w7.heap.size a b c d pn pr pw qr qw ps true pb w11) := ⟨HBK.out, HT.out, HU.out, HL.out⟩
  clear HBK HT HU HL hz3 hlt1 hlt2 hBl
  generalize w7.heap.size = q at *
  generalize w4.heap.size = p9 at *
  obtain ⟨m0, m1, m2, m3, m4, m5, m6, m7, n0, n1, o0, o1, -⟩ := MW.of hM.out
  have hfin := fun r (h : rdI pr qr pb cs.length a b c d n m = r) => Lib.hid h
  cases hE : (decide (pr ≤ (a : Int)) && decide (qr ≤ (b : Int))) with
  | true =>
    have HE := Lib.hid hE
    clear hE
    by_cases hn0 : n = 0
    · have HR := hfin 3 (by unfold rdI; rw [if_pos HE.out, if_pos hn0])
      subst hn0
      clear hfin
      go_wp2_with fail
      refine (enough_any a b pr qr _).mono ?_
      rw [HE.out]
      rintro e w12 ⟨rfl, hb⟩
      obtain ⟨m0, m1, m2, m3, m4, m5, m6, m7, n0, n1, o0, o1, hM2⟩ := MW.step hb hM
      clear hb hM
      go_wp2_with fail
      refine (enough_any a b pr qr _).mono ?_
      rw [HE.out]
      rintro e w13 ⟨rfl, hb⟩
      have HLf := Lib.hid (hM2.out.low.trans (hb.mono hM2.out.low.size))
      go_wp2
      go_ret
      exact ⟨ret_int (by rw [HA.out, HB.out, HC.out, HD.out, HNe.out, HMe.out, HR.out]), HLf.out⟩
    · have HR := hfin 1 (by unfold rdI; rw [if_pos HE.out, if_neg hn0])
      have hn1 : ((n : Int) == 0) = false := by simpa using hn0
      have hn2 : (n == 0) = false := by simpa using hn0
      clear hfin
      go_wp2_with fail
      refine (enough_any a b pr qr _).mono ?_
      rw [HE.out]
      rintro e w12 ⟨rfl, hb⟩
      have HLf := Lib.hid (hM.out.low.trans (hb.mono hM.out.low.size))
      go_wp2
      go_ret
      exact ⟨ret_int (by rw [HA.out, HB.out, HC.out, HD.out, HNe.out, HMe.out, HR.out]), HLf.out⟩
  | false =>
    have HE := Lib.hid hE
    clear hE
    go_wp2_with fail
    refine (enough_any a b pr qr _).mono ?_
    rw [HE.out]
    rintro e w12 ⟨rfl, hb⟩
    obtain ⟨m0, m1, m2, m3, m4, m5, m6, m7, n0, n1, o0, o1, hM2⟩ := MW.step hb hM
    clear hb hM
    go_wp2_with fail
    refine (enough_any a b pr qr _).mono ?_
    rw [HE.out]
    rintro e w13 ⟨rfl, hb⟩
    obtain ⟨m0, m1, m2, m3, m4, m5, m6, m7, n0, n1, o0, o1, hM⟩ := MW.step hb hM2
    clear hb hM2
    by_cases hab : pb = true ∧ n = 0 ∧ cs.length < 2 * m
    · obtain ⟨hb1, hb2, hb3⟩ := hab
      have HR := hfin 3 (by unfold rdI; rw [if_neg (by rw [HE.out]; simp), if_pos (by simp [hb1, hb2, hb3])])
      subst hb1 hb2
      have hg : ((cs.length : Int) - m < m) := by omega
      have hg2 : decide ((cs.length : Int) - m < m) = true := by simpa using hg
      clear hfin hb3 hg
      have HLf := Lib.hid hM.out.low
      go_wp2
      go_ret
      exact ⟨ret_int (by rw [HA.out, HB.out, HC.out, HD.out, HNe.out, HMe.out, HR.out]), HLf.out⟩
    · have HI := Lib.hid (show rdI pr qr pb cs.length a b c d n m = if (decide (pr ≤ (a : Int) + c) && decide (qr ≤ (b : Int) + d)) = true then 0 else 2 by
        unfold rdI; rw [if_neg (by rw [HE.out]; simp), if_neg (by
          intro h; apply hab; simp only [Bool.and_eq_true, decide_eq_true_eq] at h; exact ⟨h.1.1, h.1.2, h.2⟩)])
      clear hfin
      have test := MW.drew hM
      clear m0 m1 m2 m3 m4 m5 m6 n0 n1 o0 o1
      cases hG : (decide (pr ≤ (a : Int) + c) && decide (qr ≤ (b : Int) + d)) with
      | true =>
        have HG := Lib.hid hG
        have HR := Lib.hid (show rdI pr qr pb cs.length a b c d n m = 0 by rw [HI.out, hG]; rfl)
        clear hG
        cases pb with
        | false =>
          go_wp2_with fail
          refine wp_region_held_drew (S := (fun w' => w'.cell? ⟨w.heap.size, 0, none⟩ = some (.int .i64 pn) ∧ w'.cell? ⟨w.heap.size, 1, none⟩ = some (.int .i64 pr) ∧ w'.cell? ⟨w.heap.size, 2, none⟩ = some (.int .i64 pw) ∧ w'.cell? ⟨w.heap.size, 3, none⟩ = some (.int .i64 qr) ∧ w'.cell? ⟨w.heap.size, 4, none⟩ = some (.int .i64 qw) ∧ w'.cell? ⟨w.heap.size, 5, none⟩ = some (.bool ps) ∧ w'.cell? ⟨w.heap.size, 6, none⟩ = some (.bool true) ∧ w'.cell? ⟨w.heap.size, 7, none⟩ = some (.bool false) ∧ w'.cell? ⟨p9, 0, none⟩ = some (.int .i64 a) ∧ w'.cell? ⟨p9, 1, none⟩ = some (.int .i64 b) ∧ w'.cell? ⟨q, 0, none⟩ = some (.int .i64 c) ∧ w'.cell? ⟨q, 1, none⟩ = some (.int .i64 d) ∧ Hid (MW (w) (w.heap.size) (p9) q a b c d pn pr pw qr qw ps (true) (false) w'))) (by kernel_rfl) ?_ (fun hHeldxa0 => ?_)
          · exact test
          refine wpAnyH_take (i := 0) (v := ?vxa0) ops0 (by kernel_rfl) (by kernel_rfl) (by kernel_rfl) (fun _ _ _ h => h) (Or.inl ⟨by rfl, ?yxa0⟩) hHeldxa0 ?_
          case yxa0 => (intro w hSw; (try dsimp only at hSw); go_simp; try (with_reducible rfl))
          try simp only [Act.put, List.setIfInBounds_toArray, List.set_cons_zero, List.set_cons_succ]
          refine wpAnyH_take (i := 1) (v := ?vxa1) (opsS ops0) (by kernel_rfl) (by kernel_rfl) (by kernel_rfl) (fun _ _ _ h => h) (Or.inl ⟨by rfl, ?yxa1⟩) hHeldxa0 ?_
          case yxa1 => (intro w hSw; (try dsimp only at hSw); go_simp; try (with_reducible rfl))
          try simp only [Act.put, List.setIfInBounds_toArray, List.set_cons_zero, List.set_cons_succ]
          refine wpAnyH_take (i := 3) (v := ?vxa3) (opsS (opsS (opsS ops0))) (by kernel_rfl) (by kernel_rfl) (by kernel_rfl) (fun _ _ _ h => h) (Or.inl ⟨by rfl, ?yxa3⟩) hHeldxa0 ?_
          case yxa3 => (intro w hSw; (try dsimp only at hSw); go_simp; try (with_reducible rfl))
          try simp only [Act.put, List.setIfInBounds_toArray, List.set_cons_zero, List.set_cons_succ]
          refine wpAnyH_take (i := 4) (v := ?vxa4) (opsS (opsS (opsS (opsS ops0)))) (by kernel_rfl) (by kernel_rfl) (by kernel_rfl) (fun _ _ _ h => h) (Or.inl ⟨by rfl, ?yxa4⟩) hHeldxa0 ?_
          case yxa4 => (intro w hSw; (try dsimp only at hSw); go_simp; try (with_reducible rfl))
          try simp only [Act.put, List.setIfInBounds_toArray, List.set_cons_zero, List.set_cons_succ]
          refine wpAnyH_take (i := 5) (v := ?vxa5) (opsS (opsS (opsS (opsS (opsS ops0))))) (by kernel_rfl) (by kernel_rfl) (by kernel_rfl) (fun _ _ _ h => h) (Or.inl ⟨by rfl, ?yxa5⟩) hHeldxa0 ?_
          case yxa5 => (intro w hSw; (try dsimp only at hSw); go_simp; try (with_reducible rfl))
          try simp only [Act.put, List.setIfInBounds_toArray, List.set_cons_zero, List.set_cons_succ]
          refine wpAnyH_take (i := 6) (v := ?vxa6) (opsS (opsS (opsS (opsS (opsS (opsS ops0)))))) (by kernel_rfl) (by kernel_rfl) (by kernel_rfl) (fun _ _ _ h => h) (Or.inl ⟨by rfl, ?yxa6⟩) hHeldxa0 ?_
          case yxa6 => (intro w hSw; (try dsimp only at hSw); go_simp; try (with_reducible rfl))
          try simp only [Act.put, List.setIfInBounds_toArray, List.set_cons_zero, List.set_cons_succ]
          refine wpAnyH_ready (rs := [2]) (by kernel_rfl) (by simp) ?_
          refine AllReadyH.cons (opsS (opsS ops0)) (fun K hK => ?_) AllReadyH.nil
          go_simp
          refine (and_any a b c d _ (by omega) (by omega) (by omega) (by omega)).mono ?_; rintro e w' ⟨rfl, hb⟩
          try dsimp only
          refine hK.out _ _ ?_ (fun hHeldxa1 => ?_)
          · (first | assumption | exact MW.drew (by assumption) | (go_split_ands; exact MW.drew (by assumption)) | (go_split_ands; exact MW.step (by assumption) (by assumption)) | (go_split_ands; exact MW.alloc (by assumption) _))
          clear hK K hHeldxa0
          try clear hb
          try simp only [Act.put, List.setIfInBounds_toArray, List.set_cons_zero, List.set_cons_succ]
          refine wpAnyH_ready (rs := [7]) (by kernel_rfl) (by simp) ?_
          refine AllReadyH.cons (opsS (opsS (opsS (opsS (opsS (opsS (opsS ops0))))))) (fun K hK => ?_) AllReadyH.nil
          go_simp
          refine (enough_any _ _ pr qr _).mono ?_; rw [HG.out]; rintro e w' ⟨rfl, hb⟩
          try dsimp only
          refine hK.out _ _ ?_ (fun hHeldxa2 => ?_)
          · (first | assumption | exact MW.drew (by assumption) | (go_split_ands; exact MW.drew (by assumption)) | (go_split_ands; exact MW.step (by assumption) (by assumption)) | (go_split_ands; exact MW.alloc (by assumption) _))
          clear hK K hHeldxa1
          try clear hb
          try simp only [Act.put, List.setIfInBounds_toArray, List.set_cons_zero, List.set_cons_succ]
          refine wpAnyH_take (i := 8) (v := ?vxa8) (opsS (opsS (opsS (opsS (opsS (opsS (opsS (opsS ops0)))))))) (by kernel_rfl) (by kernel_rfl) (by kernel_rfl) (fun _ _ _ h => h) (Or.inl ⟨by rfl, ?yxa8⟩) hHeldxa2 ?_
          case yxa8 => (intro w hSw; (try dsimp only at hSw); go_simp; try (with_reducible rfl))
          try simp only [Act.put, List.setIfInBounds_toArray, List.set_cons_zero, List.set_cons_succ]
          refine wpAnyH_take (i := 9) (v := ?vxa9) (opsS (opsS (opsS (opsS (opsS (opsS (opsS (opsS (opsS ops0))))))))) (by kernel_rfl) (by kernel_rfl) (by kernel_rfl) (fun _ _ _ h => h) (Or.inl ⟨by rfl, ?yxa9⟩) hHeldxa2 ?_
          case yxa9 => (intro w hSw; (try dsimp only at hSw); go_simp; try (with_reducible rfl))
          try simp only [Act.put, List.setIfInBounds_toArray, List.set_cons_zero, List.set_cons_succ]
          refine wpAnyH_done (by kernel_rfl) ?_ _
          have HLf := Lib.hid hHeldxa2.2.2.2.2.2.2.2.2.2.2.2.2.low
          clear hHeldxa2 test
          go_wp2
          go_ret
          exact ⟨ret_int (by rw [HA.out, HB.out, HC.out, HD.out, HNe.out, HMe.out, HR.out]), HLf.out⟩
        | true =>
          by_cases hn0 : n = 0
          · subst hn0
            have hg2 : decide ((cs.length : Int) - m < m) = false := by
              have hlm : ¬ cs.length < 2 * m := fun h => hab ⟨rfl, rfl, h⟩
              simp only [decide_eq_false_iff_not]; omega
            clear hab
            go_wp2_with fail
            refine wp_region_held_drew (S := (fun w' => w'.cell? ⟨w.heap.size, 0, none⟩ = some (.int .i64 pn) ∧ w'.cell? ⟨w.heap.size, 1, none⟩ = some (.int .i64 pr) ∧ w'.cell? ⟨w.heap.size, 2, none⟩ = some (.int .i64 pw) ∧ w'.cell? ⟨w.heap.size, 3, none⟩ = some (.int .i64 qr) ∧ w'.cell? ⟨w.heap.size, 4, none⟩ = some (.int .i64 qw) ∧ w'.cell? ⟨w.heap.size, 5, none⟩ = some (.bool ps) ∧ w'.cell? ⟨w.heap.size, 6, none⟩ = some (.bool true) ∧ w'.cell? ⟨w.heap.size, 7, none⟩ = some (.bool true) ∧ w'.cell? ⟨p9, 0, none⟩ = some (.int .i64 a) ∧ w'.cell? ⟨p9, 1, none⟩ = some (.int .i64 b) ∧ w'.cell? ⟨q, 0, none⟩ = some (.int .i64 c) ∧ w'.cell? ⟨q, 1, none⟩ = some (.int .i64 d) ∧ Hid (MW (w) (w.heap.size) (p9) q a b c d pn pr pw qr qw ps (true) (true) w'))) (by kernel_rfl) ?_ (fun hHeldxb0 => ?_)
            · exact test
            refine wpAnyH_take (i := 0) (v := ?vxb0) ops0 (by kernel_rfl) (by kernel_rfl) (by kernel_rfl) (fun _ _ _ h => h) (Or.inl ⟨by rfl, ?yxb0⟩) hHeldxb0 ?_
            case yxb0 => (intro w hSw; (try dsimp only at hSw); go_simp; try (with_reducible rfl))
            try simp only [Act.put, List.setIfInBounds_toArray, List.set_cons_zero, List.set_cons_succ]
            refine wpAnyH_take (i := 1) (v := ?vxb1) (opsS ops0) (by kernel_rfl) (by kernel_rfl) (by kernel_rfl) (fun _ _ _ h => h) (Or.inl ⟨by rfl, ?yxb1⟩) hHeldxb0 ?_
            case yxb1 => (intro w hSw; (try dsimp only at hSw); go_simp; try (with_reducible rfl))
            try simp only [Act.put, List.setIfInBounds_toArray, List.set_cons_zero, List.set_cons_succ]
            refine wpAnyH_take (i := 3) (v := ?vxb3) (opsS (opsS (opsS ops0))) (by kernel_rfl) (by kernel_rfl) (by kernel_rfl) (fun _ _ _ h => h) (Or.inl ⟨by rfl, ?yxb3⟩) hHeldxb0 ?_
            case yxb3 => (intro w hSw; (try dsimp only at hSw); go_simp; try (with_reducible rfl))
            try simp only [Act.put, List.setIfInBounds_toArray, List.set_cons_zero, List.set_cons_succ]
            refine wpAnyH_take (i := 4) (v := ?vxb4) (opsS (opsS (opsS (opsS ops0)))) (by kernel_rfl) (by kernel_rfl) (by kernel_rfl) (fun _ _ _ h => h) (Or.inl ⟨by rfl, ?yxb4⟩) hHeldxb0 ?_
            case yxb4 => (intro w hSw; (try dsimp only at hSw); go_simp; try (with_reducible rfl))
            try simp only [Act.put, List.setIfInBounds_toArray, List.set_cons_zero, List.set_cons_succ]
            refine wpAnyH_take (i := 5) (v := ?vxb5) (opsS (opsS (opsS (opsS (opsS ops0))))) (by kernel_rfl) (by kernel_rfl) (by kernel_rfl) (fun _ _ _ h => h) (Or.inl ⟨by rfl, ?yxb5⟩) hHeldxb0 ?_
            case yxb5 => (intro w hSw; (try dsimp only at hSw); go_simp; try (with_reducible rfl))
            try simp only [Act.put, List.setIfInBounds_toArray, List.set_cons_zero, List.set_cons_succ]
            refine wpAnyH_take (i := 6) (v := ?vxb6) (opsS (opsS (opsS (opsS (opsS (opsS ops0)))))) (by kernel_rfl) (by kernel_rfl) (by kernel_rfl) (fun _ _ _ h => h) (Or.inl ⟨by rfl, ?yxb6⟩) hHeldxb0 ?_
            case yxb6 => (intro w hSw; (try dsimp only at hSw); go_simp; try (with_reducible rfl))
            try simp only [Act.put, List.setIfInBounds_toArray, List.set_cons_zero, List.set_cons_succ]
            refine wpAnyH_ready (rs := [2]) (by kernel_rfl) (by simp) ?_
            refine AllReadyH.cons (opsS (opsS ops0)) (fun K hK => ?_) AllReadyH.nil
            go_simp
            refine (and_any a b c d _ (by omega) (by omega) (by omega) (by omega)).mono ?_; rintro e w' ⟨rfl, hb⟩
            try dsimp only
            refine hK.out _ _ ?_ (fun hHeldxb1 => ?_)
            · (first | assumption | exact MW.drew (by assumption) | (go_split_ands; exact MW.drew (by assumption)) | (go_split_ands; exact MW.step (by assumption) (by assumption)) | (go_split_ands; exact MW.alloc (by assumption) _))
            clear hK K hHeldxb0
            try clear hb
            try simp only [Act.put, List.setIfInBounds_toArray, List.set_cons_zero, List.set_cons_succ]
            refine wpAnyH_ready (rs := [7]) (by kernel_rfl) (by simp) ?_
            refine AllReadyH.cons (opsS (opsS (opsS (opsS (opsS (opsS (opsS ops0))))))) (fun K hK => ?_) AllReadyH.nil
            go_simp
            refine (enough_any _ _ pr qr _).mono ?_; rw [HG.out]; rintro e w' ⟨rfl, hb⟩
            try dsimp only
            refine hK.out _ _ ?_ (fun hHeldxb2 => ?_)
            · (first | assumption | exact MW.drew (by assumption) | (go_split_ands; exact MW.drew (by assumption)) | (go_split_ands; exact MW.step (by assumption) (by assumption)) | (go_split_ands; exact MW.alloc (by assumption) _))
            clear hK K hHeldxb1
            try clear hb
            try simp only [Act.put, List.setIfInBounds_toArray, List.set_cons_zero, List.set_cons_succ]
            refine wpAnyH_take (i := 8) (v := ?vxb8) (opsS (opsS (opsS (opsS (opsS (opsS (opsS (opsS ops0)))))))) (by kernel_rfl) (by kernel_rfl) (by kernel_rfl) (fun _ _ _ h => h) (Or.inl ⟨by rfl, ?yxb8⟩) hHeldxb2 ?_
            case yxb8 => (intro w hSw; (try dsimp only at hSw); go_simp; try (with_reducible rfl))
            try simp only [Act.put, List.setIfInBounds_toArray, List.set_cons_zero, List.set_cons_succ]
            refine wpAnyH_take (i := 9) (v := ?vxb9) (opsS (opsS (opsS (opsS (opsS (opsS (opsS (opsS (opsS ops0))))))))) (by kernel_rfl) (by kernel_rfl) (by kernel_rfl) (fun _ _ _ h => h) (Or.inl ⟨by rfl, ?yxb9⟩) hHeldxb2 ?_
            case yxb9 => (intro w hSw; (try dsimp only at hSw); go_simp; try (with_reducible rfl))
            try simp only [Act.put, List.setIfInBounds_toArray, List.set_cons_zero, List.set_cons_succ]
            refine wpAnyH_done (by kernel_rfl) ?_ _
            have HLf := Lib.hid hHeldxb2.2.2.2.2.2.2.2.2.2.2.2.2.low
            clear hHeldxb2 test
            go_wp2
            go_ret
            exact ⟨ret_int (by rw [HA.out, HB.out, HC.out, HD.out, HNe.out, HMe.out, HR.out]), HLf.out⟩
          · have hn1 : ((n : Int) == 0) = false := by simpa using hn0
            have hn2 : (n == 0) = false := by simpa using hn0
            clear hab
            go_wp2_with fail
            refine wp_region_held_drew (S := (fun w' => w'.cell? ⟨w.heap.size, 0, none⟩ = some (.int .i64 pn) ∧ w'.cell? ⟨w.heap.size, 1, none⟩ = some (.int .i64 pr) ∧ w'.cell? ⟨w.heap.size, 2, none⟩ = some (.int .i64 pw) ∧ w'.cell? ⟨w.heap.size, 3, none⟩ = some (.int .i64 qr) ∧ w'.cell? ⟨w.heap.size, 4, none⟩ = some (.int .i64 qw) ∧ w'.cell? ⟨w.heap.size, 5, none⟩ = some (.bool ps) ∧ w'.cell? ⟨w.heap.size, 6, none⟩ = some (.bool true) ∧ w'.cell? ⟨w.heap.size, 7, none⟩ = some (.bool true) ∧ w'.cell? ⟨p9, 0, none⟩ = some (.int .i64 a) ∧ w'.cell? ⟨p9, 1, none⟩ = some (.int .i64 b) ∧ w'.cell? ⟨q, 0, none⟩ = some (.int .i64 c) ∧ w'.cell? ⟨q, 1, none⟩ = some (.int .i64 d) ∧ Hid (MW (w) (w.heap.size) (p9) q a b c d pn pr pw qr qw ps (true) (true) w'))) (by kernel_rfl) ?_ (fun hHeldxc0 => ?_)
            · exact test
            refine wpAnyH_take (i := 0) (v := ?vxc0) ops0 (by kernel_rfl) (by kernel_rfl) (by kernel_rfl) (fun _ _ _ h => h) (Or.inl ⟨by rfl, ?yxc0⟩) hHeldxc0 ?_
            case yxc0 => (intro w hSw; (try dsimp only at hSw); go_simp; try (with_reducible rfl))
            try simp only [Act.put, List.setIfInBounds_toArray, List.set_cons_zero, List.set_cons_succ]
            refine wpAnyH_take (i := 1) (v := ?vxc1) (opsS ops0) (by kernel_rfl) (by kernel_rfl) (by kernel_rfl) (fun _ _ _ h => h) (Or.inl ⟨by rfl, ?yxc1⟩) hHeldxc0 ?_
            case yxc1 => (intro w hSw; (try dsimp only at hSw); go_simp; try (with_reducible rfl))
            try simp only [Act.put, List.setIfInBounds_toArray, List.set_cons_zero, List.set_cons_succ]
            refine wpAnyH_take (i := 3) (v := ?vxc3) (opsS (opsS (opsS ops0))) (by kernel_rfl) (by kernel_rfl) (by kernel_rfl) (fun _ _ _ h => h) (Or.inl ⟨by rfl, ?yxc3⟩) hHeldxc0 ?_
            case yxc3 => (intro w hSw; (try dsimp only at hSw); go_simp; try (with_reducible rfl))
            try simp only [Act.put, List.setIfInBounds_toArray, List.set_cons_zero, List.set_cons_succ]
            refine wpAnyH_take (i := 4) (v := ?vxc4) (opsS (opsS (opsS (opsS ops0)))) (by kernel_rfl) (by kernel_rfl) (by kernel_rfl) (fun _ _ _ h => h) (Or.inl ⟨by rfl, ?yxc4⟩) hHeldxc0 ?_
            case yxc4 => (intro w hSw; (try dsimp only at hSw); go_simp; try (with_reducible rfl))
            try simp only [Act.put, List.setIfInBounds_toArray, List.set_cons_zero, List.set_cons_succ]
            refine wpAnyH_take (i := 5) (v := ?vxc5) (opsS (opsS (opsS (opsS (opsS ops0))))) (by kernel_rfl) (by kernel_rfl) (by kernel_rfl) (fun _ _ _ h => h) (Or.inl ⟨by rfl, ?yxc5⟩) hHeldxc0 ?_
            case yxc5 => (intro w hSw; (try dsimp only at hSw); go_simp; try (with_reducible rfl))
            try simp only [Act.put, List.setIfInBounds_toArray, List.set_cons_zero, List.set_cons_succ]
            refine wpAnyH_take (i := 6) (v := ?vxc6) (opsS (opsS (opsS (opsS (opsS (opsS ops0)))))) (by kernel_rfl) (by kernel_rfl) (by kernel_rfl) (fun _ _ _ h => h) (Or.inl ⟨by rfl, ?yxc6⟩) hHeldxc0 ?_
            case yxc6 => (intro w hSw; (try dsimp only at hSw); go_simp; try (with_reducible rfl))
            try simp only [Act.put, List.setIfInBounds_toArray, List.set_cons_zero, List.set_cons_succ]
            refine wpAnyH_ready (rs := [2]) (by kernel_rfl) (by simp) ?_
            refine AllReadyH.cons (opsS (opsS ops0)) (fun K hK => ?_) AllReadyH.nil
            go_simp
            refine (and_any a b c d _ (by omega) (by omega) (by omega) (by omega)).mono ?_; rintro e w' ⟨rfl, hb⟩
            try dsimp only
            refine hK.out _ _ ?_ (fun hHeldxc1 => ?_)
            · (first | assumption | exact MW.drew (by assumption) | (go_split_ands; exact MW.drew (by assumption)) | (go_split_ands; exact MW.step (by assumption) (by assumption)) | (go_split_ands; exact MW.alloc (by assumption) _))
            clear hK K hHeldxc0
            try clear hb
            try simp only [Act.put, List.setIfInBounds_toArray, List.set_cons_zero, List.set_cons_succ]
            refine wpAnyH_ready (rs := [7]) (by kernel_rfl) (by simp) ?_
            refine AllReadyH.cons (opsS (opsS (opsS (opsS (opsS (opsS (opsS ops0))))))) (fun K hK => ?_) AllReadyH.nil
            go_simp
            refine (enough_any _ _ pr qr _).mono ?_; rw [HG.out]; rintro e w' ⟨rfl, hb⟩
            try dsimp only
            refine hK.out _ _ ?_ (fun hHeldxc2 => ?_)
            · (first | assumption | exact MW.drew (by assumption) | (go_split_ands; exact MW.drew (by assumption)) | (go_split_ands; exact MW.step (by assumption) (by assumption)) | (go_split_ands; exact MW.alloc (by assumption) _))
            clear hK K hHeldxc1
            try clear hb
            try simp only [Act.put, List.setIfInBounds_toArray, List.set_cons_zero, List.set_cons_succ]
            refine wpAnyH_take (i := 8) (v := ?vxc8) (opsS (opsS (opsS (opsS (opsS (opsS (opsS (opsS ops0)))))))) (by kernel_rfl) (by kernel_rfl) (by kernel_rfl) (fun _ _ _ h => h) (Or.inl ⟨by rfl, ?yxc8⟩) hHeldxc2 ?_
            case yxc8 => (intro w hSw; (try dsimp only at hSw); go_simp; try (with_reducible rfl))
            try simp only [Act.put, List.setIfInBounds_toArray, List.set_cons_zero, List.set_cons_succ]
            refine wpAnyH_take (i := 9) (v := ?vxc9) (opsS (opsS (opsS (opsS (opsS (opsS (opsS (opsS (opsS ops0))))))))) (by kernel_rfl) (by kernel_rfl) (by kernel_rfl) (fun _ _ _ h => h) (Or.inl ⟨by rfl, ?yxc9⟩) hHeldxc2 ?_
            case yxc9 => (intro w hSw; (try dsimp only at hSw); go_simp; try (with_reducible rfl))
            try simp only [Act.put, List.setIfInBounds_toArray, List.set_cons_zero, List.set_cons_succ]
            refine wpAnyH_done (by kernel_rfl) ?_ _
            have HLf := Lib.hid hHeldxc2.2.2.2.2.2.2.2.2.2.2.2.2.low
            clear hHeldxc2 test
            go_wp2
            go_ret
            exact ⟨ret_int (by rw [HA.out, HB.out, HC.out, HD.out, HNe.out, HMe.out, HR.out]), HLf.out⟩
      | false =>
        have HG := Lib.hid hG
        have HR := Lib.hid (show rdI pr qr pb cs.length a b c d n m = 2 by rw [HI.out, hG]; rfl)
        clear hG
        cases pb with
        | false =>
          go_wp2_with fail
          refine wp_region_held_drew (S := (fun w' => w'.cell? ⟨w.heap.size, 0, none⟩ = some (.int .i64 pn) ∧ w'.cell? ⟨w.heap.size, 1, none⟩ = some (.int .i64 pr) ∧ w'.cell? ⟨w.heap.size, 2, none⟩ = some (.int .i64 pw) ∧ w'.cell? ⟨w.heap.size, 3, none⟩ = some (.int .i64 qr) ∧ w'.cell? ⟨w.heap.size, 4, none⟩ = some (.int .i64 qw) ∧ w'.cell? ⟨w.heap.size, 5, none⟩ = some (.bool ps) ∧ w'.cell? ⟨w.heap.size, 6, none⟩ = some (.bool true) ∧ w'.cell? ⟨w.heap.size, 7, none⟩ = some (.bool false) ∧ w'.cell? ⟨p9, 0, none⟩ = some (.int .i64 a) ∧ w'.cell? ⟨p9, 1, none⟩ = some (.int .i64 b) ∧ w'.cell? ⟨q, 0, none⟩ = some (.int .i64 c) ∧ w'.cell? ⟨q, 1, none⟩ = some (.int .i64 d) ∧ Hid (MW (w) (w.heap.size) (p9) q a b c d pn pr pw qr qw ps (true) (false) w'))) (by kernel_rfl) ?_ (fun hHeldya0 => ?_)
          · exact test
          refine wpAnyH_take (i := 0) (v := ?vya0) ops0 (by kernel_rfl) (by kernel_rfl) (by kernel_rfl) (fun _ _ _ h => h) (Or.inl ⟨by rfl, ?yya0⟩) hHeldya0 ?_
          case yya0 => (intro w hSw; (try dsimp only at hSw); go_simp; try (with_reducible rfl))
          try simp only [Act.put, List.setIfInBounds_toArray, List.set_cons_zero, List.set_cons_succ]
          refine wpAnyH_take (i := 1) (v := ?vya1) (opsS ops0) (by kernel_rfl) (by kernel_rfl) (by kernel_rfl) (fun _ _ _ h => h) (Or.inl ⟨by rfl, ?yya1⟩) hHeldya0 ?_
          case yya1 => (intro w hSw; (try dsimp only at hSw); go_simp; try (with_reducible rfl))
          try simp only [Act.put, List.setIfInBounds_toArray, List.set_cons_zero, List.set_cons_succ]
          refine wpAnyH_take (i := 3) (v := ?vya3) (opsS (opsS (opsS ops0))) (by kernel_rfl) (by kernel_rfl) (by kernel_rfl) (fun _ _ _ h => h) (Or.inl ⟨by rfl, ?yya3⟩) hHeldya0 ?_
          case yya3 => (intro w hSw; (try dsimp only at hSw); go_simp; try (with_reducible rfl))
          try simp only [Act.put, List.setIfInBounds_toArray, List.set_cons_zero, List.set_cons_succ]
          refine wpAnyH_take (i := 4) (v := ?vya4) (opsS (opsS (opsS (opsS ops0)))) (by kernel_rfl) (by kernel_rfl) (by kernel_rfl) (fun _ _ _ h => h) (Or.inl ⟨by rfl, ?yya4⟩) hHeldya0 ?_
          case yya4 => (intro w hSw; (try dsimp only at hSw); go_simp; try (with_reducible rfl))
          try simp only [Act.put, List.setIfInBounds_toArray, List.set_cons_zero, List.set_cons_succ]
          refine wpAnyH_take (i := 5) (v := ?vya5) (opsS (opsS (opsS (opsS (opsS ops0))))) (by kernel_rfl) (by kernel_rfl) (by kernel_rfl) (fun _ _ _ h => h) (Or.inl ⟨by rfl, ?yya5⟩) hHeldya0 ?_
          case yya5 => (intro w hSw; (try dsimp only at hSw); go_simp; try (with_reducible rfl))
          try simp only [Act.put, List.setIfInBounds_toArray, List.set_cons_zero, List.set_cons_succ]
          refine wpAnyH_take (i := 6) (v := ?vya6) (opsS (opsS (opsS (opsS (opsS (opsS ops0)))))) (by kernel_rfl) (by kernel_rfl) (by kernel_rfl) (fun _ _ _ h => h) (Or.inl ⟨by rfl, ?yya6⟩) hHeldya0 ?_
          case yya6 => (intro w hSw; (try dsimp only at hSw); go_simp; try (with_reducible rfl))
          try simp only [Act.put, List.setIfInBounds_toArray, List.set_cons_zero, List.set_cons_succ]
          refine wpAnyH_ready (rs := [2]) (by kernel_rfl) (by simp) ?_
          refine AllReadyH.cons (opsS (opsS ops0)) (fun K hK => ?_) AllReadyH.nil
          go_simp
          refine (and_any a b c d _ (by omega) (by omega) (by omega) (by omega)).mono ?_; rintro e w' ⟨rfl, hb⟩
          try dsimp only
          refine hK.out _ _ ?_ (fun hHeldya1 => ?_)
          · (first | assumption | exact MW.drew (by assumption) | (go_split_ands; exact MW.drew (by assumption)) | (go_split_ands; exact MW.step (by assumption) (by assumption)) | (go_split_ands; exact MW.alloc (by assumption) _))
          clear hK K hHeldya0
          try clear hb
          try simp only [Act.put, List.setIfInBounds_toArray, List.set_cons_zero, List.set_cons_succ]
          refine wpAnyH_ready (rs := [7]) (by kernel_rfl) (by simp) ?_
          refine AllReadyH.cons (opsS (opsS (opsS (opsS (opsS (opsS (opsS ops0))))))) (fun K hK => ?_) AllReadyH.nil
          go_simp
          refine (enough_any _ _ pr qr _).mono ?_; rw [HG.out]; rintro e w' ⟨rfl, hb⟩
          try dsimp only
          refine hK.out _ _ ?_ (fun hHeldya2 => ?_)
          · (first | assumption | exact MW.drew (by assumption) | (go_split_ands; exact MW.drew (by assumption)) | (go_split_ands; exact MW.step (by assumption) (by assumption)) | (go_split_ands; exact MW.alloc (by assumption) _))
          clear hK K hHeldya1
          try clear hb
          try simp only [Act.put, List.setIfInBounds_toArray, List.set_cons_zero, List.set_cons_succ]
          refine wpAnyH_take (i := 8) (v := ?vya8) (opsS (opsS (opsS (opsS (opsS (opsS (opsS (opsS ops0)))))))) (by kernel_rfl) (by kernel_rfl) (by kernel_rfl) (fun _ _ _ h => h) (Or.inl ⟨by rfl, ?yya8⟩) hHeldya2 ?_
          case yya8 => (intro w hSw; (try dsimp only at hSw); go_simp; try (with_reducible rfl))
          try simp only [Act.put, List.setIfInBounds_toArray, List.set_cons_zero, List.set_cons_succ]
          refine wpAnyH_take (i := 9) (v := ?vya9) (opsS (opsS (opsS (opsS (opsS (opsS (opsS (opsS (opsS ops0))))))))) (by kernel_rfl) (by kernel_rfl) (by kernel_rfl) (fun _ _ _ h => h) (Or.inl ⟨by rfl, ?yya9⟩) hHeldya2 ?_
          case yya9 => (intro w hSw; (try dsimp only at hSw); go_simp; try (with_reducible rfl))
          try simp only [Act.put, List.setIfInBounds_toArray, List.set_cons_zero, List.set_cons_succ]
          refine wpAnyH_done (by kernel_rfl) ?_ _
          have HLf := Lib.hid hHeldya2.2.2.2.2.2.2.2.2.2.2.2.2.low
          clear hHeldya2 test
          go_wp2
          go_ret
          exact ⟨ret_int (by rw [HA.out, HB.out, HC.out, HD.out, HNe.out, HMe.out, HR.out]), HLf.out⟩
        | true =>
          by_cases hn0 : n = 0
          · subst hn0
            have hg2 : decide ((cs.length : Int) - m < m) = false := by
              have hlm : ¬ cs.length < 2 * m := fun h => hab ⟨rfl, rfl, h⟩
              simp only [decide_eq_false_iff_not]; omega
            clear hab
            go_wp2_with fail
            refine wp_region_held_drew (S := (fun w' => w'.cell? ⟨w.heap.size, 0, none⟩ = some (.int .i64 pn) ∧ w'.cell? ⟨w.heap.size, 1, none⟩ = some (.int .i64 pr) ∧ w'.cell? ⟨w.heap.size, 2, none⟩ = some (.int .i64 pw) ∧ w'.cell? ⟨w.heap.size, 3, none⟩ = some (.int .i64 qr) ∧ w'.cell? ⟨w.heap.size, 4, none⟩ = some (.int .i64 qw) ∧ w'.cell? ⟨w.heap.size, 5, none⟩ = some (.bool ps) ∧ w'.cell? ⟨w.heap.size, 6, none⟩ = some (.bool true) ∧ w'.cell? ⟨w.heap.size, 7, none⟩ = some (.bool true) ∧ w'.cell? ⟨p9, 0, none⟩ = some (.int .i64 a) ∧ w'.cell? ⟨p9, 1, none⟩ = some (.int .i64 b) ∧ w'.cell? ⟨q, 0, none⟩ = some (.int .i64 c) ∧ w'.cell? ⟨q, 1, none⟩ = some (.int .i64 d) ∧ Hid (MW (w) (w.heap.size) (p9) q a b c d pn pr pw qr qw ps (true) (true) w'))) (by kernel_rfl) ?_ (fun hHeldyb0 => ?_)
            · exact test
            refine wpAnyH_take (i := 0) (v := ?vyb0) ops0 (by kernel_rfl) (by kernel_rfl) (by kernel_rfl) (fun _ _ _ h => h) (Or.inl ⟨by rfl, ?yyb0⟩) hHeldyb0 ?_
            case yyb0 => (intro w hSw; (try dsimp only at hSw); go_simp; try (with_reducible rfl))
            try simp only [Act.put, List.setIfInBounds_toArray, List.set_cons_zero, List.set_cons_succ]
            refine wpAnyH_take (i := 1) (v := ?vyb1) (opsS ops0) (by kernel_rfl) (by kernel_rfl) (by kernel_rfl) (fun _ _ _ h => h) (Or.inl ⟨by rfl, ?yyb1⟩) hHeldyb0 ?_
            case yyb1 => (intro w hSw; (try dsimp only at hSw); go_simp; try (with_reducible rfl))
            try simp only [Act.put, List.setIfInBounds_toArray, List.set_cons_zero, List.set_cons_succ]
            refine wpAnyH_take (i := 3) (v := ?vyb3) (opsS (opsS (opsS ops0))) (by kernel_rfl) (by kernel_rfl) (by kernel_rfl) (fun _ _ _ h => h) (Or.inl ⟨by rfl, ?yyb3⟩) hHeldyb0 ?_
            case yyb3 => (intro w hSw; (try dsimp only at hSw); go_simp; try (with_reducible rfl))
            try simp only [Act.put, List.setIfInBounds_toArray, List.set_cons_zero, List.set_cons_succ]
            refine wpAnyH_take (i := 4) (v := ?vyb4) (opsS (opsS (opsS (opsS ops0)))) (by kernel_rfl) (by kernel_rfl) (by kernel_rfl) (fun _ _ _ h => h) (Or.inl ⟨by rfl, ?yyb4⟩) hHeldyb0 ?_
            case yyb4 => (intro w hSw; (try dsimp only at hSw); go_simp; try (with_reducible rfl))
            try simp only [Act.put, List.setIfInBounds_toArray, List.set_cons_zero, List.set_cons_succ]
            refine wpAnyH_take (i := 5) (v := ?vyb5) (opsS (opsS (opsS (opsS (opsS ops0))))) (by kernel_rfl) (by kernel_rfl) (by kernel_rfl) (fun _ _ _ h => h) (Or.inl ⟨by rfl, ?yyb5⟩) hHeldyb0 ?_
            case yyb5 => (intro w hSw; (try dsimp only at hSw); go_simp; try (with_reducible rfl))
            try simp only [Act.put, List.setIfInBounds_toArray, List.set_cons_zero, List.set_cons_succ]
            refine wpAnyH_take (i := 6) (v := ?vyb6) (opsS (opsS (opsS (opsS (opsS (opsS ops0)))))) (by kernel_rfl) (by kernel_rfl) (by kernel_rfl) (fun _ _ _ h => h) (Or.inl ⟨by rfl, ?yyb6⟩) hHeldyb0 ?_
            case yyb6 => (intro w hSw; (try dsimp only at hSw); go_simp; try (with_reducible rfl))
            try simp only [Act.put, List.setIfInBounds_toArray, List.set_cons_zero, List.set_cons_succ]
            refine wpAnyH_ready (rs := [2]) (by kernel_rfl) (by simp) ?_
            refine AllReadyH.cons (opsS (opsS ops0)) (fun K hK => ?_) AllReadyH.nil
            go_simp
            refine (and_any a b c d _ (by omega) (by omega) (by omega) (by omega)).mono ?_; rintro e w' ⟨rfl, hb⟩
            try dsimp only
            refine hK.out _ _ ?_ (fun hHeldyb1 => ?_)
            · (first | assumption | exact MW.drew (by assumption) | (go_split_ands; exact MW.drew (by assumption)) | (go_split_ands; exact MW.step (by assumption) (by assumption)) | (go_split_ands; exact MW.alloc (by assumption) _))
            clear hK K hHeldyb0
            try clear hb
            try simp only [Act.put, List.setIfInBounds_toArray, List.set_cons_zero, List.set_cons_succ]
            refine wpAnyH_ready (rs := [7]) (by kernel_rfl) (by simp) ?_
            refine AllReadyH.cons (opsS (opsS (opsS (opsS (opsS (opsS (opsS ops0))))))) (fun K hK => ?_) AllReadyH.nil
            go_simp
            refine (enough_any _ _ pr qr _).mono ?_; rw [HG.out]; rintro e w' ⟨rfl, hb⟩
            try dsimp only
            refine hK.out _ _ ?_ (fun hHeldyb2 => ?_)
            · (first | assumption | exact MW.drew (by assumption) | (go_split_ands; exact MW.drew (by assumption)) | (go_split_ands; exact MW.step (by assumption) (by assumption)) | (go_split_ands; exact MW.alloc (by assumption) _))
            clear hK K hHeldyb1
            try clear hb
            try simp only [Act.put, List.setIfInBounds_toArray, List.set_cons_zero, List.set_cons_succ]
            refine wpAnyH_take (i := 8) (v := ?vyb8) (opsS (opsS (opsS (opsS (opsS (opsS (opsS (opsS ops0)))))))) (by kernel_rfl) (by kernel_rfl) (by kernel_rfl) (fun _ _ _ h => h) (Or.inl ⟨by rfl, ?yyb8⟩) hHeldyb2 ?_
            case yyb8 => (intro w hSw; (try dsimp only at hSw); go_simp; try (with_reducible rfl))
            try simp only [Act.put, List.setIfInBounds_toArray, List.set_cons_zero, List.set_cons_succ]
            refine wpAnyH_take (i := 9) (v := ?vyb9) (opsS (opsS (opsS (opsS (opsS (opsS (opsS (opsS (opsS ops0))))))))) (by kernel_rfl) (by kernel_rfl) (by kernel_rfl) (fun _ _ _ h => h) (Or.inl ⟨by rfl, ?yyb9⟩) hHeldyb2 ?_
            case yyb9 => (intro w hSw; (try dsimp only at hSw); go_simp; try (with_reducible rfl))
            try simp only [Act.put, List.setIfInBounds_toArray, List.set_cons_zero, List.set_cons_succ]
            refine wpAnyH_done (by kernel_rfl) ?_ _
            have HLf := Lib.hid hHeldyb2.2.2.2.2.2.2.2.2.2.2.2.2.low
            clear hHeldyb2 test
            go_wp2
            go_ret
            exact ⟨ret_int (by rw [HA.out, HB.out, HC.out, HD.out, HNe.out, HMe.out, HR.out]), HLf.out⟩
          · have hn1 : ((n : Int) == 0) = false := by simpa using hn0
            have hn2 : (n == 0) = false := by simpa using hn0
            clear hab
            go_wp2_with fail
            refine wp_region_held_drew (S := (fun w' => w'.cell? ⟨w.heap.size, 0, none⟩ = some (.int .i64 pn) ∧ w'.cell? ⟨w.heap.size, 1, none⟩ = some (.int .i64 pr) ∧ w'.cell? ⟨w.heap.size, 2, none⟩ = some (.int .i64 pw) ∧ w'.cell? ⟨w.heap.size, 3, none⟩ = some (.int .i64 qr) ∧ w'.cell? ⟨w.heap.size, 4, none⟩ = some (.int .i64 qw) ∧ w'.cell? ⟨w.heap.size, 5, none⟩ = some (.bool ps) ∧ w'.cell? ⟨w.heap.size, 6, none⟩ = some (.bool true) ∧ w'.cell? ⟨w.heap.size, 7, none⟩ = some (.bool true) ∧ w'.cell? ⟨p9, 0, none⟩ = some (.int .i64 a) ∧ w'.cell? ⟨p9, 1, none⟩ = some (.int .i64 b) ∧ w'.cell? ⟨q, 0, none⟩ = some (.int .i64 c) ∧ w'.cell? ⟨q, 1, none⟩ = some (.int .i64 d) ∧ Hid (MW (w) (w.heap.size) (p9) q a b c d pn pr pw qr qw ps (true) (true) w'))) (by kernel_rfl) ?_ (fun hHeldyc0 => ?_)
            · exact test
            refine wpAnyH_take (i := 0) (v := ?vyc0) ops0 (by kernel_rfl) (by kernel_rfl) (by kernel_rfl) (fun _ _ _ h => h) (Or.inl ⟨by rfl, ?yyc0⟩) hHeldyc0 ?_
            case yyc0 => (intro w hSw; (try dsimp only at hSw); go_simp; try (with_reducible rfl))
            try simp only [Act.put, List.setIfInBounds_toArray, List.set_cons_zero, List.set_cons_succ]
            refine wpAnyH_take (i := 1) (v := ?vyc1) (opsS ops0) (by kernel_rfl) (by kernel_rfl) (by kernel_rfl) (fun _ _ _ h => h) (Or.inl ⟨by rfl, ?yyc1⟩) hHeldyc0 ?_
            case yyc1 => (intro w hSw; (try dsimp only at hSw); go_simp; try (with_reducible rfl))
            try simp only [Act.put, List.setIfInBounds_toArray, List.set_cons_zero, List.set_cons_succ]
            refine wpAnyH_take (i := 3) (v := ?vyc3) (opsS (opsS (opsS ops0))) (by kernel_rfl) (by kernel_rfl) (by kernel_rfl) (fun _ _ _ h => h) (Or.inl ⟨by rfl, ?yyc3⟩) hHeldyc0 ?_
            case yyc3 => (intro w hSw; (try dsimp only at hSw); go_simp; try (with_reducible rfl))
            try simp only [Act.put, List.setIfInBounds_toArray, List.set_cons_zero, List.set_cons_succ]
            refine wpAnyH_take (i := 4) (v := ?vyc4) (opsS (opsS (opsS (opsS ops0)))) (by kernel_rfl) (by kernel_rfl) (by kernel_rfl) (fun _ _ _ h => h) (Or.inl ⟨by rfl, ?yyc4⟩) hHeldyc0 ?_
            case yyc4 => (intro w hSw; (try dsimp only at hSw); go_simp; try (with_reducible rfl))
            try simp only [Act.put, List.setIfInBounds_toArray, List.set_cons_zero, List.set_cons_succ]
            refine wpAnyH_take (i := 5) (v := ?vyc5) (opsS (opsS (opsS (opsS (opsS ops0))))) (by kernel_rfl) (by kernel_rfl) (by kernel_rfl) (fun _ _ _ h => h) (Or.inl ⟨by rfl, ?yyc5⟩) hHeldyc0 ?_
            case yyc5 => (intro w hSw; (try dsimp only at hSw); go_simp; try (with_reducible rfl))
            try simp only [Act.put, List.setIfInBounds_toArray, List.set_cons_zero, List.set_cons_succ]
            refine wpAnyH_take (i := 6) (v := ?vyc6) (opsS (opsS (opsS (opsS (opsS (opsS ops0)))))) (by kernel_rfl) (by kernel_rfl) (by kernel_rfl) (fun _ _ _ h => h) (Or.inl ⟨by rfl, ?yyc6⟩) hHeldyc0 ?_
            case yyc6 => (intro w hSw; (try dsimp only at hSw); go_simp; try (with_reducible rfl))
            try simp only [Act.put, List.setIfInBounds_toArray, List.set_cons_zero, List.set_cons_succ]
            refine wpAnyH_ready (rs := [2]) (by kernel_rfl) (by simp) ?_
            refine AllReadyH.cons (opsS (opsS ops0)) (fun K hK => ?_) AllReadyH.nil
            go_simp
            refine (and_any a b c d _ (by omega) (by omega) (by omega) (by omega)).mono ?_; rintro e w' ⟨rfl, hb⟩
            try dsimp only
            refine hK.out _ _ ?_ (fun hHeldyc1 => ?_)
            · (first | assumption | exact MW.drew (by assumption) | (go_split_ands; exact MW.drew (by assumption)) | (go_split_ands; exact MW.step (by assumption) (by assumption)) | (go_split_ands; exact MW.alloc (by assumption) _))
            clear hK K hHeldyc0
            try clear hb
            try simp only [Act.put, List.setIfInBounds_toArray, List.set_cons_zero, List.set_cons_succ]
            refine wpAnyH_ready (rs := [7]) (by kernel_rfl) (by simp) ?_
            refine AllReadyH.cons (opsS (opsS (opsS (opsS (opsS (opsS (opsS ops0))))))) (fun K hK => ?_) AllReadyH.nil
            go_simp
            refine (enough_any _ _ pr qr _).mono ?_; rw [HG.out]; rintro e w' ⟨rfl, hb⟩
            try dsimp only
            refine hK.out _ _ ?_ (fun hHeldyc2 => ?_)
            · (first | assumption | exact MW.drew (by assumption) | (go_split_ands; exact MW.drew (by assumption)) | (go_split_ands; exact MW.step (by assumption) (by assumption)) | (go_split_ands; exact MW.alloc (by assumption) _))
            clear hK K hHeldyc1
            try clear hb
            try simp only [Act.put, List.setIfInBounds_toArray, List.set_cons_zero, List.set_cons_succ]
            refine wpAnyH_take (i := 8) (v := ?vyc8) (opsS (opsS (opsS (opsS (opsS (opsS (opsS (opsS ops0)))))))) (by kernel_rfl) (by kernel_rfl) (by kernel_rfl) (fun _ _ _ h => h) (Or.inl ⟨by rfl, ?yyc8⟩) hHeldyc2 ?_
            case yyc8 => (intro w hSw; (try dsimp only at hSw); go_simp; try (with_reducible rfl))
            try simp only [Act.put, List.setIfInBounds_toArray, List.set_cons_zero, List.set_cons_succ]
            refine wpAnyH_take (i := 9) (v := ?vyc9) (opsS (opsS (opsS (opsS (opsS (opsS (opsS (opsS (opsS ops0))))))))) (by kernel_rfl) (by kernel_rfl) (by kernel_rfl) (fun _ _ _ h => h) (Or.inl ⟨by rfl, ?yyc9⟩) hHeldyc2 ?_
            case yyc9 => (intro w hSw; (try dsimp only at hSw); go_simp; try (with_reducible rfl))
            try simp only [Act.put, List.setIfInBounds_toArray, List.set_cons_zero, List.set_cons_succ]
            refine wpAnyH_done (by kernel_rfl) ?_ _
            have HLf := Lib.hid hHeldyc2.2.2.2.2.2.2.2.2.2.2.2.2.low
            clear hHeldyc2 test
            go_wp2
            go_ret
            exact ⟨ret_int (by rw [HA.out, HB.out, HC.out, HD.out, HNe.out, HMe.out, HR.out]), HLf.out⟩
set_option maxRecDepth 100000 in
set_option maxHeartbeats 8000000 in
theorem read_no (w : World) (A FF M N : Option Addr) (ca cf cm cn : Nat) (cs : List R38) (fs ms ns : List ByteArray) (pn pr pw qr qw : Int) (ps pb : Bool) (hl : cs.length ≤ 1000) (hf : fs.length ≤ 1000) (hm : ms.length ≤ 1000) (hn : ns.length ≤ 1000) (h1 : Reads w w.heap.size 2 A cs.length (cs.flatMap R38.cells)) (h2 : Reads w w.heap.size 1 FF fs.length (fs.flatMap tc)) (h3 : Reads w w.heap.size 1 M ms.length (ms.flatMap tc)) (h4 : Reads w w.heap.size 1 N ns.length (ns.flatMap tc)) :
    Calls Try.prog 11 #[.agg #[.int .i64 pn, .int .i64 pr, .int .i64 pw, .int .i64 qr, .int .i64 qw, .bool ps, .bool false, .bool pb], .slice A cs.length ca, .slice FF fs.length cf, .slice M ms.length cm, .slice N ns.length cn] w fun e w' => e = .returned (.int .i64 (rdI pr qr pb cs.length (nA (inAny [fs]) cs) (nB (inAny [fs]) cs) (nA (fun s => !inAny [fs, ms, ns] s) cs) (nB (fun s => !inAny [fs, ms, ns] s) cs) (nA (memB fs) cs) (nA (memB ms) cs))) ∧ Below w.heap.size w w' := by
  have HBK := Lib.hid (Blk.new w 23 #[.int .i64 pn, .int .i64 pr, .int .i64 pw, .int .i64 qr, .int .i64 qw, .bool ps, .bool false, .bool pb])
  have hb := below_lit w (.cells #[.int .i64 pn, .int .i64 pr, .int .i64 pw, .int .i64 qr, .int .i64 qw, .bool ps, .bool false, .bool pb] 23)
  have H1 := Lib.hid (h1.more_below hb)
  have HF := Lib.hid (h2.more_below hb)
  have HM := Lib.hid (h3.more_below hb)
  have HN := Lib.hid (h4.more_below hb)
  have HL := Lib.hid hb
  clear h1 h2 h3 h4 hb
  go_enter Try.func11, Try.ntmps11
  go_wp2_with fail
  have hll0 := LL.one (c := cf) HF.out hf
  rw [World.size_alloc] at hll0
  have hll := Lib.hid hll0
  clear hll0
  have hb := below_lit (w.alloc (.cells #[.int .i64 pn, .int .i64 pr, .int .i64 pw, .int .i64 qr, .int .i64 qw, .bool ps, .bool false, .bool pb] 23)) (.cells #[.slice FF fs.length cf] 25)
  replace HBK := Lib.hid (Blk.below (Hid.out HBK) hb (Hid.out HBK).lt)
  replace H1 := Lib.hid ((Hid.out H1).more_below hb)
  replace HF := Lib.hid ((Hid.out HF).more_below hb)
  replace HM := Lib.hid ((Hid.out HM).more_below hb)
  replace HN := Lib.hid ((Hid.out HN).more_below hb)
  replace HL := Lib.hid ((Hid.out HL).trans (hb.mono (Hid.out HL).size))
  clear hb
  refine (amongN_any _ _ 1 1 [fs] _ rfl (by decide) hll.out).mono ?_
  rintro e w2 ⟨p, rfl, hP, hb⟩
  replace HBK := Lib.hid (Blk.below (Hid.out HBK) hb (Hid.out HBK).lt)
  replace H1 := Lib.hid ((Hid.out H1).more_below hb)
  replace HF := Lib.hid ((Hid.out HF).more_below hb)
  replace HM := Lib.hid ((Hid.out HM).more_below hb)
  replace HN := Lib.hid ((Hid.out HN).more_below hb)
  replace HL := Lib.hid ((Hid.out HL).trans (hb.mono (Hid.out HL).size))
  clear hb
  clear hll
  have k6 : w2.cell? ⟨w.heap.size, 6, none⟩ = some (.bool false) := HBK.out.cell 6
  go_wp2_with fail
  clear k6
  refine (count_any _ A ca cs hl H1.out 24 enters24 p _ hP).mono ?_
  rintro e w4 ⟨rfl, hb⟩
  replace HBK := Lib.hid (Blk.below (Hid.out HBK) hb (Hid.out HBK).lt)
  replace H1 := Lib.hid ((Hid.out H1).more_below hb)
  replace HF := Lib.hid ((Hid.out HF).more_below hb)
  replace HM := Lib.hid ((Hid.out HM).more_below hb)
  replace HN := Lib.hid ((Hid.out HN).more_below hb)
  replace HL := Lib.hid ((Hid.out HL).trans (hb.mono (Hid.out HL).size))
  clear hb
  clear hP
  obtain ⟨hcA1, hcA2⟩ := cnt_le (inAny [fs]) cs cs.length
  change nA (inAny [fs]) cs ≤ _ at hcA1
  change nB (inAny [fs]) cs ≤ _ at hcA2
  generalize hA : nA (inAny [fs]) cs = a at *
  generalize hB : nB (inAny [fs]) cs = b at *
  have HA := Lib.hid hA
  have HB := Lib.hid hB
  clear hA hB
  have HT := Lib.hid (Blk.new w4 43 #[.int .i64 a, .int .i64 b])
  have hb := below_lit w4 (.cells #[.int .i64 a, .int .i64 b] 43)
  have hz3 := HL.out.size
  have hBl := HBK.out.lt
  replace HBK := Lib.hid (Blk.below (Hid.out HBK) hb (Hid.out HBK).lt)
  replace H1 := Lib.hid ((Hid.out H1).more_below hb)
  replace HF := Lib.hid ((Hid.out HF).more_below hb)
  replace HM := Lib.hid ((Hid.out HM).more_below hb)
  replace HN := Lib.hid ((Hid.out HN).more_below hb)
  replace HL := Lib.hid ((Hid.out HL).trans (hb.mono (Hid.out HL).size))
  clear hb
  go_wp2_with fail
  have hll0 := LL.three (c := cf) (d := cm) (e := cn) HF.out HM.out HN.out hf hm hn
  rw [World.size_alloc] at hll0
  have hll := Lib.hid hll0
  clear hll0
  have hb := below_lit (w4.alloc (.cells #[.int .i64 a, .int .i64 b] 43)) (.cells #[.slice FF fs.length cf, .slice M ms.length cm, .slice N ns.length cn] 25)
  replace HBK := Lib.hid (Blk.below (Hid.out HBK) hb (Hid.out HBK).lt)
  replace HT := Lib.hid (Blk.below (Hid.out HT) hb (Hid.out HT).lt)
  replace H1 := Lib.hid ((Hid.out H1).more_below hb)
  replace HF := Lib.hid ((Hid.out HF).more_below hb)
  replace HM := Lib.hid ((Hid.out HM).more_below hb)
  replace HL := Lib.hid ((Hid.out HL).trans (hb.mono (Hid.out HL).size))
  clear hb
  refine (amongN_any _ _ 3 3 [fs, ms, ns] _ rfl (by decide) hll.out).mono ?_
  rintro e w5 ⟨p5, rfl, hP, hb⟩
  replace HBK := Lib.hid (Blk.below (Hid.out HBK) hb (Hid.out HBK).lt)
  replace HT := Lib.hid (Blk.below (Hid.out HT) hb (Hid.out HT).lt)
  replace H1 := Lib.hid ((Hid.out H1).more_below hb)
  replace HF := Lib.hid ((Hid.out HF).more_below hb)
  replace HM := Lib.hid ((Hid.out HM).more_below hb)
  replace HL := Lib.hid ((Hid.out HL).trans (hb.mono (Hid.out HL).size))
  clear hb
  clear hll HN
  go_wp2_with fail
  refine (not_any _ 24 enters24 p5 _ hP).mono ?_
  rintro e w6 ⟨p6, rfl, hP6, hb⟩
  replace HBK := Lib.hid (Blk.below (Hid.out HBK) hb (Hid.out HBK).lt)
  replace HT := Lib.hid (Blk.below (Hid.out HT) hb (Hid.out HT).lt)
  replace H1 := Lib.hid ((Hid.out H1).more_below hb)
  replace HF := Lib.hid ((Hid.out HF).more_below hb)
  replace HM := Lib.hid ((Hid.out HM).more_below hb)
  replace HL := Lib.hid ((Hid.out HL).trans (hb.mono (Hid.out HL).size))
  clear hb
  clear hP
  go_wp2_with fail
  refine (count_any _ A ca cs hl H1.out 28 enters28 p6 _ hP6).mono ?_
  rintro e w7 ⟨rfl, hb⟩
  replace HBK := Lib.hid (Blk.below (Hid.out HBK) hb (Hid.out HBK).lt)
  replace HT := Lib.hid (Blk.below (Hid.out HT) hb (Hid.out HT).lt)
  replace H1 := Lib.hid ((Hid.out H1).more_below hb)
  replace HF := Lib.hid ((Hid.out HF).more_below hb)
  replace HM := Lib.hid ((Hid.out HM).more_below hb)
  replace HL := Lib.hid ((Hid.out HL).trans (hb.mono (Hid.out HL).size))
  clear hb
  clear hP6
  obtain ⟨hcO1, hcO2⟩ := cnt_le (fun s => !inAny [fs, ms, ns] s) cs cs.length
  change nA (fun s => !inAny [fs, ms, ns] s) cs ≤ _ at hcO1
  change nB (fun s => !inAny [fs, ms, ns] s) cs ≤ _ at hcO2
  generalize hC : nA (fun s => !inAny [fs, ms, ns] s) cs = c at *
  generalize hD : nB (fun s => !inAny [fs, ms, ns] s) cs = d at *
  have HC := Lib.hid hC
  have HD := Lib.hid hD
  clear hC hD
  have HU := Lib.hid (Blk.new w7 43 #[.int .i64 c, .int .i64 d])
  have hb := below_lit w7 (.cells #[.int .i64 c, .int .i64 d] 43)
  have hlt1 := HBK.out.lt
  have hlt2 := HT.out.lt
  replace HBK := Lib.hid (Blk.below (Hid.out HBK) hb (Hid.out HBK).lt)
  replace HT := Lib.hid (Blk.below (Hid.out HT) hb (Hid.out HT).lt)
  replace H1 := Lib.hid ((Hid.out H1).more_below hb)
  replace HF := Lib.hid ((Hid.out HF).more_below hb)
  replace HM := Lib.hid ((Hid.out HM).more_below hb)
  replace HL := Lib.hid ((Hid.out HL).trans (hb.mono (Hid.out HL).size))
  clear hb
  go_wp2_with fail
  have hll0 := LL.one (c := cf) HF.out hf
  rw [World.size_alloc] at hll0
  have hll := Lib.hid hll0
  clear hll0
  have hb := below_lit (w7.alloc (.cells #[.int .i64 c, .int .i64 d] 43)) (.cells #[.slice FF fs.length cf] 25)
  replace HBK := Lib.hid (Blk.below (Hid.out HBK) hb (Hid.out HBK).lt)
  replace HT := Lib.hid (Blk.below (Hid.out HT) hb (Hid.out HT).lt)
  replace HU := Lib.hid (Blk.below (Hid.out HU) hb (Hid.out HU).lt)
  replace H1 := Lib.hid ((Hid.out H1).more_below hb)
  replace HM := Lib.hid ((Hid.out HM).more_below hb)
  replace HL := Lib.hid ((Hid.out HL).trans (hb.mono (Hid.out HL).size))
  clear hb
  refine (amongN_any _ _ 1 1 [fs] _ rfl (by decide) hll.out).mono ?_
  rintro e w8 ⟨p8, rfl, hP, hb⟩
  replace HBK := Lib.hid (Blk.below (Hid.out HBK) hb (Hid.out HBK).lt)
  replace HT := Lib.hid (Blk.below (Hid.out HT) hb (Hid.out HT).lt)
  replace HU := Lib.hid (Blk.below (Hid.out HU) hb (Hid.out HU).lt)
  replace H1 := Lib.hid ((Hid.out H1).more_below hb)
  replace HM := Lib.hid ((Hid.out HM).more_below hb)
  replace HL := Lib.hid ((Hid.out HL).trans (hb.mono (Hid.out HL).size))
  clear hb
  clear hll
  go_wp2_with fail
  refine (count_any _ A ca cs hl H1.out 24 enters24 p8 _ hP).mono ?_
  rw [inAny_one]
  rintro e w9 ⟨rfl, hb⟩
  replace HBK := Lib.hid (Blk.below (Hid.out HBK) hb (Hid.out HBK).lt)
  replace HT := Lib.hid (Blk.below (Hid.out HT) hb (Hid.out HT).lt)
  replace HU := Lib.hid (Blk.below (Hid.out HU) hb (Hid.out HU).lt)
  replace H1 := Lib.hid ((Hid.out H1).more_below hb)
  replace HM := Lib.hid ((Hid.out HM).more_below hb)
  replace HL := Lib.hid ((Hid.out HL).trans (hb.mono (Hid.out HL).size))
  clear hb
  clear hP
  obtain ⟨hcN1, -⟩ := cnt_le (memB fs) cs cs.length
  change nA (memB fs) cs ≤ _ at hcN1
  generalize hN : nA (memB fs) cs = n at *
  have HNe := Lib.hid hN
  clear hN
  have hfd : ∀ (i j : Int) (w : World), (Instr.field 43 (.agg #[.int .i64 i, .int .i64 j]) 0).run Try.prog w = .ok (.int .i64 i) w := fun _ _ _ => by kernel_rfl
  go_wp2_with fail
  have hll := Lib.hid (LL.one (c := cm) HM.out hm)
  have hb := below_lit w9 (.cells #[.slice M ms.length cm] 25)
  replace HBK := Lib.hid (Blk.below (Hid.out HBK) hb (Hid.out HBK).lt)
  replace HT := Lib.hid (Blk.below (Hid.out HT) hb (Hid.out HT).lt)
  replace HU := Lib.hid (Blk.below (Hid.out HU) hb (Hid.out HU).lt)
  replace H1 := Lib.hid ((Hid.out H1).more_below hb)
  replace HL := Lib.hid ((Hid.out HL).trans (hb.mono (Hid.out HL).size))
  clear hb
  refine (amongN_any _ _ 1 1 [ms] _ rfl (by decide) hll.out).mono ?_
  rintro e w10 ⟨p10, rfl, hP, hb⟩
  replace HBK := Lib.hid (Blk.below (Hid.out HBK) hb (Hid.out HBK).lt)
  replace HT := Lib.hid (Blk.below (Hid.out HT) hb (Hid.out HT).lt)
  replace HU := Lib.hid (Blk.below (Hid.out HU) hb (Hid.out HU).lt)
  replace H1 := Lib.hid ((Hid.out H1).more_below hb)
  replace HL := Lib.hid ((Hid.out HL).trans (hb.mono (Hid.out HL).size))
  clear hb
  clear hll
  go_wp2_with fail
  refine (count_any _ A ca cs hl H1.out 24 enters24 p10 _ hP).mono ?_
  rw [inAny_one]
  rintro e w11 ⟨rfl, hb⟩
  replace HBK := Lib.hid (Blk.below (Hid.out HBK) hb (Hid.out HBK).lt)
  replace HT := Lib.hid (Blk.below (Hid.out HT) hb (Hid.out HT).lt)
  replace HU := Lib.hid (Blk.below (Hid.out HU) hb (Hid.out HU).lt)
  replace HL := Lib.hid ((Hid.out HL).trans (hb.mono (Hid.out HL).size))
  clear hb
  clear hP H1
  obtain ⟨hcM1, -⟩ := cnt_le (memB ms) cs cs.length
  change nA (memB ms) cs ≤ _ at hcM1
  generalize hM : nA (memB ms) cs = m at *
  have HMe := Lib.hid hM
  clear hM
  have hM : Hid (MW w w.heap.size w4.heap.size w7.heap.size a b c d pn pr pw qr qw ps false pb w11) := ⟨HBK.out, HT.out, HU.out, HL.out⟩
  clear HBK HT HU HL hz3 hlt1 hlt2 hBl
  generalize w7.heap.size = q at *
  generalize w4.heap.size = p9 at *
  obtain ⟨m0, m1, m2, m3, m4, m5, m6, m7, n0, n1, o0, o1, -⟩ := MW.of hM.out
  have hfin := fun r (h : rdI pr qr pb cs.length a b c d n m = r) => Lib.hid h
  cases hE : (decide (pr ≤ (a : Int)) && decide (qr ≤ (b : Int))) with
  | true =>
    have HE := Lib.hid hE
    clear hE
    by_cases hn0 : n = 0
    · have HR := hfin 3 (by unfold rdI; rw [if_pos HE.out, if_pos hn0])
      subst hn0
      clear hfin
      go_wp2_with fail
      refine (enough_any a b pr qr _).mono ?_
      rw [HE.out]
      rintro e w12 ⟨rfl, hb⟩
      obtain ⟨m0, m1, m2, m3, m4, m5, m6, m7, n0, n1, o0, o1, hM2⟩ := MW.step hb hM
      clear hb hM
      go_wp2_with fail
      refine (enough_any a b pr qr _).mono ?_
      rw [HE.out]
      rintro e w13 ⟨rfl, hb⟩
      have HLf := Lib.hid (hM2.out.low.trans (hb.mono hM2.out.low.size))
      go_wp2
      go_ret
      exact ⟨ret_int (by rw [HA.out, HB.out, HC.out, HD.out, HNe.out, HMe.out, HR.out]), HLf.out⟩
    · have HR := hfin 1 (by unfold rdI; rw [if_pos HE.out, if_neg hn0])
      have hn1 : ((n : Int) == 0) = false := by simpa using hn0
      have hn2 : (n == 0) = false := by simpa using hn0
      clear hfin
      go_wp2_with fail
      refine (enough_any a b pr qr _).mono ?_
      rw [HE.out]
      rintro e w12 ⟨rfl, hb⟩
      have HLf := Lib.hid (hM.out.low.trans (hb.mono hM.out.low.size))
      go_wp2
      go_ret
      exact ⟨ret_int (by rw [HA.out, HB.out, HC.out, HD.out, HNe.out, HMe.out, HR.out]), HLf.out⟩
  | false =>
    have HE := Lib.hid hE
    clear hE
    go_wp2_with fail
    refine (enough_any a b pr qr _).mono ?_
    rw [HE.out]
    rintro e w12 ⟨rfl, hb⟩
    obtain ⟨m0, m1, m2, m3, m4, m5, m6, m7, n0, n1, o0, o1, hM2⟩ := MW.step hb hM
    clear hb hM
    go_wp2_with fail
    refine (enough_any a b pr qr _).mono ?_
    rw [HE.out]
    rintro e w13 ⟨rfl, hb⟩
    obtain ⟨m0, m1, m2, m3, m4, m5, m6, m7, n0, n1, o0, o1, hM⟩ := MW.step hb hM2
    clear hb hM2
    by_cases hab : pb = true ∧ n = 0 ∧ cs.length < 2 * m
    · obtain ⟨hb1, hb2, hb3⟩ := hab
      have HR := hfin 3 (by unfold rdI; rw [if_neg (by rw [HE.out]; simp), if_pos (by simp [hb1, hb2, hb3])])
      subst hb1 hb2
      have hg : ((cs.length : Int) - m < m) := by omega
      have hg2 : decide ((cs.length : Int) - m < m) = true := by simpa using hg
      clear hfin hb3 hg
      have HLf := Lib.hid hM.out.low
      go_wp2
      go_ret
      exact ⟨ret_int (by rw [HA.out, HB.out, HC.out, HD.out, HNe.out, HMe.out, HR.out]), HLf.out⟩
    · have HI := Lib.hid (show rdI pr qr pb cs.length a b c d n m = if (decide (pr ≤ (a : Int) + c) && decide (qr ≤ (b : Int) + d)) = true then 0 else 2 by
        unfold rdI; rw [if_neg (by rw [HE.out]; simp), if_neg (by
          intro h; apply hab; simp only [Bool.and_eq_true, decide_eq_true_eq] at h; exact ⟨h.1.1, h.1.2, h.2⟩)])
      clear hfin
      have test := MW.drew hM
      clear m0 m1 m2 m3 m4 m5 m6 n0 n1 o0 o1
      cases hG : (decide (pr ≤ (a : Int) + c) && decide (qr ≤ (b : Int) + d)) with
      | true =>
        have HG := Lib.hid hG
        have HR := Lib.hid (show rdI pr qr pb cs.length a b c d n m = 0 by rw [HI.out, hG]; rfl)
        clear hG
        cases pb with
        | false =>
          go_wp2_with fail
          refine wp_region_held_drew (S := (fun w' => w'.cell? ⟨w.heap.size, 0, none⟩ = some (.int .i64 pn) ∧ w'.cell? ⟨w.heap.size, 1, none⟩ = some (.int .i64 pr) ∧ w'.cell? ⟨w.heap.size, 2, none⟩ = some (.int .i64 pw) ∧ w'.cell? ⟨w.heap.size, 3, none⟩ = some (.int .i64 qr) ∧ w'.cell? ⟨w.heap.size, 4, none⟩ = some (.int .i64 qw) ∧ w'.cell? ⟨w.heap.size, 5, none⟩ = some (.bool ps) ∧ w'.cell? ⟨w.heap.size, 6, none⟩ = some (.bool false) ∧ w'.cell? ⟨w.heap.size, 7, none⟩ = some (.bool false) ∧ w'.cell? ⟨p9, 0, none⟩ = some (.int .i64 a) ∧ w'.cell? ⟨p9, 1, none⟩ = some (.int .i64 b) ∧ w'.cell? ⟨q, 0, none⟩ = some (.int .i64 c) ∧ w'.cell? ⟨q, 1, none⟩ = some (.int .i64 d) ∧ Hid (MW (w) (w.heap.size) (p9) q a b c d pn pr pw qr qw ps (false) (false) w'))) (by kernel_rfl) ?_ (fun hHeldxa0 => ?_)
          · exact test
          refine wpAnyH_take (i := 0) (v := ?vxa0) ops0 (by kernel_rfl) (by kernel_rfl) (by kernel_rfl) (fun _ _ _ h => h) (Or.inl ⟨by rfl, ?yxa0⟩) hHeldxa0 ?_
          case yxa0 => (intro w hSw; (try dsimp only at hSw); go_simp; try (with_reducible rfl))
          try simp only [Act.put, List.setIfInBounds_toArray, List.set_cons_zero, List.set_cons_succ]
          refine wpAnyH_take (i := 1) (v := ?vxa1) (opsS ops0) (by kernel_rfl) (by kernel_rfl) (by kernel_rfl) (fun _ _ _ h => h) (Or.inl ⟨by rfl, ?yxa1⟩) hHeldxa0 ?_
          case yxa1 => (intro w hSw; (try dsimp only at hSw); go_simp; try (with_reducible rfl))
          try simp only [Act.put, List.setIfInBounds_toArray, List.set_cons_zero, List.set_cons_succ]
          refine wpAnyH_take (i := 3) (v := ?vxa3) (opsS (opsS (opsS ops0))) (by kernel_rfl) (by kernel_rfl) (by kernel_rfl) (fun _ _ _ h => h) (Or.inl ⟨by rfl, ?yxa3⟩) hHeldxa0 ?_
          case yxa3 => (intro w hSw; (try dsimp only at hSw); go_simp; try (with_reducible rfl))
          try simp only [Act.put, List.setIfInBounds_toArray, List.set_cons_zero, List.set_cons_succ]
          refine wpAnyH_take (i := 4) (v := ?vxa4) (opsS (opsS (opsS (opsS ops0)))) (by kernel_rfl) (by kernel_rfl) (by kernel_rfl) (fun _ _ _ h => h) (Or.inl ⟨by rfl, ?yxa4⟩) hHeldxa0 ?_
          case yxa4 => (intro w hSw; (try dsimp only at hSw); go_simp; try (with_reducible rfl))
          try simp only [Act.put, List.setIfInBounds_toArray, List.set_cons_zero, List.set_cons_succ]
          refine wpAnyH_take (i := 5) (v := ?vxa5) (opsS (opsS (opsS (opsS (opsS ops0))))) (by kernel_rfl) (by kernel_rfl) (by kernel_rfl) (fun _ _ _ h => h) (Or.inl ⟨by rfl, ?yxa5⟩) hHeldxa0 ?_
          case yxa5 => (intro w hSw; (try dsimp only at hSw); go_simp; try (with_reducible rfl))
          try simp only [Act.put, List.setIfInBounds_toArray, List.set_cons_zero, List.set_cons_succ]
          refine wpAnyH_take (i := 6) (v := ?vxa6) (opsS (opsS (opsS (opsS (opsS (opsS ops0)))))) (by kernel_rfl) (by kernel_rfl) (by kernel_rfl) (fun _ _ _ h => h) (Or.inl ⟨by rfl, ?yxa6⟩) hHeldxa0 ?_
          case yxa6 => (intro w hSw; (try dsimp only at hSw); go_simp; try (with_reducible rfl))
          try simp only [Act.put, List.setIfInBounds_toArray, List.set_cons_zero, List.set_cons_succ]
          refine wpAnyH_ready (rs := [2]) (by kernel_rfl) (by simp) ?_
          refine AllReadyH.cons (opsS (opsS ops0)) (fun K hK => ?_) AllReadyH.nil
          go_simp
          refine (and_any a b c d _ (by omega) (by omega) (by omega) (by omega)).mono ?_; rintro e w' ⟨rfl, hb⟩
          try dsimp only
          refine hK.out _ _ ?_ (fun hHeldxa1 => ?_)
          · (first | assumption | exact MW.drew (by assumption) | (go_split_ands; exact MW.drew (by assumption)) | (go_split_ands; exact MW.step (by assumption) (by assumption)) | (go_split_ands; exact MW.alloc (by assumption) _))
          clear hK K hHeldxa0
          try clear hb
          try simp only [Act.put, List.setIfInBounds_toArray, List.set_cons_zero, List.set_cons_succ]
          refine wpAnyH_ready (rs := [7]) (by kernel_rfl) (by simp) ?_
          refine AllReadyH.cons (opsS (opsS (opsS (opsS (opsS (opsS (opsS ops0))))))) (fun K hK => ?_) AllReadyH.nil
          go_simp
          refine (enough_any _ _ pr qr _).mono ?_; rw [HG.out]; rintro e w' ⟨rfl, hb⟩
          try dsimp only
          refine hK.out _ _ ?_ (fun hHeldxa2 => ?_)
          · (first | assumption | exact MW.drew (by assumption) | (go_split_ands; exact MW.drew (by assumption)) | (go_split_ands; exact MW.step (by assumption) (by assumption)) | (go_split_ands; exact MW.alloc (by assumption) _))
          clear hK K hHeldxa1
          try clear hb
          try simp only [Act.put, List.setIfInBounds_toArray, List.set_cons_zero, List.set_cons_succ]
          refine wpAnyH_take (i := 8) (v := ?vxa8) (opsS (opsS (opsS (opsS (opsS (opsS (opsS (opsS ops0)))))))) (by kernel_rfl) (by kernel_rfl) (by kernel_rfl) (fun _ _ _ h => h) (Or.inl ⟨by rfl, ?yxa8⟩) hHeldxa2 ?_
          case yxa8 => (intro w hSw; (try dsimp only at hSw); go_simp; try (with_reducible rfl))
          try simp only [Act.put, List.setIfInBounds_toArray, List.set_cons_zero, List.set_cons_succ]
          refine wpAnyH_take (i := 9) (v := ?vxa9) (opsS (opsS (opsS (opsS (opsS (opsS (opsS (opsS (opsS ops0))))))))) (by kernel_rfl) (by kernel_rfl) (by kernel_rfl) (fun _ _ _ h => h) (Or.inl ⟨by rfl, ?yxa9⟩) hHeldxa2 ?_
          case yxa9 => (intro w hSw; (try dsimp only at hSw); go_simp; try (with_reducible rfl))
          try simp only [Act.put, List.setIfInBounds_toArray, List.set_cons_zero, List.set_cons_succ]
          refine wpAnyH_done (by kernel_rfl) ?_ _
          have HLf := Lib.hid hHeldxa2.2.2.2.2.2.2.2.2.2.2.2.2.low
          clear hHeldxa2 test
          go_wp2
          go_ret
          exact ⟨ret_int (by rw [HA.out, HB.out, HC.out, HD.out, HNe.out, HMe.out, HR.out]), HLf.out⟩
        | true =>
          by_cases hn0 : n = 0
          · subst hn0
            have hg2 : decide ((cs.length : Int) - m < m) = false := by
              have hlm : ¬ cs.length < 2 * m := fun h => hab ⟨rfl, rfl, h⟩
              simp only [decide_eq_false_iff_not]; omega
            clear hab
            go_wp2_with fail
            refine wp_region_held_drew (S := (fun w' => w'.cell? ⟨w.heap.size, 0, none⟩ = some (.int .i64 pn) ∧ w'.cell? ⟨w.heap.size, 1, none⟩ = some (.int .i64 pr) ∧ w'.cell? ⟨w.heap.size, 2, none⟩ = some (.int .i64 pw) ∧ w'.cell? ⟨w.heap.size, 3, none⟩ = some (.int .i64 qr) ∧ w'.cell? ⟨w.heap.size, 4, none⟩ = some (.int .i64 qw) ∧ w'.cell? ⟨w.heap.size, 5, none⟩ = some (.bool ps) ∧ w'.cell? ⟨w.heap.size, 6, none⟩ = some (.bool false) ∧ w'.cell? ⟨w.heap.size, 7, none⟩ = some (.bool true) ∧ w'.cell? ⟨p9, 0, none⟩ = some (.int .i64 a) ∧ w'.cell? ⟨p9, 1, none⟩ = some (.int .i64 b) ∧ w'.cell? ⟨q, 0, none⟩ = some (.int .i64 c) ∧ w'.cell? ⟨q, 1, none⟩ = some (.int .i64 d) ∧ Hid (MW (w) (w.heap.size) (p9) q a b c d pn pr pw qr qw ps (false) (true) w'))) (by kernel_rfl) ?_ (fun hHeldxb0 => ?_)
            · exact test
            refine wpAnyH_take (i := 0) (v := ?vxb0) ops0 (by kernel_rfl) (by kernel_rfl) (by kernel_rfl) (fun _ _ _ h => h) (Or.inl ⟨by rfl, ?yxb0⟩) hHeldxb0 ?_
            case yxb0 => (intro w hSw; (try dsimp only at hSw); go_simp; try (with_reducible rfl))
            try simp only [Act.put, List.setIfInBounds_toArray, List.set_cons_zero, List.set_cons_succ]
            refine wpAnyH_take (i := 1) (v := ?vxb1) (opsS ops0) (by kernel_rfl) (by kernel_rfl) (by kernel_rfl) (fun _ _ _ h => h) (Or.inl ⟨by rfl, ?yxb1⟩) hHeldxb0 ?_
            case yxb1 => (intro w hSw; (try dsimp only at hSw); go_simp; try (with_reducible rfl))
            try simp only [Act.put, List.setIfInBounds_toArray, List.set_cons_zero, List.set_cons_succ]
            refine wpAnyH_take (i := 3) (v := ?vxb3) (opsS (opsS (opsS ops0))) (by kernel_rfl) (by kernel_rfl) (by kernel_rfl) (fun _ _ _ h => h) (Or.inl ⟨by rfl, ?yxb3⟩) hHeldxb0 ?_
            case yxb3 => (intro w hSw; (try dsimp only at hSw); go_simp; try (with_reducible rfl))
            try simp only [Act.put, List.setIfInBounds_toArray, List.set_cons_zero, List.set_cons_succ]
            refine wpAnyH_take (i := 4) (v := ?vxb4) (opsS (opsS (opsS (opsS ops0)))) (by kernel_rfl) (by kernel_rfl) (by kernel_rfl) (fun _ _ _ h => h) (Or.inl ⟨by rfl, ?yxb4⟩) hHeldxb0 ?_
            case yxb4 => (intro w hSw; (try dsimp only at hSw); go_simp; try (with_reducible rfl))
            try simp only [Act.put, List.setIfInBounds_toArray, List.set_cons_zero, List.set_cons_succ]
            refine wpAnyH_take (i := 5) (v := ?vxb5) (opsS (opsS (opsS (opsS (opsS ops0))))) (by kernel_rfl) (by kernel_rfl) (by kernel_rfl) (fun _ _ _ h => h) (Or.inl ⟨by rfl, ?yxb5⟩) hHeldxb0 ?_
            case yxb5 => (intro w hSw; (try dsimp only at hSw); go_simp; try (with_reducible rfl))
            try simp only [Act.put, List.setIfInBounds_toArray, List.set_cons_zero, List.set_cons_succ]
            refine wpAnyH_take (i := 6) (v := ?vxb6) (opsS (opsS (opsS (opsS (opsS (opsS ops0)))))) (by kernel_rfl) (by kernel_rfl) (by kernel_rfl) (fun _ _ _ h => h) (Or.inl ⟨by rfl, ?yxb6⟩) hHeldxb0 ?_
            case yxb6 => (intro w hSw; (try dsimp only at hSw); go_simp; try (with_reducible rfl))
            try simp only [Act.put, List.setIfInBounds_toArray, List.set_cons_zero, List.set_cons_succ]
            refine wpAnyH_ready (rs := [2]) (by kernel_rfl) (by simp) ?_
            refine AllReadyH.cons (opsS (opsS ops0)) (fun K hK => ?_) AllReadyH.nil
            go_simp
            refine (and_any a b c d _ (by omega) (by omega) (by omega) (by omega)).mono ?_; rintro e w' ⟨rfl, hb⟩
            try dsimp only
            refine hK.out _ _ ?_ (fun hHeldxb1 => ?_)
            · (first | assumption | exact MW.drew (by assumption) | (go_split_ands; exact MW.drew (by assumption)) | (go_split_ands; exact MW.step (by assumption) (by assumption)) | (go_split_ands; exact MW.alloc (by assumption) _))
            clear hK K hHeldxb0
            try clear hb
            try simp only [Act.put, List.setIfInBounds_toArray, List.set_cons_zero, List.set_cons_succ]
            refine wpAnyH_ready (rs := [7]) (by kernel_rfl) (by simp) ?_
            refine AllReadyH.cons (opsS (opsS (opsS (opsS (opsS (opsS (opsS ops0))))))) (fun K hK => ?_) AllReadyH.nil
            go_simp
            refine (enough_any _ _ pr qr _).mono ?_; rw [HG.out]; rintro e w' ⟨rfl, hb⟩
            try dsimp only
            refine hK.out _ _ ?_ (fun hHeldxb2 => ?_)
            · (first | assumption | exact MW.drew (by assumption) | (go_split_ands; exact MW.drew (by assumption)) | (go_split_ands; exact MW.step (by assumption) (by assumption)) | (go_split_ands; exact MW.alloc (by assumption) _))
            clear hK K hHeldxb1
            try clear hb
            try simp only [Act.put, List.setIfInBounds_toArray, List.set_cons_zero, List.set_cons_succ]
            refine wpAnyH_take (i := 8) (v := ?vxb8) (opsS (opsS (opsS (opsS (opsS (opsS (opsS (opsS ops0)))))))) (by kernel_rfl) (by kernel_rfl) (by kernel_rfl) (fun _ _ _ h => h) (Or.inl ⟨by rfl, ?yxb8⟩) hHeldxb2 ?_
            case yxb8 => (intro w hSw; (try dsimp only at hSw); go_simp; try (with_reducible rfl))
            try simp only [Act.put, List.setIfInBounds_toArray, List.set_cons_zero, List.set_cons_succ]
            refine wpAnyH_take (i := 9) (v := ?vxb9) (opsS (opsS (opsS (opsS (opsS (opsS (opsS (opsS (opsS ops0))))))))) (by kernel_rfl) (by kernel_rfl) (by kernel_rfl) (fun _ _ _ h => h) (Or.inl ⟨by rfl, ?yxb9⟩) hHeldxb2 ?_
            case yxb9 => (intro w hSw; (try dsimp only at hSw); go_simp; try (with_reducible rfl))
            try simp only [Act.put, List.setIfInBounds_toArray, List.set_cons_zero, List.set_cons_succ]
            refine wpAnyH_done (by kernel_rfl) ?_ _
            have HLf := Lib.hid hHeldxb2.2.2.2.2.2.2.2.2.2.2.2.2.low
            clear hHeldxb2 test
            go_wp2
            go_ret
            exact ⟨ret_int (by rw [HA.out, HB.out, HC.out, HD.out, HNe.out, HMe.out, HR.out]), HLf.out⟩
          · have hn1 : ((n : Int) == 0) = false := by simpa using hn0
            have hn2 : (n == 0) = false := by simpa using hn0
            clear hab
            go_wp2_with fail
            refine wp_region_held_drew (S := (fun w' => w'.cell? ⟨w.heap.size, 0, none⟩ = some (.int .i64 pn) ∧ w'.cell? ⟨w.heap.size, 1, none⟩ = some (.int .i64 pr) ∧ w'.cell? ⟨w.heap.size, 2, none⟩ = some (.int .i64 pw) ∧ w'.cell? ⟨w.heap.size, 3, none⟩ = some (.int .i64 qr) ∧ w'.cell? ⟨w.heap.size, 4, none⟩ = some (.int .i64 qw) ∧ w'.cell? ⟨w.heap.size, 5, none⟩ = some (.bool ps) ∧ w'.cell? ⟨w.heap.size, 6, none⟩ = some (.bool false) ∧ w'.cell? ⟨w.heap.size, 7, none⟩ = some (.bool true) ∧ w'.cell? ⟨p9, 0, none⟩ = some (.int .i64 a) ∧ w'.cell? ⟨p9, 1, none⟩ = some (.int .i64 b) ∧ w'.cell? ⟨q, 0, none⟩ = some (.int .i64 c) ∧ w'.cell? ⟨q, 1, none⟩ = some (.int .i64 d) ∧ Hid (MW (w) (w.heap.size) (p9) q a b c d pn pr pw qr qw ps (false) (true) w'))) (by kernel_rfl) ?_ (fun hHeldxc0 => ?_)
            · exact test
            refine wpAnyH_take (i := 0) (v := ?vxc0) ops0 (by kernel_rfl) (by kernel_rfl) (by kernel_rfl) (fun _ _ _ h => h) (Or.inl ⟨by rfl, ?yxc0⟩) hHeldxc0 ?_
            case yxc0 => (intro w hSw; (try dsimp only at hSw); go_simp; try (with_reducible rfl))
            try simp only [Act.put, List.setIfInBounds_toArray, List.set_cons_zero, List.set_cons_succ]
            refine wpAnyH_take (i := 1) (v := ?vxc1) (opsS ops0) (by kernel_rfl) (by kernel_rfl) (by kernel_rfl) (fun _ _ _ h => h) (Or.inl ⟨by rfl, ?yxc1⟩) hHeldxc0 ?_
            case yxc1 => (intro w hSw; (try dsimp only at hSw); go_simp; try (with_reducible rfl))
            try simp only [Act.put, List.setIfInBounds_toArray, List.set_cons_zero, List.set_cons_succ]
            refine wpAnyH_take (i := 3) (v := ?vxc3) (opsS (opsS (opsS ops0))) (by kernel_rfl) (by kernel_rfl) (by kernel_rfl) (fun _ _ _ h => h) (Or.inl ⟨by rfl, ?yxc3⟩) hHeldxc0 ?_
            case yxc3 => (intro w hSw; (try dsimp only at hSw); go_simp; try (with_reducible rfl))
            try simp only [Act.put, List.setIfInBounds_toArray, List.set_cons_zero, List.set_cons_succ]
            refine wpAnyH_take (i := 4) (v := ?vxc4) (opsS (opsS (opsS (opsS ops0)))) (by kernel_rfl) (by kernel_rfl) (by kernel_rfl) (fun _ _ _ h => h) (Or.inl ⟨by rfl, ?yxc4⟩) hHeldxc0 ?_
            case yxc4 => (intro w hSw; (try dsimp only at hSw); go_simp; try (with_reducible rfl))
            try simp only [Act.put, List.setIfInBounds_toArray, List.set_cons_zero, List.set_cons_succ]
            refine wpAnyH_take (i := 5) (v := ?vxc5) (opsS (opsS (opsS (opsS (opsS ops0))))) (by kernel_rfl) (by kernel_rfl) (by kernel_rfl) (fun _ _ _ h => h) (Or.inl ⟨by rfl, ?yxc5⟩) hHeldxc0 ?_
            case yxc5 => (intro w hSw; (try dsimp only at hSw); go_simp; try (with_reducible rfl))
            try simp only [Act.put, List.setIfInBounds_toArray, List.set_cons_zero, List.set_cons_succ]
            refine wpAnyH_take (i := 6) (v := ?vxc6) (opsS (opsS (opsS (opsS (opsS (opsS ops0)))))) (by kernel_rfl) (by kernel_rfl) (by kernel_rfl) (fun _ _ _ h => h) (Or.inl ⟨by rfl, ?yxc6⟩) hHeldxc0 ?_
            case yxc6 => (intro w hSw; (try dsimp only at hSw); go_simp; try (with_reducible rfl))
            try simp only [Act.put, List.setIfInBounds_toArray, List.set_cons_zero, List.set_cons_succ]
            refine wpAnyH_ready (rs := [2]) (by kernel_rfl) (by simp) ?_
            refine AllReadyH.cons (opsS (opsS ops0)) (fun K hK => ?_) AllReadyH.nil
            go_simp
            refine (and_any a b c d _ (by omega) (by omega) (by omega) (by omega)).mono ?_; rintro e w' ⟨rfl, hb⟩
            try dsimp only
            refine hK.out _ _ ?_ (fun hHeldxc1 => ?_)
            · (first | assumption | exact MW.drew (by assumption) | (go_split_ands; exact MW.drew (by assumption)) | (go_split_ands; exact MW.step (by assumption) (by assumption)) | (go_split_ands; exact MW.alloc (by assumption) _))
            clear hK K hHeldxc0
            try clear hb
            try simp only [Act.put, List.setIfInBounds_toArray, List.set_cons_zero, List.set_cons_succ]
            refine wpAnyH_ready (rs := [7]) (by kernel_rfl) (by simp) ?_
            refine AllReadyH.cons (opsS (opsS (opsS (opsS (opsS (opsS (opsS ops0))))))) (fun K hK => ?_) AllReadyH.nil
            go_simp
            refine (enough_any _ _ pr qr _).mono ?_; rw [HG.out]; rintro e w' ⟨rfl, hb⟩
            try dsimp only
            refine hK.out _ _ ?_ (fun hHeldxc2 => ?_)
            · (first | assumption | exact MW.drew (by assumption) | (go_split_ands; exact MW.drew (by assumption)) | (go_split_ands; exact MW.step (by assumption) (by assumption)) | (go_split_ands; exact MW.alloc (by assumption) _))
            clear hK K hHeldxc1
            try clear hb
            try simp only [Act.put, List.setIfInBounds_toArray, List.set_cons_zero, List.set_cons_succ]
            refine wpAnyH_take (i := 8) (v := ?vxc8) (opsS (opsS (opsS (opsS (opsS (opsS (opsS (opsS ops0)))))))) (by kernel_rfl) (by kernel_rfl) (by kernel_rfl) (fun _ _ _ h => h) (Or.inl ⟨by rfl, ?yxc8⟩) hHeldxc2 ?_
            case yxc8 => (intro w hSw; (try dsimp only at hSw); go_simp; try (with_reducible rfl))
            try simp only [Act.put, List.setIfInBounds_toArray, List.set_cons_zero, List.set_cons_succ]
            refine wpAnyH_take (i := 9) (v := ?vxc9) (opsS (opsS (opsS (opsS (opsS (opsS (opsS (opsS (opsS ops0))))))))) (by kernel_rfl) (by kernel_rfl) (by kernel_rfl) (fun _ _ _ h => h) (Or.inl ⟨by rfl, ?yxc9⟩) hHeldxc2 ?_
            case yxc9 => (intro w hSw; (try dsimp only at hSw); go_simp; try (with_reducible rfl))
            try simp only [Act.put, List.setIfInBounds_toArray, List.set_cons_zero, List.set_cons_succ]
            refine wpAnyH_done (by kernel_rfl) ?_ _
            have HLf := Lib.hid hHeldxc2.2.2.2.2.2.2.2.2.2.2.2.2.low
            clear hHeldxc2 test
            go_wp2
            go_ret
            exact ⟨ret_int (by rw [HA.out, HB.out, HC.out, HD.out, HNe.out, HMe.out, HR.out]), HLf.out⟩
      | false =>
        have HG := Lib.hid hG
        have HR := Lib.hid (show rdI pr qr pb cs.length a b c d n m = 2 by rw [HI.out, hG]; rfl)
        clear hG
        cases pb with
        | false =>
          go_wp2_with fail
          refine wp_region_held_drew (S := (fun w' => w'.cell? ⟨w.heap.size, 0, none⟩ = some (.int .i64 pn) ∧ w'.cell? ⟨w.heap.size, 1, none⟩ = some (.int .i64 pr) ∧ w'.cell? ⟨w.heap.size, 2, none⟩ = some (.int .i64 pw) ∧ w'.cell? ⟨w.heap.size, 3, none⟩ = some (.int .i64 qr) ∧ w'.cell? ⟨w.heap.size, 4, none⟩ = some (.int .i64 qw) ∧ w'.cell? ⟨w.heap.size, 5, none⟩ = some (.bool ps) ∧ w'.cell? ⟨w.heap.size, 6, none⟩ = some (.bool false) ∧ w'.cell? ⟨w.heap.size, 7, none⟩ = some (.bool false) ∧ w'.cell? ⟨p9, 0, none⟩ = some (.int .i64 a) ∧ w'.cell? ⟨p9, 1, none⟩ = some (.int .i64 b) ∧ w'.cell? ⟨q, 0, none⟩ = some (.int .i64 c) ∧ w'.cell? ⟨q, 1, none⟩ = some (.int .i64 d) ∧ Hid (MW (w) (w.heap.size) (p9) q a b c d pn pr pw qr qw ps (false) (false) w'))) (by kernel_rfl) ?_ (fun hHeldya0 => ?_)
          · exact test
          refine wpAnyH_take (i := 0) (v := ?vya0) ops0 (by kernel_rfl) (by kernel_rfl) (by kernel_rfl) (fun _ _ _ h => h) (Or.inl ⟨by rfl, ?yya0⟩) hHeldya0 ?_
          case yya0 => (intro w hSw; (try dsimp only at hSw); go_simp; try (with_reducible rfl))
          try simp only [Act.put, List.setIfInBounds_toArray, List.set_cons_zero, List.set_cons_succ]
          refine wpAnyH_take (i := 1) (v := ?vya1) (opsS ops0) (by kernel_rfl) (by kernel_rfl) (by kernel_rfl) (fun _ _ _ h => h) (Or.inl ⟨by rfl, ?yya1⟩) hHeldya0 ?_
          case yya1 => (intro w hSw; (try dsimp only at hSw); go_simp; try (with_reducible rfl))
          try simp only [Act.put, List.setIfInBounds_toArray, List.set_cons_zero, List.set_cons_succ]
          refine wpAnyH_take (i := 3) (v := ?vya3) (opsS (opsS (opsS ops0))) (by kernel_rfl) (by kernel_rfl) (by kernel_rfl) (fun _ _ _ h => h) (Or.inl ⟨by rfl, ?yya3⟩) hHeldya0 ?_
          case yya3 => (intro w hSw; (try dsimp only at hSw); go_simp; try (with_reducible rfl))
          try simp only [Act.put, List.setIfInBounds_toArray, List.set_cons_zero, List.set_cons_succ]
          refine wpAnyH_take (i := 4) (v := ?vya4) (opsS (opsS (opsS (opsS ops0)))) (by kernel_rfl) (by kernel_rfl) (by kernel_rfl) (fun _ _ _ h => h) (Or.inl ⟨by rfl, ?yya4⟩) hHeldya0 ?_
          case yya4 => (intro w hSw; (try dsimp only at hSw); go_simp; try (with_reducible rfl))
          try simp only [Act.put, List.setIfInBounds_toArray, List.set_cons_zero, List.set_cons_succ]
          refine wpAnyH_take (i := 5) (v := ?vya5) (opsS (opsS (opsS (opsS (opsS ops0))))) (by kernel_rfl) (by kernel_rfl) (by kernel_rfl) (fun _ _ _ h => h) (Or.inl ⟨by rfl, ?yya5⟩) hHeldya0 ?_
          case yya5 => (intro w hSw; (try dsimp only at hSw); go_simp; try (with_reducible rfl))
          try simp only [Act.put, List.setIfInBounds_toArray, List.set_cons_zero, List.set_cons_succ]
          refine wpAnyH_take (i := 6) (v := ?vya6) (opsS (opsS (opsS (opsS (opsS (opsS ops0)))))) (by kernel_rfl) (by kernel_rfl) (by kernel_rfl) (fun _ _ _ h => h) (Or.inl ⟨by rfl, ?yya6⟩) hHeldya0 ?_
          case yya6 => (intro w hSw; (try dsimp only at hSw); go_simp; try (with_reducible rfl))
          try simp only [Act.put, List.setIfInBounds_toArray, List.set_cons_zero, List.set_cons_succ]
          refine wpAnyH_ready (rs := [2]) (by kernel_rfl) (by simp) ?_
          refine AllReadyH.cons (opsS (opsS ops0)) (fun K hK => ?_) AllReadyH.nil
          go_simp
          refine (and_any a b c d _ (by omega) (by omega) (by omega) (by omega)).mono ?_; rintro e w' ⟨rfl, hb⟩
          try dsimp only
          refine hK.out _ _ ?_ (fun hHeldya1 => ?_)
          · (first | assumption | exact MW.drew (by assumption) | (go_split_ands; exact MW.drew (by assumption)) | (go_split_ands; exact MW.step (by assumption) (by assumption)) | (go_split_ands; exact MW.alloc (by assumption) _))
          clear hK K hHeldya0
          try clear hb
          try simp only [Act.put, List.setIfInBounds_toArray, List.set_cons_zero, List.set_cons_succ]
          refine wpAnyH_ready (rs := [7]) (by kernel_rfl) (by simp) ?_
          refine AllReadyH.cons (opsS (opsS (opsS (opsS (opsS (opsS (opsS ops0))))))) (fun K hK => ?_) AllReadyH.nil
          go_simp
          refine (enough_any _ _ pr qr _).mono ?_; rw [HG.out]; rintro e w' ⟨rfl, hb⟩
          try dsimp only
          refine hK.out _ _ ?_ (fun hHeldya2 => ?_)
          · (first | assumption | exact MW.drew (by assumption) | (go_split_ands; exact MW.drew (by assumption)) | (go_split_ands; exact MW.step (by assumption) (by assumption)) | (go_split_ands; exact MW.alloc (by assumption) _))
          clear hK K hHeldya1
          try clear hb
          try simp only [Act.put, List.setIfInBounds_toArray, List.set_cons_zero, List.set_cons_succ]
          refine wpAnyH_take (i := 8) (v := ?vya8) (opsS (opsS (opsS (opsS (opsS (opsS (opsS (opsS ops0)))))))) (by kernel_rfl) (by kernel_rfl) (by kernel_rfl) (fun _ _ _ h => h) (Or.inl ⟨by rfl, ?yya8⟩) hHeldya2 ?_
          case yya8 => (intro w hSw; (try dsimp only at hSw); go_simp; try (with_reducible rfl))
          try simp only [Act.put, List.setIfInBounds_toArray, List.set_cons_zero, List.set_cons_succ]
          refine wpAnyH_take (i := 9) (v := ?vya9) (opsS (opsS (opsS (opsS (opsS (opsS (opsS (opsS (opsS ops0))))))))) (by kernel_rfl) (by kernel_rfl) (by kernel_rfl) (fun _ _ _ h => h) (Or.inl ⟨by rfl, ?yya9⟩) hHeldya2 ?_
          case yya9 => (intro w hSw; (try dsimp only at hSw); go_simp; try (with_reducible rfl))
          try simp only [Act.put, List.setIfInBounds_toArray, List.set_cons_zero, List.set_cons_succ]
          refine wpAnyH_done (by kernel_rfl) ?_ _
          have HLf := Lib.hid hHeldya2.2.2.2.2.2.2.2.2.2.2.2.2.low
          clear hHeldya2 test
          go_wp2
          go_ret
          exact ⟨ret_int (by rw [HA.out, HB.out, HC.out, HD.out, HNe.out, HMe.out, HR.out]), HLf.out⟩
        | true =>
          by_cases hn0 : n = 0
          · subst hn0
            have hg2 : decide ((cs.length : Int) - m < m) = false := by
              have hlm : ¬ cs.length < 2 * m := fun h => hab ⟨rfl, rfl, h⟩
              simp only [decide_eq_false_iff_not]; omega
            clear hab
            go_wp2_with fail
            refine wp_region_held_drew (S := (fun w' => w'.cell? ⟨w.heap.size, 0, none⟩ = some (.int .i64 pn) ∧ w'.cell? ⟨w.heap.size, 1, none⟩ = some (.int .i64 pr) ∧ w'.cell? ⟨w.heap.size, 2, none⟩ = some (.int .i64 pw) ∧ w'.cell? ⟨w.heap.size, 3, none⟩ = some (.int .i64 qr) ∧ w'.cell? ⟨w.heap.size, 4, none⟩ = some (.int .i64 qw) ∧ w'.cell? ⟨w.heap.size, 5, none⟩ = some (.bool ps) ∧ w'.cell? ⟨w.heap.size, 6, none⟩ = some (.bool false) ∧ w'.cell? ⟨w.heap.size, 7, none⟩ = some (.bool true) ∧ w'.cell? ⟨p9, 0, none⟩ = some (.int .i64 a) ∧ w'.cell? ⟨p9, 1, none⟩ = some (.int .i64 b) ∧ w'.cell? ⟨q, 0, none⟩ = some (.int .i64 c) ∧ w'.cell? ⟨q, 1, none⟩ = some (.int .i64 d) ∧ Hid (MW (w) (w.heap.size) (p9) q a b c d pn pr pw qr qw ps (false) (true) w'))) (by kernel_rfl) ?_ (fun hHeldyb0 => ?_)
            · exact test
            refine wpAnyH_take (i := 0) (v := ?vyb0) ops0 (by kernel_rfl) (by kernel_rfl) (by kernel_rfl) (fun _ _ _ h => h) (Or.inl ⟨by rfl, ?yyb0⟩) hHeldyb0 ?_
            case yyb0 => (intro w hSw; (try dsimp only at hSw); go_simp; try (with_reducible rfl))
            try simp only [Act.put, List.setIfInBounds_toArray, List.set_cons_zero, List.set_cons_succ]
            refine wpAnyH_take (i := 1) (v := ?vyb1) (opsS ops0) (by kernel_rfl) (by kernel_rfl) (by kernel_rfl) (fun _ _ _ h => h) (Or.inl ⟨by rfl, ?yyb1⟩) hHeldyb0 ?_
            case yyb1 => (intro w hSw; (try dsimp only at hSw); go_simp; try (with_reducible rfl))
            try simp only [Act.put, List.setIfInBounds_toArray, List.set_cons_zero, List.set_cons_succ]
            refine wpAnyH_take (i := 3) (v := ?vyb3) (opsS (opsS (opsS ops0))) (by kernel_rfl) (by kernel_rfl) (by kernel_rfl) (fun _ _ _ h => h) (Or.inl ⟨by rfl, ?yyb3⟩) hHeldyb0 ?_
            case yyb3 => (intro w hSw; (try dsimp only at hSw); go_simp; try (with_reducible rfl))
            try simp only [Act.put, List.setIfInBounds_toArray, List.set_cons_zero, List.set_cons_succ]
            refine wpAnyH_take (i := 4) (v := ?vyb4) (opsS (opsS (opsS (opsS ops0)))) (by kernel_rfl) (by kernel_rfl) (by kernel_rfl) (fun _ _ _ h => h) (Or.inl ⟨by rfl, ?yyb4⟩) hHeldyb0 ?_
            case yyb4 => (intro w hSw; (try dsimp only at hSw); go_simp; try (with_reducible rfl))
            try simp only [Act.put, List.setIfInBounds_toArray, List.set_cons_zero, List.set_cons_succ]
            refine wpAnyH_take (i := 5) (v := ?vyb5) (opsS (opsS (opsS (opsS (opsS ops0))))) (by kernel_rfl) (by kernel_rfl) (by kernel_rfl) (fun _ _ _ h => h) (Or.inl ⟨by rfl, ?yyb5⟩) hHeldyb0 ?_
            case yyb5 => (intro w hSw; (try dsimp only at hSw); go_simp; try (with_reducible rfl))
            try simp only [Act.put, List.setIfInBounds_toArray, List.set_cons_zero, List.set_cons_succ]
            refine wpAnyH_take (i := 6) (v := ?vyb6) (opsS (opsS (opsS (opsS (opsS (opsS ops0)))))) (by kernel_rfl) (by kernel_rfl) (by kernel_rfl) (fun _ _ _ h => h) (Or.inl ⟨by rfl, ?yyb6⟩) hHeldyb0 ?_
            case yyb6 => (intro w hSw; (try dsimp only at hSw); go_simp; try (with_reducible rfl))
            try simp only [Act.put, List.setIfInBounds_toArray, List.set_cons_zero, List.set_cons_succ]
            refine wpAnyH_ready (rs := [2]) (by kernel_rfl) (by simp) ?_
            refine AllReadyH.cons (opsS (opsS ops0)) (fun K hK => ?_) AllReadyH.nil
            go_simp
            refine (and_any a b c d _ (by omega) (by omega) (by omega) (by omega)).mono ?_; rintro e w' ⟨rfl, hb⟩
            try dsimp only
            refine hK.out _ _ ?_ (fun hHeldyb1 => ?_)
            · (first | assumption | exact MW.drew (by assumption) | (go_split_ands; exact MW.drew (by assumption)) | (go_split_ands; exact MW.step (by assumption) (by assumption)) | (go_split_ands; exact MW.alloc (by assumption) _))
            clear hK K hHeldyb0
            try clear hb
            try simp only [Act.put, List.setIfInBounds_toArray, List.set_cons_zero, List.set_cons_succ]
            refine wpAnyH_ready (rs := [7]) (by kernel_rfl) (by simp) ?_
            refine AllReadyH.cons (opsS (opsS (opsS (opsS (opsS (opsS (opsS ops0))))))) (fun K hK => ?_) AllReadyH.nil
            go_simp
            refine (enough_any _ _ pr qr _).mono ?_; rw [HG.out]; rintro e w' ⟨rfl, hb⟩
            try dsimp only
            refine hK.out _ _ ?_ (fun hHeldyb2 => ?_)
            · (first | assumption | exact MW.drew (by assumption) | (go_split_ands; exact MW.drew (by assumption)) | (go_split_ands; exact MW.step (by assumption) (by assumption)) | (go_split_ands; exact MW.alloc (by assumption) _))
            clear hK K hHeldyb1
            try clear hb
            try simp only [Act.put, List.setIfInBounds_toArray, List.set_cons_zero, List.set_cons_succ]
            refine wpAnyH_take (i := 8) (v := ?vyb8) (opsS (opsS (opsS (opsS (opsS (opsS (opsS (opsS ops0)))))))) (by kernel_rfl) (by kernel_rfl) (by kernel_rfl) (fun _ _ _ h => h) (Or.inl ⟨by rfl, ?yyb8⟩) hHeldyb2 ?_
            case yyb8 => (intro w hSw; (try dsimp only at hSw); go_simp; try (with_reducible rfl))
            try simp only [Act.put, List.setIfInBounds_toArray, List.set_cons_zero, List.set_cons_succ]
            refine wpAnyH_take (i := 9) (v := ?vyb9) (opsS (opsS (opsS (opsS (opsS (opsS (opsS (opsS (opsS ops0))))))))) (by kernel_rfl) (by kernel_rfl) (by kernel_rfl) (fun _ _ _ h => h) (Or.inl ⟨by rfl, ?yyb9⟩) hHeldyb2 ?_
            case yyb9 => (intro w hSw; (try dsimp only at hSw); go_simp; try (with_reducible rfl))
            try simp only [Act.put, List.setIfInBounds_toArray, List.set_cons_zero, List.set_cons_succ]
            refine wpAnyH_done (by kernel_rfl) ?_ _
            have HLf := Lib.hid hHeldyb2.2.2.2.2.2.2.2.2.2.2.2.2.low
            clear hHeldyb2 test
            go_wp2
            go_ret
            exact ⟨ret_int (by rw [HA.out, HB.out, HC.out, HD.out, HNe.out, HMe.out, HR.out]), HLf.out⟩
          · have hn1 : ((n : Int) == 0) = false := by simpa using hn0
            have hn2 : (n == 0) = false := by simpa using hn0
            clear hab
            go_wp2_with fail
            refine wp_region_held_drew (S := (fun w' => w'.cell? ⟨w.heap.size, 0, none⟩ = some (.int .i64 pn) ∧ w'.cell? ⟨w.heap.size, 1, none⟩ = some (.int .i64 pr) ∧ w'.cell? ⟨w.heap.size, 2, none⟩ = some (.int .i64 pw) ∧ w'.cell? ⟨w.heap.size, 3, none⟩ = some (.int .i64 qr) ∧ w'.cell? ⟨w.heap.size, 4, none⟩ = some (.int .i64 qw) ∧ w'.cell? ⟨w.heap.size, 5, none⟩ = some (.bool ps) ∧ w'.cell? ⟨w.heap.size, 6, none⟩ = some (.bool false) ∧ w'.cell? ⟨w.heap.size, 7, none⟩ = some (.bool true) ∧ w'.cell? ⟨p9, 0, none⟩ = some (.int .i64 a) ∧ w'.cell? ⟨p9, 1, none⟩ = some (.int .i64 b) ∧ w'.cell? ⟨q, 0, none⟩ = some (.int .i64 c) ∧ w'.cell? ⟨q, 1, none⟩ = some (.int .i64 d) ∧ Hid (MW (w) (w.heap.size) (p9) q a b c d pn pr pw qr qw ps (false) (true) w'))) (by kernel_rfl) ?_ (fun hHeldyc0 => ?_)
            · exact test
            refine wpAnyH_take (i := 0) (v := ?vyc0) ops0 (by kernel_rfl) (by kernel_rfl) (by kernel_rfl) (fun _ _ _ h => h) (Or.inl ⟨by rfl, ?yyc0⟩) hHeldyc0 ?_
            case yyc0 => (intro w hSw; (try dsimp only at hSw); go_simp; try (with_reducible rfl))
            try simp only [Act.put, List.setIfInBounds_toArray, List.set_cons_zero, List.set_cons_succ]
            refine wpAnyH_take (i := 1) (v := ?vyc1) (opsS ops0) (by kernel_rfl) (by kernel_rfl) (by kernel_rfl) (fun _ _ _ h => h) (Or.inl ⟨by rfl, ?yyc1⟩) hHeldyc0 ?_
            case yyc1 => (intro w hSw; (try dsimp only at hSw); go_simp; try (with_reducible rfl))
            try simp only [Act.put, List.setIfInBounds_toArray, List.set_cons_zero, List.set_cons_succ]
            refine wpAnyH_take (i := 3) (v := ?vyc3) (opsS (opsS (opsS ops0))) (by kernel_rfl) (by kernel_rfl) (by kernel_rfl) (fun _ _ _ h => h) (Or.inl ⟨by rfl, ?yyc3⟩) hHeldyc0 ?_
            case yyc3 => (intro w hSw; (try dsimp only at hSw); go_simp; try (with_reducible rfl))
            try simp only [Act.put, List.setIfInBounds_toArray, List.set_cons_zero, List.set_cons_succ]
            refine wpAnyH_take (i := 4) (v := ?vyc4) (opsS (opsS (opsS (opsS ops0)))) (by kernel_rfl) (by kernel_rfl) (by kernel_rfl) (fun _ _ _ h => h) (Or.inl ⟨by rfl, ?yyc4⟩) hHeldyc0 ?_
            case yyc4 => (intro w hSw; (try dsimp only at hSw); go_simp; try (with_reducible rfl))
            try simp only [Act.put, List.setIfInBounds_toArray, List.set_cons_zero, List.set_cons_succ]
            refine wpAnyH_take (i := 5) (v := ?vyc5) (opsS (opsS (opsS (opsS (opsS ops0))))) (by kernel_rfl) (by kernel_rfl) (by kernel_rfl) (fun _ _ _ h => h) (Or.inl ⟨by rfl, ?yyc5⟩) hHeldyc0 ?_
            case yyc5 => (intro w hSw; (try dsimp only at hSw); go_simp; try (with_reducible rfl))
            try simp only [Act.put, List.setIfInBounds_toArray, List.set_cons_zero, List.set_cons_succ]
            refine wpAnyH_take (i := 6) (v := ?vyc6) (opsS (opsS (opsS (opsS (opsS (opsS ops0)))))) (by kernel_rfl) (by kernel_rfl) (by kernel_rfl) (fun _ _ _ h => h) (Or.inl ⟨by rfl, ?yyc6⟩) hHeldyc0 ?_
            case yyc6 => (intro w hSw; (try dsimp only at hSw); go_simp; try (with_reducible rfl))
            try simp only [Act.put, List.setIfInBounds_toArray, List.set_cons_zero, List.set_cons_succ]
            refine wpAnyH_ready (rs := [2]) (by kernel_rfl) (by simp) ?_
            refine AllReadyH.cons (opsS (opsS ops0)) (fun K hK => ?_) AllReadyH.nil
            go_simp
            refine (and_any a b c d _ (by omega) (by omega) (by omega) (by omega)).mono ?_; rintro e w' ⟨rfl, hb⟩
            try dsimp only
            refine hK.out _ _ ?_ (fun hHeldyc1 => ?_)
            · (first | assumption | exact MW.drew (by assumption) | (go_split_ands; exact MW.drew (by assumption)) | (go_split_ands; exact MW.step (by assumption) (by assumption)) | (go_split_ands; exact MW.alloc (by assumption) _))
            clear hK K hHeldyc0
            try clear hb
            try simp only [Act.put, List.setIfInBounds_toArray, List.set_cons_zero, List.set_cons_succ]
            refine wpAnyH_ready (rs := [7]) (by kernel_rfl) (by simp) ?_
            refine AllReadyH.cons (opsS (opsS (opsS (opsS (opsS (opsS (opsS ops0))))))) (fun K hK => ?_) AllReadyH.nil
            go_simp
            refine (enough_any _ _ pr qr _).mono ?_; rw [HG.out]; rintro e w' ⟨rfl, hb⟩
            try dsimp only
            refine hK.out _ _ ?_ (fun hHeldyc2 => ?_)
            · (first | assumption | exact MW.drew (by assumption) | (go_split_ands; exact MW.drew (by assumption)) | (go_split_ands; exact MW.step (by assumption) (by assumption)) | (go_split_ands; exact MW.alloc (by assumption) _))
            clear hK K hHeldyc1
            try clear hb
            try simp only [Act.put, List.setIfInBounds_toArray, List.set_cons_zero, List.set_cons_succ]
            refine wpAnyH_take (i := 8) (v := ?vyc8) (opsS (opsS (opsS (opsS (opsS (opsS (opsS (opsS ops0)))))))) (by kernel_rfl) (by kernel_rfl) (by kernel_rfl) (fun _ _ _ h => h) (Or.inl ⟨by rfl, ?yyc8⟩) hHeldyc2 ?_
            case yyc8 => (intro w hSw; (try dsimp only at hSw); go_simp; try (with_reducible rfl))
            try simp only [Act.put, List.setIfInBounds_toArray, List.set_cons_zero, List.set_cons_succ]
            refine wpAnyH_take (i := 9) (v := ?vyc9) (opsS (opsS (opsS (opsS (opsS (opsS (opsS (opsS (opsS ops0))))))))) (by kernel_rfl) (by kernel_rfl) (by kernel_rfl) (fun _ _ _ h => h) (Or.inl ⟨by rfl, ?yyc9⟩) hHeldyc2 ?_
            case yyc9 => (intro w hSw; (try dsimp only at hSw); go_simp; try (with_reducible rfl))
            try simp only [Act.put, List.setIfInBounds_toArray, List.set_cons_zero, List.set_cons_succ]
            refine wpAnyH_done (by kernel_rfl) ?_ _
            have HLf := Lib.hid hHeldyc2.2.2.2.2.2.2.2.2.2.2.2.2.low
            clear hHeldyc2 test
            go_wp2
            go_ret
            exact ⟨ret_int (by rw [HA.out, HB.out, HC.out, HD.out, HNe.out, HMe.out, HR.out]), HLf.out⟩
end Go.Proofs.Ytcbfcmnnahbblaa.quorum
