/- What answers to a read come to, by the reference. -/
import Derived.Test.YtcbfcmnnahbblaaF
namespace Go.Proofs.Ytcbfcmnnahbblaa.quorum
open Go.ChangeShapes Go.WideShapes Go.ChangeAt Go.RowKit Go.Proofs.Aid Go.Proofs.Ytcbfcmnnahbblaa.texts
set_option maxRecDepth 100000 in
set_option maxHeartbeats 8000000 in
theorem rread_yes (w : World) (A FF M N : Option Addr) (ca cf cm cn : Nat) (cs : List R38) (fs ms ns : List ByteArray) (pn pr pw qr qw : Int) (ps pb : Bool) (hl : cs.length ≤ 1000) (hf : fs.length ≤ 1000) (hm : ms.length ≤ 1000) (hn : ns.length ≤ 1000) (h1 : Reads w w.heap.size 2 A cs.length (cs.flatMap R38.cells)) (h2 : Reads w w.heap.size 1 FF fs.length (fs.flatMap tc)) (h3 : Reads w w.heap.size 1 M ms.length (ms.flatMap tc)) (h4 : Reads w w.heap.size 1 N ns.length (ns.flatMap tc)) :
    Calls Try.prog 12 #[.agg #[.int .i64 pn, .int .i64 pr, .int .i64 pw, .int .i64 qr, .int .i64 qw, .bool ps, .bool true, .bool pb], .slice A cs.length ca, .slice FF fs.length cf, .slice M ms.length cm, .slice N ns.length cn] w fun e w' => e = .returned (.int .i64 (rdI pr qr pb cs.length (nA (inAny [fs, ms]) cs) (nB (inAny [fs, ms]) cs) (nA (fun s => !inAny [fs, ms, ns] s) cs) (nB (fun s => !inAny [fs, ms, ns] s) cs) (nA (memB fs) cs) (nA (memB ms) cs))) ∧ Below w.heap.size w w' := by
  rw [show inAny [fs, ms] = memB (fs ++ ms) from funext (inAny2 fs ms)]
  have HBK := Lib.hid (Blk.new w 23 #[.int .i64 pn, .int .i64 pr, .int .i64 pw, .int .i64 qr, .int .i64 qw, .bool ps, .bool true, .bool pb])
  have hb := below_lit w (.cells #[.int .i64 pn, .int .i64 pr, .int .i64 pw, .int .i64 qr, .int .i64 qw, .bool ps, .bool true, .bool pb] 23)
  have H1 := Lib.hid (h1.more_below hb)
  have HF := Lib.hid (h2.more_below hb)
  have HM := Lib.hid (h3.more_below hb)
  have HN := Lib.hid (h4.more_below hb)
  have HL := Lib.hid hb
  clear h1 h2 h3 h4 hb
  obtain ⟨hsA, hsB⟩ := open_sum (fs ++ ms) ((fs ++ ms) ++ ns) (inAny [fs, ms, ns]) cs (inAny3 fs ms ns) (fun s h => by rw [memB_app (fs ++ ms) ns, h]; rfl)
  obtain ⟨hcA1, hcA2⟩ := cnt_le (memB ((fs ++ ms) ++ opened ((fs ++ ms) ++ ns) cs cs.length)) cs cs.length
  change nA (memB ((fs ++ ms) ++ opened ((fs ++ ms) ++ ns) cs cs.length)) cs ≤ _ at hcA1
  change nB (memB ((fs ++ ms) ++ opened ((fs ++ ms) ++ ns) cs cs.length)) cs ≤ _ at hcA2
  obtain ⟨hcN1, -⟩ := cnt_le (memB fs) cs cs.length
  change nA (memB fs) cs ≤ _ at hcN1
  obtain ⟨hcM1, -⟩ := cnt_le (memB ms) cs cs.length
  change nA (memB ms) cs ≤ _ at hcM1
  have hol := Lib.hid (opened_len ((fs ++ ms) ++ ns) cs cs.length)
  have hle1 : nA (memB (fs ++ ms)) cs ≤ nA (memB ((fs ++ ms) ++ opened ((fs ++ ms) ++ ns) cs cs.length)) cs := by omega
  have hle2 : nB (memB (fs ++ ms)) cs ≤ nB (memB ((fs ++ ms) ++ opened ((fs ++ ms) ++ ns) cs cs.length)) cs := by omega
  have hfin : Hid (∀ r, r = rdI pr qr pb cs.length (nA (memB (fs ++ ms)) cs) (nB (memB (fs ++ ms)) cs) (nA (memB ((fs ++ ms) ++ opened ((fs ++ ms) ++ ns) cs cs.length)) cs - nA (memB (fs ++ ms)) cs : Nat) (nB (memB ((fs ++ ms) ++ opened ((fs ++ ms) ++ ns) cs cs.length)) cs - nB (memB (fs ++ ms)) cs : Nat) (nA (memB fs) cs) (nA (memB ms) cs) → r = rdI pr qr pb cs.length (nA (memB (fs ++ ms)) cs) (nB (memB (fs ++ ms)) cs) (nA (fun s => !inAny [fs, ms, ns] s) cs) (nB (fun s => !inAny [fs, ms, ns] s) cs) (nA (memB fs) cs) (nA (memB ms) cs)) := fun r h => by
    rw [h, hsA, hsB, Nat.add_sub_cancel_left, Nat.add_sub_cancel_left]
  clear hsA hsB
  generalize nA (fun s => !inAny [fs, ms, ns] s) cs = c at *
  generalize nB (fun s => !inAny [fs, ms, ns] s) cs = d at *
  have hfm := Lib.hid (show (fs ++ ms).length ≤ 2000 by rw [List.length_append]; omega)
  have hfmn := Lib.hid (show ((fs ++ ms) ++ ns).length ≤ 3000 by rw [List.length_append, List.length_append]; omega)
  have hyo := Lib.hid (show ((fs ++ ms) ++ opened ((fs ++ ms) ++ ns) cs cs.length).length ≤ 3000 by have := hol.out; have := hfm.out; rw [List.length_append]; omega)
  generalize hFM : fs ++ ms = fm at *
  have HFM := Lib.hid hFM
  clear hFM
  generalize hAL : fm ++ ns = al at *
  have HAL := Lib.hid hAL
  clear hAL
  generalize hOP : opened al cs cs.length = op at *
  have HOP := Lib.hid hOP
  clear hOP
  generalize hYO : fm ++ op = yo at *
  have HYO := Lib.hid hYO
  clear hYO
  have k1 : (w.alloc (.cells #[.int .i64 pn, .int .i64 pr, .int .i64 pw, .int .i64 qr, .int .i64 qw, .bool ps, .bool true, .bool pb] 23)).cell? ⟨w.heap.size, 1, none⟩ = some (.int .i64 pr) := HBK.out.cell 1
  have k3 : (w.alloc (.cells #[.int .i64 pn, .int .i64 pr, .int .i64 pw, .int .i64 qr, .int .i64 qw, .bool ps, .bool true, .bool pb] 23)).cell? ⟨w.heap.size, 3, none⟩ = some (.int .i64 qr) := HBK.out.cell 3
  have k6 : (w.alloc (.cells #[.int .i64 pn, .int .i64 pr, .int .i64 pw, .int .i64 qr, .int .i64 qw, .bool ps, .bool true, .bool pb] 23)).cell? ⟨w.heap.size, 6, none⟩ = some (.bool true) := HBK.out.cell 6
  have k7 : (w.alloc (.cells #[.int .i64 pn, .int .i64 pr, .int .i64 pw, .int .i64 qr, .int .i64 qw, .bool ps, .bool true, .bool pb] 23)).cell? ⟨w.heap.size, 7, none⟩ = some (.bool pb) := HBK.out.cell 7
  go_enter Try.func12, Try.ntmps12
  go_wp2_with fail
  refine (both_any _ FF M cf cm fs ms (by omega) (by omega) HF.out HM.out).mono ?_
  rintro e w2 ⟨v2, rfl, hrow, hb⟩
  rw [HFM.out] at hrow
  obtain ⟨A2, c2, rfl, hr2⟩ := Row.texts hrow
  have R2 := Lib.hid hr2
  clear hr2 hrow k1 k3 k6 k7
  replace HBK := Lib.hid (Blk.below (Hid.out HBK) hb (Hid.out HBK).lt)
  replace H1 := Lib.hid ((Hid.out H1).more_below hb)
  replace HF := Lib.hid ((Hid.out HF).more_below hb)
  replace HM := Lib.hid ((Hid.out HM).more_below hb)
  replace HN := Lib.hid ((Hid.out HN).more_below hb)
  replace HL := Lib.hid ((Hid.out HL).trans (hb.mono (Hid.out HL).size))
  clear hb
  have k1 : (w2).cell? ⟨w.heap.size, 1, none⟩ = some (.int .i64 pr) := HBK.out.cell 1
  have k3 : (w2).cell? ⟨w.heap.size, 3, none⟩ = some (.int .i64 qr) := HBK.out.cell 3
  have k6 : (w2).cell? ⟨w.heap.size, 6, none⟩ = some (.bool true) := HBK.out.cell 6
  have k7 : (w2).cell? ⟨w.heap.size, 7, none⟩ = some (.bool pb) := HBK.out.cell 7
  have hfm' : fm.length ≤ 3000 := by have := hfm.out; omega
  go_wp2_with fail
  refine (rcount_any _ A FF ca cf cs fs hl (by omega) H1.out HF.out).mono ?_
  rintro e w3 ⟨rfl, rfl⟩
  generalize hN0 : nA (memB fs) cs = n at *
  have HNe := Lib.hid hN0
  clear hN0
  go_wp2_with fail
  refine (rcount_any _ A A2 ca c2 cs fm hl hfm' H1.out R2.out).mono ?_
  rintro e w4 ⟨rfl, rfl⟩
  generalize hA : nA (memB fm) cs = a at *
  have HA := Lib.hid hA
  clear hA
  generalize hB : nB (memB fm) cs = b at *
  have HB := Lib.hid hB
  clear hB
  generalize hM0 : nA (memB ms) cs = m at *
  have HMe := Lib.hid hM0
  clear hM0
  cases hE : (decide (pr ≤ (a : Int)) && decide (qr ≤ (b : Int))) with
  | true =>
    have hE2 := hE
    rw [Bool.and_eq_true] at hE2
    obtain ⟨d1, d2⟩ := hE2
    by_cases hn0 : n = 0
    · have hr := Lib.hid (hfin.out 3 (by unfold rdI; rw [if_pos hE, if_pos hn0]))
      have hnz : ¬ (0 < n) := by omega
      clear hE hfin hn0
      go_wp2
      go_ret
      exact ⟨ret_int (by rw [HNe.out, HMe.out, HB.out, HA.out]; exact hr.out), HL.out⟩
    · have hr := Lib.hid (hfin.out 1 (by unfold rdI; rw [if_pos hE, if_neg hn0]))
      have hnz : 0 < n := by omega
      clear hE hfin hn0
      go_wp2
      go_ret
      exact ⟨ret_int (by rw [HNe.out, HMe.out, HB.out, HA.out]; exact hr.out), HL.out⟩
  | false =>
    have HE := Lib.hid hE
    have hmid : ∀ (K : Prop), (decide (pr ≤ (a : Int)) = false → K) → (decide (pr ≤ (a : Int)) = true → decide (qr ≤ (b : Int)) = false → K) → K := fun K x y => by
      cases h1 : decide (pr ≤ (a : Int)) with
      | false => exact x h1
      | true => exact y h1 (by rw [h1] at hE; simpa using hE)
    clear hE
    refine hmid _ (fun d1 => ?_) (fun d1 d2 => ?_)
    · clear hmid
      go_wp2_with fail
      refine (rcount_any _ A M ca cm cs ms hl (by omega) H1.out HM.out).mono ?_
      rintro e w4 ⟨rfl, rfl⟩
      rw [HMe.out]
      generalize nB (memB ms) cs = mb
      have hq : Int.tdiv (cs.length : Int) 2 = ((cs.length / 2 : Nat) : Int) := by rw [Int.tdiv_eq_ediv_of_nonneg (by omega)]; omega
      cases pb with
      | false =>
        have hI : Hid (∀ x y : Nat, rdI pr qr false cs.length a b x y n m = if (decide (pr ≤ (a : Int) + x) && decide (qr ≤ (b : Int) + y)) = true then 0 else 2) := fun x y => by
          unfold rdI; rw [if_neg (by rw [HE.out]; simp), if_neg (by simp)]
        go_wp2_with fail
        refine (both_any _ FF M cf cm fs ms (by omega) (by omega) HF.out HM.out).mono ?_
        rintro e w5 ⟨v5, rfl, hrow, hb⟩
        rw [HFM.out] at hrow
        obtain ⟨A5, c5, rfl, hr5⟩ := Row.texts hrow
        have R5 := Lib.hid hr5
        clear hr5 hrow k1 k3 k6 k7
        replace HBK := Lib.hid (Blk.below (Hid.out HBK) hb (Hid.out HBK).lt)
        replace H1 := Lib.hid ((Hid.out H1).more_below hb)
        replace R2 := Lib.hid ((Hid.out R2).more_below hb)
        replace HN := Lib.hid ((Hid.out HN).more_below hb)
        replace HL := Lib.hid ((Hid.out HL).trans (hb.mono (Hid.out HL).size))
        clear hb
        clear HF HM
        have hfm9 : fm.length ≤ 3000 := by have := hfm.out; omega
        go_wp2_with fail
        refine (both_any _ A5 N c5 cn fm ns hfm9 (by omega) R5.out HN.out).mono ?_
        rintro e w6 ⟨v6, rfl, hrow, hb⟩
        rw [HAL.out] at hrow
        obtain ⟨A6, c6, rfl, hr6⟩ := Row.texts hrow
        have R6 := Lib.hid hr6
        clear hr6 hrow R5
        replace HBK := Lib.hid (Blk.below (Hid.out HBK) hb (Hid.out HBK).lt)
        replace H1 := Lib.hid ((Hid.out H1).more_below hb)
        replace R2 := Lib.hid ((Hid.out R2).more_below hb)
        replace HL := Lib.hid ((Hid.out HL).trans (hb.mono (Hid.out HL).size))
        clear hb
        go_wp2_with fail
        refine (open_any _ A A6 ca c6 cs al hl hfmn.out H1.out R6.out).mono ?_
        rintro e w7 ⟨v7, rfl, hrow, hb⟩
        rw [HOP.out] at hrow
        obtain ⟨A7, c7, rfl, hr7⟩ := Row.texts hrow
        have R7 := Lib.hid hr7
        clear hr7 hrow R6 hfmn
        replace HBK := Lib.hid (Blk.below (Hid.out HBK) hb (Hid.out HBK).lt)
        replace H1 := Lib.hid ((Hid.out H1).more_below hb)
        replace R2 := Lib.hid ((Hid.out R2).more_below hb)
        replace HL := Lib.hid ((Hid.out HL).trans (hb.mono (Hid.out HL).size))
        clear hb
        have hol' : Hid (op.length ≤ 3000) := by have := hol.out; show op.length ≤ 3000; omega
        go_wp2_with fail
        refine (both_any _ A2 A7 c2 c7 fm op hfm9 hol'.out R2.out R7.out).mono ?_
        rintro e w8 ⟨v8, rfl, hrow, hb⟩
        rw [HYO.out] at hrow
        obtain ⟨A8, c8, rfl, hr8⟩ := Row.texts hrow
        have R8 := Lib.hid hr8
        clear hr8 hrow R7
        replace HBK := Lib.hid (Blk.below (Hid.out HBK) hb (Hid.out HBK).lt)
        replace H1 := Lib.hid ((Hid.out H1).more_below hb)
        replace HL := Lib.hid ((Hid.out HL).trans (hb.mono (Hid.out HL).size))
        clear hb
        go_wp2_with fail
        refine (rcount_any _ A A8 ca c8 cs yo hl hyo.out H1.out R8.out).mono ?_
        rintro e w9 ⟨rfl, rfl⟩
        clear R8 hyo hol hol' R2
        have k1 : w9.cell? ⟨w.heap.size, 1, none⟩ = some (.int .i64 pr) := HBK.out.cell 1
        have k3 : w9.cell? ⟨w.heap.size, 3, none⟩ = some (.int .i64 qr) := HBK.out.cell 3
        generalize nA (memB yo) cs = x at *
        generalize nB (memB yo) cs = y at *
        cases e1 : decide ((x : Int) < pr) with
        | true =>
          have hr := Lib.hid (hfin.out 2 (by
            rw [hI.out, if_neg]
            simp only [Bool.and_eq_true, decide_eq_true_eq] at e1 ⊢; omega))
          clear hfin
          go_wp2
          go_ret
          exact ⟨ret_int (by rw [HNe.out, HMe.out, HB.out, HA.out]; exact hr.out), HL.out⟩
        | false =>
          cases e2 : decide ((y : Int) < qr) with
          | true =>
            have hr := Lib.hid (hfin.out 2 (by
              rw [hI.out, if_neg]
              simp only [Bool.and_eq_true, decide_eq_true_eq] at e2 ⊢; omega))
            clear hfin
            go_wp2
            go_ret
            exact ⟨ret_int (by rw [HNe.out, HMe.out, HB.out, HA.out]; exact hr.out), HL.out⟩
          | false =>
            have hr := Lib.hid (hfin.out 0 (by
              rw [hI.out, if_pos]
              simp only [Bool.and_eq_true, decide_eq_true_eq, decide_eq_false_iff_not] at e1 e2 ⊢; omega))
            clear hfin
            go_wp2
            go_ret
            exact ⟨ret_int (by rw [HNe.out, HMe.out, HB.out, HA.out]; exact hr.out), HL.out⟩
      | true =>
        by_cases hn0 : n = 0
        · have hn1 : ((n : Int) == 0) = true := by simpa using hn0
          by_cases hlm : cs.length < 2 * m
          · have hr := Lib.hid (hfin.out 3 (by unfold rdI; rw [if_neg (by rw [HE.out]; simp), if_pos (by simp [hn0, hlm])]))
            have hd : decide (((cs.length / 2 : Nat) : Int) < (m : Int)) = true := by simp only [decide_eq_true_eq]; omega
            subst hn0
            clear hfin hn1
            go_wp2
            go_ret
            exact ⟨ret_int (by rw [HNe.out, HMe.out, HB.out, HA.out]; exact hr.out), HL.out⟩
          · have hI : Hid (∀ x y : Nat, rdI pr qr true cs.length a b x y n m = if (decide (pr ≤ (a : Int) + x) && decide (qr ≤ (b : Int) + y)) = true then 0 else 2) := fun x y => by
              unfold rdI; rw [if_neg (by rw [HE.out]; simp), if_neg (by simp [hlm])]
            have hd : decide (((cs.length / 2 : Nat) : Int) < (m : Int)) = false := by simp only [decide_eq_false_iff_not]; omega
            subst hn0
            clear hn1
            go_wp2_with fail
            refine (both_any _ FF M cf cm fs ms (by omega) (by omega) HF.out HM.out).mono ?_
            rintro e w5 ⟨v5, rfl, hrow, hb⟩
            rw [HFM.out] at hrow
            obtain ⟨A5, c5, rfl, hr5⟩ := Row.texts hrow
            have R5 := Lib.hid hr5
            clear hr5 hrow k1 k3 k6 k7
            replace HBK := Lib.hid (Blk.below (Hid.out HBK) hb (Hid.out HBK).lt)
            replace H1 := Lib.hid ((Hid.out H1).more_below hb)
            replace R2 := Lib.hid ((Hid.out R2).more_below hb)
            replace HN := Lib.hid ((Hid.out HN).more_below hb)
            replace HL := Lib.hid ((Hid.out HL).trans (hb.mono (Hid.out HL).size))
            clear hb
            clear HF HM
            have hfm9 : fm.length ≤ 3000 := by have := hfm.out; omega
            go_wp2_with fail
            refine (both_any _ A5 N c5 cn fm ns hfm9 (by omega) R5.out HN.out).mono ?_
            rintro e w6 ⟨v6, rfl, hrow, hb⟩
            rw [HAL.out] at hrow
            obtain ⟨A6, c6, rfl, hr6⟩ := Row.texts hrow
            have R6 := Lib.hid hr6
            clear hr6 hrow R5
            replace HBK := Lib.hid (Blk.below (Hid.out HBK) hb (Hid.out HBK).lt)
            replace H1 := Lib.hid ((Hid.out H1).more_below hb)
            replace R2 := Lib.hid ((Hid.out R2).more_below hb)
            replace HL := Lib.hid ((Hid.out HL).trans (hb.mono (Hid.out HL).size))
            clear hb
            go_wp2_with fail
            refine (open_any _ A A6 ca c6 cs al hl hfmn.out H1.out R6.out).mono ?_
            rintro e w7 ⟨v7, rfl, hrow, hb⟩
            rw [HOP.out] at hrow
            obtain ⟨A7, c7, rfl, hr7⟩ := Row.texts hrow
            have R7 := Lib.hid hr7
            clear hr7 hrow R6 hfmn
            replace HBK := Lib.hid (Blk.below (Hid.out HBK) hb (Hid.out HBK).lt)
            replace H1 := Lib.hid ((Hid.out H1).more_below hb)
            replace R2 := Lib.hid ((Hid.out R2).more_below hb)
            replace HL := Lib.hid ((Hid.out HL).trans (hb.mono (Hid.out HL).size))
            clear hb
            have hol' : Hid (op.length ≤ 3000) := by have := hol.out; show op.length ≤ 3000; omega
            go_wp2_with fail
            refine (both_any _ A2 A7 c2 c7 fm op hfm9 hol'.out R2.out R7.out).mono ?_
            rintro e w8 ⟨v8, rfl, hrow, hb⟩
            rw [HYO.out] at hrow
            obtain ⟨A8, c8, rfl, hr8⟩ := Row.texts hrow
            have R8 := Lib.hid hr8
            clear hr8 hrow R7
            replace HBK := Lib.hid (Blk.below (Hid.out HBK) hb (Hid.out HBK).lt)
            replace H1 := Lib.hid ((Hid.out H1).more_below hb)
            replace HL := Lib.hid ((Hid.out HL).trans (hb.mono (Hid.out HL).size))
            clear hb
            go_wp2_with fail
            refine (rcount_any _ A A8 ca c8 cs yo hl hyo.out H1.out R8.out).mono ?_
            rintro e w9 ⟨rfl, rfl⟩
            clear R8 hyo hol hol' R2
            have k1 : w9.cell? ⟨w.heap.size, 1, none⟩ = some (.int .i64 pr) := HBK.out.cell 1
            have k3 : w9.cell? ⟨w.heap.size, 3, none⟩ = some (.int .i64 qr) := HBK.out.cell 3
            generalize nA (memB yo) cs = x at *
            generalize nB (memB yo) cs = y at *
            cases e1 : decide ((x : Int) < pr) with
            | true =>
              have hr := Lib.hid (hfin.out 2 (by
                rw [hI.out, if_neg]
                simp only [Bool.and_eq_true, decide_eq_true_eq] at e1 ⊢; omega))
              clear hfin
              go_wp2
              go_ret
              exact ⟨ret_int (by rw [HNe.out, HMe.out, HB.out, HA.out]; exact hr.out), HL.out⟩
            | false =>
              cases e2 : decide ((y : Int) < qr) with
              | true =>
                have hr := Lib.hid (hfin.out 2 (by
                  rw [hI.out, if_neg]
                  simp only [Bool.and_eq_true, decide_eq_true_eq] at e2 ⊢; omega))
                clear hfin
                go_wp2
                go_ret
                exact ⟨ret_int (by rw [HNe.out, HMe.out, HB.out, HA.out]; exact hr.out), HL.out⟩
              | false =>
                have hr := Lib.hid (hfin.out 0 (by
                  rw [hI.out, if_pos]
                  simp only [Bool.and_eq_true, decide_eq_true_eq, decide_eq_false_iff_not] at e1 e2 ⊢; omega))
                clear hfin
                go_wp2
                go_ret
                exact ⟨ret_int (by rw [HNe.out, HMe.out, HB.out, HA.out]; exact hr.out), HL.out⟩
        · have hn1 : ((n : Int) == 0) = false := by simpa using hn0
          have hn2 : (n == 0) = false := by simpa using hn0
          have hI : Hid (∀ x y : Nat, rdI pr qr true cs.length a b x y n m = if (decide (pr ≤ (a : Int) + x) && decide (qr ≤ (b : Int) + y)) = true then 0 else 2) := fun x y => by
            unfold rdI; rw [if_neg (by rw [HE.out]; simp), if_neg (by simp [hn0])]
          go_wp2_with fail
          refine (both_any _ FF M cf cm fs ms (by omega) (by omega) HF.out HM.out).mono ?_
          rintro e w5 ⟨v5, rfl, hrow, hb⟩
          rw [HFM.out] at hrow
          obtain ⟨A5, c5, rfl, hr5⟩ := Row.texts hrow
          have R5 := Lib.hid hr5
          clear hr5 hrow k1 k3 k6 k7
          replace HBK := Lib.hid (Blk.below (Hid.out HBK) hb (Hid.out HBK).lt)
          replace H1 := Lib.hid ((Hid.out H1).more_below hb)
          replace R2 := Lib.hid ((Hid.out R2).more_below hb)
          replace HN := Lib.hid ((Hid.out HN).more_below hb)
          replace HL := Lib.hid ((Hid.out HL).trans (hb.mono (Hid.out HL).size))
          clear hb
          clear HF HM
          have hfm9 : fm.length ≤ 3000 := by have := hfm.out; omega
          go_wp2_with fail
          refine (both_any _ A5 N c5 cn fm ns hfm9 (by omega) R5.out HN.out).mono ?_
          rintro e w6 ⟨v6, rfl, hrow, hb⟩
          rw [HAL.out] at hrow
          obtain ⟨A6, c6, rfl, hr6⟩ := Row.texts hrow
          have R6 := Lib.hid hr6
          clear hr6 hrow R5
          replace HBK := Lib.hid (Blk.below (Hid.out HBK) hb (Hid.out HBK).lt)
          replace H1 := Lib.hid ((Hid.out H1).more_below hb)
          replace R2 := Lib.hid ((Hid.out R2).more_below hb)
          replace HL := Lib.hid ((Hid.out HL).trans (hb.mono (Hid.out HL).size))
          clear hb
          go_wp2_with fail
          refine (open_any _ A A6 ca c6 cs al hl hfmn.out H1.out R6.out).mono ?_
          rintro e w7 ⟨v7, rfl, hrow, hb⟩
          rw [HOP.out] at hrow
          obtain ⟨A7, c7, rfl, hr7⟩ := Row.texts hrow
          have R7 := Lib.hid hr7
          clear hr7 hrow R6 hfmn
          replace HBK := Lib.hid (Blk.below (Hid.out HBK) hb (Hid.out HBK).lt)
          replace H1 := Lib.hid ((Hid.out H1).more_below hb)
          replace R2 := Lib.hid ((Hid.out R2).more_below hb)
          replace HL := Lib.hid ((Hid.out HL).trans (hb.mono (Hid.out HL).size))
          clear hb
          have hol' : Hid (op.length ≤ 3000) := by have := hol.out; show op.length ≤ 3000; omega
          go_wp2_with fail
          refine (both_any _ A2 A7 c2 c7 fm op hfm9 hol'.out R2.out R7.out).mono ?_
          rintro e w8 ⟨v8, rfl, hrow, hb⟩
          rw [HYO.out] at hrow
          obtain ⟨A8, c8, rfl, hr8⟩ := Row.texts hrow
          have R8 := Lib.hid hr8
          clear hr8 hrow R7
          replace HBK := Lib.hid (Blk.below (Hid.out HBK) hb (Hid.out HBK).lt)
          replace H1 := Lib.hid ((Hid.out H1).more_below hb)
          replace HL := Lib.hid ((Hid.out HL).trans (hb.mono (Hid.out HL).size))
          clear hb
          go_wp2_with fail
          refine (rcount_any _ A A8 ca c8 cs yo hl hyo.out H1.out R8.out).mono ?_
          rintro e w9 ⟨rfl, rfl⟩
          clear R8 hyo hol hol' R2
          have k1 : w9.cell? ⟨w.heap.size, 1, none⟩ = some (.int .i64 pr) := HBK.out.cell 1
          have k3 : w9.cell? ⟨w.heap.size, 3, none⟩ = some (.int .i64 qr) := HBK.out.cell 3
          generalize nA (memB yo) cs = x at *
          generalize nB (memB yo) cs = y at *
          cases e1 : decide ((x : Int) < pr) with
          | true =>
            have hr := Lib.hid (hfin.out 2 (by
              rw [hI.out, if_neg]
              simp only [Bool.and_eq_true, decide_eq_true_eq] at e1 ⊢; omega))
            clear hfin
            go_wp2
            go_ret
            exact ⟨ret_int (by rw [HNe.out, HMe.out, HB.out, HA.out]; exact hr.out), HL.out⟩
          | false =>
            cases e2 : decide ((y : Int) < qr) with
            | true =>
              have hr := Lib.hid (hfin.out 2 (by
                rw [hI.out, if_neg]
                simp only [Bool.and_eq_true, decide_eq_true_eq] at e2 ⊢; omega))
              clear hfin
              go_wp2
              go_ret
              exact ⟨ret_int (by rw [HNe.out, HMe.out, HB.out, HA.out]; exact hr.out), HL.out⟩
            | false =>
              have hr := Lib.hid (hfin.out 0 (by
                rw [hI.out, if_pos]
                simp only [Bool.and_eq_true, decide_eq_true_eq, decide_eq_false_iff_not] at e1 e2 ⊢; omega))
              clear hfin
              go_wp2
              go_ret
              exact ⟨ret_int (by rw [HNe.out, HMe.out, HB.out, HA.out]; exact hr.out), HL.out⟩
    · clear hmid
      go_wp2_with fail
      refine (rcount_any _ A M ca cm cs ms hl (by omega) H1.out HM.out).mono ?_
      rintro e w4 ⟨rfl, rfl⟩
      rw [HMe.out]
      generalize nB (memB ms) cs = mb
      have hq : Int.tdiv (cs.length : Int) 2 = ((cs.length / 2 : Nat) : Int) := by rw [Int.tdiv_eq_ediv_of_nonneg (by omega)]; omega
      cases pb with
      | false =>
        have hI : Hid (∀ x y : Nat, rdI pr qr false cs.length a b x y n m = if (decide (pr ≤ (a : Int) + x) && decide (qr ≤ (b : Int) + y)) = true then 0 else 2) := fun x y => by
          unfold rdI; rw [if_neg (by rw [HE.out]; simp), if_neg (by simp)]
        go_wp2_with fail
        refine (both_any _ FF M cf cm fs ms (by omega) (by omega) HF.out HM.out).mono ?_
        rintro e w5 ⟨v5, rfl, hrow, hb⟩
        rw [HFM.out] at hrow
        obtain ⟨A5, c5, rfl, hr5⟩ := Row.texts hrow
        have R5 := Lib.hid hr5
        clear hr5 hrow k1 k3 k6 k7
        replace HBK := Lib.hid (Blk.below (Hid.out HBK) hb (Hid.out HBK).lt)
        replace H1 := Lib.hid ((Hid.out H1).more_below hb)
        replace R2 := Lib.hid ((Hid.out R2).more_below hb)
        replace HN := Lib.hid ((Hid.out HN).more_below hb)
        replace HL := Lib.hid ((Hid.out HL).trans (hb.mono (Hid.out HL).size))
        clear hb
        clear HF HM
        have hfm9 : fm.length ≤ 3000 := by have := hfm.out; omega
        go_wp2_with fail
        refine (both_any _ A5 N c5 cn fm ns hfm9 (by omega) R5.out HN.out).mono ?_
        rintro e w6 ⟨v6, rfl, hrow, hb⟩
        rw [HAL.out] at hrow
        obtain ⟨A6, c6, rfl, hr6⟩ := Row.texts hrow
        have R6 := Lib.hid hr6
        clear hr6 hrow R5
        replace HBK := Lib.hid (Blk.below (Hid.out HBK) hb (Hid.out HBK).lt)
        replace H1 := Lib.hid ((Hid.out H1).more_below hb)
        replace R2 := Lib.hid ((Hid.out R2).more_below hb)
        replace HL := Lib.hid ((Hid.out HL).trans (hb.mono (Hid.out HL).size))
        clear hb
        go_wp2_with fail
        refine (open_any _ A A6 ca c6 cs al hl hfmn.out H1.out R6.out).mono ?_
        rintro e w7 ⟨v7, rfl, hrow, hb⟩
        rw [HOP.out] at hrow
        obtain ⟨A7, c7, rfl, hr7⟩ := Row.texts hrow
        have R7 := Lib.hid hr7
        clear hr7 hrow R6 hfmn
        replace HBK := Lib.hid (Blk.below (Hid.out HBK) hb (Hid.out HBK).lt)
        replace H1 := Lib.hid ((Hid.out H1).more_below hb)
        replace R2 := Lib.hid ((Hid.out R2).more_below hb)
        replace HL := Lib.hid ((Hid.out HL).trans (hb.mono (Hid.out HL).size))
        clear hb
        have hol' : Hid (op.length ≤ 3000) := by have := hol.out; show op.length ≤ 3000; omega
        go_wp2_with fail
        refine (both_any _ A2 A7 c2 c7 fm op hfm9 hol'.out R2.out R7.out).mono ?_
        rintro e w8 ⟨v8, rfl, hrow, hb⟩
        rw [HYO.out] at hrow
        obtain ⟨A8, c8, rfl, hr8⟩ := Row.texts hrow
        have R8 := Lib.hid hr8
        clear hr8 hrow R7
        replace HBK := Lib.hid (Blk.below (Hid.out HBK) hb (Hid.out HBK).lt)
        replace H1 := Lib.hid ((Hid.out H1).more_below hb)
        replace HL := Lib.hid ((Hid.out HL).trans (hb.mono (Hid.out HL).size))
        clear hb
        go_wp2_with fail
        refine (rcount_any _ A A8 ca c8 cs yo hl hyo.out H1.out R8.out).mono ?_
        rintro e w9 ⟨rfl, rfl⟩
        clear R8 hyo hol hol' R2
        have k1 : w9.cell? ⟨w.heap.size, 1, none⟩ = some (.int .i64 pr) := HBK.out.cell 1
        have k3 : w9.cell? ⟨w.heap.size, 3, none⟩ = some (.int .i64 qr) := HBK.out.cell 3
        generalize nA (memB yo) cs = x at *
        generalize nB (memB yo) cs = y at *
        cases e1 : decide ((x : Int) < pr) with
        | true =>
          have hr := Lib.hid (hfin.out 2 (by
            rw [hI.out, if_neg]
            simp only [Bool.and_eq_true, decide_eq_true_eq] at e1 ⊢; omega))
          clear hfin
          go_wp2
          go_ret
          exact ⟨ret_int (by rw [HNe.out, HMe.out, HB.out, HA.out]; exact hr.out), HL.out⟩
        | false =>
          cases e2 : decide ((y : Int) < qr) with
          | true =>
            have hr := Lib.hid (hfin.out 2 (by
              rw [hI.out, if_neg]
              simp only [Bool.and_eq_true, decide_eq_true_eq] at e2 ⊢; omega))
            clear hfin
            go_wp2
            go_ret
            exact ⟨ret_int (by rw [HNe.out, HMe.out, HB.out, HA.out]; exact hr.out), HL.out⟩
          | false =>
            have hr := Lib.hid (hfin.out 0 (by
              rw [hI.out, if_pos]
              simp only [Bool.and_eq_true, decide_eq_true_eq, decide_eq_false_iff_not] at e1 e2 ⊢; omega))
            clear hfin
            go_wp2
            go_ret
            exact ⟨ret_int (by rw [HNe.out, HMe.out, HB.out, HA.out]; exact hr.out), HL.out⟩
      | true =>
        by_cases hn0 : n = 0
        · have hn1 : ((n : Int) == 0) = true := by simpa using hn0
          by_cases hlm : cs.length < 2 * m
          · have hr := Lib.hid (hfin.out 3 (by unfold rdI; rw [if_neg (by rw [HE.out]; simp), if_pos (by simp [hn0, hlm])]))
            have hd : decide (((cs.length / 2 : Nat) : Int) < (m : Int)) = true := by simp only [decide_eq_true_eq]; omega
            subst hn0
            clear hfin hn1
            go_wp2
            go_ret
            exact ⟨ret_int (by rw [HNe.out, HMe.out, HB.out, HA.out]; exact hr.out), HL.out⟩
          · have hI : Hid (∀ x y : Nat, rdI pr qr true cs.length a b x y n m = if (decide (pr ≤ (a : Int) + x) && decide (qr ≤ (b : Int) + y)) = true then 0 else 2) := fun x y => by
              unfold rdI; rw [if_neg (by rw [HE.out]; simp), if_neg (by simp [hlm])]
            have hd : decide (((cs.length / 2 : Nat) : Int) < (m : Int)) = false := by simp only [decide_eq_false_iff_not]; omega
            subst hn0
            clear hn1
            go_wp2_with fail
            refine (both_any _ FF M cf cm fs ms (by omega) (by omega) HF.out HM.out).mono ?_
            rintro e w5 ⟨v5, rfl, hrow, hb⟩
            rw [HFM.out] at hrow
            obtain ⟨A5, c5, rfl, hr5⟩ := Row.texts hrow
            have R5 := Lib.hid hr5
            clear hr5 hrow k1 k3 k6 k7
            replace HBK := Lib.hid (Blk.below (Hid.out HBK) hb (Hid.out HBK).lt)
            replace H1 := Lib.hid ((Hid.out H1).more_below hb)
            replace R2 := Lib.hid ((Hid.out R2).more_below hb)
            replace HN := Lib.hid ((Hid.out HN).more_below hb)
            replace HL := Lib.hid ((Hid.out HL).trans (hb.mono (Hid.out HL).size))
            clear hb
            clear HF HM
            have hfm9 : fm.length ≤ 3000 := by have := hfm.out; omega
            go_wp2_with fail
            refine (both_any _ A5 N c5 cn fm ns hfm9 (by omega) R5.out HN.out).mono ?_
            rintro e w6 ⟨v6, rfl, hrow, hb⟩
            rw [HAL.out] at hrow
            obtain ⟨A6, c6, rfl, hr6⟩ := Row.texts hrow
            have R6 := Lib.hid hr6
            clear hr6 hrow R5
            replace HBK := Lib.hid (Blk.below (Hid.out HBK) hb (Hid.out HBK).lt)
            replace H1 := Lib.hid ((Hid.out H1).more_below hb)
            replace R2 := Lib.hid ((Hid.out R2).more_below hb)
            replace HL := Lib.hid ((Hid.out HL).trans (hb.mono (Hid.out HL).size))
            clear hb
            go_wp2_with fail
            refine (open_any _ A A6 ca c6 cs al hl hfmn.out H1.out R6.out).mono ?_
            rintro e w7 ⟨v7, rfl, hrow, hb⟩
            rw [HOP.out] at hrow
            obtain ⟨A7, c7, rfl, hr7⟩ := Row.texts hrow
            have R7 := Lib.hid hr7
            clear hr7 hrow R6 hfmn
            replace HBK := Lib.hid (Blk.below (Hid.out HBK) hb (Hid.out HBK).lt)
            replace H1 := Lib.hid ((Hid.out H1).more_below hb)
            replace R2 := Lib.hid ((Hid.out R2).more_below hb)
            replace HL := Lib.hid ((Hid.out HL).trans (hb.mono (Hid.out HL).size))
            clear hb
            have hol' : Hid (op.length ≤ 3000) := by have := hol.out; show op.length ≤ 3000; omega
            go_wp2_with fail
            refine (both_any _ A2 A7 c2 c7 fm op hfm9 hol'.out R2.out R7.out).mono ?_
            rintro e w8 ⟨v8, rfl, hrow, hb⟩
            rw [HYO.out] at hrow
            obtain ⟨A8, c8, rfl, hr8⟩ := Row.texts hrow
            have R8 := Lib.hid hr8
            clear hr8 hrow R7
            replace HBK := Lib.hid (Blk.below (Hid.out HBK) hb (Hid.out HBK).lt)
            replace H1 := Lib.hid ((Hid.out H1).more_below hb)
            replace HL := Lib.hid ((Hid.out HL).trans (hb.mono (Hid.out HL).size))
            clear hb
            go_wp2_with fail
            refine (rcount_any _ A A8 ca c8 cs yo hl hyo.out H1.out R8.out).mono ?_
            rintro e w9 ⟨rfl, rfl⟩
            clear R8 hyo hol hol' R2
            have k1 : w9.cell? ⟨w.heap.size, 1, none⟩ = some (.int .i64 pr) := HBK.out.cell 1
            have k3 : w9.cell? ⟨w.heap.size, 3, none⟩ = some (.int .i64 qr) := HBK.out.cell 3
            generalize nA (memB yo) cs = x at *
            generalize nB (memB yo) cs = y at *
            cases e1 : decide ((x : Int) < pr) with
            | true =>
              have hr := Lib.hid (hfin.out 2 (by
                rw [hI.out, if_neg]
                simp only [Bool.and_eq_true, decide_eq_true_eq] at e1 ⊢; omega))
              clear hfin
              go_wp2
              go_ret
              exact ⟨ret_int (by rw [HNe.out, HMe.out, HB.out, HA.out]; exact hr.out), HL.out⟩
            | false =>
              cases e2 : decide ((y : Int) < qr) with
              | true =>
                have hr := Lib.hid (hfin.out 2 (by
                  rw [hI.out, if_neg]
                  simp only [Bool.and_eq_true, decide_eq_true_eq] at e2 ⊢; omega))
                clear hfin
                go_wp2
                go_ret
                exact ⟨ret_int (by rw [HNe.out, HMe.out, HB.out, HA.out]; exact hr.out), HL.out⟩
              | false =>
                have hr := Lib.hid (hfin.out 0 (by
                  rw [hI.out, if_pos]
                  simp only [Bool.and_eq_true, decide_eq_true_eq, decide_eq_false_iff_not] at e1 e2 ⊢; omega))
                clear hfin
                go_wp2
                go_ret
                exact ⟨ret_int (by rw [HNe.out, HMe.out, HB.out, HA.out]; exact hr.out), HL.out⟩
        · have hn1 : ((n : Int) == 0) = false := by simpa using hn0
          have hn2 : (n == 0) = false := by simpa using hn0
          have hI : Hid (∀ x y : Nat, rdI pr qr true cs.length a b x y n m = if (decide (pr ≤ (a : Int) + x) && decide (qr ≤ (b : Int) + y)) = true then 0 else 2) := fun x y => by
            unfold rdI; rw [if_neg (by rw [HE.out]; simp), if_neg (by simp [hn0])]
          go_wp2_with fail
          refine (both_any _ FF M cf cm fs ms (by omega) (by omega) HF.out HM.out).mono ?_
          rintro e w5 ⟨v5, rfl, hrow, hb⟩
          rw [HFM.out] at hrow
          obtain ⟨A5, c5, rfl, hr5⟩ := Row.texts hrow
          have R5 := Lib.hid hr5
          clear hr5 hrow k1 k3 k6 k7
          replace HBK := Lib.hid (Blk.below (Hid.out HBK) hb (Hid.out HBK).lt)
          replace H1 := Lib.hid ((Hid.out H1).more_below hb)
          replace R2 := Lib.hid ((Hid.out R2).more_below hb)
          replace HN := Lib.hid ((Hid.out HN).more_below hb)
          replace HL := Lib.hid ((Hid.out HL).trans (hb.mono (Hid.out HL).size))
          clear hb
          clear HF HM
          have hfm9 : fm.length ≤ 3000 := by have := hfm.out; omega
          go_wp2_with fail
          refine (both_any _ A5 N c5 cn fm ns hfm9 (by omega) R5.out HN.out).mono ?_
          rintro e w6 ⟨v6, rfl, hrow, hb⟩
          rw [HAL.out] at hrow
          obtain ⟨A6, c6, rfl, hr6⟩ := Row.texts hrow
          have R6 := Lib.hid hr6
          clear hr6 hrow R5
          replace HBK := Lib.hid (Blk.below (Hid.out HBK) hb (Hid.out HBK).lt)
          replace H1 := Lib.hid ((Hid.out H1).more_below hb)
          replace R2 := Lib.hid ((Hid.out R2).more_below hb)
          replace HL := Lib.hid ((Hid.out HL).trans (hb.mono (Hid.out HL).size))
          clear hb
          go_wp2_with fail
          refine (open_any _ A A6 ca c6 cs al hl hfmn.out H1.out R6.out).mono ?_
          rintro e w7 ⟨v7, rfl, hrow, hb⟩
          rw [HOP.out] at hrow
          obtain ⟨A7, c7, rfl, hr7⟩ := Row.texts hrow
          have R7 := Lib.hid hr7
          clear hr7 hrow R6 hfmn
          replace HBK := Lib.hid (Blk.below (Hid.out HBK) hb (Hid.out HBK).lt)
          replace H1 := Lib.hid ((Hid.out H1).more_below hb)
          replace R2 := Lib.hid ((Hid.out R2).more_below hb)
          replace HL := Lib.hid ((Hid.out HL).trans (hb.mono (Hid.out HL).size))
          clear hb
          have hol' : Hid (op.length ≤ 3000) := by have := hol.out; show op.length ≤ 3000; omega
          go_wp2_with fail
          refine (both_any _ A2 A7 c2 c7 fm op hfm9 hol'.out R2.out R7.out).mono ?_
          rintro e w8 ⟨v8, rfl, hrow, hb⟩
          rw [HYO.out] at hrow
          obtain ⟨A8, c8, rfl, hr8⟩ := Row.texts hrow
          have R8 := Lib.hid hr8
          clear hr8 hrow R7
          replace HBK := Lib.hid (Blk.below (Hid.out HBK) hb (Hid.out HBK).lt)
          replace H1 := Lib.hid ((Hid.out H1).more_below hb)
          replace HL := Lib.hid ((Hid.out HL).trans (hb.mono (Hid.out HL).size))
          clear hb
          go_wp2_with fail
          refine (rcount_any _ A A8 ca c8 cs yo hl hyo.out H1.out R8.out).mono ?_
          rintro e w9 ⟨rfl, rfl⟩
          clear R8 hyo hol hol' R2
          have k1 : w9.cell? ⟨w.heap.size, 1, none⟩ = some (.int .i64 pr) := HBK.out.cell 1
          have k3 : w9.cell? ⟨w.heap.size, 3, none⟩ = some (.int .i64 qr) := HBK.out.cell 3
          generalize nA (memB yo) cs = x at *
          generalize nB (memB yo) cs = y at *
          cases e1 : decide ((x : Int) < pr) with
          | true =>
            have hr := Lib.hid (hfin.out 2 (by
              rw [hI.out, if_neg]
              simp only [Bool.and_eq_true, decide_eq_true_eq] at e1 ⊢; omega))
            clear hfin
            go_wp2
            go_ret
            exact ⟨ret_int (by rw [HNe.out, HMe.out, HB.out, HA.out]; exact hr.out), HL.out⟩
          | false =>
            cases e2 : decide ((y : Int) < qr) with
            | true =>
              have hr := Lib.hid (hfin.out 2 (by
                rw [hI.out, if_neg]
                simp only [Bool.and_eq_true, decide_eq_true_eq] at e2 ⊢; omega))
              clear hfin
              go_wp2
              go_ret
              exact ⟨ret_int (by rw [HNe.out, HMe.out, HB.out, HA.out]; exact hr.out), HL.out⟩
            | false =>
              have hr := Lib.hid (hfin.out 0 (by
                rw [hI.out, if_pos]
                simp only [Bool.and_eq_true, decide_eq_true_eq, decide_eq_false_iff_not] at e1 e2 ⊢; omega))
              clear hfin
              go_wp2
              go_ret
              exact ⟨ret_int (by rw [HNe.out, HMe.out, HB.out, HA.out]; exact hr.out), HL.out⟩
set_option maxRecDepth 100000 in
set_option maxHeartbeats 8000000 in
theorem rread_no (w : World) (A FF M N : Option Addr) (ca cf cm cn : Nat) (cs : List R38) (fs ms ns : List ByteArray) (pn pr pw qr qw : Int) (ps pb : Bool) (hl : cs.length ≤ 1000) (hf : fs.length ≤ 1000) (hm : ms.length ≤ 1000) (hn : ns.length ≤ 1000) (h1 : Reads w w.heap.size 2 A cs.length (cs.flatMap R38.cells)) (h2 : Reads w w.heap.size 1 FF fs.length (fs.flatMap tc)) (h3 : Reads w w.heap.size 1 M ms.length (ms.flatMap tc)) (h4 : Reads w w.heap.size 1 N ns.length (ns.flatMap tc)) :
    Calls Try.prog 12 #[.agg #[.int .i64 pn, .int .i64 pr, .int .i64 pw, .int .i64 qr, .int .i64 qw, .bool ps, .bool false, .bool pb], .slice A cs.length ca, .slice FF fs.length cf, .slice M ms.length cm, .slice N ns.length cn] w fun e w' => e = .returned (.int .i64 (rdI pr qr pb cs.length (nA (inAny [fs]) cs) (nB (inAny [fs]) cs) (nA (fun s => !inAny [fs, ms, ns] s) cs) (nB (fun s => !inAny [fs, ms, ns] s) cs) (nA (memB fs) cs) (nA (memB ms) cs))) ∧ Below w.heap.size w w' := by
  rw [show inAny [fs] = memB fs from inAny_one fs]
  have HBK := Lib.hid (Blk.new w 23 #[.int .i64 pn, .int .i64 pr, .int .i64 pw, .int .i64 qr, .int .i64 qw, .bool ps, .bool false, .bool pb])
  have hb := below_lit w (.cells #[.int .i64 pn, .int .i64 pr, .int .i64 pw, .int .i64 qr, .int .i64 qw, .bool ps, .bool false, .bool pb] 23)
  have H1 := Lib.hid (h1.more_below hb)
  have HF := Lib.hid (h2.more_below hb)
  have HM := Lib.hid (h3.more_below hb)
  have HN := Lib.hid (h4.more_below hb)
  have HL := Lib.hid hb
  clear h1 h2 h3 h4 hb
  obtain ⟨hsA, hsB⟩ := open_sum fs ((fs ++ ms) ++ ns) (inAny [fs, ms, ns]) cs (inAny3 fs ms ns) (fun s h => by rw [memB_app, memB_app, h]; rfl)
  obtain ⟨hcA1, hcA2⟩ := cnt_le (memB (fs ++ opened ((fs ++ ms) ++ ns) cs cs.length)) cs cs.length
  change nA (memB (fs ++ opened ((fs ++ ms) ++ ns) cs cs.length)) cs ≤ _ at hcA1
  change nB (memB (fs ++ opened ((fs ++ ms) ++ ns) cs cs.length)) cs ≤ _ at hcA2
  obtain ⟨hcN1, -⟩ := cnt_le (memB fs) cs cs.length
  change nA (memB fs) cs ≤ _ at hcN1
  obtain ⟨hcM1, -⟩ := cnt_le (memB ms) cs cs.length
  change nA (memB ms) cs ≤ _ at hcM1
  have hol := Lib.hid (opened_len ((fs ++ ms) ++ ns) cs cs.length)
  have hle1 : nA (memB fs) cs ≤ nA (memB (fs ++ opened ((fs ++ ms) ++ ns) cs cs.length)) cs := by omega
  have hle2 : nB (memB fs) cs ≤ nB (memB (fs ++ opened ((fs ++ ms) ++ ns) cs cs.length)) cs := by omega
  have hfin : Hid (∀ r, r = rdI pr qr pb cs.length (nA (memB fs) cs) (nB (memB fs) cs) (nA (memB (fs ++ opened ((fs ++ ms) ++ ns) cs cs.length)) cs - nA (memB fs) cs : Nat) (nB (memB (fs ++ opened ((fs ++ ms) ++ ns) cs cs.length)) cs - nB (memB fs) cs : Nat) (nA (memB fs) cs) (nA (memB ms) cs) → r = rdI pr qr pb cs.length (nA (memB fs) cs) (nB (memB fs) cs) (nA (fun s => !inAny [fs, ms, ns] s) cs) (nB (fun s => !inAny [fs, ms, ns] s) cs) (nA (memB fs) cs) (nA (memB ms) cs)) := fun r h => by
    rw [h, hsA, hsB, Nat.add_sub_cancel_left, Nat.add_sub_cancel_left]
  clear hsA hsB
  generalize nA (fun s => !inAny [fs, ms, ns] s) cs = c at *
  generalize nB (fun s => !inAny [fs, ms, ns] s) cs = d at *
  have hfm := Lib.hid (show (fs ++ ms).length ≤ 2000 by rw [List.length_append]; omega)
  have hfmn := Lib.hid (show ((fs ++ ms) ++ ns).length ≤ 3000 by rw [List.length_append, List.length_append]; omega)
  have hyo := Lib.hid (show (fs ++ opened ((fs ++ ms) ++ ns) cs cs.length).length ≤ 3000 by have := hol.out; have := hfm.out; rw [List.length_append]; omega)
  generalize hFM : fs ++ ms = fm at *
  have HFM := Lib.hid hFM
  clear hFM
  generalize hAL : fm ++ ns = al at *
  have HAL := Lib.hid hAL
  clear hAL
  generalize hOP : opened al cs cs.length = op at *
  have HOP := Lib.hid hOP
  clear hOP
  generalize hYO : fs ++ op = yo at *
  have HYO := Lib.hid hYO
  clear hYO
  have k1 : (w.alloc (.cells #[.int .i64 pn, .int .i64 pr, .int .i64 pw, .int .i64 qr, .int .i64 qw, .bool ps, .bool false, .bool pb] 23)).cell? ⟨w.heap.size, 1, none⟩ = some (.int .i64 pr) := HBK.out.cell 1
  have k3 : (w.alloc (.cells #[.int .i64 pn, .int .i64 pr, .int .i64 pw, .int .i64 qr, .int .i64 qw, .bool ps, .bool false, .bool pb] 23)).cell? ⟨w.heap.size, 3, none⟩ = some (.int .i64 qr) := HBK.out.cell 3
  have k6 : (w.alloc (.cells #[.int .i64 pn, .int .i64 pr, .int .i64 pw, .int .i64 qr, .int .i64 qw, .bool ps, .bool false, .bool pb] 23)).cell? ⟨w.heap.size, 6, none⟩ = some (.bool false) := HBK.out.cell 6
  have k7 : (w.alloc (.cells #[.int .i64 pn, .int .i64 pr, .int .i64 pw, .int .i64 qr, .int .i64 qw, .bool ps, .bool false, .bool pb] 23)).cell? ⟨w.heap.size, 7, none⟩ = some (.bool pb) := HBK.out.cell 7
  go_enter Try.func12, Try.ntmps12
  go_wp2_with fail
  refine (rcount_any _ A FF ca cf cs fs hl (by omega) H1.out HF.out).mono ?_
  rintro e w3 ⟨rfl, rfl⟩
  generalize (w.alloc (.cells #[.int .i64 pn, .int .i64 pr, .int .i64 pw, .int .i64 qr, .int .i64 qw, .bool ps, .bool false, .bool pb] 23)) = w3 at *
  generalize hN0 : nA (memB fs) cs = n at *
  have HNe := Lib.hid hN0
  clear hN0
  go_wp2_with fail
  refine (rcount_any _ A FF ca cf cs fs hl (by omega) H1.out HF.out).mono ?_
  rw [HNe.out]
  rintro e w4 ⟨rfl, rfl⟩
  generalize hB : nB (memB fs) cs = b at *
  have HB := Lib.hid hB
  clear hB
  generalize hM0 : nA (memB ms) cs = m at *
  have HMe := Lib.hid hM0
  clear hM0
  cases hE : (decide (pr ≤ (n : Int)) && decide (qr ≤ (b : Int))) with
  | true =>
    have hE2 := hE
    rw [Bool.and_eq_true] at hE2
    obtain ⟨d1, d2⟩ := hE2
    by_cases hn0 : n = 0
    · have hr := Lib.hid (hfin.out 3 (by unfold rdI; rw [if_pos hE, if_pos hn0]))
      have hnz : ¬ (0 < n) := by omega
      clear hE hfin hn0
      go_wp2
      go_ret
      exact ⟨ret_int (by rw [HNe.out, HMe.out, HB.out]; exact hr.out), HL.out⟩
    · have hr := Lib.hid (hfin.out 1 (by unfold rdI; rw [if_pos hE, if_neg hn0]))
      have hnz : 0 < n := by omega
      clear hE hfin hn0
      go_wp2
      go_ret
      exact ⟨ret_int (by rw [HNe.out, HMe.out, HB.out]; exact hr.out), HL.out⟩
  | false =>
    have HE := Lib.hid hE
    have hmid : ∀ (K : Prop), (decide (pr ≤ (n : Int)) = false → K) → (decide (pr ≤ (n : Int)) = true → decide (qr ≤ (b : Int)) = false → K) → K := fun K x y => by
      cases h1 : decide (pr ≤ (n : Int)) with
      | false => exact x h1
      | true => exact y h1 (by rw [h1] at hE; simpa using hE)
    clear hE
    refine hmid _ (fun d1 => ?_) (fun d1 d2 => ?_)
    · clear hmid
      go_wp2_with fail
      refine (rcount_any _ A M ca cm cs ms hl (by omega) H1.out HM.out).mono ?_
      rintro e w4 ⟨rfl, rfl⟩
      rw [HMe.out]
      generalize nB (memB ms) cs = mb
      have hq : Int.tdiv (cs.length : Int) 2 = ((cs.length / 2 : Nat) : Int) := by rw [Int.tdiv_eq_ediv_of_nonneg (by omega)]; omega
      cases pb with
      | false =>
        have hI : Hid (∀ x y : Nat, rdI pr qr false cs.length n b x y n m = if (decide (pr ≤ (n : Int) + x) && decide (qr ≤ (b : Int) + y)) = true then 0 else 2) := fun x y => by
          unfold rdI; rw [if_neg (by rw [HE.out]; simp), if_neg (by simp)]
        go_wp2_with fail
        refine (both_any _ FF M cf cm fs ms (by omega) (by omega) HF.out HM.out).mono ?_
        rintro e w5 ⟨v5, rfl, hrow, hb⟩
        rw [HFM.out] at hrow
        obtain ⟨A5, c5, rfl, hr5⟩ := Row.texts hrow
        have R5 := Lib.hid hr5
        clear hr5 hrow k1 k3 k6 k7
        replace HBK := Lib.hid (Blk.below (Hid.out HBK) hb (Hid.out HBK).lt)
        replace H1 := Lib.hid ((Hid.out H1).more_below hb)
        replace HF := Lib.hid ((Hid.out HF).more_below hb)
        replace HN := Lib.hid ((Hid.out HN).more_below hb)
        replace HL := Lib.hid ((Hid.out HL).trans (hb.mono (Hid.out HL).size))
        clear hb
        clear HM
        have hfm9 : fm.length ≤ 3000 := by have := hfm.out; omega
        go_wp2_with fail
        refine (both_any _ A5 N c5 cn fm ns hfm9 (by omega) R5.out HN.out).mono ?_
        rintro e w6 ⟨v6, rfl, hrow, hb⟩
        rw [HAL.out] at hrow
        obtain ⟨A6, c6, rfl, hr6⟩ := Row.texts hrow
        have R6 := Lib.hid hr6
        clear hr6 hrow R5
        replace HBK := Lib.hid (Blk.below (Hid.out HBK) hb (Hid.out HBK).lt)
        replace H1 := Lib.hid ((Hid.out H1).more_below hb)
        replace HF := Lib.hid ((Hid.out HF).more_below hb)
        replace HL := Lib.hid ((Hid.out HL).trans (hb.mono (Hid.out HL).size))
        clear hb
        go_wp2_with fail
        refine (open_any _ A A6 ca c6 cs al hl hfmn.out H1.out R6.out).mono ?_
        rintro e w7 ⟨v7, rfl, hrow, hb⟩
        rw [HOP.out] at hrow
        obtain ⟨A7, c7, rfl, hr7⟩ := Row.texts hrow
        have R7 := Lib.hid hr7
        clear hr7 hrow R6 hfmn
        replace HBK := Lib.hid (Blk.below (Hid.out HBK) hb (Hid.out HBK).lt)
        replace H1 := Lib.hid ((Hid.out H1).more_below hb)
        replace HF := Lib.hid ((Hid.out HF).more_below hb)
        replace HL := Lib.hid ((Hid.out HL).trans (hb.mono (Hid.out HL).size))
        clear hb
        have hol' : Hid (op.length ≤ 3000) := by have := hol.out; show op.length ≤ 3000; omega
        go_wp2_with fail
        refine (both_any _ FF A7 cf c7 fs op (by omega) hol'.out HF.out R7.out).mono ?_
        rintro e w8 ⟨v8, rfl, hrow, hb⟩
        rw [HYO.out] at hrow
        obtain ⟨A8, c8, rfl, hr8⟩ := Row.texts hrow
        have R8 := Lib.hid hr8
        clear hr8 hrow R7
        replace HBK := Lib.hid (Blk.below (Hid.out HBK) hb (Hid.out HBK).lt)
        replace H1 := Lib.hid ((Hid.out H1).more_below hb)
        replace HL := Lib.hid ((Hid.out HL).trans (hb.mono (Hid.out HL).size))
        clear hb
        go_wp2_with fail
        refine (rcount_any _ A A8 ca c8 cs yo hl hyo.out H1.out R8.out).mono ?_
        rintro e w9 ⟨rfl, rfl⟩
        clear R8 hyo hol hol' HF
        have k1 : w9.cell? ⟨w.heap.size, 1, none⟩ = some (.int .i64 pr) := HBK.out.cell 1
        have k3 : w9.cell? ⟨w.heap.size, 3, none⟩ = some (.int .i64 qr) := HBK.out.cell 3
        generalize nA (memB yo) cs = x at *
        generalize nB (memB yo) cs = y at *
        cases e1 : decide ((x : Int) < pr) with
        | true =>
          have hr := Lib.hid (hfin.out 2 (by
            rw [hI.out, if_neg]
            simp only [Bool.and_eq_true, decide_eq_true_eq] at e1 ⊢; omega))
          clear hfin
          go_wp2
          go_ret
          exact ⟨ret_int (by rw [HNe.out, HMe.out, HB.out]; exact hr.out), HL.out⟩
        | false =>
          cases e2 : decide ((y : Int) < qr) with
          | true =>
            have hr := Lib.hid (hfin.out 2 (by
              rw [hI.out, if_neg]
              simp only [Bool.and_eq_true, decide_eq_true_eq] at e2 ⊢; omega))
            clear hfin
            go_wp2
            go_ret
            exact ⟨ret_int (by rw [HNe.out, HMe.out, HB.out]; exact hr.out), HL.out⟩
          | false =>
            have hr := Lib.hid (hfin.out 0 (by
              rw [hI.out, if_pos]
              simp only [Bool.and_eq_true, decide_eq_true_eq, decide_eq_false_iff_not] at e1 e2 ⊢; omega))
            clear hfin
            go_wp2
            go_ret
            exact ⟨ret_int (by rw [HNe.out, HMe.out, HB.out]; exact hr.out), HL.out⟩
      | true =>
        by_cases hn0 : n = 0
        · have hn1 : ((n : Int) == 0) = true := by simpa using hn0
          by_cases hlm : cs.length < 2 * m
          · have hr := Lib.hid (hfin.out 3 (by unfold rdI; rw [if_neg (by rw [HE.out]; simp), if_pos (by simp [hn0, hlm])]))
            have hd : decide (((cs.length / 2 : Nat) : Int) < (m : Int)) = true := by simp only [decide_eq_true_eq]; omega
            subst hn0
            clear hfin hn1
            go_wp2
            go_ret
            exact ⟨ret_int (by rw [HNe.out, HMe.out, HB.out]; exact hr.out), HL.out⟩
          · have hI : Hid (∀ x y : Nat, rdI pr qr true cs.length n b x y n m = if (decide (pr ≤ (n : Int) + x) && decide (qr ≤ (b : Int) + y)) = true then 0 else 2) := fun x y => by
              unfold rdI; rw [if_neg (by rw [HE.out]; simp), if_neg (by simp [hlm])]
            have hd : decide (((cs.length / 2 : Nat) : Int) < (m : Int)) = false := by simp only [decide_eq_false_iff_not]; omega
            subst hn0
            clear hn1
            go_wp2_with fail
            refine (both_any _ FF M cf cm fs ms (by omega) (by omega) HF.out HM.out).mono ?_
            rintro e w5 ⟨v5, rfl, hrow, hb⟩
            rw [HFM.out] at hrow
            obtain ⟨A5, c5, rfl, hr5⟩ := Row.texts hrow
            have R5 := Lib.hid hr5
            clear hr5 hrow k1 k3 k6 k7
            replace HBK := Lib.hid (Blk.below (Hid.out HBK) hb (Hid.out HBK).lt)
            replace H1 := Lib.hid ((Hid.out H1).more_below hb)
            replace HF := Lib.hid ((Hid.out HF).more_below hb)
            replace HN := Lib.hid ((Hid.out HN).more_below hb)
            replace HL := Lib.hid ((Hid.out HL).trans (hb.mono (Hid.out HL).size))
            clear hb
            clear HM
            have hfm9 : fm.length ≤ 3000 := by have := hfm.out; omega
            go_wp2_with fail
            refine (both_any _ A5 N c5 cn fm ns hfm9 (by omega) R5.out HN.out).mono ?_
            rintro e w6 ⟨v6, rfl, hrow, hb⟩
            rw [HAL.out] at hrow
            obtain ⟨A6, c6, rfl, hr6⟩ := Row.texts hrow
            have R6 := Lib.hid hr6
            clear hr6 hrow R5
            replace HBK := Lib.hid (Blk.below (Hid.out HBK) hb (Hid.out HBK).lt)
            replace H1 := Lib.hid ((Hid.out H1).more_below hb)
            replace HF := Lib.hid ((Hid.out HF).more_below hb)
            replace HL := Lib.hid ((Hid.out HL).trans (hb.mono (Hid.out HL).size))
            clear hb
            go_wp2_with fail
            refine (open_any _ A A6 ca c6 cs al hl hfmn.out H1.out R6.out).mono ?_
            rintro e w7 ⟨v7, rfl, hrow, hb⟩
            rw [HOP.out] at hrow
            obtain ⟨A7, c7, rfl, hr7⟩ := Row.texts hrow
            have R7 := Lib.hid hr7
            clear hr7 hrow R6 hfmn
            replace HBK := Lib.hid (Blk.below (Hid.out HBK) hb (Hid.out HBK).lt)
            replace H1 := Lib.hid ((Hid.out H1).more_below hb)
            replace HF := Lib.hid ((Hid.out HF).more_below hb)
            replace HL := Lib.hid ((Hid.out HL).trans (hb.mono (Hid.out HL).size))
            clear hb
            have hol' : Hid (op.length ≤ 3000) := by have := hol.out; show op.length ≤ 3000; omega
            go_wp2_with fail
            refine (both_any _ FF A7 cf c7 fs op (by omega) hol'.out HF.out R7.out).mono ?_
            rintro e w8 ⟨v8, rfl, hrow, hb⟩
            rw [HYO.out] at hrow
            obtain ⟨A8, c8, rfl, hr8⟩ := Row.texts hrow
            have R8 := Lib.hid hr8
            clear hr8 hrow R7
            replace HBK := Lib.hid (Blk.below (Hid.out HBK) hb (Hid.out HBK).lt)
            replace H1 := Lib.hid ((Hid.out H1).more_below hb)
            replace HL := Lib.hid ((Hid.out HL).trans (hb.mono (Hid.out HL).size))
            clear hb
            go_wp2_with fail
            refine (rcount_any _ A A8 ca c8 cs yo hl hyo.out H1.out R8.out).mono ?_
            rintro e w9 ⟨rfl, rfl⟩
            clear R8 hyo hol hol' HF
            have k1 : w9.cell? ⟨w.heap.size, 1, none⟩ = some (.int .i64 pr) := HBK.out.cell 1
            have k3 : w9.cell? ⟨w.heap.size, 3, none⟩ = some (.int .i64 qr) := HBK.out.cell 3
            generalize nA (memB yo) cs = x at *
            generalize nB (memB yo) cs = y at *
            cases e1 : decide ((x : Int) < pr) with
            | true =>
              have hr := Lib.hid (hfin.out 2 (by
                rw [hI.out, if_neg]
                simp only [Bool.and_eq_true, decide_eq_true_eq] at e1 ⊢; omega))
              clear hfin
              go_wp2
              go_ret
              exact ⟨ret_int (by rw [HNe.out, HMe.out, HB.out]; exact hr.out), HL.out⟩
            | false =>
              cases e2 : decide ((y : Int) < qr) with
              | true =>
                have hr := Lib.hid (hfin.out 2 (by
                  rw [hI.out, if_neg]
                  simp only [Bool.and_eq_true, decide_eq_true_eq] at e2 ⊢; omega))
                clear hfin
                go_wp2
                go_ret
                exact ⟨ret_int (by rw [HNe.out, HMe.out, HB.out]; exact hr.out), HL.out⟩
              | false =>
                have hr := Lib.hid (hfin.out 0 (by
                  rw [hI.out, if_pos]
                  simp only [Bool.and_eq_true, decide_eq_true_eq, decide_eq_false_iff_not] at e1 e2 ⊢; omega))
                clear hfin
                go_wp2
                go_ret
                exact ⟨ret_int (by rw [HNe.out, HMe.out, HB.out]; exact hr.out), HL.out⟩
        · have hn1 : ((n : Int) == 0) = false := by simpa using hn0
          have hn2 : (n == 0) = false := by simpa using hn0
          have hI : Hid (∀ x y : Nat, rdI pr qr true cs.length n b x y n m = if (decide (pr ≤ (n : Int) + x) && decide (qr ≤ (b : Int) + y)) = true then 0 else 2) := fun x y => by
            unfold rdI; rw [if_neg (by rw [HE.out]; simp), if_neg (by simp [hn0])]
          go_wp2_with fail
          refine (both_any _ FF M cf cm fs ms (by omega) (by omega) HF.out HM.out).mono ?_
          rintro e w5 ⟨v5, rfl, hrow, hb⟩
          rw [HFM.out] at hrow
          obtain ⟨A5, c5, rfl, hr5⟩ := Row.texts hrow
          have R5 := Lib.hid hr5
          clear hr5 hrow k1 k3 k6 k7
          replace HBK := Lib.hid (Blk.below (Hid.out HBK) hb (Hid.out HBK).lt)
          replace H1 := Lib.hid ((Hid.out H1).more_below hb)
          replace HF := Lib.hid ((Hid.out HF).more_below hb)
          replace HN := Lib.hid ((Hid.out HN).more_below hb)
          replace HL := Lib.hid ((Hid.out HL).trans (hb.mono (Hid.out HL).size))
          clear hb
          clear HM
          have hfm9 : fm.length ≤ 3000 := by have := hfm.out; omega
          go_wp2_with fail
          refine (both_any _ A5 N c5 cn fm ns hfm9 (by omega) R5.out HN.out).mono ?_
          rintro e w6 ⟨v6, rfl, hrow, hb⟩
          rw [HAL.out] at hrow
          obtain ⟨A6, c6, rfl, hr6⟩ := Row.texts hrow
          have R6 := Lib.hid hr6
          clear hr6 hrow R5
          replace HBK := Lib.hid (Blk.below (Hid.out HBK) hb (Hid.out HBK).lt)
          replace H1 := Lib.hid ((Hid.out H1).more_below hb)
          replace HF := Lib.hid ((Hid.out HF).more_below hb)
          replace HL := Lib.hid ((Hid.out HL).trans (hb.mono (Hid.out HL).size))
          clear hb
          go_wp2_with fail
          refine (open_any _ A A6 ca c6 cs al hl hfmn.out H1.out R6.out).mono ?_
          rintro e w7 ⟨v7, rfl, hrow, hb⟩
          rw [HOP.out] at hrow
          obtain ⟨A7, c7, rfl, hr7⟩ := Row.texts hrow
          have R7 := Lib.hid hr7
          clear hr7 hrow R6 hfmn
          replace HBK := Lib.hid (Blk.below (Hid.out HBK) hb (Hid.out HBK).lt)
          replace H1 := Lib.hid ((Hid.out H1).more_below hb)
          replace HF := Lib.hid ((Hid.out HF).more_below hb)
          replace HL := Lib.hid ((Hid.out HL).trans (hb.mono (Hid.out HL).size))
          clear hb
          have hol' : Hid (op.length ≤ 3000) := by have := hol.out; show op.length ≤ 3000; omega
          go_wp2_with fail
          refine (both_any _ FF A7 cf c7 fs op (by omega) hol'.out HF.out R7.out).mono ?_
          rintro e w8 ⟨v8, rfl, hrow, hb⟩
          rw [HYO.out] at hrow
          obtain ⟨A8, c8, rfl, hr8⟩ := Row.texts hrow
          have R8 := Lib.hid hr8
          clear hr8 hrow R7
          replace HBK := Lib.hid (Blk.below (Hid.out HBK) hb (Hid.out HBK).lt)
          replace H1 := Lib.hid ((Hid.out H1).more_below hb)
          replace HL := Lib.hid ((Hid.out HL).trans (hb.mono (Hid.out HL).size))
          clear hb
          go_wp2_with fail
          refine (rcount_any _ A A8 ca c8 cs yo hl hyo.out H1.out R8.out).mono ?_
          rintro e w9 ⟨rfl, rfl⟩
          clear R8 hyo hol hol' HF
          have k1 : w9.cell? ⟨w.heap.size, 1, none⟩ = some (.int .i64 pr) := HBK.out.cell 1
          have k3 : w9.cell? ⟨w.heap.size, 3, none⟩ = some (.int .i64 qr) := HBK.out.cell 3
          generalize nA (memB yo) cs = x at *
          generalize nB (memB yo) cs = y at *
          cases e1 : decide ((x : Int) < pr) with
          | true =>
            have hr := Lib.hid (hfin.out 2 (by
              rw [hI.out, if_neg]
              simp only [Bool.and_eq_true, decide_eq_true_eq] at e1 ⊢; omega))
            clear hfin
            go_wp2
            go_ret
            exact ⟨ret_int (by rw [HNe.out, HMe.out, HB.out]; exact hr.out), HL.out⟩
          | false =>
            cases e2 : decide ((y : Int) < qr) with
            | true =>
              have hr := Lib.hid (hfin.out 2 (by
                rw [hI.out, if_neg]
                simp only [Bool.and_eq_true, decide_eq_true_eq] at e2 ⊢; omega))
              clear hfin
              go_wp2
              go_ret
              exact ⟨ret_int (by rw [HNe.out, HMe.out, HB.out]; exact hr.out), HL.out⟩
            | false =>
              have hr := Lib.hid (hfin.out 0 (by
                rw [hI.out, if_pos]
                simp only [Bool.and_eq_true, decide_eq_true_eq, decide_eq_false_iff_not] at e1 e2 ⊢; omega))
              clear hfin
              go_wp2
              go_ret
              exact ⟨ret_int (by rw [HNe.out, HMe.out, HB.out]; exact hr.out), HL.out⟩
    · clear hmid
      go_wp2_with fail
      refine (rcount_any _ A M ca cm cs ms hl (by omega) H1.out HM.out).mono ?_
      rintro e w4 ⟨rfl, rfl⟩
      rw [HMe.out]
      generalize nB (memB ms) cs = mb
      have hq : Int.tdiv (cs.length : Int) 2 = ((cs.length / 2 : Nat) : Int) := by rw [Int.tdiv_eq_ediv_of_nonneg (by omega)]; omega
      cases pb with
      | false =>
        have hI : Hid (∀ x y : Nat, rdI pr qr false cs.length n b x y n m = if (decide (pr ≤ (n : Int) + x) && decide (qr ≤ (b : Int) + y)) = true then 0 else 2) := fun x y => by
          unfold rdI; rw [if_neg (by rw [HE.out]; simp), if_neg (by simp)]
        go_wp2_with fail
        refine (both_any _ FF M cf cm fs ms (by omega) (by omega) HF.out HM.out).mono ?_
        rintro e w5 ⟨v5, rfl, hrow, hb⟩
        rw [HFM.out] at hrow
        obtain ⟨A5, c5, rfl, hr5⟩ := Row.texts hrow
        have R5 := Lib.hid hr5
        clear hr5 hrow k1 k3 k6 k7
        replace HBK := Lib.hid (Blk.below (Hid.out HBK) hb (Hid.out HBK).lt)
        replace H1 := Lib.hid ((Hid.out H1).more_below hb)
        replace HF := Lib.hid ((Hid.out HF).more_below hb)
        replace HN := Lib.hid ((Hid.out HN).more_below hb)
        replace HL := Lib.hid ((Hid.out HL).trans (hb.mono (Hid.out HL).size))
        clear hb
        clear HM
        have hfm9 : fm.length ≤ 3000 := by have := hfm.out; omega
        go_wp2_with fail
        refine (both_any _ A5 N c5 cn fm ns hfm9 (by omega) R5.out HN.out).mono ?_
        rintro e w6 ⟨v6, rfl, hrow, hb⟩
        rw [HAL.out] at hrow
        obtain ⟨A6, c6, rfl, hr6⟩ := Row.texts hrow
        have R6 := Lib.hid hr6
        clear hr6 hrow R5
        replace HBK := Lib.hid (Blk.below (Hid.out HBK) hb (Hid.out HBK).lt)
        replace H1 := Lib.hid ((Hid.out H1).more_below hb)
        replace HF := Lib.hid ((Hid.out HF).more_below hb)
        replace HL := Lib.hid ((Hid.out HL).trans (hb.mono (Hid.out HL).size))
        clear hb
        go_wp2_with fail
        refine (open_any _ A A6 ca c6 cs al hl hfmn.out H1.out R6.out).mono ?_
        rintro e w7 ⟨v7, rfl, hrow, hb⟩
        rw [HOP.out] at hrow
        obtain ⟨A7, c7, rfl, hr7⟩ := Row.texts hrow
        have R7 := Lib.hid hr7
        clear hr7 hrow R6 hfmn
        replace HBK := Lib.hid (Blk.below (Hid.out HBK) hb (Hid.out HBK).lt)
        replace H1 := Lib.hid ((Hid.out H1).more_below hb)
        replace HF := Lib.hid ((Hid.out HF).more_below hb)
        replace HL := Lib.hid ((Hid.out HL).trans (hb.mono (Hid.out HL).size))
        clear hb
        have hol' : Hid (op.length ≤ 3000) := by have := hol.out; show op.length ≤ 3000; omega
        go_wp2_with fail
        refine (both_any _ FF A7 cf c7 fs op (by omega) hol'.out HF.out R7.out).mono ?_
        rintro e w8 ⟨v8, rfl, hrow, hb⟩
        rw [HYO.out] at hrow
        obtain ⟨A8, c8, rfl, hr8⟩ := Row.texts hrow
        have R8 := Lib.hid hr8
        clear hr8 hrow R7
        replace HBK := Lib.hid (Blk.below (Hid.out HBK) hb (Hid.out HBK).lt)
        replace H1 := Lib.hid ((Hid.out H1).more_below hb)
        replace HL := Lib.hid ((Hid.out HL).trans (hb.mono (Hid.out HL).size))
        clear hb
        go_wp2_with fail
        refine (rcount_any _ A A8 ca c8 cs yo hl hyo.out H1.out R8.out).mono ?_
        rintro e w9 ⟨rfl, rfl⟩
        clear R8 hyo hol hol' HF
        have k1 : w9.cell? ⟨w.heap.size, 1, none⟩ = some (.int .i64 pr) := HBK.out.cell 1
        have k3 : w9.cell? ⟨w.heap.size, 3, none⟩ = some (.int .i64 qr) := HBK.out.cell 3
        generalize nA (memB yo) cs = x at *
        generalize nB (memB yo) cs = y at *
        cases e1 : decide ((x : Int) < pr) with
        | true =>
          have hr := Lib.hid (hfin.out 2 (by
            rw [hI.out, if_neg]
            simp only [Bool.and_eq_true, decide_eq_true_eq] at e1 ⊢; omega))
          clear hfin
          go_wp2
          go_ret
          exact ⟨ret_int (by rw [HNe.out, HMe.out, HB.out]; exact hr.out), HL.out⟩
        | false =>
          cases e2 : decide ((y : Int) < qr) with
          | true =>
            have hr := Lib.hid (hfin.out 2 (by
              rw [hI.out, if_neg]
              simp only [Bool.and_eq_true, decide_eq_true_eq] at e2 ⊢; omega))
            clear hfin
            go_wp2
            go_ret
            exact ⟨ret_int (by rw [HNe.out, HMe.out, HB.out]; exact hr.out), HL.out⟩
          | false =>
            have hr := Lib.hid (hfin.out 0 (by
              rw [hI.out, if_pos]
              simp only [Bool.and_eq_true, decide_eq_true_eq, decide_eq_false_iff_not] at e1 e2 ⊢; omega))
            clear hfin
            go_wp2
            go_ret
            exact ⟨ret_int (by rw [HNe.out, HMe.out, HB.out]; exact hr.out), HL.out⟩
      | true =>
        by_cases hn0 : n = 0
        · have hn1 : ((n : Int) == 0) = true := by simpa using hn0
          by_cases hlm : cs.length < 2 * m
          · have hr := Lib.hid (hfin.out 3 (by unfold rdI; rw [if_neg (by rw [HE.out]; simp), if_pos (by simp [hn0, hlm])]))
            have hd : decide (((cs.length / 2 : Nat) : Int) < (m : Int)) = true := by simp only [decide_eq_true_eq]; omega
            subst hn0
            clear hfin hn1
            go_wp2
            go_ret
            exact ⟨ret_int (by rw [HNe.out, HMe.out, HB.out]; exact hr.out), HL.out⟩
          · have hI : Hid (∀ x y : Nat, rdI pr qr true cs.length n b x y n m = if (decide (pr ≤ (n : Int) + x) && decide (qr ≤ (b : Int) + y)) = true then 0 else 2) := fun x y => by
              unfold rdI; rw [if_neg (by rw [HE.out]; simp), if_neg (by simp [hlm])]
            have hd : decide (((cs.length / 2 : Nat) : Int) < (m : Int)) = false := by simp only [decide_eq_false_iff_not]; omega
            subst hn0
            clear hn1
            go_wp2_with fail
            refine (both_any _ FF M cf cm fs ms (by omega) (by omega) HF.out HM.out).mono ?_
            rintro e w5 ⟨v5, rfl, hrow, hb⟩
            rw [HFM.out] at hrow
            obtain ⟨A5, c5, rfl, hr5⟩ := Row.texts hrow
            have R5 := Lib.hid hr5
            clear hr5 hrow k1 k3 k6 k7
            replace HBK := Lib.hid (Blk.below (Hid.out HBK) hb (Hid.out HBK).lt)
            replace H1 := Lib.hid ((Hid.out H1).more_below hb)
            replace HF := Lib.hid ((Hid.out HF).more_below hb)
            replace HN := Lib.hid ((Hid.out HN).more_below hb)
            replace HL := Lib.hid ((Hid.out HL).trans (hb.mono (Hid.out HL).size))
            clear hb
            clear HM
            have hfm9 : fm.length ≤ 3000 := by have := hfm.out; omega
            go_wp2_with fail
            refine (both_any _ A5 N c5 cn fm ns hfm9 (by omega) R5.out HN.out).mono ?_
            rintro e w6 ⟨v6, rfl, hrow, hb⟩
            rw [HAL.out] at hrow
            obtain ⟨A6, c6, rfl, hr6⟩ := Row.texts hrow
            have R6 := Lib.hid hr6
            clear hr6 hrow R5
            replace HBK := Lib.hid (Blk.below (Hid.out HBK) hb (Hid.out HBK).lt)
            replace H1 := Lib.hid ((Hid.out H1).more_below hb)
            replace HF := Lib.hid ((Hid.out HF).more_below hb)
            replace HL := Lib.hid ((Hid.out HL).trans (hb.mono (Hid.out HL).size))
            clear hb
            go_wp2_with fail
            refine (open_any _ A A6 ca c6 cs al hl hfmn.out H1.out R6.out).mono ?_
            rintro e w7 ⟨v7, rfl, hrow, hb⟩
            rw [HOP.out] at hrow
            obtain ⟨A7, c7, rfl, hr7⟩ := Row.texts hrow
            have R7 := Lib.hid hr7
            clear hr7 hrow R6 hfmn
            replace HBK := Lib.hid (Blk.below (Hid.out HBK) hb (Hid.out HBK).lt)
            replace H1 := Lib.hid ((Hid.out H1).more_below hb)
            replace HF := Lib.hid ((Hid.out HF).more_below hb)
            replace HL := Lib.hid ((Hid.out HL).trans (hb.mono (Hid.out HL).size))
            clear hb
            have hol' : Hid (op.length ≤ 3000) := by have := hol.out; show op.length ≤ 3000; omega
            go_wp2_with fail
            refine (both_any _ FF A7 cf c7 fs op (by omega) hol'.out HF.out R7.out).mono ?_
            rintro e w8 ⟨v8, rfl, hrow, hb⟩
            rw [HYO.out] at hrow
            obtain ⟨A8, c8, rfl, hr8⟩ := Row.texts hrow
            have R8 := Lib.hid hr8
            clear hr8 hrow R7
            replace HBK := Lib.hid (Blk.below (Hid.out HBK) hb (Hid.out HBK).lt)
            replace H1 := Lib.hid ((Hid.out H1).more_below hb)
            replace HL := Lib.hid ((Hid.out HL).trans (hb.mono (Hid.out HL).size))
            clear hb
            go_wp2_with fail
            refine (rcount_any _ A A8 ca c8 cs yo hl hyo.out H1.out R8.out).mono ?_
            rintro e w9 ⟨rfl, rfl⟩
            clear R8 hyo hol hol' HF
            have k1 : w9.cell? ⟨w.heap.size, 1, none⟩ = some (.int .i64 pr) := HBK.out.cell 1
            have k3 : w9.cell? ⟨w.heap.size, 3, none⟩ = some (.int .i64 qr) := HBK.out.cell 3
            generalize nA (memB yo) cs = x at *
            generalize nB (memB yo) cs = y at *
            cases e1 : decide ((x : Int) < pr) with
            | true =>
              have hr := Lib.hid (hfin.out 2 (by
                rw [hI.out, if_neg]
                simp only [Bool.and_eq_true, decide_eq_true_eq] at e1 ⊢; omega))
              clear hfin
              go_wp2
              go_ret
              exact ⟨ret_int (by rw [HNe.out, HMe.out, HB.out]; exact hr.out), HL.out⟩
            | false =>
              cases e2 : decide ((y : Int) < qr) with
              | true =>
                have hr := Lib.hid (hfin.out 2 (by
                  rw [hI.out, if_neg]
                  simp only [Bool.and_eq_true, decide_eq_true_eq] at e2 ⊢; omega))
                clear hfin
                go_wp2
                go_ret
                exact ⟨ret_int (by rw [HNe.out, HMe.out, HB.out]; exact hr.out), HL.out⟩
              | false =>
                have hr := Lib.hid (hfin.out 0 (by
                  rw [hI.out, if_pos]
                  simp only [Bool.and_eq_true, decide_eq_true_eq, decide_eq_false_iff_not] at e1 e2 ⊢; omega))
                clear hfin
                go_wp2
                go_ret
                exact ⟨ret_int (by rw [HNe.out, HMe.out, HB.out]; exact hr.out), HL.out⟩
        · have hn1 : ((n : Int) == 0) = false := by simpa using hn0
          have hn2 : (n == 0) = false := by simpa using hn0
          have hI : Hid (∀ x y : Nat, rdI pr qr true cs.length n b x y n m = if (decide (pr ≤ (n : Int) + x) && decide (qr ≤ (b : Int) + y)) = true then 0 else 2) := fun x y => by
            unfold rdI; rw [if_neg (by rw [HE.out]; simp), if_neg (by simp [hn0])]
          go_wp2_with fail
          refine (both_any _ FF M cf cm fs ms (by omega) (by omega) HF.out HM.out).mono ?_
          rintro e w5 ⟨v5, rfl, hrow, hb⟩
          rw [HFM.out] at hrow
          obtain ⟨A5, c5, rfl, hr5⟩ := Row.texts hrow
          have R5 := Lib.hid hr5
          clear hr5 hrow k1 k3 k6 k7
          replace HBK := Lib.hid (Blk.below (Hid.out HBK) hb (Hid.out HBK).lt)
          replace H1 := Lib.hid ((Hid.out H1).more_below hb)
          replace HF := Lib.hid ((Hid.out HF).more_below hb)
          replace HN := Lib.hid ((Hid.out HN).more_below hb)
          replace HL := Lib.hid ((Hid.out HL).trans (hb.mono (Hid.out HL).size))
          clear hb
          clear HM
          have hfm9 : fm.length ≤ 3000 := by have := hfm.out; omega
          go_wp2_with fail
          refine (both_any _ A5 N c5 cn fm ns hfm9 (by omega) R5.out HN.out).mono ?_
          rintro e w6 ⟨v6, rfl, hrow, hb⟩
          rw [HAL.out] at hrow
          obtain ⟨A6, c6, rfl, hr6⟩ := Row.texts hrow
          have R6 := Lib.hid hr6
          clear hr6 hrow R5
          replace HBK := Lib.hid (Blk.below (Hid.out HBK) hb (Hid.out HBK).lt)
          replace H1 := Lib.hid ((Hid.out H1).more_below hb)
          replace HF := Lib.hid ((Hid.out HF).more_below hb)
          replace HL := Lib.hid ((Hid.out HL).trans (hb.mono (Hid.out HL).size))
          clear hb
          go_wp2_with fail
          refine (open_any _ A A6 ca c6 cs al hl hfmn.out H1.out R6.out).mono ?_
          rintro e w7 ⟨v7, rfl, hrow, hb⟩
          rw [HOP.out] at hrow
          obtain ⟨A7, c7, rfl, hr7⟩ := Row.texts hrow
          have R7 := Lib.hid hr7
          clear hr7 hrow R6 hfmn
          replace HBK := Lib.hid (Blk.below (Hid.out HBK) hb (Hid.out HBK).lt)
          replace H1 := Lib.hid ((Hid.out H1).more_below hb)
          replace HF := Lib.hid ((Hid.out HF).more_below hb)
          replace HL := Lib.hid ((Hid.out HL).trans (hb.mono (Hid.out HL).size))
          clear hb
          have hol' : Hid (op.length ≤ 3000) := by have := hol.out; show op.length ≤ 3000; omega
          go_wp2_with fail
          refine (both_any _ FF A7 cf c7 fs op (by omega) hol'.out HF.out R7.out).mono ?_
          rintro e w8 ⟨v8, rfl, hrow, hb⟩
          rw [HYO.out] at hrow
          obtain ⟨A8, c8, rfl, hr8⟩ := Row.texts hrow
          have R8 := Lib.hid hr8
          clear hr8 hrow R7
          replace HBK := Lib.hid (Blk.below (Hid.out HBK) hb (Hid.out HBK).lt)
          replace H1 := Lib.hid ((Hid.out H1).more_below hb)
          replace HL := Lib.hid ((Hid.out HL).trans (hb.mono (Hid.out HL).size))
          clear hb
          go_wp2_with fail
          refine (rcount_any _ A A8 ca c8 cs yo hl hyo.out H1.out R8.out).mono ?_
          rintro e w9 ⟨rfl, rfl⟩
          clear R8 hyo hol hol' HF
          have k1 : w9.cell? ⟨w.heap.size, 1, none⟩ = some (.int .i64 pr) := HBK.out.cell 1
          have k3 : w9.cell? ⟨w.heap.size, 3, none⟩ = some (.int .i64 qr) := HBK.out.cell 3
          generalize nA (memB yo) cs = x at *
          generalize nB (memB yo) cs = y at *
          cases e1 : decide ((x : Int) < pr) with
          | true =>
            have hr := Lib.hid (hfin.out 2 (by
              rw [hI.out, if_neg]
              simp only [Bool.and_eq_true, decide_eq_true_eq] at e1 ⊢; omega))
            clear hfin
            go_wp2
            go_ret
            exact ⟨ret_int (by rw [HNe.out, HMe.out, HB.out]; exact hr.out), HL.out⟩
          | false =>
            cases e2 : decide ((y : Int) < qr) with
            | true =>
              have hr := Lib.hid (hfin.out 2 (by
                rw [hI.out, if_neg]
                simp only [Bool.and_eq_true, decide_eq_true_eq] at e2 ⊢; omega))
              clear hfin
              go_wp2
              go_ret
              exact ⟨ret_int (by rw [HNe.out, HMe.out, HB.out]; exact hr.out), HL.out⟩
            | false =>
              have hr := Lib.hid (hfin.out 0 (by
                rw [hI.out, if_pos]
                simp only [Bool.and_eq_true, decide_eq_true_eq, decide_eq_false_iff_not] at e1 e2 ⊢; omega))
              clear hfin
              go_wp2
              go_ret
              exact ⟨ret_int (by rw [HNe.out, HMe.out, HB.out]; exact hr.out), HL.out⟩
end Go.Proofs.Ytcbfcmnnahbblaa.quorum
