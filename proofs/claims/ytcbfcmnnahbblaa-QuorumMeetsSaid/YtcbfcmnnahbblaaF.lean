/- What answers come to, by the reference. -/
import Derived.Test.YtcbfcmnnahbblaaE
namespace Go.Proofs.Ytcbfcmnnahbblaa.quorum
open Go.ChangeShapes Go.WideShapes Go.ChangeAt Go.RowKit Go.Proofs.Aid Go.Proofs.Ytcbfcmnnahbblaa.texts
theorem nA_eq (f : ByteArray → Bool) (cs : List R38) : nA f cs = cs.countP fun c => f c.node_ := by
  unfold nA cntA; rw [List.take_length, List.countP_eq_length_filter]
theorem nB_eq (f : ByteArray → Bool) (cs : List R38) : nB f cs = cs.countP fun c => f c.node_ && c.primary := by
  unfold nB cntB; rw [List.take_length, List.countP_eq_length_filter]
theorem count_or (p q r : R38 → Bool) : ∀ cs : List R38, (∀ c ∈ cs, r c = (p c || q c) ∧ (p c && q c) = false) → cs.countP r = cs.countP p + cs.countP q
  | [], _ => rfl
  | c :: cs, h => by
    obtain ⟨h1, h2⟩ := h c (by simp)
    rw [List.countP_cons, List.countP_cons, List.countP_cons, count_or p q r cs (fun c hc => h c (by simp [hc])), h1]
    revert h2
    cases p c <;> cases q c <;> intro h2 <;> first | exact absurd h2 (by decide) | (simp <;> omega) | simp
theorem memB_app (xs ys : List ByteArray) (s : ByteArray) : memB (xs ++ ys) s = (memB xs s || memB ys s) := by unfold memB; rw [List.any_append]
theorem memB_opened {ns : List ByteArray} {cs : List R38} {c : R38} (hc : c ∈ cs) : memB (opened ns cs cs.length) c.node_ = !memB ns c.node_ := by
  cases h : memB ns c.node_ with
  | true =>
    show _ = false
    rw [memB_no]; intro hm
    unfold opened at hm; rw [List.mem_filter] at hm; simp [h] at hm
  | false =>
    show _ = true
    rw [memB_iff]; unfold opened; rw [List.take_length, List.mem_filter]
    exact ⟨List.mem_map_of_mem hc, by simp [h]⟩
/-- Those counted, and those open. -/
theorem open_sum (who all : List ByteArray) (f : ByteArray → Bool) (cs : List R38) (hf : ∀ s, f s = memB all s) (hs : ∀ s, memB who s = true → memB all s = true) :
    nA (memB (who ++ opened all cs cs.length)) cs = nA (memB who) cs + nA (fun s => !f s) cs ∧ nB (memB (who ++ opened all cs cs.length)) cs = nB (memB who) cs + nB (fun s => !f s) cs := by
  rw [nA_eq, nA_eq, nA_eq, nB_eq, nB_eq, nB_eq]
  refine ⟨count_or _ _ _ cs fun c hc => ?_, count_or _ _ _ cs fun c hc => ?_⟩
  · rw [memB_app, memB_opened hc, hf]
    refine ⟨rfl, ?_⟩
    cases h : memB who c.node_ with
    | false => rfl
    | true => rw [hs _ h]; rfl
  · rw [memB_app, memB_opened hc, hf]
    refine ⟨by rw [Bool.and_or_distrib_right], ?_⟩
    cases h : memB who c.node_ with
    | false => rfl
    | true => rw [hs _ h]; simp
theorem inAny2 (x y : List ByteArray) (s : ByteArray) : inAny [x, y] s = memB (x ++ y) s := by rw [memB_app]; simp [inAny]
theorem inAny3 (x y z : List ByteArray) (s : ByteArray) : inAny [x, y, z] s = memB ((x ++ y) ++ z) s := by rw [memB_app, memB_app]; simp [inAny, Bool.or_assoc]
theorem Row.texts {w : World} {B : Nat} {v : Value} {xs : List ByteArray} (h : Row w B 9 1 tc v xs) : ∃ A c, v = .slice A xs.length c ∧ Reads w w.heap.size 1 A xs.length (xs.flatMap tc) := by
  obtain ⟨A, c, e, -, hr⟩ := h.reads'
  exact ⟨A, c, e, hr⟩
set_option maxRecDepth 100000 in
set_option maxHeartbeats 4000000 in
theorem rwrite_any (w : World) (A Y N : Option Addr) (ca cy cn : Nat) (cs : List R38) (ys ns : List ByteArray) (pn pr pw qr qw : Int) (ps pm pb : Bool) (hl : cs.length ≤ 1000) (hy : ys.length ≤ 1000) (hn : ns.length ≤ 1000) (h1 : Reads w w.heap.size 2 A cs.length (cs.flatMap R38.cells)) (h2 : Reads w w.heap.size 1 Y ys.length (ys.flatMap tc)) (h3 : Reads w w.heap.size 1 N ns.length (ns.flatMap tc)) :
    Calls Try.prog 10 #[.agg #[.int .i64 pn, .int .i64 pr, .int .i64 pw, .int .i64 qr, .int .i64 qw, .bool ps, .bool pm, .bool pb], .slice A cs.length ca, .slice Y ys.length cy, .slice N ns.length cn] w fun e w' => e = .returned (.int .i64 (wrI pw qw (nA (memB ys) cs) (nB (memB ys) cs) (nA (fun s => !inAny [ys, ns] s) cs) (nB (fun s => !inAny [ys, ns] s) cs))) ∧ Below w.heap.size w w' := by
  have HBK := Lib.hid (Blk.new w 23 #[.int .i64 pn, .int .i64 pr, .int .i64 pw, .int .i64 qr, .int .i64 qw, .bool ps, .bool pm, .bool pb])
  have hb := below_lit w (.cells #[.int .i64 pn, .int .i64 pr, .int .i64 pw, .int .i64 qr, .int .i64 qw, .bool ps, .bool pm, .bool pb] 23)
  have H1 := Lib.hid (h1.more_below hb)
  have H2 := Lib.hid (h2.more_below hb)
  have H3 := Lib.hid (h3.more_below hb)
  have HL := Lib.hid hb
  clear h1 h2 h3 hb
  obtain ⟨hsA, hsB⟩ := open_sum ys (ys ++ ns) (inAny [ys, ns]) cs (inAny2 ys ns) (fun s h => by rw [memB_app, h]; rfl)
  have hcA := cnt_le (memB (ys ++ opened (ys ++ ns) cs cs.length)) cs cs.length
  obtain ⟨hcA1, hcA2⟩ := hcA
  change nA (memB (ys ++ opened (ys ++ ns) cs cs.length)) cs ≤ _ at hcA1
  change nB (memB (ys ++ opened (ys ++ ns) cs cs.length)) cs ≤ _ at hcA2
  have hol := Lib.hid (opened_len (ys ++ ns) cs cs.length)
  have hfin : Hid (∀ r, r = wrI pw qw (nA (memB ys) cs) (nB (memB ys) cs) (nA (memB (ys ++ opened (ys ++ ns) cs cs.length)) cs - nA (memB ys) cs : Nat) (nB (memB (ys ++ opened (ys ++ ns) cs cs.length)) cs - nB (memB ys) cs : Nat) → r = wrI pw qw (nA (memB ys) cs) (nB (memB ys) cs) (nA (fun s => !inAny [ys, ns] s) cs) (nB (fun s => !inAny [ys, ns] s) cs)) := fun r h => by
    rw [h, hsA, hsB, Nat.add_sub_cancel_left, Nat.add_sub_cancel_left]
  have hle1 : nA (memB ys) cs ≤ nA (memB (ys ++ opened (ys ++ ns) cs cs.length)) cs := by omega
  have hle2 : nB (memB ys) cs ≤ nB (memB (ys ++ opened (ys ++ ns) cs cs.length)) cs := by omega
  clear hsA hsB
  generalize nA (fun s => !inAny [ys, ns] s) cs = c at *
  generalize nB (fun s => !inAny [ys, ns] s) cs = d at *
  have k2 : (w.alloc (.cells #[.int .i64 pn, .int .i64 pr, .int .i64 pw, .int .i64 qr, .int .i64 qw, .bool ps, .bool pm, .bool pb] 23)).cell? ⟨w.heap.size, 2, none⟩ = some (.int .i64 pw) := HBK.out.cell 2
  have k4 : (w.alloc (.cells #[.int .i64 pn, .int .i64 pr, .int .i64 pw, .int .i64 qr, .int .i64 qw, .bool ps, .bool pm, .bool pb] 23)).cell? ⟨w.heap.size, 4, none⟩ = some (.int .i64 qw) := HBK.out.cell 4
  go_enter Try.func10, Try.ntmps10
  go_wp2_with fail
  refine (rcount_any _ A Y ca cy cs ys hl (by omega) H1.out H2.out).mono ?_
  rintro e w2 ⟨rfl, rfl⟩
  generalize (w.alloc (.cells #[.int .i64 pn, .int .i64 pr, .int .i64 pw, .int .i64 qr, .int .i64 qw, .bool ps, .bool pm, .bool pb] 23)) = w2 at *
  generalize hA : nA (memB ys) cs = a at *
  generalize hB : nB (memB ys) cs = b at *
  have HA := Lib.hid hA
  have HB := Lib.hid hB
  clear hA hB
  cases hE : (decide (pw ≤ (a : Int)) && decide (qw ≤ (b : Int))) with
  | true =>
    have hE2 := hE
    rw [Bool.and_eq_true] at hE2
    obtain ⟨d1, d2⟩ := hE2
    have hr := Lib.hid (hfin.out 1 (by unfold wrI; rw [hE]; rfl))
    clear hE hfin
    go_wp2
    go_ret
    exact ⟨ret_int (by rw [HA.out, HB.out]; exact hr.out), HL.out⟩
  | false =>
    have HE := Lib.hid hE
    have hmid : ∀ (K : Prop), (decide (pw ≤ (a : Int)) = false → K) → (decide (pw ≤ (a : Int)) = true → decide (qw ≤ (b : Int)) = false → K) → K := fun K x y => by
      cases h1 : decide (pw ≤ (a : Int)) with
      | false => exact x h1
      | true => exact y h1 (by rw [h1] at hE; simpa using hE)
    clear hE
    refine hmid _ (fun d1 => ?_) (fun d1 d2 => ?_)
    · clear hmid
      go_wp2_with fail
      refine (both_any _ Y N cy cn ys ns (by omega) (by omega) H2.out H3.out).mono ?_
      rintro e w3 ⟨v3, rfl, hrow, hb⟩
      obtain ⟨A3, c3, rfl, hr3⟩ := Row.texts hrow
      have R3 := Lib.hid hr3
      clear hr3 hrow k2 k4
      replace HBK := Lib.hid (Blk.below (Hid.out HBK) hb (Hid.out HBK).lt)
      replace H1 := Lib.hid ((Hid.out H1).more_below hb)
      replace H2 := Lib.hid ((Hid.out H2).more_below hb)
      replace H3 := Lib.hid ((Hid.out H3).more_below hb)
      replace HL := Lib.hid ((Hid.out HL).trans (hb.mono (Hid.out HL).size))
      clear hb
      have hyn := Lib.hid (show (ys ++ ns).length ≤ 3000 by rw [List.length_append]; omega)
      generalize hAL : ys ++ ns = al at *
      clear hAL
      go_wp2_with fail
      refine (open_any _ A A3 ca c3 cs al hl hyn.out H1.out R3.out).mono ?_
      rintro e w4 ⟨v4, rfl, hrow, hb⟩
      obtain ⟨A4, c4, rfl, hr4⟩ := Row.texts hrow
      have R4 := Lib.hid hr4
      clear hr4 hrow R3
      replace HBK := Lib.hid (Blk.below (Hid.out HBK) hb (Hid.out HBK).lt)
      replace H1 := Lib.hid ((Hid.out H1).more_below hb)
      replace H2 := Lib.hid ((Hid.out H2).more_below hb)
      replace H3 := Lib.hid ((Hid.out H3).more_below hb)
      replace HL := Lib.hid ((Hid.out HL).trans (hb.mono (Hid.out HL).size))
      clear hb
      generalize opened al cs cs.length = op at *
      have hol' : Hid (op.length ≤ 3000) := by have := hol.out; show op.length ≤ 3000; omega
      go_wp2_with fail
      refine (both_any _ Y A4 cy c4 ys op (by omega) hol'.out H2.out R4.out).mono ?_
      rintro e w5 ⟨v5, rfl, hrow, hb⟩
      obtain ⟨A5, c5, rfl, hr5⟩ := Row.texts hrow
      have R5 := Lib.hid hr5
      clear hr5 hrow R4
      replace HBK := Lib.hid (Blk.below (Hid.out HBK) hb (Hid.out HBK).lt)
      replace H1 := Lib.hid ((Hid.out H1).more_below hb)
      replace HL := Lib.hid ((Hid.out HL).trans (hb.mono (Hid.out HL).size))
      clear hb
      have hyo := Lib.hid (show (ys ++ op).length ≤ 3000 by have := hol.out; rw [List.length_append]; omega)
      generalize hYO : ys ++ op = yo at *
      clear hYO
      go_wp2_with fail
      refine (rcount_any _ A A5 ca c5 cs yo hl hyo.out H1.out R5.out).mono ?_
      rintro e w6 ⟨rfl, rfl⟩
      clear R5 hyo hol hol' hyn
      have k2 : w6.cell? ⟨w.heap.size, 2, none⟩ = some (.int .i64 pw) := HBK.out.cell 2
      have k4 : w6.cell? ⟨w.heap.size, 4, none⟩ = some (.int .i64 qw) := HBK.out.cell 4
      generalize nA (memB yo) cs = x at *
      generalize nB (memB yo) cs = y at *
      cases e1 : decide ((x : Int) < pw) with
      | true =>
        have hr := Lib.hid (hfin.out 2 (by
          unfold wrI; rw [if_neg (by rw [HE.out]; simp), if_neg]
          simp only [Bool.and_eq_true, decide_eq_true_eq] at e1 ⊢; omega))
        clear hfin
        go_wp2
        go_ret
        exact ⟨ret_int (by rw [HA.out, HB.out]; exact hr.out), HL.out⟩
      | false =>
        cases e2 : decide ((y : Int) < qw) with
        | true =>
          have hr := Lib.hid (hfin.out 2 (by
            unfold wrI; rw [if_neg (by rw [HE.out]; simp), if_neg]
            simp only [Bool.and_eq_true, decide_eq_true_eq] at e2 ⊢; omega))
          clear hfin
          go_wp2
          go_ret
          exact ⟨ret_int (by rw [HA.out, HB.out]; exact hr.out), HL.out⟩
        | false =>
          have hr := Lib.hid (hfin.out 0 (by
            unfold wrI; rw [if_neg (by rw [HE.out]; simp), if_pos]
            simp only [Bool.and_eq_true, decide_eq_true_eq, decide_eq_false_iff_not] at e1 e2 ⊢; omega))
          clear hfin
          go_wp2
          go_ret
          exact ⟨ret_int (by rw [HA.out, HB.out]; exact hr.out), HL.out⟩
    · clear hmid
      go_wp2_with fail
      refine (both_any _ Y N cy cn ys ns (by omega) (by omega) H2.out H3.out).mono ?_
      rintro e w3 ⟨v3, rfl, hrow, hb⟩
      obtain ⟨A3, c3, rfl, hr3⟩ := Row.texts hrow
      have R3 := Lib.hid hr3
      clear hr3 hrow k2 k4
      replace HBK := Lib.hid (Blk.below (Hid.out HBK) hb (Hid.out HBK).lt)
      replace H1 := Lib.hid ((Hid.out H1).more_below hb)
      replace H2 := Lib.hid ((Hid.out H2).more_below hb)
      replace H3 := Lib.hid ((Hid.out H3).more_below hb)
      replace HL := Lib.hid ((Hid.out HL).trans (hb.mono (Hid.out HL).size))
      clear hb
      have hyn := Lib.hid (show (ys ++ ns).length ≤ 3000 by rw [List.length_append]; omega)
      generalize hAL : ys ++ ns = al at *
      clear hAL
      go_wp2_with fail
      refine (open_any _ A A3 ca c3 cs al hl hyn.out H1.out R3.out).mono ?_
      rintro e w4 ⟨v4, rfl, hrow, hb⟩
      obtain ⟨A4, c4, rfl, hr4⟩ := Row.texts hrow
      have R4 := Lib.hid hr4
      clear hr4 hrow R3
      replace HBK := Lib.hid (Blk.below (Hid.out HBK) hb (Hid.out HBK).lt)
      replace H1 := Lib.hid ((Hid.out H1).more_below hb)
      replace H2 := Lib.hid ((Hid.out H2).more_below hb)
      replace H3 := Lib.hid ((Hid.out H3).more_below hb)
      replace HL := Lib.hid ((Hid.out HL).trans (hb.mono (Hid.out HL).size))
      clear hb
      generalize opened al cs cs.length = op at *
      have hol' : Hid (op.length ≤ 3000) := by have := hol.out; show op.length ≤ 3000; omega
      go_wp2_with fail
      refine (both_any _ Y A4 cy c4 ys op (by omega) hol'.out H2.out R4.out).mono ?_
      rintro e w5 ⟨v5, rfl, hrow, hb⟩
      obtain ⟨A5, c5, rfl, hr5⟩ := Row.texts hrow
      have R5 := Lib.hid hr5
      clear hr5 hrow R4
      replace HBK := Lib.hid (Blk.below (Hid.out HBK) hb (Hid.out HBK).lt)
      replace H1 := Lib.hid ((Hid.out H1).more_below hb)
      replace HL := Lib.hid ((Hid.out HL).trans (hb.mono (Hid.out HL).size))
      clear hb
      have hyo := Lib.hid (show (ys ++ op).length ≤ 3000 by have := hol.out; rw [List.length_append]; omega)
      generalize hYO : ys ++ op = yo at *
      clear hYO
      go_wp2_with fail
      refine (rcount_any _ A A5 ca c5 cs yo hl hyo.out H1.out R5.out).mono ?_
      rintro e w6 ⟨rfl, rfl⟩
      clear R5 hyo hol hol' hyn
      have k2 : w6.cell? ⟨w.heap.size, 2, none⟩ = some (.int .i64 pw) := HBK.out.cell 2
      have k4 : w6.cell? ⟨w.heap.size, 4, none⟩ = some (.int .i64 qw) := HBK.out.cell 4
      generalize nA (memB yo) cs = x at *
      generalize nB (memB yo) cs = y at *
      cases e1 : decide ((x : Int) < pw) with
      | true =>
        have hr := Lib.hid (hfin.out 2 (by
          unfold wrI; rw [if_neg (by rw [HE.out]; simp), if_neg]
          simp only [Bool.and_eq_true, decide_eq_true_eq] at e1 ⊢; omega))
        clear hfin
        go_wp2
        go_ret
        exact ⟨ret_int (by rw [HA.out, HB.out]; exact hr.out), HL.out⟩
      | false =>
        cases e2 : decide ((y : Int) < qw) with
        | true =>
          have hr := Lib.hid (hfin.out 2 (by
            unfold wrI; rw [if_neg (by rw [HE.out]; simp), if_neg]
            simp only [Bool.and_eq_true, decide_eq_true_eq] at e2 ⊢; omega))
          clear hfin
          go_wp2
          go_ret
          exact ⟨ret_int (by rw [HA.out, HB.out]; exact hr.out), HL.out⟩
        | false =>
          have hr := Lib.hid (hfin.out 0 (by
            unfold wrI; rw [if_neg (by rw [HE.out]; simp), if_pos]
            simp only [Bool.and_eq_true, decide_eq_true_eq, decide_eq_false_iff_not] at e1 e2 ⊢; omega))
          clear hfin
          go_wp2
          go_ret
          exact ⟨ret_int (by rw [HA.out, HB.out]; exact hr.out), HL.out⟩
end Go.Proofs.Ytcbfcmnnahbblaa.quorum
