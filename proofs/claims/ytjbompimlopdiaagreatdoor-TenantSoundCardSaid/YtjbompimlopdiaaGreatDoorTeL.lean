/- TenantSound: limits may be, whatever is in the registers; all tenants are those of whom something is said; an entry of another tenant changes nothing. -/
import Derived.Test.YtjbompimlopdiaaGreatDoorTeK
namespace Go.Proofs.YtjbompimlopdiaaGreatDoor.te
set_option linter.unusedSimpArgs false
open Go.ChangeShapes Go.WideShapes Go.ChangeAt Go.RowKit Go.Proofs.Aid
open Go.Proofs.YtjbompimlopdiaaGreatDoor.rgy (En)
open Go.Proofs.YtjbompimlopdiaaGreatDoor.texts (tc)
open Go.Proofs.YtjbompimlopdiaaGreatDoor.name (isName)
open Go.Proofs.YtjbompimlopdiaaGreatDoor.nm (Lets strs_length)
def upTo (L : List ByteArray) (s : ByteArray) (i : Nat) : Bool := texts.memB (L.take i) s
theorem upTo_step {L : List ByteArray} {s : ByteArray} {i : Nat} (h : i < L.length) : upTo L s (i + 1) = (upTo L s i || decide (L[i] = s)) := by
  unfold upTo
  rw [List.take_succ_eq_append_getElem h, Bool.eq_iff_iff, Bool.or_eq_true, decide_eq_true_eq, texts.memB_iff, texts.memB_iff, List.mem_append, List.mem_singleton]
  exact or_congr Iff.rfl eq_comm
theorem upTo_all (L : List ByteArray) (s : ByteArray) : upTo L s L.length = texts.memB L s := by unfold upTo; rw [List.take_length]
theorem isT_size {xs : List En} {t : ByteArray} (h : isT xs t = true) : t.size ≤ 16 := by
  unfold isT at h
  rw [Bool.and_eq_true] at h
  have := (name_free h.1).2.1
  rw [Array.length_toList] at this
  exact this
set_option maxRecDepth 100000 in
set_option maxHeartbeats 16000000 in
theorem sound_walk (W : World) (A : Option Addr) (ca : Nat) (xs : List En) (s0 kk : ByteArray) (n : Int) (b v : ByteArray) (HLt : Hid (Lets W)) (hl : xs.length ≤ maxLen) (hca : xs.length ≤ ca) (h1 : Reads W W.heap.size 4 A xs.length (xs.flatMap En.cells)) (hz : ∀ r ∈ xs, r.sz) (hy : (⟨kk, ⟨n, b, v⟩⟩ : En).sz) (hs0 : s0.size ≤ maxLen) :
    Calls Tryz.prog 5 #[.slice A xs.length ca, .string s0, .agg #[.string kk, .int .i64 n, .string b, .string v]] W fun e w' => e = .returned (.bool true) ∧ Below W.heap.size W w' := by
  have HS := Lib.hid hz
  have HY := Lib.hid hy
  have HL1 := Lib.hid hl
  have HL := Lib.hid (below_lit W (.cells #[.string kk, .int .i64 n, .string b, .string v] 38))
  have HX := Lib.hid (Blk.new W 38 #[.string kk, .int .i64 n, .string b, .string v])
  have H1 := Lib.hid (h1.more_below HL.out)
  have hkz : kk.size ≤ 9223372036854775807 := by have := hy.1; unfold maxLen at this; omega
  unfold maxLen at hs0
  clear h1 hz hl hy
  go_enter Tryz.func5, Tryz.ntmps5
  go_wp2_with fail
  generalize W.alloc (.cells #[.string kk, .int .i64 n, .string b, .string v] 38) = w0 at *
  refine (rgy.rfew_any w0 A ca xs 30 (by omega) HL1.out H1.out HS.out).mono ?_
  rintro e w1 ⟨b1, rfl, hb, hf1⟩
  replace HX := Lib.hid (Blk.below (Hid.out HX) hb (Hid.out HX).lt)
  replace H1 := Lib.hid ((Hid.out H1).more_below hb)
  replace HL := Lib.hid ((Hid.out HL).trans (hb.mono (Hid.out HL).size))
  clear hb
  cases b1 with
  | false =>
    clear hf1
    go_wp2_with fail
    refine (awake_any _ (Lib.hid (HLt.out.next HL.out))).mono ?_
    rintro e w90 ⟨rfl, hb⟩
    replace HL := Lib.hid (HL.out.trans (hb.mono HL.out.size))
    clear hb
    go_wp2
    go_ret
    exact ⟨rfl, HL.out⟩
  | true =>
  obtain ⟨hx30, hfe⟩ := hf1 rfl
  have hsh := Lib.hid (short_of hfe)
  have hky := Lib.hid (keys_of hfe)
  clear hf1 hfe
  cases hm : rgy.may xs with
  | false =>
    have HM := Lib.hid hm
    clear hm
    go_wp2_with fail
    refine (rgy.rmayL_any w1 A ca xs (by omega) H1.out HS.out).mono ?_
    rw [HM.out]
    rintro e w2 ⟨rfl, hb⟩
    replace HX := Lib.hid (Blk.below (Hid.out HX) hb (Hid.out HX).lt)
    replace H1 := Lib.hid ((Hid.out H1).more_below hb)
    replace HL := Lib.hid ((Hid.out HL).trans (hb.mono (Hid.out HL).size))
    clear hb
    go_wp2_with fail
    refine (awake_any _ (Lib.hid (HLt.out.next HL.out))).mono ?_
    rintro e w90 ⟨rfl, hb⟩
    replace HL := Lib.hid (HL.out.trans (hb.mono HL.out.size))
    clear hb
    go_wp2
    go_ret
    exact ⟨rfl, HL.out⟩
  | true =>
  have HM := Lib.hid hm
  clear hm
  go_wp2_with fail
  refine (rgy.rmayL_any w1 A ca xs (by omega) H1.out HS.out).mono ?_
  rw [HM.out]
  rintro e w2 ⟨rfl, hb⟩
  replace HX := Lib.hid (Blk.below (Hid.out HX) hb (Hid.out HX).lt)
  replace H1 := Lib.hid ((Hid.out H1).more_below hb)
  replace HL := Lib.hid ((Hid.out HL).trans (hb.mono (Hid.out HL).size))
  clear hb
  have x0 : w2.cell? ⟨W.heap.size, 0, none⟩ = some (.string kk) := HX.out.cell 0
  have x1 : w2.cell? ⟨W.heap.size, 1, none⟩ = some (.int .i64 n) := HX.out.cell 1
  have x2 : w2.cell? ⟨W.heap.size, 2, none⟩ = some (.string b) := HX.out.cell 2
  have x3 : w2.cell? ⟨W.heap.size, 3, none⟩ = some (.string v) := HX.out.cell 3
  have HR : Hid (Reads (w2.alloc (.cells #[.string kk, .int .i64 n, .string b, .string v] 38)) (w2.alloc (.cells #[.string kk, .int .i64 n, .string b, .string v] 38)).heap.size 4 (some ⟨w2.heap.size, 0, none⟩) [(⟨kk, ⟨n, b, v⟩⟩ : En)].length ([(⟨kk, ⟨n, b, v⟩⟩ : En)].flatMap En.cells)) := Lib.hid (lit1 w2 38 [(⟨kk, ⟨n, b, v⟩⟩ : En)] En.len)
  have hb := below_lit w2 (.cells #[.string kk, .int .i64 n, .string b, .string v] 38)
  replace HX := Lib.hid (Blk.below (Hid.out HX) hb (Hid.out HX).lt)
  replace H1 := Lib.hid ((Hid.out H1).more_below hb)
  replace HL := Lib.hid ((Hid.out HL).trans (hb.mono (Hid.out HL).size))
  clear hb
  go_wp2_with fail
  clear x0 x1 x2 x3
  generalize w2.alloc (.cells #[.string kk, .int .i64 n, .string b, .string v] 38) = w3 at *
  refine (rgy.rfew_any w3 (some ⟨w2.heap.size, 0, none⟩) 1 [(⟨kk, ⟨n, b, v⟩⟩ : En)] 1 (by omega) (by show 1 ≤ maxLen; decide) HR.out (fun r hr => by rw [List.mem_singleton] at hr; subst hr; exact HY.out)).mono ?_
  rintro e w4 ⟨b3, rfl, hb, hf3⟩
  replace HX := Lib.hid (Blk.below (Hid.out HX) hb (Hid.out HX).lt)
  replace H1 := Lib.hid ((Hid.out H1).more_below hb)
  replace HL := Lib.hid ((Hid.out HL).trans (hb.mono (Hid.out HL).size))
  clear hb
  clear HR
  cases b3 with
  | false =>
    clear hf3
    go_wp2_with fail
    refine (awake_any _ (Lib.hid (HLt.out.next HL.out))).mono ?_
    rintro e w90 ⟨rfl, hb⟩
    replace HL := Lib.hid (HL.out.trans (hb.mono HL.out.size))
    clear hb
    go_wp2
    go_ret
    exact ⟨rfl, HL.out⟩
  | true =>
  have hvy : Hid (v.size ≤ 300) := by
    have h := ((hf3 rfl).2 ⟨kk, ⟨n, b, v⟩⟩ (by simp)).2
    unfold reg.Rg.few at h
    rw [Bool.and_eq_true, decide_eq_true_eq, decide_eq_true_eq] at h
    exact h.2
  clear hf3
  by_cases z0 : s0.size ≤ 100
  case neg =>
    go_wp2_with fail
    refine (awake_any _ (Lib.hid (HLt.out.next HL.out))).mono ?_
    rintro e w90 ⟨rfl, hb⟩
    replace HL := Lib.hid (HL.out.trans (hb.mono HL.out.size))
    clear hb
    go_wp2
    go_ret
    exact ⟨rfl, HL.out⟩
  have HOF := Lib.hid (fun w' A' c' ys t hys h hsh' hl' ht => tof_any w' A' c' ys t hys h hsh' ht hl')
  have HAL := Lib.hid (fun w h hL => all_any w A ca xs (by omega) h HS.out hky.out hL)
  have HKO := Lib.hid (fun w' => rtkey_any s0 ⟨#[]⟩ w' (by omega) (by decide))
  have HNM := Lib.hid (fun w' => reg.rname_any s0 w' (by unfold maxLen; omega))
  have HNO := Lib.hid (@not_own kk s0)
  have HPUT := Lib.hid (fun h => of_put (l := xs) (y := ⟨kk, ⟨n, b, v⟩⟩) (t := s0) HM.out h)
  have HSP := Lib.hid (short_put (y := ⟨kk, ⟨n, b, v⟩⟩) HM.out hsh.out hvy.out)
  have hksz := tkey_size s0 ⟨#[]⟩
  have hal := allT_len xs
  have HST := Lib.hid (fun i (h : i < (nm.strs (allT xs)).length) => @upTo_step (nm.strs (allT xs)) s0 i h)
  have HUA := Lib.hid (show upTo (nm.strs (allT xs)) s0 (nm.strs (allT xs)).length = isT xs s0 by rw [upTo_all]; exact has_allT)
  have HU0 := Lib.hid (show upTo (nm.strs (allT xs)) s0 0 = false by simp [upTo, texts.memB])
  have HEA := Lib.hid (fun i (h : i < (nm.strs (allT xs)).length) => each_allT h)
  have HUL : Hid (∀ i (h : i < (nm.strs (allT xs)).length) (h2 : i - 1 < (nm.strs (allT xs)).length), 0 < i → Op.bytesLess ((nm.strs (allT xs))[i - 1]'h2).toList ((nm.strs (allT xs))[i]'h).toList = true) := fun i h h2 h3 => up_allT h h3
  have HSl := Lib.hid (strs_length (allT xs))
  have HTY := Lib.hid (@ofT_yes xs s0)
  have HTN := Lib.hid (@ofT_no xs s0)
  have hsec : isT xs s0 = true → 1 ≤ (secV xs s0).size ∧ (secV xs s0).size ≤ 64 := fun h => by
    unfold isT at h
    rw [Bool.and_eq_true] at h
    exact sec_in h.2
  have l0 := lim_in (l := xs) (t := s0) (f := fB) (m := 1099511627776) (u := 1048576) (by decide) (by decide)
  have l1 := lim_in (l := xs) (t := s0) (f := fR) (m := 1048576) (u := 8) (by decide) (by decide)
  have l2 := lim_in (l := xs) (t := s0) (f := fU) (m := 1048576) (u := 16) (by decide) (by decide)
  have l3 := lim_in (l := xs) (t := s0) (f := fQ) (m := 64) (u := 16) (by decide) (by decide)
  generalize secV xs s0 = sec at *
  generalize limV xs s0 fB 1099511627776 1048576 = m0 at *
  generalize limV xs s0 fR 1048576 8 = m1 at *
  generalize limV xs s0 fU 1048576 16 = m2 at *
  generalize limV xs s0 fQ 64 16 = m3 at *
  generalize tkey s0 ⟨#[]⟩ = own at *
  have hoz : own.size ≤ 1000 := by
    have : (⟨#[]⟩ : ByteArray).size = 0 := rfl
    omega
  clear hksz
  generalize allT xs = S at *
  cases hbt : isT xs s0
  · have HBT := Lib.hid hbt
    have HTT : Hid (ofT xs s0 = ⟨⟨#[]⟩, ⟨#[]⟩, 0, 0, 0, 0⟩) := HTN.out hbt
    rw [hbt] at HUA
    clear hbt hsec HTY HTN
    go_wp2_with fail
    refine (HOF.out w4 A ca xs s0 (by omega) H1.out hsh.out (Lib.hid (HLt.out.next HL.out)) (by omega)).mono ?_
    rw [HTT.out, HBT.out]
    unfold Ten.cells
    rintro e w5 ⟨rfl, hb⟩
    replace HX := Lib.hid (Blk.below (Hid.out HX) hb (Hid.out HX).lt)
    replace H1 := Lib.hid ((Hid.out H1).more_below hb)
    replace HL := Lib.hid ((Hid.out HL).trans (hb.mono (Hid.out HL).size))
    clear hb
    have HP := Lib.hid (Blk.new w5 26 #[.string ⟨#[]⟩, .string ⟨#[]⟩, .int .i64 0, .int .i64 0, .int .i64 0, .int .i64 0])
    have hb := below_lit w5 (.cells #[.string ⟨#[]⟩, .string ⟨#[]⟩, .int .i64 0, .int .i64 0, .int .i64 0, .int .i64 0] 26)
    replace HX := Lib.hid (Blk.below (Hid.out HX) hb (Hid.out HX).lt)
    replace H1 := Lib.hid ((Hid.out H1).more_below hb)
    replace HL := Lib.hid ((Hid.out HL).trans (hb.mono (Hid.out HL).size))
    clear hb
    generalize hgp : w5.heap.size = gp at *
    have y0 : (w5.alloc (.cells #[.string ⟨#[]⟩, .string ⟨#[]⟩, .int .i64 0, .int .i64 0, .int .i64 0, .int .i64 0] 26)).cell? ⟨gp, 0, none⟩ = some (.string ⟨#[]⟩) := HP.out.cell 0
    have y1 : (w5.alloc (.cells #[.string ⟨#[]⟩, .string ⟨#[]⟩, .int .i64 0, .int .i64 0, .int .i64 0, .int .i64 0] 26)).cell? ⟨gp, 1, none⟩ = some (.string ⟨#[]⟩) := HP.out.cell 1
    have y2 : (w5.alloc (.cells #[.string ⟨#[]⟩, .string ⟨#[]⟩, .int .i64 0, .int .i64 0, .int .i64 0, .int .i64 0] 26)).cell? ⟨gp, 2, none⟩ = some (.int .i64 0) := HP.out.cell 2
    have y3 : (w5.alloc (.cells #[.string ⟨#[]⟩, .string ⟨#[]⟩, .int .i64 0, .int .i64 0, .int .i64 0, .int .i64 0] 26)).cell? ⟨gp, 3, none⟩ = some (.int .i64 0) := HP.out.cell 3
    have y4 : (w5.alloc (.cells #[.string ⟨#[]⟩, .string ⟨#[]⟩, .int .i64 0, .int .i64 0, .int .i64 0, .int .i64 0] 26)).cell? ⟨gp, 4, none⟩ = some (.int .i64 0) := HP.out.cell 4
    have y5 : (w5.alloc (.cells #[.string ⟨#[]⟩, .string ⟨#[]⟩, .int .i64 0, .int .i64 0, .int .i64 0, .int .i64 0] 26)).cell? ⟨gp, 5, none⟩ = some (.int .i64 0) := HP.out.cell 5
    go_wp2_with fail
    clear hgp y0 y1 y2 y3 y4 y5
    generalize w5.alloc (.cells #[.string ⟨#[]⟩, .string ⟨#[]⟩, .int .i64 0, .int .i64 0, .int .i64 0, .int .i64 0] 26) = w6 at *
    refine (HAL.out w6 H1.out (Lib.hid (HLt.out.next HL.out))).mono ?_
    rintro e w7 ⟨A7, c7, rfl, -, hR7, hb⟩
    replace HX := Lib.hid (Blk.below (Hid.out HX) hb (Hid.out HX).lt)
    replace HP := Lib.hid (Blk.below (Hid.out HP) hb (Hid.out HP).lt)
    replace H1 := Lib.hid ((Hid.out H1).more_below hb)
    replace HL := Lib.hid ((Hid.out HL).trans (hb.mono (Hid.out HL).size))
    clear hb
    have HR7 := Lib.hid hR7
    clear hR7
    go_wp2_with fail
    go_loopw [10, 11] (fun isv iv wr => ∃ i : Nat, i ≤ S.length ∧ iv = .int .i64 i ∧ isv = .bool (upTo (nm.strs S) s0 i) ∧ Hid (Below w7.heap.size w7 wr)) (fun _ iv _ => S.length - (intOf iv).toNat)
    case atStart => exact ⟨0, by omega, rfl, by rw [HU0.out], Below.refl _ _⟩
    case round =>
      obtain ⟨i, hi, rfl, rfl, hq⟩ := hrel
      have hsq := hq.out.size
      by_cases hlt : i < S.length
      · have hlts : i < (nm.strs S).length := by rw [HSl.out]; exact hlt
        have hrd : Reads wr wr.heap.size 1 A7 (nm.strs S).length ((nm.strs S).flatMap tc) := by rw [HSl.out]; exact HR7.out.more_below hq.out
        obtain ⟨al, hA, hal, c0⟩ := Reads.elem1 (g := Value.string) hrd hlts
        have hst := Lib.hid (HST.out i hlts)
        have hea := HEA.out i hlts
        have hqz := isT_size hea
        generalize hu : upTo (nm.strs S) s0 i = u at *
        clear hu
        by_cases hi0' : i = 0
        · subst hi0'
          clear hrd
          subst hA
          generalize (nm.strs S)[0] = q at *
          replace c0 : wr.cell? al = some (.string q) := by simpa [Addr.add] using c0
          cases u with
          | true =>
            have hdq := Lib.hid (show (true || decide (q = s0)) = true from rfl)
            go_wp2_with fail
            refine (HOF.out _ A ca xs q (by omega) (H1.out.more_below hq.out) hsh.out (Lib.hid (HLt.out.next (HL.out.trans (hq.out.mono HL.out.size)))) (by omega)).mono ?_
            rw [hea]
            generalize ofT xs q = tq at *
            obtain ⟨q0, q1, q2, q3, q4, q5⟩ := tq
            unfold Ten.cells
            simp only
            rintro e w8 ⟨rfl, hb⟩
            have hq8 := hq.out.trans (hb.mono hsq)
            have hba := below_lit w8 (.cells #[.string q0, .string q1, .int .i64 q2, .int .i64 q3, .int .i64 q4, .int .i64 q5] 26)
            have hq9 := Lib.hid (hq8.trans (hba.mono hq8.size))
            have c9 := ((hb.trans (hba.mono hb.size)).cell (p := al) (by exact hal)).trans c0
            clear hb hba hq8 c0
            go_wp2_with fail
            generalize w8.alloc (.cells #[.string q0, .string q1, .int .i64 q2, .int .i64 q3, .int .i64 q4, .int .i64 q5] 26) = w9 at *
            go_quiet (fail)
            have hqn := Lib.hid (below_drewN hq9.out nq)
            go_wp2
            go_roundw
            case rel => exact ⟨1, by omega, by go_num, by rw [hst.out, hdq.out], hqn⟩
            case measure => simp [intOf]; omega
          | false =>
            by_cases he : q = s0
            · have hdq := Lib.hid (show (false || decide (q = s0)) = true by rw [decide_eq_true he]; rfl)
              subst he
              go_wp2_with fail
              refine (HOF.out _ A ca xs q (by omega) (H1.out.more_below hq.out) hsh.out (Lib.hid (HLt.out.next (HL.out.trans (hq.out.mono HL.out.size)))) (by omega)).mono ?_
              rw [hea]
              generalize ofT xs q = tq at *
              obtain ⟨q0, q1, q2, q3, q4, q5⟩ := tq
              unfold Ten.cells
              simp only
              rintro e w8 ⟨rfl, hb⟩
              have hq8 := hq.out.trans (hb.mono hsq)
              have hba := below_lit w8 (.cells #[.string q0, .string q1, .int .i64 q2, .int .i64 q3, .int .i64 q4, .int .i64 q5] 26)
              have hq9 := Lib.hid (hq8.trans (hba.mono hq8.size))
              have c9 := ((hb.trans (hba.mono hb.size)).cell (p := al) (by exact hal)).trans c0
              clear hb hba hq8 c0
              go_wp2_with fail
              generalize w8.alloc (.cells #[.string q0, .string q1, .int .i64 q2, .int .i64 q3, .int .i64 q4, .int .i64 q5] 26) = w9 at *
              go_quiet (fail)
              have hqn := Lib.hid (below_drewN hq9.out nq)
              go_wp2
              go_roundw
              case rel => exact ⟨1, by omega, by go_num, by rw [hst.out, hdq.out], hqn⟩
              case measure => simp [intOf]; omega
            · have hdq := Lib.hid (show (false || decide (q = s0)) = false by rw [decide_eq_false he]; rfl)
              have hne := bytes_ne he
              go_wp2_with fail
              refine (HOF.out _ A ca xs q (by omega) (H1.out.more_below hq.out) hsh.out (Lib.hid (HLt.out.next (HL.out.trans (hq.out.mono HL.out.size)))) (by omega)).mono ?_
              rw [hea]
              generalize ofT xs q = tq at *
              obtain ⟨q0, q1, q2, q3, q4, q5⟩ := tq
              unfold Ten.cells
              simp only
              rintro e w8 ⟨rfl, hb⟩
              have hq8 := hq.out.trans (hb.mono hsq)
              have hba := below_lit w8 (.cells #[.string q0, .string q1, .int .i64 q2, .int .i64 q3, .int .i64 q4, .int .i64 q5] 26)
              have hq9 := Lib.hid (hq8.trans (hba.mono hq8.size))
              have c9 := ((hb.trans (hba.mono hb.size)).cell (p := al) (by exact hal)).trans c0
              clear hb hba hq8 c0
              go_wp2_with fail
              generalize w8.alloc (.cells #[.string q0, .string q1, .int .i64 q2, .int .i64 q3, .int .i64 q4, .int .i64 q5] 26) = w9 at *
              go_quiet (fail)
              have hqn := Lib.hid (below_drewN hq9.out nq)
              go_wp2
              go_roundw
              case rel => exact ⟨1, by omega, by go_num, by rw [hst.out, hdq.out], hqn⟩
              case measure => simp [intOf]; omega
        · obtain ⟨al', hA', -, p0⟩ := Reads.elem1 (g := Value.string) hrd (by omega : i - 1 < (nm.strs S).length)
          have hls := HUL.out i hlts (by omega) (by omega)
          rw [hA] at hA'
          injection hA' with hA'
          subst hA'
          subst hA
          clear hrd
          generalize (nm.strs S)[i] = q at *
          generalize (nm.strs S)[i - 1] = p at *
          have hig : (0 : Int) < i := by omega
          have hia : (0 : Int) ≤ i - 1 := by omega
          have hib : (i : Int) - 1 < S.length := by omega
          have hic : ((i : Int) - 1).toNat = i - 1 := by omega
          have hid1 : IntKind.i64.wrap ((i : Int) - 1) = (i : Int) - 1 := IntWalk.i64_in _ (by omega)
          have hie : decide ((0 : Int) < i) = true := by simp; omega
          have hif : decide (0 < i) = true := by simp; omega
          have hig1 : (1 : Int) ≤ i := by omega
          cases u with
          | true =>
            have hdq := Lib.hid (show (true || decide (q = s0)) = true from rfl)
            go_wp2_with fail
            refine (HOF.out _ A ca xs q (by omega) (H1.out.more_below hq.out) hsh.out (Lib.hid (HLt.out.next (HL.out.trans (hq.out.mono HL.out.size)))) (by omega)).mono ?_
            rw [hea]
            generalize ofT xs q = tq at *
            obtain ⟨q0, q1, q2, q3, q4, q5⟩ := tq
            unfold Ten.cells
            simp only
            rintro e w8 ⟨rfl, hb⟩
            have hq8 := hq.out.trans (hb.mono hsq)
            have hba := below_lit w8 (.cells #[.string q0, .string q1, .int .i64 q2, .int .i64 q3, .int .i64 q4, .int .i64 q5] 26)
            have hq9 := Lib.hid (hq8.trans (hba.mono hq8.size))
            have c9 := ((hb.trans (hba.mono hb.size)).cell (p := al.add i) (by rw [block_of_add]; exact hal)).trans c0
            have p9 := ((hb.trans (hba.mono hb.size)).cell (p := al.add (i - 1)) (by rw [block_of_add]; exact hal)).trans p0
            clear hb hba hq8 c0 p0
            go_wp2_with fail
            generalize w8.alloc (.cells #[.string q0, .string q1, .int .i64 q2, .int .i64 q3, .int .i64 q4, .int .i64 q5] 26) = w9 at *
            go_quiet (fail)
            have hqn := Lib.hid (below_drewN hq9.out nq)
            go_wp2
            go_roundw
            case rel => exact ⟨i + 1, by omega, by go_num, by rw [hst.out, hdq.out], hqn⟩
            case measure => simp [intOf]; omega
          | false =>
            by_cases he : q = s0
            · have hdq := Lib.hid (show (false || decide (q = s0)) = true by rw [decide_eq_true he]; rfl)
              subst he
              go_wp2_with fail
              refine (HOF.out _ A ca xs q (by omega) (H1.out.more_below hq.out) hsh.out (Lib.hid (HLt.out.next (HL.out.trans (hq.out.mono HL.out.size)))) (by omega)).mono ?_
              rw [hea]
              generalize ofT xs q = tq at *
              obtain ⟨q0, q1, q2, q3, q4, q5⟩ := tq
              unfold Ten.cells
              simp only
              rintro e w8 ⟨rfl, hb⟩
              have hq8 := hq.out.trans (hb.mono hsq)
              have hba := below_lit w8 (.cells #[.string q0, .string q1, .int .i64 q2, .int .i64 q3, .int .i64 q4, .int .i64 q5] 26)
              have hq9 := Lib.hid (hq8.trans (hba.mono hq8.size))
              have c9 := ((hb.trans (hba.mono hb.size)).cell (p := al.add i) (by rw [block_of_add]; exact hal)).trans c0
              have p9 := ((hb.trans (hba.mono hb.size)).cell (p := al.add (i - 1)) (by rw [block_of_add]; exact hal)).trans p0
              clear hb hba hq8 c0 p0
              go_wp2_with fail
              generalize w8.alloc (.cells #[.string q0, .string q1, .int .i64 q2, .int .i64 q3, .int .i64 q4, .int .i64 q5] 26) = w9 at *
              go_quiet (fail)
              have hqn := Lib.hid (below_drewN hq9.out nq)
              go_wp2
              go_roundw
              case rel => exact ⟨i + 1, by omega, by go_num, by rw [hst.out, hdq.out], hqn⟩
              case measure => simp [intOf]; omega
            · have hdq := Lib.hid (show (false || decide (q = s0)) = false by rw [decide_eq_false he]; rfl)
              have hne := bytes_ne he
              go_wp2_with fail
              refine (HOF.out _ A ca xs q (by omega) (H1.out.more_below hq.out) hsh.out (Lib.hid (HLt.out.next (HL.out.trans (hq.out.mono HL.out.size)))) (by omega)).mono ?_
              rw [hea]
              generalize ofT xs q = tq at *
              obtain ⟨q0, q1, q2, q3, q4, q5⟩ := tq
              unfold Ten.cells
              simp only
              rintro e w8 ⟨rfl, hb⟩
              have hq8 := hq.out.trans (hb.mono hsq)
              have hba := below_lit w8 (.cells #[.string q0, .string q1, .int .i64 q2, .int .i64 q3, .int .i64 q4, .int .i64 q5] 26)
              have hq9 := Lib.hid (hq8.trans (hba.mono hq8.size))
              have c9 := ((hb.trans (hba.mono hb.size)).cell (p := al.add i) (by rw [block_of_add]; exact hal)).trans c0
              have p9 := ((hb.trans (hba.mono hb.size)).cell (p := al.add (i - 1)) (by rw [block_of_add]; exact hal)).trans p0
              clear hb hba hq8 c0 p0
              go_wp2_with fail
              generalize w8.alloc (.cells #[.string q0, .string q1, .int .i64 q2, .int .i64 q3, .int .i64 q4, .int .i64 q5] 26) = w9 at *
              go_quiet (fail)
              have hqn := Lib.hid (below_drewN hq9.out nq)
              go_wp2
              go_roundw
              case rel => exact ⟨i + 1, by omega, by go_num, by rw [hst.out, hdq.out], hqn⟩
              case measure => simp [intOf]; omega
      · have hi2 : i = S.length := by omega
        subst hi2
        rw [← HSl.out, HUA.out]
        replace HL := Lib.hid (HL.out.trans (hq.out.mono HL.out.size))
        replace HX := Lib.hid (HX.out.below hq.out HX.out.lt)
        replace HP := Lib.hid (HP.out.below hq.out HP.out.lt)
        replace H1 := Lib.hid (H1.out.more_below hq.out)
        clear HST HUA HU0 HEA HUL HR7 hq
        have x0 : wr.cell? ⟨W.heap.size, 0, none⟩ = some (.string kk) := HX.out.cell 0
        have x1 : wr.cell? ⟨W.heap.size, 1, none⟩ = some (.int .i64 n) := HX.out.cell 1
        have x2 : wr.cell? ⟨W.heap.size, 2, none⟩ = some (.string b) := HX.out.cell 2
        have x3 : wr.cell? ⟨W.heap.size, 3, none⟩ = some (.string v) := HX.out.cell 3
        go_wp2_with fail
        refine (HKO.out wr).mono ?_
        rintro e w80 ⟨rfl, rfl⟩
        by_cases hq : kk.size < own.size ∨ kk.extract 0 own.size ≠ own
        case neg =>
          have hq1 : own.size ≤ kk.size := by
            rcases Nat.lt_or_ge kk.size own.size with h | h
            · exact absurd (Or.inl h) hq
            · exact h
          have hq2 : kk.extract 0 own.size = own := by
            by_cases h : kk.extract 0 own.size = own
            · exact h
            · exact absurd (Or.inr h) hq
          clear hq
          go_wp2_with fail
          refine (awake_any _ (Lib.hid (HLt.out.next HL.out))).mono ?_
          rintro e w90 ⟨rfl, hb⟩
          replace HL := Lib.hid (HL.out.trans (hb.mono HL.out.size))
          clear hb
          go_wp2
          go_ret
          exact ⟨rfl, HL.out⟩
        case pos =>
        have HPP := Lib.hid (HPUT.out (HNO.out hq))
        clear HPUT HNO
        have key : ∀ (G : Prop), ((kk.size < own.size → G) ∧ (own.size ≤ kk.size → ((kk.extract 0 own.size).toList == own.toList) = false → G)) → G := by
          rintro G ⟨g1, g2⟩
          by_cases h : kk.size < own.size
          · exact g1 h
          · exact g2 (by omega) (bytes_ne (by rcases hq with h' | h'; exact absurd h' h; exact h'))
        clear hq
        refine key _ ⟨fun hq1 => ?_, fun hq1 hq2 => ?_⟩
        · have hg1 : (decide (own.size ≤ kk.size)) = false := by simp; omega
          cases hnb : isName s0.data.toList with
          | false =>
            go_wp2_with fail
            refine (HNM.out _).mono ?_
            rw [hnb]
            rintro e w81 ⟨rfl, rfl⟩
            go_wp2_with fail
            refine (awake_any _ (Lib.hid (HLt.out.next HL.out))).mono ?_
            rintro e w90 ⟨rfl, hb⟩
            replace HL := Lib.hid (HL.out.trans (hb.mono HL.out.size))
            clear hb
            go_wp2
            go_ret
            exact ⟨rfl, HL.out⟩
          | true =>
            go_wp2_with fail
            refine (HNM.out _).mono ?_
            rw [hnb]
            rintro e w81 ⟨rfl, rfl⟩
            clear hnb
            go_wp2_with fail
            refine (rgy.rputC_any _ A ca xs ⟨kk, ⟨n, b, v⟩⟩ (by omega) hca H1.out HS.out HY.out).mono ?_
            rw [HM.out, Bool.true_and]
            clear x0 x1 x2 x3
            cases hi : rgy.isEntry ⟨kk, ⟨n, b, v⟩⟩ with
            | false =>
              rw [if_neg (by decide), if_neg (by decide)]
              rintro e w10 ⟨v9, rfl, hrow, hb⟩
              obtain ⟨A6, c6, rfl, hr6⟩ := hrow.reads
              have H6 := Lib.hid hr6
              clear hrow hi hr6
              replace HX := Lib.hid (Blk.below (Hid.out HX) hb (Hid.out HX).lt)
              replace HP := Lib.hid (Blk.below (Hid.out HP) hb (Hid.out HP).lt)
              replace H1 := Lib.hid ((Hid.out H1).more_below hb)
              replace HL := Lib.hid ((Hid.out HL).trans (hb.mono (Hid.out HL).size))
              clear hb
              go_wp2_with fail
              refine (HOF.out _ A6 c6 [] s0 (by decide) H6.out (by intro x hx; cases hx) (Lib.hid (HLt.out.next HL.out)) (by omega)).mono ?_
              generalize ofT [] s0 = tq at *
              generalize isT [] s0 = bq at *
              obtain ⟨q0, q1, q2, q3, q4, q5⟩ := tq
              unfold Ten.cells
              simp only
              rintro e w11 ⟨rfl, hb⟩
              replace HX := Lib.hid (Blk.below (Hid.out HX) hb (Hid.out HX).lt)
              replace HP := Lib.hid (Blk.below (Hid.out HP) hb (Hid.out HP).lt)
              replace H1 := Lib.hid ((Hid.out H1).more_below hb)
              replace HL := Lib.hid ((Hid.out HL).trans (hb.mono (Hid.out HL).size))
              clear hb
              have hb := below_lit w11 (.cells #[.string q0, .string q1, .int .i64 q2, .int .i64 q3, .int .i64 q4, .int .i64 q5] 26)
              replace HX := Lib.hid (Blk.below (Hid.out HX) hb (Hid.out HX).lt)
              replace HP := Lib.hid (Blk.below (Hid.out HP) hb (Hid.out HP).lt)
              replace H1 := Lib.hid ((Hid.out H1).more_below hb)
              replace HL := Lib.hid ((Hid.out HL).trans (hb.mono (Hid.out HL).size))
              clear hb
              go_wp2_with fail
              generalize w11.alloc (.cells #[.string q0, .string q1, .int .i64 q2, .int .i64 q3, .int .i64 q4, .int .i64 q5] 26) = w12 at *
              refine (awake_any _ (Lib.hid (HLt.out.next HL.out))).mono ?_
              rintro e w90 ⟨rfl, hb⟩
              replace HL := Lib.hid (HL.out.trans (hb.mono HL.out.size))
              clear hb
              go_wp2
              go_ret
              exact ⟨rfl, HL.out⟩
            | true =>
              rw [if_pos rfl, if_pos rfl]
              have hlen := rgy.putE_len xs ⟨kk, ⟨n, b, v⟩⟩
              generalize rgy.putE xs ⟨kk, ⟨n, b, v⟩⟩ = ps at *
              rintro e w10 ⟨v9, rfl, hrow, hb⟩
              obtain ⟨A6, c6, rfl, hr6⟩ := hrow.reads
              have H6 := Lib.hid hr6
              clear hrow hi hr6
              replace HX := Lib.hid (Blk.below (Hid.out HX) hb (Hid.out HX).lt)
              replace HP := Lib.hid (Blk.below (Hid.out HP) hb (Hid.out HP).lt)
              replace H1 := Lib.hid ((Hid.out H1).more_below hb)
              replace HL := Lib.hid ((Hid.out HL).trans (hb.mono (Hid.out HL).size))
              clear hb
              go_wp2_with fail
              refine (HOF.out _ A6 c6 ps s0 (by omega) H6.out HSP.out (Lib.hid (HLt.out.next HL.out)) (by omega)).mono ?_
              rw [HPP.out.1, HPP.out.2, HTT.out, HBT.out]
              unfold Ten.cells
              rintro e w11 ⟨rfl, hb⟩
              replace HX := Lib.hid (Blk.below (Hid.out HX) hb (Hid.out HX).lt)
              replace HP := Lib.hid (Blk.below (Hid.out HP) hb (Hid.out HP).lt)
              replace H1 := Lib.hid ((Hid.out H1).more_below hb)
              replace HL := Lib.hid ((Hid.out HL).trans (hb.mono (Hid.out HL).size))
              clear hb
              have HQ := Lib.hid (Blk.new w11 26 #[.string ⟨#[]⟩, .string ⟨#[]⟩, .int .i64 0, .int .i64 0, .int .i64 0, .int .i64 0])
              have hb := below_lit w11 (.cells #[.string ⟨#[]⟩, .string ⟨#[]⟩, .int .i64 0, .int .i64 0, .int .i64 0, .int .i64 0] 26)
              replace HX := Lib.hid (Blk.below (Hid.out HX) hb (Hid.out HX).lt)
              replace HP := Lib.hid (Blk.below (Hid.out HP) hb (Hid.out HP).lt)
              replace H1 := Lib.hid ((Hid.out H1).more_below hb)
              replace HL := Lib.hid ((Hid.out HL).trans (hb.mono (Hid.out HL).size))
              clear hb
              generalize hgq : w11.heap.size = gq at *
              have y0 : (w11.alloc (.cells #[.string ⟨#[]⟩, .string ⟨#[]⟩, .int .i64 0, .int .i64 0, .int .i64 0, .int .i64 0] 26)).cell? ⟨gp, 0, none⟩ = some (.string ⟨#[]⟩) := HP.out.cell 0
              have y1 : (w11.alloc (.cells #[.string ⟨#[]⟩, .string ⟨#[]⟩, .int .i64 0, .int .i64 0, .int .i64 0, .int .i64 0] 26)).cell? ⟨gp, 1, none⟩ = some (.string ⟨#[]⟩) := HP.out.cell 1
              have y2 : (w11.alloc (.cells #[.string ⟨#[]⟩, .string ⟨#[]⟩, .int .i64 0, .int .i64 0, .int .i64 0, .int .i64 0] 26)).cell? ⟨gp, 2, none⟩ = some (.int .i64 0) := HP.out.cell 2
              have y3 : (w11.alloc (.cells #[.string ⟨#[]⟩, .string ⟨#[]⟩, .int .i64 0, .int .i64 0, .int .i64 0, .int .i64 0] 26)).cell? ⟨gp, 3, none⟩ = some (.int .i64 0) := HP.out.cell 3
              have y4 : (w11.alloc (.cells #[.string ⟨#[]⟩, .string ⟨#[]⟩, .int .i64 0, .int .i64 0, .int .i64 0, .int .i64 0] 26)).cell? ⟨gp, 4, none⟩ = some (.int .i64 0) := HP.out.cell 4
              have y5 : (w11.alloc (.cells #[.string ⟨#[]⟩, .string ⟨#[]⟩, .int .i64 0, .int .i64 0, .int .i64 0, .int .i64 0] 26)).cell? ⟨gp, 5, none⟩ = some (.int .i64 0) := HP.out.cell 5
              have u0 : (w11.alloc (.cells #[.string ⟨#[]⟩, .string ⟨#[]⟩, .int .i64 0, .int .i64 0, .int .i64 0, .int .i64 0] 26)).cell? ⟨gq, 0, none⟩ = some (.string ⟨#[]⟩) := HQ.out.cell 0
              have u1 : (w11.alloc (.cells #[.string ⟨#[]⟩, .string ⟨#[]⟩, .int .i64 0, .int .i64 0, .int .i64 0, .int .i64 0] 26)).cell? ⟨gq, 1, none⟩ = some (.string ⟨#[]⟩) := HQ.out.cell 1
              have u2 : (w11.alloc (.cells #[.string ⟨#[]⟩, .string ⟨#[]⟩, .int .i64 0, .int .i64 0, .int .i64 0, .int .i64 0] 26)).cell? ⟨gq, 2, none⟩ = some (.int .i64 0) := HQ.out.cell 2
              have u3 : (w11.alloc (.cells #[.string ⟨#[]⟩, .string ⟨#[]⟩, .int .i64 0, .int .i64 0, .int .i64 0, .int .i64 0] 26)).cell? ⟨gq, 3, none⟩ = some (.int .i64 0) := HQ.out.cell 3
              have u4 : (w11.alloc (.cells #[.string ⟨#[]⟩, .string ⟨#[]⟩, .int .i64 0, .int .i64 0, .int .i64 0, .int .i64 0] 26)).cell? ⟨gq, 4, none⟩ = some (.int .i64 0) := HQ.out.cell 4
              have u5 : (w11.alloc (.cells #[.string ⟨#[]⟩, .string ⟨#[]⟩, .int .i64 0, .int .i64 0, .int .i64 0, .int .i64 0] 26)).cell? ⟨gq, 5, none⟩ = some (.int .i64 0) := HQ.out.cell 5
              have heq := eqT_same ⟨⟨#[]⟩, ⟨#[]⟩, 0, 0, 0, 0⟩
              simp only at heq
              go_wp2_with fail
              clear hgq y0 y1 y2 y3 y4 y5 u0 u1 u2 u3 u4 u5 heq
              generalize w11.alloc (.cells #[.string ⟨#[]⟩, .string ⟨#[]⟩, .int .i64 0, .int .i64 0, .int .i64 0, .int .i64 0] 26) = w12 at *
              refine (awake_any _ (Lib.hid (HLt.out.next HL.out))).mono ?_
              rintro e w90 ⟨rfl, hb⟩
              replace HL := Lib.hid (HL.out.trans (hb.mono HL.out.size))
              clear hb
              go_wp2
              go_ret
              exact ⟨rfl, HL.out⟩
        · have hq3 := hq2
          cases hnb : isName s0.data.toList with
          | false =>
            go_wp2_with fail
            refine (HNM.out _).mono ?_
            rw [hnb]
            rintro e w81 ⟨rfl, rfl⟩
            go_wp2_with fail
            refine (awake_any _ (Lib.hid (HLt.out.next HL.out))).mono ?_
            rintro e w90 ⟨rfl, hb⟩
            replace HL := Lib.hid (HL.out.trans (hb.mono HL.out.size))
            clear hb
            go_wp2
            go_ret
            exact ⟨rfl, HL.out⟩
          | true =>
            go_wp2_with fail
            refine (HNM.out _).mono ?_
            rw [hnb]
            rintro e w81 ⟨rfl, rfl⟩
            clear hnb
            go_wp2_with fail
            refine (rgy.rputC_any _ A ca xs ⟨kk, ⟨n, b, v⟩⟩ (by omega) hca H1.out HS.out HY.out).mono ?_
            rw [HM.out, Bool.true_and]
            clear x0 x1 x2 x3
            cases hi : rgy.isEntry ⟨kk, ⟨n, b, v⟩⟩ with
            | false =>
              rw [if_neg (by decide), if_neg (by decide)]
              rintro e w10 ⟨v9, rfl, hrow, hb⟩
              obtain ⟨A6, c6, rfl, hr6⟩ := hrow.reads
              have H6 := Lib.hid hr6
              clear hrow hi hr6
              replace HX := Lib.hid (Blk.below (Hid.out HX) hb (Hid.out HX).lt)
              replace HP := Lib.hid (Blk.below (Hid.out HP) hb (Hid.out HP).lt)
              replace H1 := Lib.hid ((Hid.out H1).more_below hb)
              replace HL := Lib.hid ((Hid.out HL).trans (hb.mono (Hid.out HL).size))
              clear hb
              go_wp2_with fail
              refine (HOF.out _ A6 c6 [] s0 (by decide) H6.out (by intro x hx; cases hx) (Lib.hid (HLt.out.next HL.out)) (by omega)).mono ?_
              generalize ofT [] s0 = tq at *
              generalize isT [] s0 = bq at *
              obtain ⟨q0, q1, q2, q3, q4, q5⟩ := tq
              unfold Ten.cells
              simp only
              rintro e w11 ⟨rfl, hb⟩
              replace HX := Lib.hid (Blk.below (Hid.out HX) hb (Hid.out HX).lt)
              replace HP := Lib.hid (Blk.below (Hid.out HP) hb (Hid.out HP).lt)
              replace H1 := Lib.hid ((Hid.out H1).more_below hb)
              replace HL := Lib.hid ((Hid.out HL).trans (hb.mono (Hid.out HL).size))
              clear hb
              have hb := below_lit w11 (.cells #[.string q0, .string q1, .int .i64 q2, .int .i64 q3, .int .i64 q4, .int .i64 q5] 26)
              replace HX := Lib.hid (Blk.below (Hid.out HX) hb (Hid.out HX).lt)
              replace HP := Lib.hid (Blk.below (Hid.out HP) hb (Hid.out HP).lt)
              replace H1 := Lib.hid ((Hid.out H1).more_below hb)
              replace HL := Lib.hid ((Hid.out HL).trans (hb.mono (Hid.out HL).size))
              clear hb
              go_wp2_with fail
              generalize w11.alloc (.cells #[.string q0, .string q1, .int .i64 q2, .int .i64 q3, .int .i64 q4, .int .i64 q5] 26) = w12 at *
              refine (awake_any _ (Lib.hid (HLt.out.next HL.out))).mono ?_
              rintro e w90 ⟨rfl, hb⟩
              replace HL := Lib.hid (HL.out.trans (hb.mono HL.out.size))
              clear hb
              go_wp2
              go_ret
              exact ⟨rfl, HL.out⟩
            | true =>
              rw [if_pos rfl, if_pos rfl]
              have hlen := rgy.putE_len xs ⟨kk, ⟨n, b, v⟩⟩
              generalize rgy.putE xs ⟨kk, ⟨n, b, v⟩⟩ = ps at *
              rintro e w10 ⟨v9, rfl, hrow, hb⟩
              obtain ⟨A6, c6, rfl, hr6⟩ := hrow.reads
              have H6 := Lib.hid hr6
              clear hrow hi hr6
              replace HX := Lib.hid (Blk.below (Hid.out HX) hb (Hid.out HX).lt)
              replace HP := Lib.hid (Blk.below (Hid.out HP) hb (Hid.out HP).lt)
              replace H1 := Lib.hid ((Hid.out H1).more_below hb)
              replace HL := Lib.hid ((Hid.out HL).trans (hb.mono (Hid.out HL).size))
              clear hb
              go_wp2_with fail
              refine (HOF.out _ A6 c6 ps s0 (by omega) H6.out HSP.out (Lib.hid (HLt.out.next HL.out)) (by omega)).mono ?_
              rw [HPP.out.1, HPP.out.2, HTT.out, HBT.out]
              unfold Ten.cells
              rintro e w11 ⟨rfl, hb⟩
              replace HX := Lib.hid (Blk.below (Hid.out HX) hb (Hid.out HX).lt)
              replace HP := Lib.hid (Blk.below (Hid.out HP) hb (Hid.out HP).lt)
              replace H1 := Lib.hid ((Hid.out H1).more_below hb)
              replace HL := Lib.hid ((Hid.out HL).trans (hb.mono (Hid.out HL).size))
              clear hb
              have HQ := Lib.hid (Blk.new w11 26 #[.string ⟨#[]⟩, .string ⟨#[]⟩, .int .i64 0, .int .i64 0, .int .i64 0, .int .i64 0])
              have hb := below_lit w11 (.cells #[.string ⟨#[]⟩, .string ⟨#[]⟩, .int .i64 0, .int .i64 0, .int .i64 0, .int .i64 0] 26)
              replace HX := Lib.hid (Blk.below (Hid.out HX) hb (Hid.out HX).lt)
              replace HP := Lib.hid (Blk.below (Hid.out HP) hb (Hid.out HP).lt)
              replace H1 := Lib.hid ((Hid.out H1).more_below hb)
              replace HL := Lib.hid ((Hid.out HL).trans (hb.mono (Hid.out HL).size))
              clear hb
              generalize hgq : w11.heap.size = gq at *
              have y0 : (w11.alloc (.cells #[.string ⟨#[]⟩, .string ⟨#[]⟩, .int .i64 0, .int .i64 0, .int .i64 0, .int .i64 0] 26)).cell? ⟨gp, 0, none⟩ = some (.string ⟨#[]⟩) := HP.out.cell 0
              have y1 : (w11.alloc (.cells #[.string ⟨#[]⟩, .string ⟨#[]⟩, .int .i64 0, .int .i64 0, .int .i64 0, .int .i64 0] 26)).cell? ⟨gp, 1, none⟩ = some (.string ⟨#[]⟩) := HP.out.cell 1
              have y2 : (w11.alloc (.cells #[.string ⟨#[]⟩, .string ⟨#[]⟩, .int .i64 0, .int .i64 0, .int .i64 0, .int .i64 0] 26)).cell? ⟨gp, 2, none⟩ = some (.int .i64 0) := HP.out.cell 2
              have y3 : (w11.alloc (.cells #[.string ⟨#[]⟩, .string ⟨#[]⟩, .int .i64 0, .int .i64 0, .int .i64 0, .int .i64 0] 26)).cell? ⟨gp, 3, none⟩ = some (.int .i64 0) := HP.out.cell 3
              have y4 : (w11.alloc (.cells #[.string ⟨#[]⟩, .string ⟨#[]⟩, .int .i64 0, .int .i64 0, .int .i64 0, .int .i64 0] 26)).cell? ⟨gp, 4, none⟩ = some (.int .i64 0) := HP.out.cell 4
              have y5 : (w11.alloc (.cells #[.string ⟨#[]⟩, .string ⟨#[]⟩, .int .i64 0, .int .i64 0, .int .i64 0, .int .i64 0] 26)).cell? ⟨gp, 5, none⟩ = some (.int .i64 0) := HP.out.cell 5
              have u0 : (w11.alloc (.cells #[.string ⟨#[]⟩, .string ⟨#[]⟩, .int .i64 0, .int .i64 0, .int .i64 0, .int .i64 0] 26)).cell? ⟨gq, 0, none⟩ = some (.string ⟨#[]⟩) := HQ.out.cell 0
              have u1 : (w11.alloc (.cells #[.string ⟨#[]⟩, .string ⟨#[]⟩, .int .i64 0, .int .i64 0, .int .i64 0, .int .i64 0] 26)).cell? ⟨gq, 1, none⟩ = some (.string ⟨#[]⟩) := HQ.out.cell 1
              have u2 : (w11.alloc (.cells #[.string ⟨#[]⟩, .string ⟨#[]⟩, .int .i64 0, .int .i64 0, .int .i64 0, .int .i64 0] 26)).cell? ⟨gq, 2, none⟩ = some (.int .i64 0) := HQ.out.cell 2
              have u3 : (w11.alloc (.cells #[.string ⟨#[]⟩, .string ⟨#[]⟩, .int .i64 0, .int .i64 0, .int .i64 0, .int .i64 0] 26)).cell? ⟨gq, 3, none⟩ = some (.int .i64 0) := HQ.out.cell 3
              have u4 : (w11.alloc (.cells #[.string ⟨#[]⟩, .string ⟨#[]⟩, .int .i64 0, .int .i64 0, .int .i64 0, .int .i64 0] 26)).cell? ⟨gq, 4, none⟩ = some (.int .i64 0) := HQ.out.cell 4
              have u5 : (w11.alloc (.cells #[.string ⟨#[]⟩, .string ⟨#[]⟩, .int .i64 0, .int .i64 0, .int .i64 0, .int .i64 0] 26)).cell? ⟨gq, 5, none⟩ = some (.int .i64 0) := HQ.out.cell 5
              have heq := eqT_same ⟨⟨#[]⟩, ⟨#[]⟩, 0, 0, 0, 0⟩
              simp only at heq
              go_wp2_with fail
              clear hgq y0 y1 y2 y3 y4 y5 u0 u1 u2 u3 u4 u5 heq
              generalize w11.alloc (.cells #[.string ⟨#[]⟩, .string ⟨#[]⟩, .int .i64 0, .int .i64 0, .int .i64 0, .int .i64 0] 26) = w12 at *
              refine (awake_any _ (Lib.hid (HLt.out.next HL.out))).mono ?_
              rintro e w90 ⟨rfl, hb⟩
              replace HL := Lib.hid (HL.out.trans (hb.mono HL.out.size))
              clear hb
              go_wp2
              go_ret
              exact ⟨rfl, HL.out⟩
  · have HBT := Lib.hid hbt
    have HTT : Hid (ofT xs s0 = ⟨s0, sec, m0, m1, m2, m3⟩) := HTY.out hbt
    have hs1 := (hsec hbt).1
    have hs2 := (hsec hbt).2
    rw [hbt] at HUA
    clear hbt hsec HTY HTN
    go_wp2_with fail
    refine (HOF.out w4 A ca xs s0 (by omega) H1.out hsh.out (Lib.hid (HLt.out.next HL.out)) (by omega)).mono ?_
    rw [HTT.out, HBT.out]
    unfold Ten.cells
    rintro e w5 ⟨rfl, hb⟩
    replace HX := Lib.hid (Blk.below (Hid.out HX) hb (Hid.out HX).lt)
    replace H1 := Lib.hid ((Hid.out H1).more_below hb)
    replace HL := Lib.hid ((Hid.out HL).trans (hb.mono (Hid.out HL).size))
    clear hb
    have HP := Lib.hid (Blk.new w5 26 #[.string s0, .string sec, .int .i64 m0, .int .i64 m1, .int .i64 m2, .int .i64 m3])
    have hb := below_lit w5 (.cells #[.string s0, .string sec, .int .i64 m0, .int .i64 m1, .int .i64 m2, .int .i64 m3] 26)
    replace HX := Lib.hid (Blk.below (Hid.out HX) hb (Hid.out HX).lt)
    replace H1 := Lib.hid ((Hid.out H1).more_below hb)
    replace HL := Lib.hid ((Hid.out HL).trans (hb.mono (Hid.out HL).size))
    clear hb
    generalize hgp : w5.heap.size = gp at *
    have y0 : (w5.alloc (.cells #[.string s0, .string sec, .int .i64 m0, .int .i64 m1, .int .i64 m2, .int .i64 m3] 26)).cell? ⟨gp, 0, none⟩ = some (.string s0) := HP.out.cell 0
    have y1 : (w5.alloc (.cells #[.string s0, .string sec, .int .i64 m0, .int .i64 m1, .int .i64 m2, .int .i64 m3] 26)).cell? ⟨gp, 1, none⟩ = some (.string sec) := HP.out.cell 1
    have y2 : (w5.alloc (.cells #[.string s0, .string sec, .int .i64 m0, .int .i64 m1, .int .i64 m2, .int .i64 m3] 26)).cell? ⟨gp, 2, none⟩ = some (.int .i64 m0) := HP.out.cell 2
    have y3 : (w5.alloc (.cells #[.string s0, .string sec, .int .i64 m0, .int .i64 m1, .int .i64 m2, .int .i64 m3] 26)).cell? ⟨gp, 3, none⟩ = some (.int .i64 m1) := HP.out.cell 3
    have y4 : (w5.alloc (.cells #[.string s0, .string sec, .int .i64 m0, .int .i64 m1, .int .i64 m2, .int .i64 m3] 26)).cell? ⟨gp, 4, none⟩ = some (.int .i64 m2) := HP.out.cell 4
    have y5 : (w5.alloc (.cells #[.string s0, .string sec, .int .i64 m0, .int .i64 m1, .int .i64 m2, .int .i64 m3] 26)).cell? ⟨gp, 5, none⟩ = some (.int .i64 m3) := HP.out.cell 5
    go_wp2_with fail
    clear hgp y0 y1 y2 y3 y4 y5
    generalize w5.alloc (.cells #[.string s0, .string sec, .int .i64 m0, .int .i64 m1, .int .i64 m2, .int .i64 m3] 26) = w6 at *
    refine (HAL.out w6 H1.out (Lib.hid (HLt.out.next HL.out))).mono ?_
    rintro e w7 ⟨A7, c7, rfl, -, hR7, hb⟩
    replace HX := Lib.hid (Blk.below (Hid.out HX) hb (Hid.out HX).lt)
    replace HP := Lib.hid (Blk.below (Hid.out HP) hb (Hid.out HP).lt)
    replace H1 := Lib.hid ((Hid.out H1).more_below hb)
    replace HL := Lib.hid ((Hid.out HL).trans (hb.mono (Hid.out HL).size))
    clear hb
    have HR7 := Lib.hid hR7
    clear hR7
    go_wp2_with fail
    go_loopw [10, 11] (fun isv iv wr => ∃ i : Nat, i ≤ S.length ∧ iv = .int .i64 i ∧ isv = .bool (upTo (nm.strs S) s0 i) ∧ Hid (Below w7.heap.size w7 wr)) (fun _ iv _ => S.length - (intOf iv).toNat)
    case atStart => exact ⟨0, by omega, rfl, by rw [HU0.out], Below.refl _ _⟩
    case round =>
      obtain ⟨i, hi, rfl, rfl, hq⟩ := hrel
      have hsq := hq.out.size
      by_cases hlt : i < S.length
      · have hlts : i < (nm.strs S).length := by rw [HSl.out]; exact hlt
        have hrd : Reads wr wr.heap.size 1 A7 (nm.strs S).length ((nm.strs S).flatMap tc) := by rw [HSl.out]; exact HR7.out.more_below hq.out
        obtain ⟨al, hA, hal, c0⟩ := Reads.elem1 (g := Value.string) hrd hlts
        have hst := Lib.hid (HST.out i hlts)
        have hea := HEA.out i hlts
        have hqz := isT_size hea
        generalize hu : upTo (nm.strs S) s0 i = u at *
        clear hu
        by_cases hi0' : i = 0
        · subst hi0'
          clear hrd
          subst hA
          generalize (nm.strs S)[0] = q at *
          replace c0 : wr.cell? al = some (.string q) := by simpa [Addr.add] using c0
          cases u with
          | true =>
            have hdq := Lib.hid (show (true || decide (q = s0)) = true from rfl)
            go_wp2_with fail
            refine (HOF.out _ A ca xs q (by omega) (H1.out.more_below hq.out) hsh.out (Lib.hid (HLt.out.next (HL.out.trans (hq.out.mono HL.out.size)))) (by omega)).mono ?_
            rw [hea]
            generalize ofT xs q = tq at *
            obtain ⟨q0, q1, q2, q3, q4, q5⟩ := tq
            unfold Ten.cells
            simp only
            rintro e w8 ⟨rfl, hb⟩
            have hq8 := hq.out.trans (hb.mono hsq)
            have hba := below_lit w8 (.cells #[.string q0, .string q1, .int .i64 q2, .int .i64 q3, .int .i64 q4, .int .i64 q5] 26)
            have hq9 := Lib.hid (hq8.trans (hba.mono hq8.size))
            have c9 := ((hb.trans (hba.mono hb.size)).cell (p := al) (by exact hal)).trans c0
            clear hb hba hq8 c0
            go_wp2_with fail
            generalize w8.alloc (.cells #[.string q0, .string q1, .int .i64 q2, .int .i64 q3, .int .i64 q4, .int .i64 q5] 26) = w9 at *
            go_quiet (fail)
            have hqn := Lib.hid (below_drewN hq9.out nq)
            go_wp2
            go_roundw
            case rel => exact ⟨1, by omega, by go_num, by rw [hst.out, hdq.out], hqn⟩
            case measure => simp [intOf]; omega
          | false =>
            by_cases he : q = s0
            · have hdq := Lib.hid (show (false || decide (q = s0)) = true by rw [decide_eq_true he]; rfl)
              subst he
              go_wp2_with fail
              refine (HOF.out _ A ca xs q (by omega) (H1.out.more_below hq.out) hsh.out (Lib.hid (HLt.out.next (HL.out.trans (hq.out.mono HL.out.size)))) (by omega)).mono ?_
              rw [hea]
              generalize ofT xs q = tq at *
              obtain ⟨q0, q1, q2, q3, q4, q5⟩ := tq
              unfold Ten.cells
              simp only
              rintro e w8 ⟨rfl, hb⟩
              have hq8 := hq.out.trans (hb.mono hsq)
              have hba := below_lit w8 (.cells #[.string q0, .string q1, .int .i64 q2, .int .i64 q3, .int .i64 q4, .int .i64 q5] 26)
              have hq9 := Lib.hid (hq8.trans (hba.mono hq8.size))
              have c9 := ((hb.trans (hba.mono hb.size)).cell (p := al) (by exact hal)).trans c0
              clear hb hba hq8 c0
              go_wp2_with fail
              generalize w8.alloc (.cells #[.string q0, .string q1, .int .i64 q2, .int .i64 q3, .int .i64 q4, .int .i64 q5] 26) = w9 at *
              go_quiet (fail)
              have hqn := Lib.hid (below_drewN hq9.out nq)
              go_wp2
              go_roundw
              case rel => exact ⟨1, by omega, by go_num, by rw [hst.out, hdq.out], hqn⟩
              case measure => simp [intOf]; omega
            · have hdq := Lib.hid (show (false || decide (q = s0)) = false by rw [decide_eq_false he]; rfl)
              have hne := bytes_ne he
              go_wp2_with fail
              refine (HOF.out _ A ca xs q (by omega) (H1.out.more_below hq.out) hsh.out (Lib.hid (HLt.out.next (HL.out.trans (hq.out.mono HL.out.size)))) (by omega)).mono ?_
              rw [hea]
              generalize ofT xs q = tq at *
              obtain ⟨q0, q1, q2, q3, q4, q5⟩ := tq
              unfold Ten.cells
              simp only
              rintro e w8 ⟨rfl, hb⟩
              have hq8 := hq.out.trans (hb.mono hsq)
              have hba := below_lit w8 (.cells #[.string q0, .string q1, .int .i64 q2, .int .i64 q3, .int .i64 q4, .int .i64 q5] 26)
              have hq9 := Lib.hid (hq8.trans (hba.mono hq8.size))
              have c9 := ((hb.trans (hba.mono hb.size)).cell (p := al) (by exact hal)).trans c0
              clear hb hba hq8 c0
              go_wp2_with fail
              generalize w8.alloc (.cells #[.string q0, .string q1, .int .i64 q2, .int .i64 q3, .int .i64 q4, .int .i64 q5] 26) = w9 at *
              go_quiet (fail)
              have hqn := Lib.hid (below_drewN hq9.out nq)
              go_wp2
              go_roundw
              case rel => exact ⟨1, by omega, by go_num, by rw [hst.out, hdq.out], hqn⟩
              case measure => simp [intOf]; omega
        · obtain ⟨al', hA', -, p0⟩ := Reads.elem1 (g := Value.string) hrd (by omega : i - 1 < (nm.strs S).length)
          have hls := HUL.out i hlts (by omega) (by omega)
          rw [hA] at hA'
          injection hA' with hA'
          subst hA'
          subst hA
          clear hrd
          generalize (nm.strs S)[i] = q at *
          generalize (nm.strs S)[i - 1] = p at *
          have hig : (0 : Int) < i := by omega
          have hia : (0 : Int) ≤ i - 1 := by omega
          have hib : (i : Int) - 1 < S.length := by omega
          have hic : ((i : Int) - 1).toNat = i - 1 := by omega
          have hid1 : IntKind.i64.wrap ((i : Int) - 1) = (i : Int) - 1 := IntWalk.i64_in _ (by omega)
          have hie : decide ((0 : Int) < i) = true := by simp; omega
          have hif : decide (0 < i) = true := by simp; omega
          have hig1 : (1 : Int) ≤ i := by omega
          cases u with
          | true =>
            have hdq := Lib.hid (show (true || decide (q = s0)) = true from rfl)
            go_wp2_with fail
            refine (HOF.out _ A ca xs q (by omega) (H1.out.more_below hq.out) hsh.out (Lib.hid (HLt.out.next (HL.out.trans (hq.out.mono HL.out.size)))) (by omega)).mono ?_
            rw [hea]
            generalize ofT xs q = tq at *
            obtain ⟨q0, q1, q2, q3, q4, q5⟩ := tq
            unfold Ten.cells
            simp only
            rintro e w8 ⟨rfl, hb⟩
            have hq8 := hq.out.trans (hb.mono hsq)
            have hba := below_lit w8 (.cells #[.string q0, .string q1, .int .i64 q2, .int .i64 q3, .int .i64 q4, .int .i64 q5] 26)
            have hq9 := Lib.hid (hq8.trans (hba.mono hq8.size))
            have c9 := ((hb.trans (hba.mono hb.size)).cell (p := al.add i) (by rw [block_of_add]; exact hal)).trans c0
            have p9 := ((hb.trans (hba.mono hb.size)).cell (p := al.add (i - 1)) (by rw [block_of_add]; exact hal)).trans p0
            clear hb hba hq8 c0 p0
            go_wp2_with fail
            generalize w8.alloc (.cells #[.string q0, .string q1, .int .i64 q2, .int .i64 q3, .int .i64 q4, .int .i64 q5] 26) = w9 at *
            go_quiet (fail)
            have hqn := Lib.hid (below_drewN hq9.out nq)
            go_wp2
            go_roundw
            case rel => exact ⟨i + 1, by omega, by go_num, by rw [hst.out, hdq.out], hqn⟩
            case measure => simp [intOf]; omega
          | false =>
            by_cases he : q = s0
            · have hdq := Lib.hid (show (false || decide (q = s0)) = true by rw [decide_eq_true he]; rfl)
              subst he
              go_wp2_with fail
              refine (HOF.out _ A ca xs q (by omega) (H1.out.more_below hq.out) hsh.out (Lib.hid (HLt.out.next (HL.out.trans (hq.out.mono HL.out.size)))) (by omega)).mono ?_
              rw [hea]
              generalize ofT xs q = tq at *
              obtain ⟨q0, q1, q2, q3, q4, q5⟩ := tq
              unfold Ten.cells
              simp only
              rintro e w8 ⟨rfl, hb⟩
              have hq8 := hq.out.trans (hb.mono hsq)
              have hba := below_lit w8 (.cells #[.string q0, .string q1, .int .i64 q2, .int .i64 q3, .int .i64 q4, .int .i64 q5] 26)
              have hq9 := Lib.hid (hq8.trans (hba.mono hq8.size))
              have c9 := ((hb.trans (hba.mono hb.size)).cell (p := al.add i) (by rw [block_of_add]; exact hal)).trans c0
              have p9 := ((hb.trans (hba.mono hb.size)).cell (p := al.add (i - 1)) (by rw [block_of_add]; exact hal)).trans p0
              clear hb hba hq8 c0 p0
              go_wp2_with fail
              generalize w8.alloc (.cells #[.string q0, .string q1, .int .i64 q2, .int .i64 q3, .int .i64 q4, .int .i64 q5] 26) = w9 at *
              go_quiet (fail)
              have hqn := Lib.hid (below_drewN hq9.out nq)
              go_wp2
              go_roundw
              case rel => exact ⟨i + 1, by omega, by go_num, by rw [hst.out, hdq.out], hqn⟩
              case measure => simp [intOf]; omega
            · have hdq := Lib.hid (show (false || decide (q = s0)) = false by rw [decide_eq_false he]; rfl)
              have hne := bytes_ne he
              go_wp2_with fail
              refine (HOF.out _ A ca xs q (by omega) (H1.out.more_below hq.out) hsh.out (Lib.hid (HLt.out.next (HL.out.trans (hq.out.mono HL.out.size)))) (by omega)).mono ?_
              rw [hea]
              generalize ofT xs q = tq at *
              obtain ⟨q0, q1, q2, q3, q4, q5⟩ := tq
              unfold Ten.cells
              simp only
              rintro e w8 ⟨rfl, hb⟩
              have hq8 := hq.out.trans (hb.mono hsq)
              have hba := below_lit w8 (.cells #[.string q0, .string q1, .int .i64 q2, .int .i64 q3, .int .i64 q4, .int .i64 q5] 26)
              have hq9 := Lib.hid (hq8.trans (hba.mono hq8.size))
              have c9 := ((hb.trans (hba.mono hb.size)).cell (p := al.add i) (by rw [block_of_add]; exact hal)).trans c0
              have p9 := ((hb.trans (hba.mono hb.size)).cell (p := al.add (i - 1)) (by rw [block_of_add]; exact hal)).trans p0
              clear hb hba hq8 c0 p0
              go_wp2_with fail
              generalize w8.alloc (.cells #[.string q0, .string q1, .int .i64 q2, .int .i64 q3, .int .i64 q4, .int .i64 q5] 26) = w9 at *
              go_quiet (fail)
              have hqn := Lib.hid (below_drewN hq9.out nq)
              go_wp2
              go_roundw
              case rel => exact ⟨i + 1, by omega, by go_num, by rw [hst.out, hdq.out], hqn⟩
              case measure => simp [intOf]; omega
      · have hi2 : i = S.length := by omega
        subst hi2
        rw [← HSl.out, HUA.out]
        replace HL := Lib.hid (HL.out.trans (hq.out.mono HL.out.size))
        replace HX := Lib.hid (HX.out.below hq.out HX.out.lt)
        replace HP := Lib.hid (HP.out.below hq.out HP.out.lt)
        replace H1 := Lib.hid (H1.out.more_below hq.out)
        clear HST HUA HU0 HEA HUL HR7 hq
        have x0 : wr.cell? ⟨W.heap.size, 0, none⟩ = some (.string kk) := HX.out.cell 0
        have x1 : wr.cell? ⟨W.heap.size, 1, none⟩ = some (.int .i64 n) := HX.out.cell 1
        have x2 : wr.cell? ⟨W.heap.size, 2, none⟩ = some (.string b) := HX.out.cell 2
        have x3 : wr.cell? ⟨W.heap.size, 3, none⟩ = some (.string v) := HX.out.cell 3
        go_wp2_with fail
        refine (HKO.out wr).mono ?_
        rintro e w80 ⟨rfl, rfl⟩
        by_cases hq : kk.size < own.size ∨ kk.extract 0 own.size ≠ own
        case neg =>
          have hq1 : own.size ≤ kk.size := by
            rcases Nat.lt_or_ge kk.size own.size with h | h
            · exact absurd (Or.inl h) hq
            · exact h
          have hq2 : kk.extract 0 own.size = own := by
            by_cases h : kk.extract 0 own.size = own
            · exact h
            · exact absurd (Or.inr h) hq
          clear hq
          go_wp2_with fail
          refine (awake_any _ (Lib.hid (HLt.out.next HL.out))).mono ?_
          rintro e w90 ⟨rfl, hb⟩
          replace HL := Lib.hid (HL.out.trans (hb.mono HL.out.size))
          clear hb
          go_wp2
          go_ret
          exact ⟨rfl, HL.out⟩
        case pos =>
        have HPP := Lib.hid (HPUT.out (HNO.out hq))
        clear HPUT HNO
        have key : ∀ (G : Prop), ((kk.size < own.size → G) ∧ (own.size ≤ kk.size → ((kk.extract 0 own.size).toList == own.toList) = false → G)) → G := by
          rintro G ⟨g1, g2⟩
          by_cases h : kk.size < own.size
          · exact g1 h
          · exact g2 (by omega) (bytes_ne (by rcases hq with h' | h'; exact absurd h' h; exact h'))
        clear hq
        refine key _ ⟨fun hq1 => ?_, fun hq1 hq2 => ?_⟩
        · have hg1 : (decide (own.size ≤ kk.size)) = false := by simp; omega
          cases hnb : isName s0.data.toList with
          | false =>
            go_wp2_with fail
            refine (HNM.out _).mono ?_
            rw [hnb]
            rintro e w81 ⟨rfl, rfl⟩
            go_wp2_with fail
            refine (awake_any _ (Lib.hid (HLt.out.next HL.out))).mono ?_
            rintro e w90 ⟨rfl, hb⟩
            replace HL := Lib.hid (HL.out.trans (hb.mono HL.out.size))
            clear hb
            go_wp2
            go_ret
            exact ⟨rfl, HL.out⟩
          | true =>
            go_wp2_with fail
            refine (HNM.out _).mono ?_
            rw [hnb]
            rintro e w81 ⟨rfl, rfl⟩
            clear hnb
            go_wp2_with fail
            refine (rgy.rputC_any _ A ca xs ⟨kk, ⟨n, b, v⟩⟩ (by omega) hca H1.out HS.out HY.out).mono ?_
            rw [HM.out, Bool.true_and]
            clear x0 x1 x2 x3
            cases hi : rgy.isEntry ⟨kk, ⟨n, b, v⟩⟩ with
            | false =>
              rw [if_neg (by decide), if_neg (by decide)]
              rintro e w10 ⟨v9, rfl, hrow, hb⟩
              obtain ⟨A6, c6, rfl, hr6⟩ := hrow.reads
              have H6 := Lib.hid hr6
              clear hrow hi hr6
              replace HX := Lib.hid (Blk.below (Hid.out HX) hb (Hid.out HX).lt)
              replace HP := Lib.hid (Blk.below (Hid.out HP) hb (Hid.out HP).lt)
              replace H1 := Lib.hid ((Hid.out H1).more_below hb)
              replace HL := Lib.hid ((Hid.out HL).trans (hb.mono (Hid.out HL).size))
              clear hb
              go_wp2_with fail
              refine (HOF.out _ A6 c6 [] s0 (by decide) H6.out (by intro x hx; cases hx) (Lib.hid (HLt.out.next HL.out)) (by omega)).mono ?_
              generalize ofT [] s0 = tq at *
              generalize isT [] s0 = bq at *
              obtain ⟨q0, q1, q2, q3, q4, q5⟩ := tq
              unfold Ten.cells
              simp only
              rintro e w11 ⟨rfl, hb⟩
              replace HX := Lib.hid (Blk.below (Hid.out HX) hb (Hid.out HX).lt)
              replace HP := Lib.hid (Blk.below (Hid.out HP) hb (Hid.out HP).lt)
              replace H1 := Lib.hid ((Hid.out H1).more_below hb)
              replace HL := Lib.hid ((Hid.out HL).trans (hb.mono (Hid.out HL).size))
              clear hb
              have hb := below_lit w11 (.cells #[.string q0, .string q1, .int .i64 q2, .int .i64 q3, .int .i64 q4, .int .i64 q5] 26)
              replace HX := Lib.hid (Blk.below (Hid.out HX) hb (Hid.out HX).lt)
              replace HP := Lib.hid (Blk.below (Hid.out HP) hb (Hid.out HP).lt)
              replace H1 := Lib.hid ((Hid.out H1).more_below hb)
              replace HL := Lib.hid ((Hid.out HL).trans (hb.mono (Hid.out HL).size))
              clear hb
              go_wp2_with fail
              generalize w11.alloc (.cells #[.string q0, .string q1, .int .i64 q2, .int .i64 q3, .int .i64 q4, .int .i64 q5] 26) = w12 at *
              refine (awake_any _ (Lib.hid (HLt.out.next HL.out))).mono ?_
              rintro e w90 ⟨rfl, hb⟩
              replace HL := Lib.hid (HL.out.trans (hb.mono HL.out.size))
              clear hb
              go_wp2
              go_ret
              exact ⟨rfl, HL.out⟩
            | true =>
              rw [if_pos rfl, if_pos rfl]
              have hlen := rgy.putE_len xs ⟨kk, ⟨n, b, v⟩⟩
              generalize rgy.putE xs ⟨kk, ⟨n, b, v⟩⟩ = ps at *
              rintro e w10 ⟨v9, rfl, hrow, hb⟩
              obtain ⟨A6, c6, rfl, hr6⟩ := hrow.reads
              have H6 := Lib.hid hr6
              clear hrow hi hr6
              replace HX := Lib.hid (Blk.below (Hid.out HX) hb (Hid.out HX).lt)
              replace HP := Lib.hid (Blk.below (Hid.out HP) hb (Hid.out HP).lt)
              replace H1 := Lib.hid ((Hid.out H1).more_below hb)
              replace HL := Lib.hid ((Hid.out HL).trans (hb.mono (Hid.out HL).size))
              clear hb
              go_wp2_with fail
              refine (HOF.out _ A6 c6 ps s0 (by omega) H6.out HSP.out (Lib.hid (HLt.out.next HL.out)) (by omega)).mono ?_
              rw [HPP.out.1, HPP.out.2, HTT.out, HBT.out]
              unfold Ten.cells
              rintro e w11 ⟨rfl, hb⟩
              replace HX := Lib.hid (Blk.below (Hid.out HX) hb (Hid.out HX).lt)
              replace HP := Lib.hid (Blk.below (Hid.out HP) hb (Hid.out HP).lt)
              replace H1 := Lib.hid ((Hid.out H1).more_below hb)
              replace HL := Lib.hid ((Hid.out HL).trans (hb.mono (Hid.out HL).size))
              clear hb
              have HQ := Lib.hid (Blk.new w11 26 #[.string s0, .string sec, .int .i64 m0, .int .i64 m1, .int .i64 m2, .int .i64 m3])
              have hb := below_lit w11 (.cells #[.string s0, .string sec, .int .i64 m0, .int .i64 m1, .int .i64 m2, .int .i64 m3] 26)
              replace HX := Lib.hid (Blk.below (Hid.out HX) hb (Hid.out HX).lt)
              replace HP := Lib.hid (Blk.below (Hid.out HP) hb (Hid.out HP).lt)
              replace H1 := Lib.hid ((Hid.out H1).more_below hb)
              replace HL := Lib.hid ((Hid.out HL).trans (hb.mono (Hid.out HL).size))
              clear hb
              generalize hgq : w11.heap.size = gq at *
              have y0 : (w11.alloc (.cells #[.string s0, .string sec, .int .i64 m0, .int .i64 m1, .int .i64 m2, .int .i64 m3] 26)).cell? ⟨gp, 0, none⟩ = some (.string s0) := HP.out.cell 0
              have y1 : (w11.alloc (.cells #[.string s0, .string sec, .int .i64 m0, .int .i64 m1, .int .i64 m2, .int .i64 m3] 26)).cell? ⟨gp, 1, none⟩ = some (.string sec) := HP.out.cell 1
              have y2 : (w11.alloc (.cells #[.string s0, .string sec, .int .i64 m0, .int .i64 m1, .int .i64 m2, .int .i64 m3] 26)).cell? ⟨gp, 2, none⟩ = some (.int .i64 m0) := HP.out.cell 2
              have y3 : (w11.alloc (.cells #[.string s0, .string sec, .int .i64 m0, .int .i64 m1, .int .i64 m2, .int .i64 m3] 26)).cell? ⟨gp, 3, none⟩ = some (.int .i64 m1) := HP.out.cell 3
              have y4 : (w11.alloc (.cells #[.string s0, .string sec, .int .i64 m0, .int .i64 m1, .int .i64 m2, .int .i64 m3] 26)).cell? ⟨gp, 4, none⟩ = some (.int .i64 m2) := HP.out.cell 4
              have y5 : (w11.alloc (.cells #[.string s0, .string sec, .int .i64 m0, .int .i64 m1, .int .i64 m2, .int .i64 m3] 26)).cell? ⟨gp, 5, none⟩ = some (.int .i64 m3) := HP.out.cell 5
              have u0 : (w11.alloc (.cells #[.string s0, .string sec, .int .i64 m0, .int .i64 m1, .int .i64 m2, .int .i64 m3] 26)).cell? ⟨gq, 0, none⟩ = some (.string s0) := HQ.out.cell 0
              have u1 : (w11.alloc (.cells #[.string s0, .string sec, .int .i64 m0, .int .i64 m1, .int .i64 m2, .int .i64 m3] 26)).cell? ⟨gq, 1, none⟩ = some (.string sec) := HQ.out.cell 1
              have u2 : (w11.alloc (.cells #[.string s0, .string sec, .int .i64 m0, .int .i64 m1, .int .i64 m2, .int .i64 m3] 26)).cell? ⟨gq, 2, none⟩ = some (.int .i64 m0) := HQ.out.cell 2
              have u3 : (w11.alloc (.cells #[.string s0, .string sec, .int .i64 m0, .int .i64 m1, .int .i64 m2, .int .i64 m3] 26)).cell? ⟨gq, 3, none⟩ = some (.int .i64 m1) := HQ.out.cell 3
              have u4 : (w11.alloc (.cells #[.string s0, .string sec, .int .i64 m0, .int .i64 m1, .int .i64 m2, .int .i64 m3] 26)).cell? ⟨gq, 4, none⟩ = some (.int .i64 m2) := HQ.out.cell 4
              have u5 : (w11.alloc (.cells #[.string s0, .string sec, .int .i64 m0, .int .i64 m1, .int .i64 m2, .int .i64 m3] 26)).cell? ⟨gq, 5, none⟩ = some (.int .i64 m3) := HQ.out.cell 5
              have heq := eqT_same ⟨s0, sec, m0, m1, m2, m3⟩
              simp only at heq
              go_wp2_with fail
              clear hgq y0 y1 y2 y3 y4 y5 u0 u1 u2 u3 u4 u5 heq
              generalize w11.alloc (.cells #[.string s0, .string sec, .int .i64 m0, .int .i64 m1, .int .i64 m2, .int .i64 m3] 26) = w12 at *
              refine (awake_any _ (Lib.hid (HLt.out.next HL.out))).mono ?_
              rintro e w90 ⟨rfl, hb⟩
              replace HL := Lib.hid (HL.out.trans (hb.mono HL.out.size))
              clear hb
              go_wp2
              go_ret
              exact ⟨rfl, HL.out⟩
        · have hq3 := hq2
          cases hnb : isName s0.data.toList with
          | false =>
            go_wp2_with fail
            refine (HNM.out _).mono ?_
            rw [hnb]
            rintro e w81 ⟨rfl, rfl⟩
            go_wp2_with fail
            refine (awake_any _ (Lib.hid (HLt.out.next HL.out))).mono ?_
            rintro e w90 ⟨rfl, hb⟩
            replace HL := Lib.hid (HL.out.trans (hb.mono HL.out.size))
            clear hb
            go_wp2
            go_ret
            exact ⟨rfl, HL.out⟩
          | true =>
            go_wp2_with fail
            refine (HNM.out _).mono ?_
            rw [hnb]
            rintro e w81 ⟨rfl, rfl⟩
            clear hnb
            go_wp2_with fail
            refine (rgy.rputC_any _ A ca xs ⟨kk, ⟨n, b, v⟩⟩ (by omega) hca H1.out HS.out HY.out).mono ?_
            rw [HM.out, Bool.true_and]
            clear x0 x1 x2 x3
            cases hi : rgy.isEntry ⟨kk, ⟨n, b, v⟩⟩ with
            | false =>
              rw [if_neg (by decide), if_neg (by decide)]
              rintro e w10 ⟨v9, rfl, hrow, hb⟩
              obtain ⟨A6, c6, rfl, hr6⟩ := hrow.reads
              have H6 := Lib.hid hr6
              clear hrow hi hr6
              replace HX := Lib.hid (Blk.below (Hid.out HX) hb (Hid.out HX).lt)
              replace HP := Lib.hid (Blk.below (Hid.out HP) hb (Hid.out HP).lt)
              replace H1 := Lib.hid ((Hid.out H1).more_below hb)
              replace HL := Lib.hid ((Hid.out HL).trans (hb.mono (Hid.out HL).size))
              clear hb
              go_wp2_with fail
              refine (HOF.out _ A6 c6 [] s0 (by decide) H6.out (by intro x hx; cases hx) (Lib.hid (HLt.out.next HL.out)) (by omega)).mono ?_
              generalize ofT [] s0 = tq at *
              generalize isT [] s0 = bq at *
              obtain ⟨q0, q1, q2, q3, q4, q5⟩ := tq
              unfold Ten.cells
              simp only
              rintro e w11 ⟨rfl, hb⟩
              replace HX := Lib.hid (Blk.below (Hid.out HX) hb (Hid.out HX).lt)
              replace HP := Lib.hid (Blk.below (Hid.out HP) hb (Hid.out HP).lt)
              replace H1 := Lib.hid ((Hid.out H1).more_below hb)
              replace HL := Lib.hid ((Hid.out HL).trans (hb.mono (Hid.out HL).size))
              clear hb
              have hb := below_lit w11 (.cells #[.string q0, .string q1, .int .i64 q2, .int .i64 q3, .int .i64 q4, .int .i64 q5] 26)
              replace HX := Lib.hid (Blk.below (Hid.out HX) hb (Hid.out HX).lt)
              replace HP := Lib.hid (Blk.below (Hid.out HP) hb (Hid.out HP).lt)
              replace H1 := Lib.hid ((Hid.out H1).more_below hb)
              replace HL := Lib.hid ((Hid.out HL).trans (hb.mono (Hid.out HL).size))
              clear hb
              go_wp2_with fail
              generalize w11.alloc (.cells #[.string q0, .string q1, .int .i64 q2, .int .i64 q3, .int .i64 q4, .int .i64 q5] 26) = w12 at *
              refine (awake_any _ (Lib.hid (HLt.out.next HL.out))).mono ?_
              rintro e w90 ⟨rfl, hb⟩
              replace HL := Lib.hid (HL.out.trans (hb.mono HL.out.size))
              clear hb
              go_wp2
              go_ret
              exact ⟨rfl, HL.out⟩
            | true =>
              rw [if_pos rfl, if_pos rfl]
              have hlen := rgy.putE_len xs ⟨kk, ⟨n, b, v⟩⟩
              generalize rgy.putE xs ⟨kk, ⟨n, b, v⟩⟩ = ps at *
              rintro e w10 ⟨v9, rfl, hrow, hb⟩
              obtain ⟨A6, c6, rfl, hr6⟩ := hrow.reads
              have H6 := Lib.hid hr6
              clear hrow hi hr6
              replace HX := Lib.hid (Blk.below (Hid.out HX) hb (Hid.out HX).lt)
              replace HP := Lib.hid (Blk.below (Hid.out HP) hb (Hid.out HP).lt)
              replace H1 := Lib.hid ((Hid.out H1).more_below hb)
              replace HL := Lib.hid ((Hid.out HL).trans (hb.mono (Hid.out HL).size))
              clear hb
              go_wp2_with fail
              refine (HOF.out _ A6 c6 ps s0 (by omega) H6.out HSP.out (Lib.hid (HLt.out.next HL.out)) (by omega)).mono ?_
              rw [HPP.out.1, HPP.out.2, HTT.out, HBT.out]
              unfold Ten.cells
              rintro e w11 ⟨rfl, hb⟩
              replace HX := Lib.hid (Blk.below (Hid.out HX) hb (Hid.out HX).lt)
              replace HP := Lib.hid (Blk.below (Hid.out HP) hb (Hid.out HP).lt)
              replace H1 := Lib.hid ((Hid.out H1).more_below hb)
              replace HL := Lib.hid ((Hid.out HL).trans (hb.mono (Hid.out HL).size))
              clear hb
              have HQ := Lib.hid (Blk.new w11 26 #[.string s0, .string sec, .int .i64 m0, .int .i64 m1, .int .i64 m2, .int .i64 m3])
              have hb := below_lit w11 (.cells #[.string s0, .string sec, .int .i64 m0, .int .i64 m1, .int .i64 m2, .int .i64 m3] 26)
              replace HX := Lib.hid (Blk.below (Hid.out HX) hb (Hid.out HX).lt)
              replace HP := Lib.hid (Blk.below (Hid.out HP) hb (Hid.out HP).lt)
              replace H1 := Lib.hid ((Hid.out H1).more_below hb)
              replace HL := Lib.hid ((Hid.out HL).trans (hb.mono (Hid.out HL).size))
              clear hb
              generalize hgq : w11.heap.size = gq at *
              have y0 : (w11.alloc (.cells #[.string s0, .string sec, .int .i64 m0, .int .i64 m1, .int .i64 m2, .int .i64 m3] 26)).cell? ⟨gp, 0, none⟩ = some (.string s0) := HP.out.cell 0
              have y1 : (w11.alloc (.cells #[.string s0, .string sec, .int .i64 m0, .int .i64 m1, .int .i64 m2, .int .i64 m3] 26)).cell? ⟨gp, 1, none⟩ = some (.string sec) := HP.out.cell 1
              have y2 : (w11.alloc (.cells #[.string s0, .string sec, .int .i64 m0, .int .i64 m1, .int .i64 m2, .int .i64 m3] 26)).cell? ⟨gp, 2, none⟩ = some (.int .i64 m0) := HP.out.cell 2
              have y3 : (w11.alloc (.cells #[.string s0, .string sec, .int .i64 m0, .int .i64 m1, .int .i64 m2, .int .i64 m3] 26)).cell? ⟨gp, 3, none⟩ = some (.int .i64 m1) := HP.out.cell 3
              have y4 : (w11.alloc (.cells #[.string s0, .string sec, .int .i64 m0, .int .i64 m1, .int .i64 m2, .int .i64 m3] 26)).cell? ⟨gp, 4, none⟩ = some (.int .i64 m2) := HP.out.cell 4
              have y5 : (w11.alloc (.cells #[.string s0, .string sec, .int .i64 m0, .int .i64 m1, .int .i64 m2, .int .i64 m3] 26)).cell? ⟨gp, 5, none⟩ = some (.int .i64 m3) := HP.out.cell 5
              have u0 : (w11.alloc (.cells #[.string s0, .string sec, .int .i64 m0, .int .i64 m1, .int .i64 m2, .int .i64 m3] 26)).cell? ⟨gq, 0, none⟩ = some (.string s0) := HQ.out.cell 0
              have u1 : (w11.alloc (.cells #[.string s0, .string sec, .int .i64 m0, .int .i64 m1, .int .i64 m2, .int .i64 m3] 26)).cell? ⟨gq, 1, none⟩ = some (.string sec) := HQ.out.cell 1
              have u2 : (w11.alloc (.cells #[.string s0, .string sec, .int .i64 m0, .int .i64 m1, .int .i64 m2, .int .i64 m3] 26)).cell? ⟨gq, 2, none⟩ = some (.int .i64 m0) := HQ.out.cell 2
              have u3 : (w11.alloc (.cells #[.string s0, .string sec, .int .i64 m0, .int .i64 m1, .int .i64 m2, .int .i64 m3] 26)).cell? ⟨gq, 3, none⟩ = some (.int .i64 m1) := HQ.out.cell 3
              have u4 : (w11.alloc (.cells #[.string s0, .string sec, .int .i64 m0, .int .i64 m1, .int .i64 m2, .int .i64 m3] 26)).cell? ⟨gq, 4, none⟩ = some (.int .i64 m2) := HQ.out.cell 4
              have u5 : (w11.alloc (.cells #[.string s0, .string sec, .int .i64 m0, .int .i64 m1, .int .i64 m2, .int .i64 m3] 26)).cell? ⟨gq, 5, none⟩ = some (.int .i64 m3) := HQ.out.cell 5
              have heq := eqT_same ⟨s0, sec, m0, m1, m2, m3⟩
              simp only at heq
              go_wp2_with fail
              clear hgq y0 y1 y2 y3 y4 y5 u0 u1 u2 u3 u4 u5 heq
              generalize w11.alloc (.cells #[.string s0, .string sec, .int .i64 m0, .int .i64 m1, .int .i64 m2, .int .i64 m3] 26) = w12 at *
              refine (awake_any _ (Lib.hid (HLt.out.next HL.out))).mono ?_
              rintro e w90 ⟨rfl, hb⟩
              replace HL := Lib.hid (HL.out.trans (hb.mono HL.out.size))
              clear hb
              go_wp2
              go_ret
              exact ⟨rfl, HL.out⟩
theorem sound_all (W : World) (v0 : Value) (v1 : Value) (v2 : Value) (h0 : V22 W v0) (h1 : V9 W v1) (h2 : V38 W v2) (HLt : Hid (Lets W)) :
    Calls Tryz.prog 5 #[v0, v1, v2] W fun e w' => e = .returned (.bool true) ∧ Below W.heap.size W w' := by
  obtain ⟨A, ca, xs, rfl, a1, a2, hR, hz⟩ := rgy.ents h0
  obtain ⟨q, rfl, hq⟩ := h1
  obtain ⟨r, rfl, hr⟩ := h2
  exact sound_walk W A ca xs q.v r.key_ r.regN r.regBy r.regValue HLt (Nat.le_trans a1 a2) a1 hR hz ⟨hr.1, hr.2.2.1, hr.2.2.2⟩ hq
end Go.Proofs.YtjbompimlopdiaaGreatDoor.te
