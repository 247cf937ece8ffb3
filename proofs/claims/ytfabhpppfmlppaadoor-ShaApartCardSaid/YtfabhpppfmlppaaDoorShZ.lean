/- Sha: lists that are not the same; the law Apart. -/
import Derived.Test.YtfabhpppfmlppaaDoorShY
import Derived.Test.YtfabhpppfmlppaaDoorOcN
namespace Go.Proofs.YtfabhpppfmlppaaDoor.shr
open Go.ChangeShapes Go.WideShapes Go.ChangeAt Go.RowKit Go.Proofs.Aid
open Go.Proofs.YtfabhpppfmlppaaDoor.oc (be be_length bz bz_append)
open Go.Proofs.YtfabhpppfmlppaaDoor.texts (tc)
open Go.Proofs.YtfabhpppfmlppaaDoor.sha
set_option linter.unusedVariables false
def SameD (xs ys : List ByteArray) (w : World) (e : Ending) (w' : World) : Prop := e = .returned (.bool (decide (xs = ys))) ∧ Below w.heap.size w w'
theorem SameD.no {xs ys : List ByteArray} {w w' : World} (h : xs ≠ ys) (hb : Below w.heap.size w w') : SameD xs ys w (.returned (.bool false)) w' := ⟨by rw [decide_eq_false h], hb⟩
theorem SameD.yes {xs ys : List ByteArray} {w w' : World} (h : xs = ys) (hb : Below w.heap.size w w') : SameD xs ys w (.returned (.bool true)) w' := ⟨by rw [decide_eq_true h], hb⟩
set_option maxRecDepth 100000 in
set_option maxHeartbeats 2000000 in
theorem sameTexts_any (w : World) (A B : Option Addr) (ca cb : Nat) (xs ys : List ByteArray) (hl : xs.length ≤ 1099511627776) (hl2 : ys.length ≤ 1099511627776) (h1 : Reads w w.heap.size 1 A xs.length (xs.flatMap tc)) (h2 : Reads w w.heap.size 1 B ys.length (ys.flatMap tc)) :
    Calls Tryd.prog 15 #[.slice A xs.length ca, .slice B ys.length cb] w (SameD xs ys w) := by
  have H1 := Lib.hid h1
  have H2 := Lib.hid h2
  clear h1 h2
  by_cases hne : xs.length = ys.length
  · have HNE := Lib.hid hne
    have hn1 : ((xs.length : Int) == (ys.length : Int)) = true := by simp [hne]
    have HB0 := Lib.hid (Below.refl w.heap.size w)
    have hle1 : xs.length ≤ ys.length := by omega
    have hle2 : ys.length ≤ xs.length := by omega
    have ht0 : Hid (xs.take 0 = ys.take 0) := rfl
    clear hne
    go_enter Tryd.func15, Tryd.ntmps15
    go_wp2_with fail
    go_loopw [5] (fun iv wr => ∃ k : Nat, k ≤ xs.length ∧ iv = .int .i64 k ∧ Hid (xs.take k = ys.take k) ∧ Hid (Below w.heap.size w wr)) (fun iv _ => xs.length - (intOf iv).toNat)
    case atStart => exact ⟨0, by omega, rfl, ht0, HB0⟩
    case round =>
      clear HB0 ht0 hn1
      obtain ⟨k, hk, rfl, ht, hlow⟩ := hrel
      by_cases hlt : k < xs.length
      · have hlt2 : k < ys.length := by omega
        obtain ⟨ad, rfl, hbl, c0⟩ := (H1.out.below hlow.out).elem1 hlt
        obtain ⟨ad2, rfl, hbl2, c1⟩ := (H2.out.below hlow.out).elem1 hlt2
        have t1 := Lib.hid (List.take_succ_eq_append_getElem hlt)
        have t2 := Lib.hid (List.take_succ_eq_append_getElem hlt2)
        by_cases he : xs[k] = ys[k]
        · have HT : Hid (xs.take (k + 1) = ys.take (k + 1)) := by unfold Hid; rw [t1.out, t2.out, ht.out, he]
          rw [he] at c0
          clear t1 t2 he ht
          generalize ys[k] = y at *
          have HB := Lib.hid (fun n => below_drewN hlow.out n)
          clear hlow
          go_wp2
          go_quiet (fail)
          go_wp2
          go_roundw
          case rel => exact ⟨k + 1, by omega, by go_num, HT, HB.out _⟩
          case measure => simp [intOf]; omega
        · have HF : Hid (∀ n, SameD xs ys w (.returned (.bool false)) (wr.drewN n)) := fun n => SameD.no (fun e => he (by subst e; rfl)) (below_drewN hlow.out n)
          have hb1 := bytes_ne he
          clear t1 t2 ht he hlow
          generalize xs[k] = x at *
          generalize ys[k] = y at *
          go_wp2
          go_quiet (fail)
          go_wp2
          go_ret
          exact HF.out _
      · have HF : Hid (SameD xs ys w (.returned (.bool true)) wr) := SameD.yes (by have h := ht.out; rw [List.take_of_length_le (by omega), List.take_of_length_le (by omega)] at h; exact h) hlow.out
        have hlt2 : ¬ k < ys.length := by omega
        clear hlow ht
        go_wp2
        go_ret
        exact HF.out
  · have HF : Hid (SameD xs ys w (.returned (.bool false)) w) := SameD.no (fun e => hne (by rw [e])) (Below.refl _ _)
    have hn1 : ((xs.length : Int) == (ys.length : Int)) = false := by rw [beq_eq_false_iff_ne]; omega
    clear hne
    go_enter Tryd.func15, Tryd.ntmps15
    go_wp2
    go_ret
    exact HF.out
theorem tes_inj {a b : List ByteArray} (ha : a.length ≤ 65536) (hb : b.length ≤ 65536) (za : ∀ s ∈ a, s.size ≤ 1048576) (zb : ∀ s ∈ b, s.size ≤ 1048576) (h : oc.tesB a = oc.tesB b) : a = b := by
  have h1 := oc.texts_back a [] ha za
  have h2 := oc.texts_back b [] hb zb
  rw [h, h2] at h1
  exact (congrArg Prod.fst h1).symm
set_option maxRecDepth 100000 in
set_option maxHeartbeats 8000000 in
theorem apart_all (W : World) (v0 v1 : Value) (h0 : V25 W v0) (h1 : V25 W v1) (hl : Hid (Lets W)) :
    Calls Tryd.prog 5 #[v0, v1] W fun e w' => e = .returned (.bool true) ∧ Below W.heap.size W w' := by
  obtain ⟨A, ca, l, rfl, hlm, hsm, hr⟩ := texts_of h0
  obtain ⟨B, cb, m, rfl, hlm2, hsm2, hr2⟩ := texts_of h1
  have HR := Lib.hid hr
  have HQ := Lib.hid hr2
  have HA := Lib.hid (fun w' (h : Lets w') => awake_any w' h)
  have HF := Lib.hid (oc.qfew_any W A ca l hlm hr hsm)
  have HG := Lib.hid (oc.qfew_any W B cb m hlm2 hr2 hsm2)
  clear hr hr2 hsm hsm2
  go_enter Tryd.func5, Tryd.ntmps5
  go_wp2_with fail
  refine HF.out.mono ?_
  rintro e w1 ⟨b, rfl, rfl, hfew⟩
  cases b with
  | false =>
    clear hfew
    go_wp2_with fail
    refine (HA.out _ hl.out).mono ?_
    rintro e w2 ⟨rfl, hB⟩
    have HB := Lib.hid hB
    clear hB
    go_wp2
    go_ret
    exact ⟨rfl, HB.out⟩
  | true =>
    obtain ⟨f1, f2⟩ := hfew rfl
    have F1 := Lib.hid f1
    have F2 := Lib.hid f2
    clear hfew f1 f2
    go_wp2_with fail
    refine HG.out.mono ?_
    rintro e w2 ⟨b, rfl, rfl, hfew⟩
    cases b with
    | false =>
      clear hfew
      go_wp2_with fail
      refine (HA.out _ hl.out).mono ?_
      rintro e w2 ⟨rfl, hB⟩
      have HB := Lib.hid hB
      clear hB
      go_wp2
      go_ret
      exact ⟨rfl, HB.out⟩
    | true =>
      obtain ⟨g1, g2⟩ := hfew rfl
      have G1 := Lib.hid g1
      have G2 := Lib.hid g2
      clear hfew g1 g2
      have HI : Hid (decide (l = m) = decide (bz (oc.tesB l) = bz (oc.tesB m))) := by
        by_cases h : l = m
        · subst h; simp [Hid]
        · have h2 : bz (oc.tesB l) ≠ bz (oc.tesB m) := fun e => h (tes_inj (by have := F1.out; omega) (by have := G1.out; omega) (fun s hs => by have := F2.out s hs; omega) (fun s hs => by have := G2.out s hs; omega) (congrArg (fun z : ByteArray => z.data.toList) e))
          unfold Hid
          rw [decide_eq_false h, decide_eq_false h2]
      have HT1 := Lib.hid (fun w' (h : Below w2.heap.size w2 w') => oc.qtextsB_any A ca l w' (by have := F1.out; omega) (fun s hs => by have := F2.out s hs; omega) ((HR.out.below h).more h.size))
      have HT2 := Lib.hid (fun w' (h : Below w2.heap.size w2 w') => oc.qtextsB_any B cb m w' (by have := G1.out; omega) (fun s hs => by have := G2.out s hs; omega) ((HQ.out.below h).more h.size))
      have HSM := Lib.hid (fun w' (h : Below w2.heap.size w2 w') => sameTexts_any w' A B ca cb l m (by have := F1.out; omega) (by have := G1.out; omega) ((HR.out.below h).more h.size) ((HQ.out.below h).more h.size))
      have HO1 := Lib.hid (fun w' (h : Below w2.heap.size w2 w') => of_any A ca l w' (by have := F1.out; omega) (fun s hs => by have := F2.out s hs; omega) ((HR.out.below h).more h.size) (hl.out.below h (Nat.le_refl _)))
      have HO2 := Lib.hid (fun w' (h : Below w2.heap.size w2 w') => of_any B cb m w' (by have := G1.out; omega) (fun s hs => by have := G2.out s hs; omega) ((HQ.out.below h).more h.size) (hl.out.below h (Nat.le_refl _)))
      have hz1 : (bz (oc.tesB l)).size ≤ 1099511627776 := by
        have h1 := oc.flat_len (m := 1024) l F2.out
        have h2 : l.length * (4 + 1024) ≤ 20 * (4 + 1024) := Nat.mul_le_mul_right _ F1.out
        rw [oc.bz_size, oc.tesB, List.length_append, be_length]
        omega
      have hz2 : (bz (oc.tesB m)).size ≤ 1099511627776 := by
        have h1 := oc.flat_len (m := 1024) m G2.out
        have h2 : m.length * (4 + 1024) ≤ 20 * (4 + 1024) := Nat.mul_le_mul_right _ G1.out
        rw [oc.bz_size, oc.tesB, List.length_append, be_length]
        omega
      have HS1 : Hid (∀ w', Below w2.heap.size w2 w' → Calls Tryd.prog 6 #[.string (bz (oc.tesB l))] w' (Summed (oc.tesB l) w')) := fun w' h => sum_any (bz (oc.tesB l)) w' hz1 (hl.out.below h (Nat.le_refl _))
      have HS2 : Hid (∀ w', Below w2.heap.size w2 w' → Calls Tryd.prog 6 #[.string (bz (oc.tesB m))] w' (Summed (oc.tesB m) w')) := fun w' h => sum_any (bz (oc.tesB m)) w' hz2 (hl.out.below h (Nat.le_refl _))
      have HAW := Lib.hid (fun w' (h : Below w2.heap.size w2 w') => awake_any w' (hl.out.below h (Nat.le_refl _)))
      clear hz1 hz2 HF HG HA
      have HB0 := Lib.hid (Below.refl w2.heap.size w2)
      go_wp2_with fail
      refine (HT1.out _ HB0.out).mono ?_
      rintro e w3 ⟨rfl, hB⟩
      have HB1 := Lib.hid (HB0.out.trans (hB.mono HB0.out.size))
      clear hB HB0 HT1
      go_wp2_with fail
      refine (HT2.out _ HB1.out).mono ?_
      rintro e w4 ⟨rfl, hB⟩
      have HB2 := Lib.hid (HB1.out.trans (hB.mono HB1.out.size))
      clear hB HB1 HT2
      generalize bz (oc.tesB l) = x at *
      generalize bz (oc.tesB m) = y at *
      go_wp2_with fail
      refine (HSM.out _ HB2.out).mono ?_
      rintro e w5 ⟨rfl, hB⟩
      have HB3 := Lib.hid (HB2.out.trans (hB.mono HB2.out.size))
      clear hB HB2 HSM
      rw [HI.out]
      clear HI
      clear HR HQ F1 F2 G1 G2
      by_cases hxy : x = y
      · subst hxy
        have hd : decide (x = x) = true := decide_eq_true rfl
        rw [hd]
        clear hd
        go_wp2_with fail
        refine (HO1.out _ HB3.out).mono ?_
        rintro e w6 ⟨rfl, hB⟩
        rw [laidStr]
        have HB4 := Lib.hid (HB3.out.trans (hB.mono HB3.out.size))
        clear hB HB3 HO1
        go_wp2_with fail
        refine (HO2.out _ HB4.out).mono ?_
        rintro e w7 ⟨rfl, hB⟩
        rw [laidStr]
        have HB5 := Lib.hid (HB4.out.trans (hB.mono HB4.out.size))
        clear hB HB4 HO2
        have HS1' : Hid (∀ w', Below w2.heap.size w2 w' → Calls Tryd.prog 6 #[.string x] w' fun e w'' => e = .returned (.string (bz (shaB (oc.tesB l)))) ∧ Below w'.heap.size w' w'') := HS1.out
        have HS2' : Hid (∀ w', Below w2.heap.size w2 w' → Calls Tryd.prog 6 #[.string x] w' fun e w'' => e = .returned (.string (bz (shaB (oc.tesB m)))) ∧ Below w'.heap.size w' w'') := HS2.out
        clear HS1 HS2
        generalize bz (shaB (oc.tesB l)) = p at *
        generalize bz (shaB (oc.tesB m)) = q at *
        by_cases hpq : p = q
        · subst hpq
          go_wp2_with fail
          refine (HS1'.out _ HB5.out).mono ?_
          rintro e w8 ⟨rfl, hB⟩
          have HB6 := Lib.hid (HB5.out.trans (hB.mono HB5.out.size))
          clear hB HB5 HS1'
          go_wp2_with fail
          refine (HS2'.out _ HB6.out).mono ?_
          rintro e w9 ⟨rfl, hB⟩
          have HB7 := Lib.hid (HB6.out.trans (hB.mono HB6.out.size))
          clear hB HB6 HS2'
          go_wp2_with fail
          refine (HAW.out _ HB7.out).mono ?_
          rintro e w10 ⟨rfl, hB⟩
          have HB8 := Lib.hid (HB7.out.trans (hB.mono HB7.out.size))
          clear hB HB7 HAW
          go_wp2
          go_ret
          exact ⟨rfl, HB8.out⟩
        · have hb2 := bytes_ne hpq
          clear hpq
          go_wp2_with fail
          refine (HS1'.out _ HB5.out).mono ?_
          rintro e w8 ⟨rfl, hB⟩
          have HB6 := Lib.hid (HB5.out.trans (hB.mono HB5.out.size))
          clear hB HB5 HS1'
          go_wp2_with fail
          refine (HS2'.out _ HB6.out).mono ?_
          rintro e w9 ⟨rfl, hB⟩
          have HB7 := Lib.hid (HB6.out.trans (hB.mono HB6.out.size))
          clear hB HB6 HS2'
          go_wp2_with fail
          refine (HAW.out _ HB7.out).mono ?_
          rintro e w10 ⟨rfl, hB⟩
          have HB8 := Lib.hid (HB7.out.trans (hB.mono HB7.out.size))
          clear hB HB7 HAW
          go_wp2
          go_ret
          exact ⟨rfl, HB8.out⟩
      · have hd : decide (x = y) = false := decide_eq_false hxy
        rw [hd]
        clear hd
        have hb1 := bytes_ne hxy
        clear hxy
        go_wp2_with fail
        refine (HO1.out _ HB3.out).mono ?_
        rintro e w6 ⟨rfl, hB⟩
        rw [laidStr]
        have HB4 := Lib.hid (HB3.out.trans (hB.mono HB3.out.size))
        clear hB HB3 HO1
        go_wp2_with fail
        refine (HO2.out _ HB4.out).mono ?_
        rintro e w7 ⟨rfl, hB⟩
        rw [laidStr]
        have HB5 := Lib.hid (HB4.out.trans (hB.mono HB4.out.size))
        clear hB HB4 HO2
        have HS1' : Hid (∀ w', Below w2.heap.size w2 w' → Calls Tryd.prog 6 #[.string x] w' fun e w'' => e = .returned (.string (bz (shaB (oc.tesB l)))) ∧ Below w'.heap.size w' w'') := HS1.out
        have HS2' : Hid (∀ w', Below w2.heap.size w2 w' → Calls Tryd.prog 6 #[.string y] w' fun e w'' => e = .returned (.string (bz (shaB (oc.tesB m)))) ∧ Below w'.heap.size w' w'') := HS2.out
        clear HS1 HS2
        generalize bz (shaB (oc.tesB l)) = p at *
        generalize bz (shaB (oc.tesB m)) = q at *
        by_cases hpq : p = q
        · subst hpq
          go_wp2_with fail
          refine (HS1'.out _ HB5.out).mono ?_
          rintro e w8 ⟨rfl, hB⟩
          have HB6 := Lib.hid (HB5.out.trans (hB.mono HB5.out.size))
          clear hB HB5 HS1'
          go_wp2_with fail
          refine (HS2'.out _ HB6.out).mono ?_
          rintro e w9 ⟨rfl, hB⟩
          have HB7 := Lib.hid (HB6.out.trans (hB.mono HB6.out.size))
          clear hB HB6 HS2'
          go_wp2_with fail
          refine (HAW.out _ HB7.out).mono ?_
          rintro e w10 ⟨rfl, hB⟩
          have HB8 := Lib.hid (HB7.out.trans (hB.mono HB7.out.size))
          clear hB HB7 HAW
          go_wp2
          go_ret
          exact ⟨rfl, HB8.out⟩
        · have hb2 := bytes_ne hpq
          clear hpq
          go_wp2_with fail
          refine (HS1'.out _ HB5.out).mono ?_
          rintro e w8 ⟨rfl, hB⟩
          have HB6 := Lib.hid (HB5.out.trans (hB.mono HB5.out.size))
          clear hB HB5 HS1'
          go_wp2_with fail
          refine (HS2'.out _ HB6.out).mono ?_
          rintro e w9 ⟨rfl, hB⟩
          have HB7 := Lib.hid (HB6.out.trans (hB.mono HB6.out.size))
          clear hB HB6 HS2'
          go_wp2_with fail
          refine (HAW.out _ HB7.out).mono ?_
          rintro e w10 ⟨rfl, hB⟩
          have HB8 := Lib.hid (HB7.out.trans (hB.mono HB7.out.size))
          clear hB HB7 HAW
          go_wp2
          go_ret
          exact ⟨rfl, HB8.out⟩
end Go.Proofs.YtfabhpppfmlppaaDoor.shr
