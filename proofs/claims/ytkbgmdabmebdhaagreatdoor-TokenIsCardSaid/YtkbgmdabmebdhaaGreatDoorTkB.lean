/- Token: Check. -/
import Derived.Test.YtkbgmdabmebdhaaGreatDoorTkA
import Derived.Test.YtkbgmdabmebdhaaGreatDoorTeU
namespace Go.Proofs.YtkbgmdabmebdhaaGreatDoor.tk
open Go.ChangeShapes Go.WideShapes Go.ChangeAt Go.RowKit Go.Proofs.Aid Go.Proofs.YtkbgmdabmebdhaaGreatDoor.rgy Go.Proofs.YtkbgmdabmebdhaaGreatDoor.name
open Go.Proofs.YtkbgmdabmebdhaaGreatDoor.oc (be be_length bz bz_append teB textS numS St RAt RPost pv pb)
open Go.Proofs.YtkbgmdabmebdhaaGreatDoor.mac (macB msum_any MStr IsD is_yes is_no)
open Go.Proofs.YtkbgmdabmebdhaaGreatDoor.te
set_option linter.unusedVariables false
theorem mis_any (k s z : ByteArray) (w : World) (hk : k.size ≤ 1000000) (hs : s.size ≤ 1000000) (hl : sha.Lets w) :
    Calls Tryz.prog 24 #[.string k, .string s, .string z] w (IsD (decide (bz (macB k.data.toList s.data.toList) = z)) w) := by
  by_cases h : bz (macB k.data.toList s.data.toList) = z
  · rw [decide_eq_true h, ← h]; exact is_yes k s w hk hs hl
  · rw [decide_eq_false h]; exact is_no k s z w hk hs h hl
def chk (xs : List En) (s : ByteArray) (now : Int) : Bool :=
  okR (cutA s) && (isName (rA (cutA s)).1.data.toList && (isName (rB (cutA s)).1.data.toList && (isT xs (rA (cutA s)).1 && (decide (bz (macB (secV xs (rA (cutA s)).1).data.toList (cutA s).data.toList) = cutZ s) && decide (now ≤ (rC (cutA s)).1)))))
def Ck (b : Bool) (A B : ByteArray) (w : World) (e : Ending) (w' : World) : Prop :=
  e = .returned (.tuple (if b then #[.string A, .string B, .int .i64 0] else #[.string ⟨#[]⟩, .string ⟨#[]⟩, .int .i64 7])) ∧ Below w.heap.size w w'
def stSz : St → Nat
  | none => 0
  | some s => s.size
theorem take_sz (n : Int) (st : St) : (oc.takeS n st).1.size ≤ stSz st ∧ stSz (oc.takeS n st).2 ≤ stSz st := by
  cases st with
  | none => exact ⟨Nat.le_refl _, Nat.le_refl _⟩
  | some s =>
    by_cases hl : n ≤ s.size
    · have e : oc.takeS n (some s) = (s.extract 0 n.toNat, some (s.extract n.toNat s.size)) := if_pos hl
      rw [e]
      refine ⟨?_, ?_⟩
      · show (s.extract 0 n.toNat).size ≤ s.size
        rw [ByteArray.size_extract]; omega
      · show (s.extract n.toNat s.size).size ≤ s.size
        rw [ByteArray.size_extract]; omega
    · have e : oc.takeS n (some s) = (⟨#[]⟩, none) := if_neg hl
      rw [e]
      exact ⟨Nat.zero_le _, Nat.zero_le _⟩
theorem count_sz (m : Int) (st : St) : stSz (oc.countS m st).2 ≤ stSz st := by
  unfold oc.countS
  split
  · exact Nat.zero_le _
  · exact (take_sz _ st).2
theorem text_sz (st : St) : (textS st).1.size ≤ stSz st ∧ stSz (textS st).2 ≤ stSz st := by
  have h1 := count_sz 1048576 st
  have h2 := take_sz (oc.countS 1048576 st).1 (oc.countS 1048576 st).2
  unfold textS
  omega
theorem rA_size (p : ByteArray) : (rA p).1.size ≤ p.size := (text_sz (some p)).1
theorem rB_size (p : ByteArray) : (rB p).1.size ≤ p.size := by
  have h1 := text_sz (some p)
  have h2 := text_sz (rA p).2
  have h3 : stSz (rA p).2 ≤ p.size := h1.2
  have h4 : (rB p).1.size ≤ stSz (rA p).2 := h2.1
  omega
set_option maxRecDepth 100000 in
set_option maxHeartbeats 4000000 in
theorem check_any (w : World) (A : Option Addr) (ca : Nat) (xs : List En) (s : ByteArray) (now : Int) (hl : xs.length ≤ 100000) (h1 : Reads w w.heap.size 4 A xs.length (xs.flatMap En.cells)) (hsh : short xs) (hs : s.size ≤ 1000000) (HLt : Hid (nm.Lets w)) :
    Calls Tryz.prog 8 #[.slice A xs.length ca, .string s, .int .i64 now] w (Ck (chk xs s now) (rA (cutA s)).1 (rB (cutA s)).1 w) := by
  have H1 := Lib.hid h1
  have HR := Lib.hid (read_any s w hs)
  have HC := Lib.hid (fun w => cut_any s w hs)
  have HA : Hid ((rA (cutA s)).1.size ≤ 1000000) := by
    have h := rA_size (cutA s)
    have h2 : (cutA s).size ≤ s.size := by unfold cutA; rw [ByteArray.size_extract]; omega
    unfold Hid; omega
  have HB : Hid ((rB (cutA s)).1.size ≤ maxLen) := by
    have h := rB_size (cutA s)
    have h2 : (cutA s).size ≤ s.size := by unfold cutA; rw [ByteArray.size_extract]; omega
    unfold Hid maxLen; omega
  have HO := Lib.hid (fun w h hL => tof_any w A ca xs (rA (cutA s)).1 hl h hsh HA.out hL)
  have hpz : Hid ((cutA s).size ≤ 1000000) := by unfold Hid cutA; rw [ByteArray.size_extract]; omega
  have hsec : Hid ((secV xs (rA (cutA s)).1).size ≤ 1000000) := by
    have h := get_short hsh (tkey (rA (cutA s)).1 fS)
    have h2 : (secV xs (rA (cutA s)).1).size ≤ 300 := h
    unfold Hid; omega
  have HM := Lib.hid (fun w h => mis_any (secV xs (rA (cutA s)).1) (cutA s) (cutZ s) w hsec.out hpz.out h)
  have HT1 := Lib.hid (@ofT_yes xs (rA (cutA s)).1)
  have HY : Hid (chk xs s now = true → ∀ w', Below w.heap.size w w' → Ck (chk xs s now) (rA (cutA s)).1 (rB (cutA s)).1 w (.returned (.tuple #[.string (rA (cutA s)).1, .string (rB (cutA s)).1, .int .i64 0])) w') := fun h w' hb => ⟨by rw [h]; rfl, hb⟩
  have HN : Hid (chk xs s now = false → ∀ w', Below w.heap.size w w' → Ck (chk xs s now) (rA (cutA s)).1 (rB (cutA s)).1 w (.returned (.tuple #[.string ⟨#[]⟩, .string ⟨#[]⟩, .int .i64 7])) w') := fun h w' hb => ⟨by rw [h]; rfl, hb⟩
  generalize hPR : Ck (chk xs s now) (rA (cutA s)).1 (rB (cutA s)).1 w = PR at *
  clear hPR
  unfold chk at HY HN
  unfold Rd at HR
  clear h1 hsh hpz hsec
  generalize okR (cutA s) = b0 at *
  generalize decide (bz (macB (secV xs (rA (cutA s)).1).data.toList (cutA s).data.toList) = cutZ s) = b4 at *
  generalize (rC (cutA s)).1 = N at *
  generalize (rB (cutA s)).1 = B at *
  generalize (rA (cutA s)).1 = T at *
  generalize cutA s = p at *
  generalize cutZ s = q at *
  have HIA := Lib.hid (fun w => name.is_any T w (by have := HA.out; unfold maxLen; omega))
  have HIB := Lib.hid (fun w => name.is_any B w HB.out)
  generalize isName T.data.toList = b1 at *
  generalize isName B.data.toList = b2 at *
  clear HA HB
  cases b0 with
  | false =>
    have HE := Lib.hid (HN.out rfl)
    clear HN HY
    go_enter Tryz.func8, Tryz.ntmps8
    go_wp2_with fail
    refine HR.out.mono ?_
    rintro e w1 ⟨rfl, hb⟩
    have HF := Lib.hid (HE.out _ hb)
    clear hb HE
    go_wp2
    go_ret3
    exact HF.out
  | true =>
    go_enter Tryz.func8, Tryz.ntmps8
    go_wp2_with fail
    refine HR.out.mono ?_
    rintro e w1 ⟨rfl, hb⟩
    simp only [if_true]
    have HL := Lib.hid hb
    clear hb HR
    cases b1 with
    | false =>
      have HE := Lib.hid (HN.out rfl)
      clear HN HY
      go_wp2_with fail
      refine (HIA.out w1).mono ?_
      rintro e w2 ⟨rfl, hb⟩
      have HF := Lib.hid (HE.out _ (HL.out.trans (hb.mono HL.out.size)))
      clear hb HE
      go_wp2
      go_ret3
      exact HF.out
    | true =>
      go_wp2_with fail
      refine (HIA.out w1).mono ?_
      rintro e w2 ⟨rfl, hb⟩
      have HL2 := Lib.hid (HL.out.trans (hb.mono HL.out.size)); clear hb HL; have HL := Lib.hid HL2.out; clear HL2
      clear HIA
      cases b2 with
      | false =>
        have HE := Lib.hid (HN.out rfl)
        clear HN HY
        go_wp2_with fail
        refine (HIB.out w2).mono ?_
        rintro e w3 ⟨rfl, hb⟩
        have HF := Lib.hid (HE.out _ (HL.out.trans (hb.mono HL.out.size)))
        clear hb HE
        go_wp2
        go_ret3
        exact HF.out
      | true =>
        go_wp2_with fail
        refine (HIB.out w2).mono ?_
        rintro e w3 ⟨rfl, hb⟩
        have HL2 := Lib.hid (HL.out.trans (hb.mono HL.out.size)); clear hb HL; have HL := Lib.hid HL2.out; clear HL2
        clear HIB
        by_cases hT : isT xs T = true
        · rw [hT] at HO HY HN
          rw [HT1.out hT] at HO
          clear HT1
          generalize secV xs T = sec at *
          generalize limV xs T fB 1099511627776 1048576 = n0 at *
          generalize limV xs T fR 1048576 8 = n1 at *
          generalize limV xs T fU 1048576 16 = n2 at *
          generalize limV xs T fQ 64 16 = n3 at *
          simp only [Ten.cells] at HO
          clear hT
          go_wp2_with fail
          refine (HO.out w3 (H1.out.more_below HL.out) (Lib.hid (HLt.out.next HL.out))).mono ?_
          rintro e w4 ⟨rfl, hb⟩
          have HL2 := Lib.hid (HL.out.trans (hb.mono HL.out.size)); clear hb HL; have HL := Lib.hid HL2.out; clear HL2
          clear HO
          have HB4 := Lib.hid (Blk.new w4 51 #[.string T, .string sec, .int .i64 n0, .int .i64 n1, .int .i64 n2, .int .i64 n3])
          have HL5 := Lib.hid (HL.out.alloc HL.out.size (.cells #[.string T, .string sec, .int .i64 n0, .int .i64 n1, .int .i64 n2, .int .i64 n3] 51))
          clear HL
          have HL := Lib.hid HL5.out
          clear HL5
          go_wp2_with fail
          generalize w4.alloc (.cells #[.string T, .string sec, .int .i64 n0, .int .i64 n1, .int .i64 n2, .int .i64 n3] 51) = w5 at *
          generalize w4.heap.size = g4 at *
          refine (HC.out w5).mono ?_
          rintro e w6 ⟨rfl, hb⟩
          have hb6 := HB4.out.below hb HB4.out.lt
          have c1 : w6.cell? ⟨g4, 1, none⟩ = some (.string sec) := by rw [hb6.cell]; rfl
          have HL2 := Lib.hid (HL.out.trans (hb.mono HL.out.size)); clear hb HL; have HL := Lib.hid HL2.out; clear HL2
          clear HC hb6 HB4
          have HM6 := Lib.hid (HM.out w6 (HLt.out.next HL.out).sh)
          clear HM
          cases b4 with
          | false =>
            have HE := Lib.hid (HN.out rfl)
            clear HN HY
            go_wp2_with fail
            refine HM6.out.mono ?_
            rintro e w7 ⟨rfl, hb⟩
            have HF := Lib.hid (HE.out _ (HL.out.trans (hb.mono HL.out.size)))
            clear hb HE c1
            go_wp2
            go_ret3
            exact HF.out
          | true =>
            by_cases hn : N < now
            · have HE := Lib.hid (HN.out (by simp; omega))
              clear HN HY
              go_wp2_with fail
              refine HM6.out.mono ?_
              rintro e w7 ⟨rfl, hb⟩
              have HF := Lib.hid (HE.out _ (HL.out.trans (hb.mono HL.out.size)))
              clear hb HE c1
              go_wp2
              go_ret3
              exact HF.out
            · have HE := Lib.hid (HY.out (by simp; omega))
              clear HN HY
              go_wp2_with fail
              refine HM6.out.mono ?_
              rintro e w7 ⟨rfl, hb⟩
              have HF := Lib.hid (HE.out _ (HL.out.trans (hb.mono HL.out.size)))
              clear hb HE c1
              go_wp2
              go_ret3
              exact HF.out
        · have hF : isT xs T = false := by simpa using hT
          rw [hF] at HO HY HN
          rw [ofT_no hF] at HO
          have HE := Lib.hid (HN.out rfl)
          clear HN HY HT1 hT
          simp only [Ten.cells, Ten.zero] at HO
          go_wp2_with fail
          refine (HO.out w3 (H1.out.more_below HL.out) (Lib.hid (HLt.out.next HL.out))).mono ?_
          rintro e w4 ⟨rfl, hb⟩
          have HL2 := Lib.hid (HL.out.trans (hb.mono HL.out.size)); clear hb HL; have HL := Lib.hid HL2.out; clear HL2
          clear HO
          have HL5 := Lib.hid (HL.out.alloc HL.out.size (.cells #[.string ⟨#[]⟩, .string ⟨#[]⟩, .int .i64 0, .int .i64 0, .int .i64 0, .int .i64 0] 51))
          clear HL
          have HL := Lib.hid HL5.out
          clear HL5
          go_wp2_with fail
          refine (HC.out _).mono ?_
          rintro e w6 ⟨rfl, hb⟩
          have HF := Lib.hid (HE.out _ (HL.out.trans (hb.mono HL.out.size)))
          clear hb HE
          go_wp2
          go_ret3
          exact HF.out
end Go.Proofs.YtkbgmdabmebdhaaGreatDoor.tk
