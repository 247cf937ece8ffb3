/- The walks of sha: the digits. -/
import Derived.Test.YtfabhpppfmlppaaDoorShH
namespace Go.Proofs.YtfabhpppfmlppaaDoor.sha
open Go.ChangeShapes Go.WideShapes Go.ChangeAt Go.RowKit Go.Proofs.Aid
open Go.Proofs.YtfabhpppfmlppaaDoor.oc (be self be_length)
open Go.Lib (byteCells)
set_option linter.unusedVariables false
theorem Bl.below {b : Nat} {p : Value} {bs : List UInt8} {w w' : World} (h : Bl b p bs w) (hb : Below w.heap.size w w') : Bl b p bs w' := by
  obtain ⟨v, h1, h2⟩ := h
  exact ⟨v, h1.below hb h1.lt, h2.kept (only_of_below hb none) (by cases v.ownBlock <;> simp)⟩
theorem Bw.below {b : Nat} {bs : List UInt8} {w w' : World} (h : Bw b bs w) (hb : Below w.heap.size w w') : Bw b bs w' := h.imp (Bl.below · hb) (Bl.below · hb)
set_option maxRecDepth 100000 in
set_option maxHeartbeats 2000000 in
theorem hex_any (s : ByteArray) (w : World) (hs : s.size ≤ 1099511627776) (hl : Lets w) :
    Calls Tryd.prog 8 #[.string s] w (Hexed (hexB (shaB s.data.toList)) w) := by
  have HB0 : Hid (Bw w.heap.size (hexB ((shaB s.data.toList).take 0)) (w.alloc (.cells #[.pointer none, .slice none 0 0] 36))) :=
    .inl ⟨_, Blk.new w _ _, by simp [World.ownsRow, hexB, byteCells]⟩
  have HL0 := Lib.hid (below_lit w (.cells #[.pointer none, .slice none 0 0] 36))
  have HL := Lib.hid hl
  have HSUM := Lib.hid (fun w' (h : Lets w') => sum_any s w' hs h)
  clear hl
  go_enter Tryd.func8, Tryd.ntmps8
  go_wp2_with fail
  refine (HSUM.out _ (HL.out.below HL0.out (Nat.le_refl _))).mono ?_
  rintro e w1 ⟨rfl, hb⟩
  have HB1 := Lib.hid (HB0.out.below hb)
  have HL1 := Lib.hid (HL0.out.trans (hb.mono HL0.out.size))
  clear hb HB0 HL0
  have HLN := Lib.hid (shaB_length s.data.toList)
  generalize shaB s.data.toList = B at *
  obtain ⟨z, hz, hzl⟩ : ∃ z : ByteArray, (⟨B.toArray⟩ : ByteArray) = z ∧ z.data.toList = B := ⟨_, rfl, rfl⟩
  rw [hz]
  have hzs : z.size = 32 := by
    have h := congrArg List.length hzl
    rw [Array.length_toList, HLN.out] at h
    exact h
  have hz32 : z.size ≤ 32 := by omega
  have hz33 : 32 ≤ z.size := by omega
  have HZ := Lib.hid hzl
  clear hz hzl hzs
  go_wp2
  go_loopw [10] (fun iv wr => ∃ k : Nat, k ≤ 32 ∧ iv = .int .i64 k ∧ Hid (Bw w.heap.size (hexB (B.take k)) wr) ∧ Hid (Below w.heap.size w wr)) (fun iv _ => 32 - (intOf iv).toNat)
  case atStart => exact ⟨0, by omega, rfl, HB1, HL1⟩
  case round =>
    clear HB1 HL1
    obtain ⟨k, hk, rfl, hB, hlow⟩ := hrel
    by_cases hk32 : k < 32
    · have hkz : k < z.size := by omega
      have hzr : ∀ w, (Instr.index 9 (.string z) (.int .i64 (k : Int))).run Tryd.prog w = .ok (.int .u8 (((z[k]).toNat : Nat) : Int)) w := by
        intro w
        rw [run_index_string (P := Tryd.prog) w 9 z .i64 (k : Int) Tryd.underlying9]
        simp [hkz]
      have hkB : k < B.length := by rw [HLN.out]; exact hk32
      have hzk : Hid (z[k] = B[k]) := by
        have h := HZ.out
        subst h
        rfl
      have HTK := Lib.hid (List.take_succ_eq_append_getElem hkB)
      have HSN := Lib.hid (hexB_snoc (B.take k) B[k])
      rw [← hzk.out] at HTK HSN
      clear hzk
      have hlen : Hid ((hexB (B.take k)).length ≤ 64) := by
        unfold Hid
        rw [hexB_len, List.length_take]; omega
      generalize z[k] = c at *
      have hc := c.toNat_lt
      have hA := fun w => hexRun w (c.toNat / 16) (by omega)
      have hB2 := fun w => hexRun w (c.toNat % 16) (by omega)
      have e15 := and15 ⟨c.toNat, hc⟩
      simp only at e15
      have e16 : (((c.toNat / 16 : Nat)) : Int) = (c.toNat : Int) / 16 := by omega
      rw [e16] at hA
      simp only [hexT] at hA hB2
      have HW1 := Lib.hid (writeByte_any w.heap.size (hexB (B.take k)) (hexD (c.toNat / 16)) wr hB.out (by have := hlen.out; omega))
      have HW2' := Lib.hid (fun w2 (h : Bl w.heap.size (self w.heap.size) (hexB (B.take k) ++ [hexD (c.toNat / 16)]) w2) => writeByte_any w.heap.size (hexB (B.take k) ++ [hexD (c.toNat / 16)]) (hexD (c.toNat % 16)) w2 (.inr h) (by have := hlen.out; rw [List.length_append]; simp; omega))
      clear e16 hlen
      generalize hexD (c.toNat / 16) = d1 at *
      generalize hexD (c.toNat % 16) = d2 at *
      generalize c.toNat % 16 = n15 at *
      generalize c.toNat = nc at *
      go_wp2_with fail
      refine HW1.out.mono ?_
      rintro e w2 ⟨rfl, h1, h2⟩
      have HW2 := Lib.hid (HW2'.out w2 h1)
      have HL2 := Lib.hid (hlow.out.trans h2)
      clear h1 h2 HW1 HW2'
      go_wp2_with fail
      refine HW2.out.mono ?_
      rintro e w3 ⟨rfl, h1, h2⟩
      have HB3 : Hid (Bw w.heap.size (hexB (B.take (k + 1))) w3) := by
        unfold Hid
        rw [HTK.out, HSN.out]
        exact .inr h1
      have HL3 := Lib.hid (HL2.out.trans h2)
      clear h1 h2 HW2
      go_wp2
      go_roundw
      case rel => exact ⟨k + 1, by omega, by go_num, HB3, HL3⟩
      case measure => simp [intOf]; omega
    · have hk2 : k = 32 := by omega
      have hBe := hB.out
      rw [List.take_of_length_le (by rw [HLN.out]; omega)] at hBe
      have HST := Lib.hid (Tryd.Builder_String_any w.heap.size w.heap.size (hexB B) wr hBe.isB hlow.out.size)
      clear hBe hB hk2
      go_wp2_with fail
      refine HST.out.mono ?_
      rintro e w4 ⟨rfl, hb⟩
      have HF : Hid (Hexed (hexB B) w (.returned (.string ⟨(hexB B).toArray⟩)) w4) := ⟨rfl, hlow.out.trans hb⟩
      clear hb HST
      go_wp2
      go_ret
      exact HF.out
end Go.Proofs.YtfabhpppfmlppaaDoor.sha
