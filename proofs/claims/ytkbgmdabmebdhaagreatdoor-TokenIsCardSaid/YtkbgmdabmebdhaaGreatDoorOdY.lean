/- A writer of bytes: numbers and texts. No condition. -/
import Derived.Test.YtkbgmdabmebdhaaGreatDoorOdX
import Derived.Test.YtkbgmdabmebdhaaGreatDoorOcM
import Derived.Laws.IdiomStrings
namespace Go.Proofs.YtkbgmdabmebdhaaGreatDoor.od
open Go.Proofs.YtkbgmdabmebdhaaGreatDoor.oc
set_option linter.unusedSimpArgs false
set_option linter.unusedVariables false
set_option maxRecDepth 100000
open Go.ChangeShapes Go.WideShapes Go.ChangeAt Go.RowKit Go.Proofs.Aid
/-- The array when k of m bytes are laid. -/
def arr (m : Nat) (n : Int) (k : Nat) : Array Value := ((List.range 8).map fun j => Value.int .u8 (if j < k then bAt n (m - 1 - j) else 0)).toArray
theorem slice8 (w : World) (g k : Nat) (hk : k ≤ 8) : (Instr.sliceAt 100 (.pointer (some ⟨g, 0, none⟩)) none (some (.int .i64 (k : Int))) none).run Tryz.prog w = .ok (.slice (some ⟨g, 0, none⟩) k 8) w := by
  have hal : Tryz.prog.arrayLen 100 = 8 := by kernel_rfl
  have hs : (sizeOf (Tryz.prog.elem 100)).run Tryz.prog w = .ok 1 w := by kernel_rfl
  rw [run_sliceAt_array_h (P := Tryz.prog) w 100 ⟨g, 0, none⟩ Tryz.underlying100 .i64 k (by omega) (by rw [hal]; omega), hs, hal]
  simp [slicedAt, Result.andThen, Addr.add]
theorem arr_at (m : Nat) (n : Int) (k j : Nat) (h : j < 8) : (arr m n k)[j]? = some (.int .u8 (if j < k then bAt n (m - 1 - j) else 0)) := by
  simp [arr, h]
theorem arr_set (m : Nat) (n : Int) (k : Nat) (h : k < 8) : (arr m n k).setIfInBounds k (.int .u8 (bAt n (m - 1 - k))) = arr m n (k + 1) := by
  apply Array.ext_getElem?
  intro j
  rw [Array.getElem?_setIfInBounds]
  by_cases hj : j < 8
  · rw [arr_at _ _ _ _ hj, arr_at _ _ _ _ hj]
    by_cases e : k = j
    · subst e; simp [show k < (arr m n k).size by simpa [arr] using h]
    · rw [if_neg e]
      by_cases h2 : j < k
      · rw [if_pos h2, if_pos (by omega)]
      · rw [if_neg h2, if_neg (by omega)]
  · have h1 : ∀ k, (arr m n k)[j]? = none := fun k => Array.getElem?_eq_none (by simp [arr]; omega)
    rw [h1, h1, if_neg (by omega)]
set_option maxRecDepth 100000 in
set_option maxHeartbeats 2000000 in
theorem number_any (b : Nat) (bs : List UInt8) (n : Int) (m : Nat) (hm : m ≤ 8) (hm0 : 0 < m) (w : World) (h : Wr b bs w) (hlen : bs.length + 8 ≤ 140737488355328) :
    Calls Tryz.prog 51 #[self b, .int .i64 n, .int .i64 m] w (Settled b (bs ++ be m n) w) := by
  have HW := Lib.hid h
  have HB : Hid (Blk (w.alloc (.cells (arr m n 0) 100)) w.heap.size 100 (arr m n 0)) := Blk.new w _ _
  have HL := Lib.hid (below_lit w (.cells (arr m n 0) 100))
  have ea : arr m n 0 = #[.int .u8 0, .int .u8 0, .int .u8 0, .int .u8 0, .int .u8 0, .int .u8 0, .int .u8 0, .int .u8 0] := rfl
  rw [ea] at HB HL
  rw [← ea] at HB
  clear h ea
  go_enter Tryz.func51, Tryz.ntmps51
  go_wp2_with fail
  go_loopw [9] (fun iv wr => ∃ k : Nat, k ≤ m ∧ iv = .int .i64 k ∧ Hid (Blk wr w.heap.size 100 (arr m n k)) ∧ Hid (Below w.heap.size w wr)) (fun iv _ => m - (intOf iv).toNat)
  case atStart => exact ⟨0, by omega, rfl, HB, HL⟩
  case round =>
    obtain ⟨k, hk, rfl, hb, hlow⟩ := hrel
    by_cases hlt : k < m
    · have c0 := hb.out.cell k
      have f0 := hb.out.frozen k
      rw [arr_at m n k k (by omega), if_neg (by omega)] at c0
      go_wp2
      go_roundw
      case rel => 
        refine ⟨k + 1, by omega, by go_num, ?_, ?_⟩
        · have h2 := hb.out.set_ k (.int .u8 (bAt n (m - 1 - k)))
          rw [arr_set m n k (by omega)] at h2
          exact h2
        · exact hlow.out.setCell (p := ⟨w.heap.size, k, none⟩) (Nat.le_refl _) _
      case measure => simp [intOf]; omega
    · have hkm : k = m := by omega
      subst hkm
      have hl := be_length k n
      have hcv := run_convert_bytes_back (P := Tryz.prog) wr 57 9 5 ⟨w.heap.size, 0, none⟩ 8 (be k n) Tryz.underlying57 Tryz.underlying5 Tryz.underlying9 (fun j hj => by
        have e : (⟨w.heap.size, 0, none⟩ : Addr).add j = ⟨w.heap.size, j, none⟩ := by unfold Addr.add; split <;> simp_all
        rw [e, hb.out.cell, arr_at _ _ _ _ (by omega), if_pos (by omega), be_cell hj])
      rw [hl] at hcv
      have HP := Lib.hid (put_any b bs ⟨(be k n).toArray⟩ wr (HW.out.below hlow.out) (by show bs.length + (be k n).toArray.size ≤ _; simp [hl]; omega))
      have HS := Lib.hid hlow.out.size
      have hlt := HW.out.lt
      have hsl := slice8 wr w.heap.size k hm
      clear hl
      go_wp2_with fail
      refine HP.out.mono ?_
      rintro e w1 ⟨rfl, h1, h2⟩
      have HF : Hid (Settled b (bs ++ be k n) w (.returned (.tuple #[])) w1) := ⟨rfl, h1, (hlow.out.mono (by omega)).trans h2⟩
      clear h1 h2
      go_wp2
      go_end0
      exact HF.out
set_option maxHeartbeats 1000000 in
theorem int_any (b : Nat) (bs : List UInt8) (n : Int) (w : World) (h : Wr b bs w) (hlen : bs.length + 8 ≤ 140737488355328) :
    Calls Tryz.prog 29 #[self b, .int .i64 n] w (Settled b (bs ++ be 8 n) w) := by
  have HN := Lib.hid (number_any b bs n 8 (by decide) (by decide) w h hlen)
  clear h
  go_enter Tryz.func29, Tryz.ntmps29
  go_wp2_with fail
  refine HN.out.mono ?_
  rintro e w1 ⟨rfl, h⟩
  have HF := Lib.hid h
  clear h
  go_wp2
  go_end0
  exact ⟨rfl, HF.out⟩
set_option maxHeartbeats 1000000 in
theorem count_any (b : Nat) (bs : List UInt8) (n : Int) (w : World) (h : Wr b bs w) (hlen : bs.length + 8 ≤ 140737488355328) :
    Calls Tryz.prog 49 #[self b, .int .i64 n] w (Settled b (bs ++ be 4 n) w) := by
  have HN := Lib.hid (number_any b bs n 4 (by decide) (by decide) w h hlen)
  clear h
  go_enter Tryz.func49, Tryz.ntmps49
  go_wp2_with fail
  refine HN.out.mono ?_
  rintro e w1 ⟨rfl, h⟩
  have HF := Lib.hid h
  clear h
  go_wp2
  go_end0
  exact ⟨rfl, HF.out⟩
set_option maxHeartbeats 1000000 in
theorem text_any (b : Nat) (bs : List UInt8) (s : ByteArray) (w : World) (h : Wr b bs w) (hs : s.size ≤ maxLen) (hlen : bs.length + 8 + s.size ≤ 140737488355328) :
    Calls Tryz.prog 28 #[self b, .string s] w (Settled b (bs ++ teB s) w) := by
  have HN := Lib.hid (count_any b bs s.size w h (by omega))
  unfold maxLen at hs
  clear h
  go_enter Tryz.func28, Tryz.ntmps28
  go_wp2_with fail
  refine HN.out.mono ?_
  rintro e w1 ⟨rfl, h1, h2⟩
  have HL := Lib.hid h2
  have HP := Lib.hid (put_any b (bs ++ be 4 s.size) s w1 (.inl h1) (by rw [List.length_append, be_length]; omega))
  clear h1 h2
  go_wp2_with fail
  refine HP.out.mono ?_
  rintro e w2 ⟨rfl, h1, h2⟩
  have HF : Hid (Settled b (bs ++ teB s) w (.returned (.tuple #[])) w2) := ⟨rfl, by unfold teB; rw [← List.append_assoc]; exact h1, HL.out.trans h2⟩
  clear h1 h2
  go_wp2
  go_end0
  exact HF.out
set_option maxHeartbeats 1000000 in
theorem number_nil (n : Int) (m : Nat) (hm : m ≤ 8) (hm0 : 0 < m) (w : World) :
    Calls Tryz.prog 51 #[.pointer none, .int .i64 n, .int .i64 m] w fun e w' => e = .returned (.tuple #[]) ∧ Below w.heap.size w w' := by
  have HB : Hid (Blk (w.alloc (.cells (arr m n 0) 100)) w.heap.size 100 (arr m n 0)) := Blk.new w _ _
  have HL := Lib.hid (below_lit w (.cells (arr m n 0) 100))
  have ea : arr m n 0 = #[.int .u8 0, .int .u8 0, .int .u8 0, .int .u8 0, .int .u8 0, .int .u8 0, .int .u8 0, .int .u8 0] := rfl
  rw [ea] at HB HL
  rw [← ea] at HB
  clear ea
  go_enter Tryz.func51, Tryz.ntmps51
  go_wp2_with fail
  go_loopw [9] (fun iv wr => ∃ k : Nat, k ≤ m ∧ iv = .int .i64 k ∧ Hid (Blk wr w.heap.size 100 (arr m n k)) ∧ Hid (Below w.heap.size w wr)) (fun iv _ => m - (intOf iv).toNat)
  case atStart => exact ⟨0, by omega, rfl, HB, HL⟩
  case round =>
    obtain ⟨k, hk, rfl, hb, hlow⟩ := hrel
    by_cases hlt : k < m
    · have c0 := hb.out.cell k
      have f0 := hb.out.frozen k
      rw [arr_at m n k k (by omega), if_neg (by omega)] at c0
      go_wp2
      go_roundw
      case rel =>
        refine ⟨k + 1, by omega, by go_num, ?_, ?_⟩
        · have h2 := hb.out.set_ k (.int .u8 (bAt n (m - 1 - k)))
          rw [arr_set m n k (by omega)] at h2
          exact h2
        · exact hlow.out.setCell (p := ⟨w.heap.size, k, none⟩) (Nat.le_refl _) _
      case measure => simp [intOf]; omega
    · have hkm : k = m := by omega
      subst hkm
      have hl := be_length k n
      have hcv := run_convert_bytes_back (P := Tryz.prog) wr 57 9 5 ⟨w.heap.size, 0, none⟩ 8 (be k n) Tryz.underlying57 Tryz.underlying5 Tryz.underlying9 (fun j hj => by
        have e : (⟨w.heap.size, 0, none⟩ : Addr).add j = ⟨w.heap.size, j, none⟩ := by unfold Addr.add; split <;> simp_all
        rw [e, hb.out.cell, arr_at _ _ _ _ (by omega), if_pos (by omega), be_cell hj])
      rw [hl] at hcv
      have hsl := slice8 wr w.heap.size k hm
      clear hl
      go_wp2_with fail
      refine (put_nil ⟨(be k n).toArray⟩ wr).mono ?_
      rintro e w1 ⟨rfl, rfl⟩
      go_wp2
      go_end0
      exact ⟨rfl, hlow.out⟩
set_option maxHeartbeats 1000000 in
theorem count_nil (n : Int) (w : World) : Calls Tryz.prog 49 #[.pointer none, .int .i64 n] w fun e w' => e = .returned (.tuple #[]) ∧ Below w.heap.size w w' := by
  have HN := Lib.hid (number_nil n 4 (by decide) (by decide) w)
  go_enter Tryz.func49, Tryz.ntmps49
  go_wp2_with fail
  refine HN.out.mono ?_
  rintro e w1 ⟨rfl, h⟩
  have HF := Lib.hid h
  clear h
  go_wp2
  go_end0
  exact ⟨rfl, HF.out⟩
set_option maxHeartbeats 1000000 in
theorem text_nil (s : ByteArray) (w : World) (hs : s.size ≤ maxLen) : Calls Tryz.prog 28 #[.pointer none, .string s] w fun e w' => e = .returned (.tuple #[]) ∧ Below w.heap.size w w' := by
  have HN := Lib.hid (count_nil s.size w)
  unfold maxLen at hs
  go_enter Tryz.func28, Tryz.ntmps28
  go_wp2_with fail
  refine HN.out.mono ?_
  rintro e w1 ⟨rfl, h⟩
  have HF := Lib.hid h
  clear h
  go_wp2_with fail
  refine (put_nil s w1).mono ?_
  rintro e w2 ⟨rfl, rfl⟩
  go_wp2
  go_end0
  exact ⟨rfl, HF.out⟩
end Go.Proofs.YtkbgmdabmebdhaaGreatDoor.od
