/- Frames, the package's. No condition. -/
import Derived.Test.YtgojeoebflpglaaFrM
import Derived.Test.YtgojeoebflpglaaCrA
import Derived.Test.YtgojeoebflpglaaOcY
namespace Go.Proofs.Ytgojeoebflpglaa.fr
set_option linter.unusedSimpArgs false
set_option linter.unusedVariables false
open Go.ChangeShapes Go.WideShapes Go.ChangeAt Go.RowKit Go.Proofs.Aid
open Go.Proofs.Ytgojeoebflpglaa.oc Go.Proofs.CrcMath
open Go.Proofs.Ytgojeoebflpglaa.texts (tc)
abbrev w0o : Obj := .cells #[.pointer none, .slice none 0 0, .pointer none] 55
theorem sum_eq (s : ByteArray) : cmore (cmore 0 (be 4 s.size) : Nat) s.data.toList = sumB s := (parts 0 _ _).symm
theorem bz_data (l : List UInt8) : (bz l).data.toList = l := by simp [bz]
set_option maxHeartbeats 1000000 in
theorem head_any (s : ByteArray) (w : World) (hs : s.size ≤ 1099511627776) :
    Calls Try.prog 31 #[.string s] w fun e w' => e = .returned (.string (bz (headB s))) ∧ Below w.heap.size w w' := by
  have HW : Hid (Wr w.heap.size [] (w.alloc w0o)) := .inr ⟨rfl, Blk.new w _ _⟩
  have HL := Lib.hid (below_lit w w0o)
  have hsm := Lib.hid (sum_eq s)
  go_enter Try.func31, Try.ntmps31
  go_wp2_with fail
  refine (count_any w.heap.size [] s.size _ HW.out (by decide)).mono ?_
  rintro e w1 ⟨rfl, h1, h2⟩
  have HW1 : Hid (Wr w.heap.size (be 4 s.size) w1) := .inl h1
  replace HL := Lib.hid (HL.out.trans h2)
  clear h1 h2 HW
  go_wp2_with fail
  refine (bytes_any w.heap.size _ w1 HW1.out).mono ?_
  rintro e w2 ⟨he, h1, h2, -⟩
  have he : e = .returned (.string (bz (be 4 s.size))) := he
  subst he
  have HW2 := Lib.hid h1
  replace HL := Lib.hid (HL.out.trans h2)
  have hz : (bz (be 4 s.size)).size ≤ maxLen := by rw [bz_size, be_length]; unfold maxLen; omega
  have hS := crc.sum_any (bz (be 4 s.size)) w2 hz
  rw [bz_data] at hS
  have HS := Lib.hid hS
  have hM := crc.more_any (cmore 0 (be 4 s.size) : Nat) s w2 (by unfold maxLen; omega)
  rw [hsm.out] at hM
  have HM := Lib.hid hM
  clear h1 h2 HW1 hz hS hM
  generalize cmore 0 (be 4 s.size) = c0 at *
  generalize bz (be 4 s.size) = b0 at *
  go_wp2_with fail
  refine HS.out.mono ?_
  rintro e w3 ⟨rfl, rfl⟩
  go_wp2_with fail
  refine HM.out.mono ?_
  rintro e w4 ⟨rfl, rfl⟩
  clear HS HM hsm
  go_wp2_with fail
  refine (count_any w.heap.size _ (sumB s : Nat) _ HW2.out (by rw [be_length]; omega)).mono ?_
  rintro e w5 ⟨rfl, h1, h2⟩
  have HW3 : Hid (Wr w.heap.size (headB s) w5) := .inl h1
  replace HL := Lib.hid (HL.out.trans h2)
  clear h1 h2 HW2
  go_wp2_with fail
  refine (bytes_any w.heap.size _ w5 HW3.out).mono ?_
  rintro e w6 ⟨he, h1, h2, -⟩
  have he : e = .returned (.string (bz (headB s))) := he
  subst he
  replace HL := Lib.hid (HL.out.trans h2)
  clear h1 h2 HW3
  go_wp2
  go_ret
  exact ⟨rfl, HL.out⟩
/-- A writer whose builder was written to, or not, and that has no home. -/
def FB (b : Nat) (bs : List UInt8) (w : World) : Prop := ∃ p v, (p = .pointer none ∨ p = self b) ∧ Blk w b 55 #[p, v, .pointer none] ∧ Own b v bs w
theorem FB.below {b : Nat} {bs : List UInt8} {w w' : World} (h : FB b bs w) (hb : Below w.heap.size w w') : FB b bs w' := by
  obtain ⟨p, v, hp, h1, h2⟩ := h
  exact ⟨p, v, hp, h1.below hb h1.lt, h2.below hb⟩
theorem FB.lt {b : Nat} {bs : List UInt8} {w : World} (h : FB b bs w) : b < w.heap.size := by obtain ⟨p, v, hp, h1, h2⟩ := h; exact h1.lt
theorem fb_write (b : Nat) (bs : List UInt8) (s : ByteArray) (w : World) (h : FB b bs w) (hlen : bs.length + s.size ≤ 140737488355328) :
    Calls Try.prog 30 #[self b, .string s] w fun e w' => e = .returned (.tuple #[.int .i64 s.size, .nilIface]) ∧ FB b (bs ++ s.data.toList) w' ∧ Below b w w' := by
  obtain ⟨p, v, hp, h1, h2⟩ := h
  refine (writeString_any b p v _ bs s w hp h1 h2 hlen).mono ?_
  rintro e w' ⟨v', rfl, k1, k2, k3⟩
  exact ⟨rfl, ⟨self b, v', .inr rfl, k1, k2⟩, k3⟩
set_option maxHeartbeats 1000000 in
theorem fb_bytes (b : Nat) (bs : List UInt8) (w : World) (h : FB b bs w) :
    Calls Try.prog 32 #[self b] w fun e w' => e = .returned (.string (bz bs)) ∧ Below b w w' := by
  obtain ⟨p, v, hp, h1, h2⟩ := h
  have HS := Lib.hid (string_any b p v _ bs w h1 h2)
  clear h1 h2 hp
  go_enter Try.func32, Try.ntmps32
  go_wp2_with fail
  refine HS.out.mono ?_
  rintro e w1 ⟨he, -, -, h2, -⟩
  have he : e = .returned (.string (bz bs)) := he
  subst he
  have HL := Lib.hid h2
  clear h2
  go_wp2
  go_ret
  exact ⟨rfl, HL.out⟩
theorem frs_bd (l : List ByteArray) (hl : l.length ≤ 100000) (hz : ∀ s ∈ l, s.size ≤ 1048576) (k : Nat) : (frsB (l.take k)).length ≤ 200000000000 := by
  have h := frs_len (m := 1048576) (l.take k) (fun s hs => hz s (List.mem_of_mem_take hs))
  have : (l.take k).length * (8 + 1048576) ≤ 100000 * (8 + 1048576) := Nat.mul_le_mul_right _ (by rw [List.length_take]; omega)
  omega
set_option maxRecDepth 100000 in
set_option maxHeartbeats 2000000 in
theorem framed_any (A : Option Addr) (ca : Nat) (l : List ByteArray) (w : World) (hl : l.length ≤ 100000) (hz : ∀ s ∈ l, s.size ≤ 1048576) (hr : Reads w w.heap.size 1 A l.length (l.flatMap tc)) :
    Calls Try.prog 20 #[.slice A l.length ca] w fun e w' => e = .returned (.string (bz (frsB l))) ∧ Below w.heap.size w w' := by
  have H1 := Lib.hid hr
  have HZ := Lib.hid hz
  have HB := Lib.hid (frs_bd l hl hz)
  have HW : Hid (FB w.heap.size (frsB (l.take 0)) (w.alloc w0o)) := ⟨_, _, .inl rfl, Blk.new w _ _, Own.nil _ _⟩
  have HL := Lib.hid (below_lit w w0o)
  clear hr hz
  go_enter Try.func20, Try.ntmps20
  go_wp2_with fail
  go_loopw [8] (fun iv wr => ∃ k : Nat, k ≤ l.length ∧ iv = .int .i64 k ∧ Hid (FB w.heap.size (frsB (l.take k)) wr) ∧ Hid (Below w.heap.size w wr)) (fun iv _ => l.length - (intOf iv).toNat)
  case atStart => exact ⟨0, by omega, rfl, HW, HL⟩
  case round =>
    clear HW HL
    obtain ⟨k, hk, rfl, hw, hlow⟩ := hrel
    by_cases hlt : k < l.length
    · obtain ⟨ad, rfl, hbl, c0⟩ := (H1.out.below hlow.out).elem1 hlt
      have hsz := HZ.out l[k] (List.getElem_mem hlt)
      have hft := Lib.hid (frs_take l k hlt)
      have hbd := HB.out k
      have hhl := Lib.hid (headB_len l[k])
      have hcat := Lib.hid (bz_str (headB l[k]) l[k])
      have hfr : Hid (headB l[k] ++ l[k].data.toList = frB l[k]) := rfl
      generalize l[k] = s at *
      have hhz : (bz (headB s)).size = 8 := by rw [bz_size, hhl.out]
      go_wp2_with fail
      refine (head_any s wr (by omega)).mono ?_
      rintro e w1 ⟨rfl, hb⟩
      have hw1 := Lib.hid (hw.out.below hb)
      have hl1 := Lib.hid (hlow.out.trans (hb.mono hlow.out.size))
      clear hb hw hlow
      have hcz : (bz (headB s) ++ s).size ≤ 2000000 := by rw [ByteArray.size_append]; omega
      have hX := fb_write w.heap.size _ (bz (headB s) ++ s) w1 hw1.out (by omega)
      have e2 : (bz (headB s) ++ s).data.toList = frB s := by rw [hcat.out, bz_data]; rfl
      rw [e2, ← hft.out] at hX
      have HX := Lib.hid hX
      clear hX e2 hcat hfr
      generalize bz (headB s) = hd at *
      go_wp2_with fail
      refine HX.out.mono ?_
      rintro e w2 ⟨rfl, h1, h2⟩
      have hw2 := Lib.hid h1
      have hl2 := Lib.hid (hl1.out.trans h2)
      clear h1 h2 HX hw1 hl1
      go_wp2
      go_roundw
      case rel => exact ⟨k + 1, by omega, by go_num, hw2, hl2⟩
      case measure => simp [intOf]; omega
    · have ht : Hid (l.take k = l) := List.take_of_length_le (by omega)
      rw [ht.out] at hw
      go_wp2_with fail
      refine (fb_bytes w.heap.size _ wr hw.out).mono ?_
      rintro e w1 ⟨rfl, hb⟩
      have hl2 := Lib.hid (hlow.out.trans hb)
      clear hb
      go_wp2
      go_ret
      exact ⟨rfl, hl2.out⟩
set_option maxHeartbeats 1000000 in
theorem all_any (A : Option Addr) (ca : Nat) (l : List ByteArray) (w : World) (hl : l.length ≤ 100000) (hz : ∀ s ∈ l, s.size ≤ 1048576) (hr : Reads w w.heap.size 1 A l.length (l.flatMap tc)) :
    Calls Try.prog 10 #[.slice A l.length ca] w fun e w' => e = .returned (.string (bz (frsB l))) ∧ Below w.heap.size w w' := by
  have HF := Lib.hid (framed_any A ca l w hl hz hr)
  clear hr hz
  go_enter Try.func10, Try.ntmps10
  go_wp2_with fail
  refine HF.out.mono ?_
  rintro e w1 ⟨rfl, hb⟩
  have HL := Lib.hid hb
  clear hb
  go_wp2
  go_ret
  exact ⟨rfl, HL.out⟩
set_option maxHeartbeats 1000000 in
theorem fput_any (s : ByteArray) (w : World) (hs : s.size ≤ 1048576) :
    Calls Try.prog 12 #[.string s] w fun e w' => e = .returned (.string (bz (frB s))) ∧ Below w.heap.size w w' := by
  have HL0 := Lib.hid (below_lit w (.cells #[.string s] 9))
  have hF := framed_any (some ⟨w.heap.size, 0, none⟩) 1 [s] (w.alloc (.cells #[.string s] 9)) (by simp) (by simpa using hs) (lit1 (f := tc) (size := 1) w 9 [s] (fun _ => rfl))
  have e : frsB [s] = frB s := by simp [frsB]
  rw [e] at hF
  have HF := Lib.hid hF
  clear hF e
  go_enter Try.func12, Try.ntmps12
  go_wp2_with fail
  refine HF.out.mono ?_
  rintro e w1 ⟨rfl, hb⟩
  have HL := Lib.hid (HL0.out.trans (hb.mono (by simp)))
  clear hb
  go_wp2
  go_ret
  exact ⟨rfl, HL.out⟩
end Go.Proofs.Ytgojeoebflpglaa.fr
