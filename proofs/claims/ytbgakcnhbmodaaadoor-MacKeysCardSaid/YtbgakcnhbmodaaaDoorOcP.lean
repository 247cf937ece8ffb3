/- The bytes of numbers and texts, the reference's. No condition. -/
import Derived.Test.YtbgakcnhbmodaaaDoorOcQ
import Derived.Laws.IdiomStrings
namespace Go.Proofs.YtbgakcnhbmodaaaDoor.oc
set_option linter.unusedSimpArgs false
set_option linter.unusedVariables false
open Go.ChangeShapes Go.WideShapes Go.ChangeAt Go.RowKit Go.Proofs.Aid
open Go.Proofs.YtbgakcnhbmodaaaDoor.texts (tc)
/-- Bytes as a text. -/
def bz (l : List UInt8) : ByteArray := ⟨l.toArray⟩
theorem bz_append (a b : List UInt8) : bz a ++ bz b = bz (a ++ b) := by
  apply ByteArray.ext
  apply Array.toList_inj.1
  simp [bz]
theorem bz_str (a : List UInt8) (s : ByteArray) : bz a ++ s = bz (a ++ s.data.toList) := by
  apply ByteArray.ext
  apply Array.toList_inj.1
  simp [bz]
theorem bz_size (a : List UInt8) : (bz a).size = a.length := by
  show a.toArray.size = _; simp
theorem and255 (n : Int) : bits .and .i64 n 255 = n % 256 := by
  show IntKind.i64.wrap ((BitVec.ofInt 64 n &&& BitVec.ofInt 64 255).toNat : Int) = _
  rw [BitVec.toNat_and]
  have e1 := toNat_two64 n
  have e2 : (BitVec.ofInt 64 255).toNat = 2 ^ 8 - 1 := by decide
  rw [e2, Nat.and_two_pow_sub_one_eq_mod]
  generalize (BitVec.ofInt 64 n).toNat = A at *
  simp only [IntKind.wrap_i64]
  omega
theorem bAt_zero (n : Int) : bAt n 0 = n % 256 := by simp [bAt]
theorem be_one (n : Int) : be 1 n = [UInt8.ofNat (n % 256).toNat] := by simp [be, bAt_zero]
theorem be_at (n : Int) (j : Nat) (h : j < 8) : (be 8 n).take (j + 1) = (be 8 n).take j ++ be 1 (n / 2 ^ (56 - 8 * j) % 256) := by
  rw [List.take_succ_eq_append_getElem (by rw [be_length]; exact h)]
  congr 1
  rw [be_one]
  simp only [be, List.getElem_map, List.getElem_range]
  have e : 8 * (8 - 1 - j) = 56 - 8 * j := by omega
  simp only [bAt, e]
  congr 2
  omega
theorem be_half (n : Int) : be 4 n = (be 8 n).drop 4 := rfl
set_option maxHeartbeats 1000000 in
theorem qbyteB_any (n : Int) (w : World) :
    Calls Tryd.prog 35 #[.int .i64 n] w fun e w' => e = .returned (.string (bz (be 1 n))) ∧ Below w.heap.size w w' := by
  have ha := and255 n
  have hm : 0 ≤ n % 256 ∧ n % 256 < 256 := ⟨by omega, by omega⟩
  have HL := Lib.hid (below_lit w (.cells #[.int .u8 (n % 256)] 5))
  have hcv : (convert 27 9 (.slice (some ⟨w.heap.size, 0, none⟩) 1 1)).run Tryd.prog (w.alloc (.cells #[.int .u8 (n % 256)] 5)) = .ok (.string ⟨#[UInt8.ofNat (n % 256).toNat]⟩) (w.alloc (.cells #[.int .u8 (n % 256)] 5)) := run_convert_bytes_back (P := Tryd.prog) (w.alloc (.cells #[.int .u8 (n % 256)] 5)) 27 9 5 ⟨w.heap.size, 0, none⟩ 1 [UInt8.ofNat (n % 256).toNat] Tryd.underlying27 Tryd.underlying5 Tryd.underlying9 (fun j hj => by
    have hj0 : j = 0 := by simpa using hj
    subst hj0
    have h1 := (Blk.new w 5 #[.int .u8 (n % 256)]).cell 0
    have h2 : ((UInt8.ofNat (n % 256).toNat).toNat : Int) = n % 256 := by rw [UInt8.toNat_ofNat']; omega
    show World.cell? _ ⟨w.heap.size, 0, none⟩ = some (.int .u8 ((UInt8.ofNat (n % 256).toNat).toNat : Int))
    rw [h1, h2]; rfl)
  have hF : Hid (bz (be 1 n) = ⟨#[UInt8.ofNat (n % 256).toNat]⟩) := by rw [be_one]; rfl
  rw [hF.out]
  clear hF
  go_enter Tryd.func35, Tryd.ntmps35
  go_wp2
  go_ret
  exact ⟨rfl, HL.out⟩
set_option maxRecDepth 100000 in
set_option maxHeartbeats 2000000 in
theorem qintB_any (n : Int) (w : World) :
    Calls Tryd.prog 23 #[.int .i64 n] w fun e w' => e = .returned (.string (bz (be 8 n))) ∧ Below w.heap.size w w' := by
  have h0 : Hid ((⟨#[]⟩ : ByteArray) = bz ((be 8 n).take 0)) := rfl
  go_enter Tryd.func23, Tryd.ntmps23
  go_wp2_with fail
  go_loopw [3, 4] (fun sv kv wr => ∃ j : Nat, j ≤ 8 ∧ kv = .int .i64 (56 - 8 * (j : Int)) ∧ sv = .string (bz ((be 8 n).take j)) ∧ Hid (Below w.heap.size w wr)) (fun _ kv _ => (intOf kv + 8).toNat)
  case atStart => exact ⟨0, by omega, rfl, by rw [← h0.out], Below.refl _ _⟩
  case round =>
    clear h0
    obtain ⟨j, hj, rfl, rfl, hlow⟩ := hrel
    by_cases hlt : j < 8
    · have ha := and255
      have hat := Lib.hid (be_at n j hlt)
      have ht : (56 - 8 * (j : Int)).toNat = 56 - 8 * j := by omega
      have hsz : (bz ((be 8 n).take j)).size ≤ 8 := by rw [bz_size, List.length_take]; omega
      have hsb : ∀ m, (bz (be 1 m)).size = 1 := fun m => by rw [bz_size, be_length]
      have hB := Lib.hid (fun m => qbyteB_any m wr)
      generalize hl : (be 8 n).take j = l at *
      have hap := Lib.hid (fun m => bz_append l (be 1 m))
      go_wp2_with fail
      refine (hB.out _).mono ?_
      rintro e w1 ⟨rfl, hb⟩
      have hb2 := Lib.hid (hlow.out.trans (hb.mono hlow.out.size))
      clear hb
      go_wp2
      go_roundw
      case rel =>
        refine ⟨j + 1, by omega, ?_, ?_, hb2⟩
        · congr 1; omega
        · rw [hat.out, ← hap.out]
      case measure => simp [intOf]; omega
    · have hj8 : j = 8 := by omega
      subst hj8
      have ht : Hid ((be 8 n).take 8 = be 8 n) := List.take_of_length_le (by rw [be_length]; omega)
      rw [ht.out]
      go_wp2
      go_ret
      exact ⟨rfl, hlow.out⟩
set_option maxHeartbeats 1000000 in
theorem qcountB_any (n : Int) (w : World) :
    Calls Tryd.prog 18 #[.int .i64 n] w fun e w' => e = .returned (.string (bz (be 4 n))) ∧ Below w.heap.size w w' := by
  have HI := Lib.hid (qintB_any n w)
  have hsz : (bz (be 8 n)).size = 8 := by rw [bz_size, be_length]
  have hx : Hid ((bz (be 8 n)).extract 4 8 = bz (be 4 n)) := by
    show _ = _
    rw [be_half]
    apply ByteArray.ext
    apply Array.toList_inj.1
    rw [Lib.extract_data]
    simp [bz, be_length]
    exact List.take_of_length_le (by simp [be_length])
  go_enter Tryd.func18, Tryd.ntmps18
  go_wp2_with fail
  refine HI.out.mono ?_
  rintro e w1 ⟨rfl, hb⟩
  have HL := Lib.hid hb
  clear hb
  go_wp2
  go_ret
  exact ⟨by rw [← hx.out]; rfl, HL.out⟩
theorem bz_te (s : ByteArray) : bz (be 4 s.size) ++ s = bz (teB s) := bz_str _ _
theorem bz_tes (l : List ByteArray) (k : Nat) (h : k < l.length) : bz (be 4 l.length ++ (l.take k).flatMap teB) ++ bz (teB l[k]) = bz (be 4 l.length ++ (l.take (k + 1)).flatMap teB) := by
  rw [flat_take l k h, bz_append, List.append_assoc]
end Go.Proofs.YtbgakcnhbmodaaaDoor.oc
