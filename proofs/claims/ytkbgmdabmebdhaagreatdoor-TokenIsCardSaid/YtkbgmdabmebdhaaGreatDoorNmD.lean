/- Numbers and their digits: the program's Dec and the reference's. -/
import Derived.Test.YtkbgmdabmebdhaaGreatDoorNmL
import Derived.Test.YtkbgmdabmebdhaaGreatDoorNumM
import Derived.Test.YtkbgmdabmebdhaaGreatDoorShelf
import Derived.Lib.Hide
import Derived.Lib.AppendIntMem
import Derived.Deep.QuietTactic
import Derived.BigQuiet
import Derived.WalkSpells
import Derived.IntWalk
import Derived.Lib.ItoaLen
namespace Go.Proofs.YtkbgmdabmebdhaaGreatDoor.nm
open Go.ChangeShapes Go.WideShapes Go.ChangeAt Go.RowKit Go.Proofs.Aid Go.Proofs.YtkbgmdabmebdhaaGreatDoor.num
theorem ret_str {a b : ByteArray} (h : a = b) : Ending.returned (.string a) = .returned (.string b) := by rw [h]
def dec (n : Int) : ByteArray := ⟨(Lib.itoa n).toArray⟩
theorem dec_zero : dec 0 = ⟨#[48]⟩ := by
  unfold dec Lib.itoa
  rw [if_neg (by omega), Lib.decDigits, dif_pos (by decide)]; rfl
theorem dec_list (n : Int) : (dec n).data.toList = Lib.itoa n := rfl
set_option maxHeartbeats 1000000 in
theorem dec_any (n : Int) (w : World) (h0 : -9223372036854775808 ≤ n) (h1 : n ≤ 9223372036854775807) (hL : Hid (Lets w)) :
    Calls Tryz.prog 75 #[.int .i64 n] w fun e w' => e = .returned (.string (dec n)) ∧ Below w.heap.size w w' := by
  have hc := Lib.hid (Tryz.strconv_Itoa n h0 h1 w hL.out.tab)
  go_enter Tryz.func75, Tryz.ntmps75
  go_wp2_with fail
  refine hc.out.mono ?_
  rintro e w1 ⟨rfl, k, os, e1⟩
  have hb : Hid (Below w.heap.size w w1) := by rw [e1]; exact Lib.below_grow w.heap.size w (Nat.le_refl _) k os
  clear e1
  go_wp2
  go_ret
  exact ⟨rfl, hb.out⟩
theorem dec_size (n : Int) (h0 : -9223372036854775808 ≤ n) (h1 : n ≤ 9223372036854775807) : (dec n).size ≤ 20 := by
  have := itoa_len n h0 h1
  show (Lib.itoa n).toArray.size ≤ 20
  simpa using this
theorem ten_digits : ∀ d : Fin 10, (⟨#[48, 49, 50, 51, 52, 53, 54, 55, 56, 57]⟩ : ByteArray).extract d.val (d.val + 1) = ⟨#[UInt8.ofNat (48 + d.val)]⟩ := by decide
/-- What a round of the reference's loop does. -/
theorem digs_round {u : Nat} (hu : u ≠ 0) (t : ByteArray) (l : List UInt8) (h : digs u ++ t.data.toList = l) :
    digs (u / 10) ++ ((⟨#[UInt8.ofNat (48 + u % 10)]⟩ : ByteArray) ++ t).data.toList = l := by
  rw [digs_step hu] at h
  rw [← h, ByteArray.data_append]
  simp
theorem digs_end {t : ByteArray} {l : List UInt8} (h : digs 0 ++ t.data.toList = l) : t = ⟨l.toArray⟩ := by
  apply ByteArray.ext; apply Array.toList_inj.1
  simpa [digs_zero] using h
theorem dec_pos {u : Nat} (hu : u ≠ 0) : dec (u : Int) = ⟨(digs u).toArray⟩ := by
  unfold dec Lib.itoa digs
  rw [if_neg (by omega), if_neg hu]; simp
theorem dec_neg {u : Nat} (hu : u ≠ 0) : dec (-(u : Int)) = (⟨#[45]⟩ : ByteArray) ++ ⟨(digs u).toArray⟩ := by
  apply ByteArray.ext; apply Array.toList_inj.1
  rw [ByteArray.data_append]
  unfold dec Lib.itoa digs
  rw [if_pos (by omega), if_neg hu]; simp
theorem digs_short {x u : Nat} {t : ByteArray} (h : digs x ++ t.data.toList = digs u) (hu : u < 18446744073709551616) : t.size ≤ 20 := by
  have h1 := congrArg List.length h
  have h2 : (digs u).length ≤ 20 := by
    unfold digs
    split
    · simp
    · rw [Lib.decDigits_length]; exact Lib.nDigits_le20 u hu
  rw [List.length_append] at h1
  have h3 : t.data.toList.length = t.size := by simp
  omega
set_option maxHeartbeats 1000000 in
theorem rdec_any (n : Int) (w : World) (h0 : -9223372036854775808 ≤ n) (h1 : n ≤ 9223372036854775807) :
    Calls Tryz.prog 76 #[.int .i64 n] w fun e w' => e = .returned (.string (dec n)) ∧ Below w.heap.size w w' := by
  by_cases hz : n = 0
  · subst hz
    go_enter Tryz.func76, Tryz.ntmps76
    go_wp2
    go_ret
    exact ⟨ret_str dec_zero.symm, Below.refl _ _⟩
  · by_cases hp : 0 < n
    · obtain ⟨u, rfl⟩ : ∃ u : Nat, n = u := ⟨n.toNat, by omega⟩
      have hu : u ≠ 0 := by omega
      have hu64 : u < 18446744073709551616 := by omega
      have hD := Lib.hid (dec_pos hu)
      go_enter Tryz.func76, Tryz.ntmps76
      go_wp2
      go_loopw [3, 4] (fun sv kv w' => ∃ (x : Nat) (t : ByteArray), x ≤ u ∧ sv = .string t ∧ kv = .int .i64 x ∧ w' = w ∧ Hid (digs x ++ t.data.toList = digs u)) (fun _ kv _ => (intOf kv).toNat)
      case atStart => exact ⟨u, _, Nat.le_refl _, rfl, rfl, rfl, by simp [Hid]⟩
      case round =>
        obtain ⟨x, t, hx, rfl, rfl, rfl, hI⟩ := hrel
        by_cases hx0 : x = 0
        · subst hx0
          have hE := Lib.hid (digs_end hI.out)
          go_wp2
          go_ret
          exact ⟨ret_str (by rw [hD.out, hE.out]), Below.refl _ _⟩
        · have ht := digs_short hI.out hu64
          have hI2 := Lib.hid (digs_round hx0 t _ hI.out)
          have hd : x % 10 < 10 := Nat.mod_lt _ (by decide)
          have hx10 := ten_digits ⟨x % 10, hd⟩
          have hm : (x : Int).tmod 10 = ((x % 10 : Nat) : Int) := by rw [Int.tmod_eq_emod_of_nonneg (by omega)]; omega
          have hlt : x / 10 < x := by omega
          generalize hc : UInt8.ofNat (48 + x % 10) = c at *
          clear hc
          generalize x % 10 = d at *
          go_wp2
          go_roundw
          case rel => exact ⟨x / 10, _, by omega, rfl, by simp, by trivial, hI2⟩
          case measure => simp [intOf]; omega
    · obtain ⟨u, rfl⟩ : ∃ u : Nat, n = -(u : Int) := ⟨n.natAbs, by omega⟩
      have hu : u ≠ 0 := by omega
      have hu64 : u < 18446744073709551616 := by omega
      have hD := Lib.hid (dec_neg hu)
      go_enter Tryz.func76, Tryz.ntmps76
      go_wp2
      go_loopw [3, 4] (fun sv kv w' => ∃ (x : Nat) (t : ByteArray), x ≤ u ∧ sv = .string t ∧ kv = .int .i64 (-(x : Int)) ∧ w' = w ∧ Hid (digs x ++ t.data.toList = digs u)) (fun _ kv _ => (intOf kv).natAbs)
      case atStart => exact ⟨u, _, Nat.le_refl _, rfl, rfl, rfl, by simp [Hid]⟩
      case round =>
        obtain ⟨x, t, hx, rfl, rfl, rfl, hI⟩ := hrel
        by_cases hx0 : x = 0
        · subst hx0
          have ht := digs_short hI.out hu64
          have hE := Lib.hid (digs_end hI.out)
          go_wp2
          go_ret
          exact ⟨ret_str (by rw [hD.out, hE.out]), Below.refl _ _⟩
        · have ht := digs_short hI.out hu64
          have hI2 := Lib.hid (digs_round hx0 t _ hI.out)
          have hd : x % 10 < 10 := Nat.mod_lt _ (by decide)
          have hx10 := ten_digits ⟨x % 10, hd⟩
          have hm : (-(x : Int)).tmod 10 = -((x % 10 : Nat) : Int) := by rw [Int.neg_tmod, Int.tmod_eq_emod_of_nonneg (by omega)]; omega
          have hq : (-(x : Int)).tdiv 10 = -((x / 10 : Nat) : Int) := by rw [Int.neg_tdiv, Int.tdiv_eq_ediv_of_nonneg (by omega)]; omega
          have hlt : x / 10 < x := by omega
          generalize hc : UInt8.ofNat (48 + x % 10) = c at *
          clear hc
          generalize x % 10 = d at *
          by_cases hd0 : d = 0
          · subst hd0
            go_wp2
            go_roundw
            case rel => exact ⟨x / 10, _, by omega, rfl, by simp, by trivial, hI2⟩
            case measure => simp [intOf]; omega
          · go_wp2
            go_roundw
            case rel => exact ⟨x / 10, _, by omega, rfl, by simp, by trivial, hI2⟩
            case measure => simp [intOf]; omega
end Go.Proofs.YtkbgmdabmebdhaaGreatDoor.nm
