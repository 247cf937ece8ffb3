/- The walks of the reference of sha: the digits, of lists. -/
import Derived.Test.YtbgakcnhbmodaaaDoorShV
namespace Go.Proofs.YtbgakcnhbmodaaaDoor.shr
open Go.ChangeShapes Go.WideShapes Go.ChangeAt Go.RowKit Go.Proofs.Aid
open Go.Proofs.YtbgakcnhbmodaaaDoor.oc (be be_length bz bz_append)
open Go.Proofs.YtbgakcnhbmodaaaDoor.sha
set_option linter.unusedVariables false
theorem hexS : ∀ k : Fin 16, hexT.extract k.val (k.val + 1) = bz [hexD k.val] := by decide +kernel
theorem i15 : ∀ c : Fin 256, bits .and .i64 (c.val : Int) 15 = ((c.val % 16 : Nat) : Int) := by decide +kernel
theorem hexSl (w : World) (k : Nat) (hk : k < 16) {L H : Int} (hL : L = k) (hH : H = (k + 1 : Nat)) : (Instr.slice 9 (.string hexT) (some (.int .i64 L)) (some (.int .i64 H)) none).run Tryd.prog w = .ok (.string (bz [hexD k])) w := by
  rw [← hexS ⟨k, hk⟩]
  exact run_slice_string_lh (P := Tryd.prog) Tryd.underlying9 w hexT .i64 .i64 k (k + 1) (by omega) (by show k + 1 ≤ 16; omega) hL hH
def Dig (b : List UInt8) (w : World) (e : Ending) (w' : World) : Prop := e = .returned (.string (bz b)) ∧ ∃ m, w' = w.drewN m
set_option maxRecDepth 100000 in
set_option maxHeartbeats 2000000 in
theorem digits_any (s : ByteArray) (w : World) (hs : s.size ≤ 1000000) :
    Calls Tryd.prog 15 #[.string s] w (Dig (hexB s.data.toList) w) := by
  have H0 : Hid ((⟨#[]⟩ : ByteArray) = bz (hexB (s.data.toList.take 0))) := rfl
  have HW0 : Hid (∃ m, w = w.drewN m) := ⟨0, rfl⟩
  go_enter Tryd.func15, Tryd.ntmps15
  go_wp2
  go_loopw [3, 4] (fun sv iv wr => ∃ k : Nat, k ≤ s.size ∧ iv = .int .i64 k ∧ sv = .string (bz (hexB (s.data.toList.take k))) ∧ Hid (∃ m, wr = w.drewN m)) (fun _ iv _ => s.size - (intOf iv).toNat)
  case atStart => exact ⟨0, by omega, rfl, by rw [← H0.out], HW0⟩
  case round =>
    clear H0 HW0
    obtain ⟨k, hk, rfl, rfl, hw⟩ := hrel
    by_cases hlt : k < s.size
    · have hkl : k < s.data.toList.length := by simpa using hlt
      have hzr := fun w => index_str (P := Tryd.prog) Tryd.underlying9 w s .i64 hlt (I := (k : Int)) rfl
      have htk : Hid (s.data.toList.take (k + 1) = s.data.toList.take k ++ [s[k]]) := List.take_succ_eq_append_getElem hkl
      have HSN := Lib.hid (hexB_snoc (s.data.toList.take k) s[k])
      have hzs : (bz (hexB (s.data.toList.take k))).size ≤ 2000000 := by
        rw [oc.bz_size, hexB_len, List.length_take]; simp; omega
      have hc := s[k].toNat_lt
      have hA := fun w => hexSl w (s[k].toNat / 16) (by omega) (L := (s[k].toNat : Int) / 16) (H := (s[k].toNat : Int) / 16 + 1) (by omega) (by omega)
      have hB := fun w => hexSl w (s[k].toNat % 16) (by omega) (L := ((s[k].toNat % 16 : Nat) : Int)) (H := ((s[k].toNat % 16 : Nat) : Int) + 1) rfl (by omega)
      have e15 := i15 ⟨s[k].toNat, hc⟩
      simp only at e15
      have hap := Lib.hid (bz_append (hexB (s.data.toList.take k)) [hexD (s[k].toNat / 16)])
      have hap2 := Lib.hid (bz_append (hexB (s.data.toList.take k) ++ [hexD (s[k].toNat / 16)]) [hexD (s[k].toNat % 16)])
      have hz1 : (bz [hexD (s[k].toNat / 16)]).size = 1 := rfl
      have hz2 : (bz [hexD (s[k].toNat % 16)]).size = 1 := rfl
      have n1 : s[k].toNat % 16 < 16 := by omega
      have ew1 : IntKind.i64.wrap ((s[k].toNat : Int) / 16 + 1) = (s[k].toNat : Int) / 16 + 1 := IntWalk.i64_in _ (by omega)
      have ew2 : IntKind.i64.wrap (((s[k].toNat % 16 : Nat) : Int) + 1) = ((s[k].toNat % 16 : Nat) : Int) + 1 := IntWalk.i64_in _ (by omega)
      have ew3 : IntKind.i64.wrap (s[k].toNat : Int) = (s[k].toNat : Int) := IntWalk.i64_in _ (by omega)
      simp only [hexT] at hA hB
      generalize s[k].toNat % 16 = n15 at *
      generalize hexD (s[k].toNat / 16) = d1 at *
      generalize hexD n15 = d2 at *
      generalize s[k].toNat = nc at *
      generalize bz (hexB (s.data.toList.take k)) = z at *
      generalize bz [d1] = y1 at *
      generalize bz [d2] = y2 at *
      go_wp2
      go_quiet (fail)
      clear hzr e15
      have hw1 : Hid (∃ m, wr.drewN nq = w.drewN m) := by
        obtain ⟨m, hm⟩ := hw.out
        exact ⟨m + nq, by rw [hm, World.drewN_drewN]⟩
      clear hw
      generalize wr.drewN nq = wa at *
      go_wp2
      go_quiet (fail)
      have hw2 : Hid (∃ m, wa.drewN nq = w.drewN m) := by
        obtain ⟨m, hm⟩ := hw1.out
        exact ⟨m + nq, by rw [hm, World.drewN_drewN]⟩
      clear hw1 hA hB ew1 ew2 ew3 hz1 hz2
      generalize wa.drewN nq = wb at *
      go_wp2
      go_roundw
      case rel => exact ⟨k + 1, by omega, by go_num, by rw [htk.out, HSN.out, ← hap2.out, ← hap.out], hw2⟩
      case measure => simp [intOf]; omega
    · have hks : k = s.size := by omega
      have HFF : Hid (Dig (hexB s.data.toList) w (.returned (.string (bz (hexB (s.data.toList.take k))))) wr) := by
        rw [List.take_of_length_le (by simp; omega)]
        exact ⟨rfl, hw.out⟩
      clear hks hw
      go_wp2
      go_ret
      exact HFF.out
def RHexed (b : List UInt8) (w : World) (e : Ending) (w' : World) : Prop := e = .returned (.string (bz b)) ∧ Below w.heap.size w w'
end Go.Proofs.YtbgakcnhbmodaaaDoor.shr
