/- CrcParts: for any two texts, the law's Go function returns true and leaves its arguments as they were; no condition. -/
import Derived.Test.YtajbennbgjbpeaaA
namespace Go.Proofs.Ytajbennbgjbpeaa.crcPartsW
open Go.ChangeShapes Go.WideShapes Go.ChangeAt Go.RowKit Go.Proofs.CrcMath Go.Proofs.Ytajbennbgjbpeaa.crc
open Go.ChangeMaps (open_string shut_string)
theorem walk (a0 : ByteArray) (a1 : ByteArray) (w0 : a0.size ≤ maxLen) (w1 : a1.size ≤ maxLen) (w : World) :
    Calls Try.prog 4 #[.string a0, .string a1] w fun e w' => e = .returned (.bool true) ∧ w = w' := by
  have m0 := Lib.hid w0
  have m1 := Lib.hid w1
  unfold maxLen at w0 w1
  by_cases h0 : 1024 < a0.size
  · go_enter Try.func4, Try.ntmps4
    go_wp2_with fail
    refine (awake_any _).mono ?_
    rintro e w' ⟨rfl, rfl⟩
    go_wp2
    go_ret
    exact ⟨rfl, rfl⟩
  · by_cases h1 : 1024 < a1.size
    · go_enter Try.func4, Try.ntmps4
      go_wp2_with fail
      refine (awake_any _).mono ?_
      rintro e w' ⟨rfl, rfl⟩
      go_wp2
      go_ret
      exact ⟨rfl, rfl⟩
    · go_enter Try.func4, Try.ntmps4
      go_wp2_with fail
      refine (sum_any _ _ ?_).mono ?_
      · unfold maxLen; simp; omega
      rintro e w' ⟨rfl, rfl⟩
      go_wp2_with fail
      refine (sum_any _ _ m0.out).mono ?_
      rintro e w' ⟨rfl, rfl⟩
      go_wp2_with fail
      refine (more_any _ _ _ m1.out).mono ?_
      rw [← parts]
      rintro e w' ⟨rfl, rfl⟩
      go_wp2_with fail
      refine (awake_any _).mono ?_
      rintro e w' ⟨rfl, rfl⟩
      go_wp2
      go_ret
      exact ⟨rfl, rfl⟩
end Go.Proofs.Ytajbennbgjbpeaa.crcPartsW
