/- Token: what is read back, plain. -/
import Derived.Test.YtkbgmdabmebdhaaGreatDoorTkB
namespace Go.Proofs.YtkbgmdabmebdhaaGreatDoor.tk
open Go.ChangeShapes Go.WideShapes Go.ChangeAt Go.RowKit Go.Proofs.Aid Go.Proofs.YtkbgmdabmebdhaaGreatDoor.rgy Go.Proofs.YtkbgmdabmebdhaaGreatDoor.name
open Go.Proofs.YtkbgmdabmebdhaaGreatDoor.oc (be be_length bz bz_append teB textS numS St RAt RPost pv pb text_back num_back ext_head ext_tail be8_back)
open Go.Proofs.YtkbgmdabmebdhaaGreatDoor.mac (macB msum_any MStr IsD is_yes is_no)
open Go.Proofs.YtkbgmdabmebdhaaGreatDoor.te
set_option linter.unusedVariables false
theorem cutA_back (a L : List UInt8) (h : L.length = 32) : cutA (bz (a ++ L)) = bz a := by
  unfold cutA
  have e : (bz (a ++ L)).size - 32 = a.length := by rw [oc.bz_size, List.length_append]; omega
  rw [e]; exact ext_head a L
theorem cutZ_back (a L : List UInt8) (h : L.length = 32) : cutZ (bz (a ++ L)) = bz L := by
  unfold cutZ
  have e : (bz (a ++ L)).size - 32 = a.length := by rw [oc.bz_size, List.length_append]; omega
  rw [e]; exact ext_tail a L
theorem rA_back (t u : ByteArray) (n : Int) (ht : t.size ≤ 1048576) : rA (bz (saysB t u n)) = (t, some (bz (teB u ++ be 8 n))) := by
  unfold rA saysB; rw [List.append_assoc]; exact text_back t _ ht
theorem rB_back (t u : ByteArray) (n : Int) (ht : t.size ≤ 1048576) (hu : u.size ≤ 1048576) : rB (bz (saysB t u n)) = (u, some (bz (be 8 n))) := by
  unfold rB; rw [rA_back t u n ht]; exact text_back u _ hu
theorem rC_back (t u : ByteArray) (n : Int) (ht : t.size ≤ 1048576) (hu : u.size ≤ 1048576) (h0 : -9223372036854775808 ≤ n) (h1 : n ≤ 9223372036854775807) : rC (bz (saysB t u n)) = (n, some (bz [])) := by
  unfold rC; rw [rB_back t u n ht hu]
  have h := num_back 8 n [] (be8_back n h0 h1)
  rw [List.append_nil] at h
  exact h
theorem okR_back (t u : ByteArray) (n : Int) (ht : t.size ≤ 1048576) (hu : u.size ≤ 1048576) (h0 : -9223372036854775808 ≤ n) (h1 : n ≤ 9223372036854775807) : okR (bz (saysB t u n)) = true := by
  unfold okR; rw [rC_back t u n ht hu h0 h1]; rfl
def enK (t k : ByteArray) : En := ⟨tkey t fS, ⟨1, ⟨#[]⟩, k⟩⟩
theorem secV_one (t k : ByteArray) : secV [enK t k] t = k := by
  unfold secV rgy.get
  rw [look_found (l := [enK t k]) (s := tkey t fS) (k := 0) (Nat.zero_lt_succ 0) rfl (fun j _ h => absurd h (by omega))]
  rfl
theorem secV_nil (t : ByteArray) : secV [] t = ⟨#[]⟩ := rfl
theorem isT_one (t k : ByteArray) : isT [enK t k] t = (isName t.data.toList && isSec k) := by unfold isT; rw [secV_one]
theorem isT_nil (t : ByteArray) : isT [] t = false := by
  unfold isT; rw [secV_nil]
  cases isName t.data.toList <;> rfl
theorem chk_back (t u k : ByteArray) (n now : Int) (L : List UInt8) (hL : L.length = 32) (ht : isName t.data.toList = true) (hu : isName u.data.toList = true) (hk : isSec k = true) (st : t.size ≤ 1048576) (su : u.size ≤ 1048576) (h0 : -9223372036854775808 ≤ n) (h1 : n ≤ 9223372036854775807) :
    chk [enK t k] (bz (saysB t u n ++ L)) now = (decide (macB k.data.toList (saysB t u n) = L) && decide (now ≤ n)) := by
  unfold chk
  rw [cutA_back _ _ hL, cutZ_back _ _ hL, okR_back t u n st su h0 h1, rA_back t u n st, rB_back t u n st su, rC_back t u n st su h0 h1]
  simp only [ht, hu, isT_one, hk, secV_one, Bool.true_and]
  congr 1
  have e : (bz (saysB t u n)).data.toList = saysB t u n := rfl
  rw [e]
  by_cases h : macB k.data.toList (saysB t u n) = L
  · rw [decide_eq_true h, h]; simp
  · rw [decide_eq_false h, decide_eq_false (fun e => h ((congrArg (fun z : ByteArray => z.data.toList) e)))]
theorem chk_nil (s : ByteArray) (now : Int) : chk [] s now = false := by
  unfold chk; rw [isT_nil]; simp
theorem chk_short (xs : List En) (s : ByteArray) (now : Int) (h : s.size < 32) : chk xs s now = false := by
  have e : cutA s = ⟨#[]⟩ := by unfold cutA; rw [show s.size - 32 = 0 by omega]; apply ByteArray.ext; simp
  unfold chk
  rw [e]
  have h2 : okR ⟨#[]⟩ = false := by decide +kernel
  rw [h2]; rfl
theorem short_one (t k : ByteArray) (hk : k.size ≤ 300) : short [enK t k] := by
  intro x hx
  obtain rfl := List.mem_singleton.1 hx
  exact hk
end Go.Proofs.YtkbgmdabmebdhaaGreatDoor.tk
