/- The number of digits: the program's Num and the reference's. -/
import Derived.Test.YtkbgmdabmebdhaaDoorNmD
import Derived.Lib.AtoiErrMem
namespace Go.Proofs.YtkbgmdabmebdhaaDoor.nm
open Go.ChangeShapes Go.WideShapes Go.ChangeAt Go.RowKit Go.Proofs.Aid Go.Proofs.YtkbgmdabmebdhaaDoor.num
def num (s : ByteArray) : Option Int := numD s.data.toList
def numV (s : ByteArray) : Int := (num s).getD 0
def numR (s : ByteArray) : Ending := .returned (.tuple #[.int .i64 (numV s), .bool (num s).isSome])
theorem numR_some {s : ByteArray} {v : Int} (h : num s = some v) : numR s = .returned (.tuple #[.int .i64 v, .bool true]) := by simp [numR, numV, h]
theorem numR_none {s : ByteArray} (h : num s = none) : numR s = .returned (.tuple #[.int .i64 0, .bool false]) := by simp [numR, numV, h]
theorem str_eq {a : ByteArray} {l : List UInt8} (h : l = a.data.toList) : a = ⟨l.toArray⟩ := by
  apply ByteArray.ext; apply Array.toList_inj.1; simp [h]
theorem strs_ne {x s : ByteArray} (h : x ≠ s) : (x.toList == s.toList) = false := by
  rw [beq_eq_false_iff_ne]
  intro e
  apply h; apply ByteArray.ext; apply Array.toList_inj.1; rw [← Lib.toList_data, ← Lib.toList_data]; exact e
set_option maxHeartbeats 1000000 in
theorem num_any (s : ByteArray) (w : World) (hs : s.size ≤ 281474976710656) (hL : Hid (Lets w)) :
    Calls Tryd.prog 44 #[.string s] w fun e w' => e = numR s ∧ Below w.heap.size w w' := by
  cases h : Lib.atoiAll s.data.toList with
  | ok v =>
    have hb := Lib.atoiAll_bounds h
    have hA := Lib.hid (Tryd.strconv_Atoi_ok s (by omega) v h w)
    by_cases hE : Lib.itoa v = s.data.toList
    · have hR := Lib.hid (numR_some (s := s) (v := v) (by unfold num numD; rw [h]; simp [hE]))
      have hd : s = dec v := str_eq hE
      clear h hE
      subst hd
      go_enter Tryd.func44, Tryd.ntmps44
      go_wp2_with fail
      refine hA.out.mono ?_
      rintro e w1 ⟨rfl, e1⟩
      have hb1 : Hid (Below w.heap.size w w1) := by
        rcases e1 with rfl | ⟨t, rfl⟩
        · exact Below.refl _ _
        · exact Lib.bytesWorld_below _ _ _
      clear e1
      have hL1 := Lib.hid (hL.out.next hb1.out)
      go_wp2_with fail
      refine (dec_any v w1 hb.1 hb.2 hL1).mono ?_
      rintro e w2 ⟨rfl, hb2⟩
      have hb3 := Lib.hid (hb1.out.trans (hb2.mono hb1.out.size))
      clear hb2
      go_wp2
      go_ret2
      exact ⟨hR.out.symm, hb3.out⟩
    · have hR := Lib.hid (numR_none (s := s) (by unfold num numD; rw [h]; simp [hE]))
      have hne := strs_ne (x := dec v) (s := s) (fun e => hE (by rw [← e]; rfl))
      go_enter Tryd.func44, Tryd.ntmps44
      go_wp2_with fail
      refine hA.out.mono ?_
      rintro e w1 ⟨rfl, e1⟩
      have hb1 : Hid (Below w.heap.size w w1) := by
        rcases e1 with rfl | ⟨t, rfl⟩
        · exact Below.refl _ _
        · exact Lib.bytesWorld_below _ _ _
      clear e1
      have hL1 := Lib.hid (hL.out.next hb1.out)
      go_wp2_with fail
      refine (dec_any v w1 hb.1 hb.2 hL1).mono ?_
      rintro e w2 ⟨rfl, hb2⟩
      have hb3 := Lib.hid (hb1.out.trans (hb2.mono hb1.out.size))
      clear hb2
      generalize dec v = dv at *
      go_wp2
      go_ret2
      exact ⟨hR.out.symm, hb3.out⟩
  | «syntax» =>
    have hR := Lib.hid (numR_none (s := s) (by unfold num numD; rw [h]))
    obtain ⟨tp, p, hv⟩ := hL.out.syn
    have hA := Lib.hid (Tryd.strconv_Atoi_syntax_var s hs h tp p w hv)
    go_enter Tryd.func44, Tryd.ntmps44
    go_wp2_with fail
    refine hA.out.mono ?_
    rintro e w1 ⟨N, rfl, -, -, hb1⟩
    have hb1 := Lib.hid hb1
    go_wp2
    go_ret2
    exact ⟨hR.out.symm, hb1.out⟩
  | range =>
    have hR := Lib.hid (numR_none (s := s) (by unfold num numD; rw [h]))
    obtain ⟨tp, p, hv⟩ := hL.out.ran
    have hA := Lib.hid (Tryd.strconv_Atoi_range_var s hs h tp p w hv)
    go_enter Tryd.func44, Tryd.ntmps44
    go_wp2_with fail
    refine hA.out.mono ?_
    rintro e w1 ⟨N, rfl, -, -, hb1⟩
    have hb1 := Lib.hid hb1
    go_wp2
    go_ret2
    exact ⟨hR.out.symm, hb1.out⟩
theorem drop_at (s : ByteArray) (k : Nat) (h : k < s.size) : s.data.toList.drop k = s[k] :: s.data.toList.drop (k + 1) := by
  rw [List.drop_eq_getElem_cons (by simpa using h)]; rfl
theorem step_bounds (m : Int) (c : UInt8) : -9223372036854775808 ≤ dstep m c ∧ dstep m c ≤ 9223372036854775807 := wrap_bounds _
theorem rnum_long {s : ByteArray} (h : 20 < s.size ∨ s.size = 0) : num s = none := by
  unfold num
  rw [← ref_num]
  unfold refNum
  rw [if_pos]
  rcases h with h | h
  · left; simpa using h
  · right; apply List.length_eq_zero_iff.1; simpa using h
theorem rnum_plain {s : ByteArray} (h1 : ¬ 20 < s.size) (h2 : ¬ s.size = 0) (h : s.data.toList.head? ≠ some 45) :
    num s = match fold 0 (s.data.toList.drop 0) with | none => none | some m => if Lib.itoa (IntKind.i64.wrap (-m)) = s.data.toList then some (IntKind.i64.wrap (-m)) else none := by
  unfold num
  rw [← ref_num]
  unfold refNum
  rw [if_neg (by
    rintro (e | e)
    · exact h1 (by simpa using e)
    · exact h2 (by have := congrArg List.length e; simpa using this))]
  simp only [if_neg h, List.drop_zero]
  rfl
theorem rnum_minus {s : ByteArray} (h1 : ¬ 20 < s.size) (h2 : ¬ s.size = 0) (h : s.data.toList.head? = some 45) :
    num s = match fold 0 (s.data.toList.drop 1) with | none => none | some m => if Lib.itoa m = s.data.toList then some m else none := by
  unfold num
  rw [← ref_num]
  unfold refNum
  rw [if_neg (by
    rintro (e | e)
    · exact h1 (by simpa using e)
    · exact h2 (by have := congrArg List.length e; simpa using this))]
  simp only [if_pos h, List.drop_one]
  rfl
theorem head_at {s : ByteArray} (h : 0 < s.size) : s.data.toList.head? = some (s[0]'h) := by
  rw [List.head?_eq_getElem?, List.getElem?_eq_getElem (by simpa using h)]; rfl
end Go.Proofs.YtkbgmdabmebdhaaDoor.nm
