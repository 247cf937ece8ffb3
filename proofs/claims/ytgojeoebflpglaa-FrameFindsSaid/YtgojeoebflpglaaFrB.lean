/- Records out of frames, the package's. No condition. -/
import Derived.Test.YtgojeoebflpglaaFrA
import Derived.Test.YtgojeoebflpglaaOcA
namespace Go.Proofs.Ytgojeoebflpglaa.fr
set_option linter.unusedSimpArgs false
set_option linter.unusedVariables false
open Go.ChangeShapes Go.WideShapes Go.ChangeAt Go.RowKit Go.Proofs.Aid
open Go.Proofs.Ytgojeoebflpglaa.oc Go.Proofs.CrcMath
open Go.Proofs.Ytgojeoebflpglaa.texts (tc)
/-- What first answers. -/
def FPost (x : ByteArray) (w : World) (e : Ending) (w' : World) : Prop := (∃ t b, e = .returned (.tuple #[.string t, .bool b]) ∧ (b = true → firstS x = some t) ∧ (b = false → firstS x = none)) ∧ Below w.heap.size w w'
theorem parts_eq (c : ByteArray) (body : ByteArray) (l : List UInt8) (h : l = c.data.toList) : cmore (cmore 0 c.data.toList : Nat) body.data.toList = cmore 0 (l ++ body.data.toList) := by
  rw [h]; exact (parts 0 _ _).symm
set_option maxRecDepth 100000 in
set_option maxHeartbeats 4000000 in
theorem first_any (x : ByteArray) (w : World) (hx : x.size ≤ 1099511627776) :
    Calls Try.prog 16 #[.string x] w (FPost x w) := by
  have HL := Lib.hid (below_lit w (.cells #[.string x, .bool true] 62))
  have HR := Lib.hid (RAt.new x (by omega) w)
  have hbd := Lib.hid (countS_bd 1048576 (some x) (by decide))
  have hfs : Hid (firstS x = match (countS 4294967295 (countS 1048576 (some x)).2).2 with
    | none => none
    | some r => if (countS 1048576 (some x)).1 ≤ r.size ∧ (cmore 0 (be 4 (countS 1048576 (some x)).1 ++ (r.extract 0 (countS 1048576 (some x)).1.toNat).data.toList) : Int) = (countS 4294967295 (countS 1048576 (some x)).2).1 then some (r.extract 0 (countS 1048576 (some x)).1.toNat) else none) := rfl
  have hh8 : Hid (∀ r, (countS 4294967295 (countS 1048576 (some x)).2).2 = some r → 8 ≤ x.size ∧ r = x.extract 8 x.size ∧ be 4 (countS 1048576 (some x)).1 = (x.extract 0 4).data.toList) := fun r h => head8 h
  go_enter Try.func16, Try.ntmps16
  go_wp2_with fail
  refine (new_any x w).mono ?_
  rintro e w1 ⟨rfl, rfl⟩
  generalize w.alloc (.cells #[.string x, .bool true] 62) = w1 at *
  have hc := Lib.hid (rcount_any (some w.heap.size) (some x) 1048576 w1 HR.out)
  clear HR
  generalize (countS 1048576 (some x)).1 = n at *
  generalize (countS 1048576 (some x)).2 = st1 at *
  go_wp2_with fail
  refine hc.out.mono ?_
  rintro e w2 ⟨rfl, h1, h2⟩
  have HL2 := Lib.hid (low_of HL.out h2 (Nat.le_refl _) HL.out.size)
  have hc2 := Lib.hid (rcount_any (some w.heap.size) st1 4294967295 w2 h1)
  clear hc HL h1 h2
  generalize (countS 4294967295 st1).1 = sm at *
  generalize (countS 4294967295 st1).2 = st2 at *
  go_wp2_with fail
  refine hc2.out.mono ?_
  rintro e w3 ⟨rfl, h1, h2⟩
  have HL3 := Lib.hid (low_of HL2.out h2 (Nat.le_refl _) HL2.out.size)
  have hbad := Lib.hid (bad_any (some w.heap.size) st2 w3 h1)
  clear hc2 HL2 h1 h2
  cases st2 with
  | none =>
    have hF : Hid (FPost x w (.returned (.tuple #[.string ⟨#[]⟩, .bool false])) w3) := ⟨⟨_, _, rfl, (fun h => by cases h), fun _ => hfs.out⟩, HL3.out⟩
    clear hfs hh8
    go_wp2_with fail
    refine hbad.out.mono ?_
    rintro e w4 ⟨rfl, rfl⟩
    go_wp2
    go_ret2
    exact hF.out
  | some r =>
    obtain ⟨h8, hr, hb4⟩ := hh8.out r rfl
    obtain ⟨m, hm⟩ : ∃ m : Nat, n = m := ⟨n.toNat, by have := hbd.out.1; omega⟩
    subst hm
    have hm2 : m ≤ 1048576 := by have := hbd.out.2; omega
    have hrz : r.size = x.size - 8 := by rw [hr, ByteArray.size_extract]; omega
    simp only [Int.toNat_natCast] at hfs
    by_cases hfit : m ≤ r.size
    · have hbody : Hid (x.extract 8 (8 + m) = r.extract 0 m) := by
        show _ = _
        apply ba_list
        rw [hr, Lib.extract_data, Lib.extract_data, Lib.extract_data]
        rw [List.drop_zero, List.take_take]
        congr 1
        omega
      have hsz : (r.extract 0 m).size = m := by rw [ByteArray.size_extract]; omega
      have hS := Lib.hid (fun w => crc.sum_any (x.extract 0 4) w (by rw [ByteArray.size_extract]; unfold maxLen; omega))
      have hpe := parts_eq (x.extract 0 4) (r.extract 0 m) _ hb4
      have hM := fun w => crc.more_any (cmore 0 (x.extract 0 4).data.toList : Nat) (r.extract 0 m) w (by unfold maxLen; omega)
      rw [hpe] at hM
      have HM := Lib.hid hM
      clear hM hpe hb4
      have e1 : Hid (firstS x = if (cmore 0 (be 4 (m : Int) ++ (r.extract 0 m).data.toList) : Int) = sm then some (r.extract 0 m) else none) := by
        show _ = _
        rw [hfs.out]
        by_cases hq : (cmore 0 (be 4 (m : Int) ++ (r.extract 0 m).data.toList) : Int) = sm
        · rw [if_pos ⟨by omega, hq⟩, if_pos hq]
        · rw [if_neg (fun h => hq h.2), if_neg hq]
      clear hfs hh8 hr
      have hle : 8 + m ≤ x.size := by omega
      have hbody2 := Lib.hid hbody.out
      generalize cmore 0 (be 4 (m : Int) ++ (r.extract 0 m).data.toList) = cs at *
      generalize cmore 0 (x.extract 0 4).data.toList = c0 at *
      generalize r.extract 0 m = body at *
      by_cases hq : (cs : Int) = sm
      · have hF : Hid (FPost x w (.returned (.tuple #[.string body, .bool true])) w3) := ⟨⟨_, _, rfl, fun _ => by rw [e1.out, if_pos hq], fun h => by cases h⟩, HL3.out⟩
        clear e1
        subst hq
        go_wp2_with fail
        refine hbad.out.mono ?_
        rintro e w4 ⟨rfl, rfl⟩
        have hbx := hbody2.out
        go_wp2_with fail
        refine (hS.out _).mono ?_
        rintro e w5 ⟨rfl, rfl⟩
        go_wp2_with fail
        refine (HM.out _).mono ?_
        rintro e w6 ⟨rfl, rfl⟩
        go_wp2
        go_ret2
        exact hF.out
      · have hF : Hid (FPost x w (.returned (.tuple #[.string body, .bool false])) w3) := ⟨⟨_, _, rfl, (fun h => by cases h), fun _ => by rw [e1.out, if_neg hq]⟩, HL3.out⟩
        have hqb : ((cs : Int) == sm) = false := by simpa using hq
        clear e1
        go_wp2_with fail
        refine hbad.out.mono ?_
        rintro e w4 ⟨rfl, rfl⟩
        have hbx := hbody2.out
        go_wp2_with fail
        refine (hS.out _).mono ?_
        rintro e w5 ⟨rfl, rfl⟩
        go_wp2_with fail
        refine (HM.out _).mono ?_
        rintro e w6 ⟨rfl, rfl⟩
        go_wp2
        go_ret2
        exact hF.out
    · have hF : Hid (FPost x w (.returned (.tuple #[.string ⟨#[]⟩, .bool false])) w3) := ⟨⟨_, _, rfl, (fun h => by cases h), fun _ => by rw [hfs.out]; exact if_neg (fun h => hfit (by have := h.1; omega))⟩, HL3.out⟩
      have hnf : x.size < 8 + m := by omega
      clear hfs hh8 hr hb4
      go_wp2_with fail
      refine hbad.out.mono ?_
      rintro e w4 ⟨rfl, rfl⟩
      go_wp2
      go_ret2
      exact hF.out
end Go.Proofs.Ytgojeoebflpglaa.fr
