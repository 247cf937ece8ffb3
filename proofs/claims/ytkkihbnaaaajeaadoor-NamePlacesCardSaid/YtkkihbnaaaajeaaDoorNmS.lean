/- A place split into its bucket and its key: the program's and the reference's. -/
import Derived.Test.YtkkihbnaaaajeaaDoorNmR
import Derived.Lib.CutLaws
namespace Go.Proofs.YtkkihbnaaaajeaaDoor.nm
open Go.ChangeShapes Go.WideShapes Go.ChangeAt Go.RowKit Go.Proofs.Aid Go.Proofs.YtkkihbnaaaajeaaDoor.seg Go.Proofs.YtkkihbnaaaajeaaDoor.name Go.Proofs.YtkkihbnaaaajeaaDoor.texts
def cutA (s : ByteArray) : ByteArray := ⟨(Lib.cut s.data.toList [47]).1.toArray⟩
def cutB (s : ByteArray) : ByteArray := ⟨(Lib.cut s.data.toList [47]).2.1.toArray⟩
def cutF (s : ByteArray) : Bool := (Lib.cut s.data.toList [47]).2.2
def splitOk (s : ByteArray) : Bool := cutF s && isName (cutA s).data.toList && isKey (cutB s).size
def splitA (s : ByteArray) : ByteArray := if splitOk s then cutA s else ⟨#[]⟩
def splitB (s : ByteArray) : ByteArray := if splitOk s then cutB s else ⟨#[]⟩
def splitR (s : ByteArray) : Ending := .returned (.tuple #[.string (splitA s), .string (splitB s), .bool (splitOk s)])
theorem splitR_yes {s : ByteArray} (h : splitOk s = true) : splitR s = .returned (.tuple #[.string (cutA s), .string (cutB s), .bool true]) := by simp [splitR, splitA, splitB, h]
theorem splitR_no {s : ByteArray} (h : splitOk s = false) : splitR s = .returned (.tuple #[.string ⟨#[]⟩, .string ⟨#[]⟩, .bool false]) := by simp [splitR, splitA, splitB, h]
theorem cut_le (l : List UInt8) : (Lib.cut l [47]).1.length ≤ l.length ∧ (Lib.cut l [47]).2.1.length ≤ l.length := by
  unfold Lib.cut
  split
  · simp only [List.length_take, List.length_drop]; omega
  · simp
theorem cutA_size (s : ByteArray) : (cutA s).size ≤ s.size := by
  have := (cut_le s.data.toList).1
  show (cutA s).data.size ≤ s.data.size
  simp only [cutA, List.size_toArray]
  simpa using this
theorem cutB_size (s : ByteArray) : (cutB s).size ≤ s.size := by
  have := (cut_le s.data.toList).2
  show (cutB s).data.size ≤ s.data.size
  simp only [cutB, List.size_toArray]
  simpa using this
set_option maxHeartbeats 1000000 in
theorem split_any (s : ByteArray) (w : World) (hs : s.size ≤ 1000000) (hL : Hid (Lets w)) :
    Calls Tryd.prog 7 #[.string s] w fun e w' => e = splitR s ∧ Below w.heap.size w w' := by
  obtain ⟨m, hm⟩ := hL.out.len
  have hc : Hid (Calls Tryd.prog 24 #[.string s, .string ⟨#[47]⟩] w fun e w' => e = .returned (.tuple #[.string (cutA s), .string (cutB s), .bool (cutF s)]) ∧ ∃ n, w' = w.drewN n) := Tryd.strings_Cut s ⟨#[47]⟩ m w (by omega) hm
  have hA := cutA_size s
  have hB := cutB_size s
  have hO : Hid (splitOk s = (cutF s && isName (cutA s).data.toList && isKey (cutB s).size)) := rfl
  have hy := Lib.hid (splitR_yes (s := s))
  have hn := Lib.hid (splitR_no (s := s))
  generalize cutA s = a at *
  generalize cutB s = b at *
  cases hf : cutF s with
  | false =>
    have hR := Lib.hid (hn.out (by rw [hO.out, hf]; rfl))
    rw [hf] at hc
    clear hy hn hO
    go_enter Tryd.func7, Tryd.ntmps7
    go_wp2_with fail
    refine hc.out.mono ?_
    rintro e w1 ⟨rfl, n, e1⟩
    have hb1 : Hid (Below w.heap.size w w1) := by rw [e1]; exact Aid.below_drewN (Below.refl _ _) n
    clear e1
    go_wp2
    go_ret3
    exact ⟨hR.out.symm, hb1.out⟩
  | true =>
    rw [hf] at hc hO
    have hIs := Lib.hid (fun w => is_any a w (by unfold maxLen; omega))
    have hKy := Lib.hid (fun w => key_any b w (by unfold maxLen; omega))
    cases ha : isName a.data.toList with
    | false =>
      have hR := Lib.hid (hn.out (by rw [hO.out, ha]; rfl))
      rw [ha] at hIs
      clear hy hn hO
      go_enter Tryd.func7, Tryd.ntmps7
      go_wp2_with fail
      refine hc.out.mono ?_
      rintro e w1 ⟨rfl, n, e1⟩
      have hb1 : Hid (Below w.heap.size w w1) := by rw [e1]; exact Aid.below_drewN (Below.refl _ _) n
      clear e1
      go_wp2_with fail
      refine (hIs.out w1).mono ?_
      rintro e w2 ⟨rfl, hb2⟩
      have hb3 := Lib.hid (hb1.out.trans (hb2.mono hb1.out.size))
      clear hb2
      go_wp2
      go_ret3
      exact ⟨hR.out.symm, hb3.out⟩
    | true =>
      rw [ha] at hIs
      cases hk : isKey b.size with
      | false =>
        have hR := Lib.hid (hn.out (by rw [hO.out, ha, hk]; rfl))
        rw [hk] at hKy
        clear hy hn hO
        go_enter Tryd.func7, Tryd.ntmps7
        go_wp2_with fail
        refine hc.out.mono ?_
        rintro e w1 ⟨rfl, n, e1⟩
        have hb1 : Hid (Below w.heap.size w w1) := by rw [e1]; exact Aid.below_drewN (Below.refl _ _) n
        clear e1
        go_wp2_with fail
        refine (hIs.out w1).mono ?_
        rintro e w2 ⟨rfl, hb2⟩
        have hb3 := Lib.hid (hb1.out.trans (hb2.mono hb1.out.size))
        clear hb2
        go_wp2_with fail
        refine (hKy.out w2).mono ?_
        rintro e w3 ⟨rfl, rfl⟩
        go_wp2
        go_ret3
        exact ⟨hR.out.symm, hb3.out⟩
      | true =>
        have hR := Lib.hid (hy.out (by rw [hO.out, ha, hk]; rfl))
        rw [hk] at hKy
        clear hy hn hO
        go_enter Tryd.func7, Tryd.ntmps7
        go_wp2_with fail
        refine hc.out.mono ?_
        rintro e w1 ⟨rfl, n, e1⟩
        have hb1 : Hid (Below w.heap.size w w1) := by rw [e1]; exact Aid.below_drewN (Below.refl _ _) n
        clear e1
        go_wp2_with fail
        refine (hIs.out w1).mono ?_
        rintro e w2 ⟨rfl, hb2⟩
        have hb3 := Lib.hid (hb1.out.trans (hb2.mono hb1.out.size))
        clear hb2
        go_wp2_with fail
        refine (hKy.out w2).mono ?_
        rintro e w3 ⟨rfl, rfl⟩
        go_wp2
        go_ret3
        exact ⟨hR.out.symm, hb3.out⟩
theorem index_first : ∀ (l : List UInt8) (i : Nat), (∀ j, j < i → l[j]? ≠ some 47) → l[i]? = some 47 → Lib.index l [47] = i
  | [], i, _, h => by simp at h
  | c :: r, 0, _, h => by
    have : c = 47 := by simpa using h
    subst this
    exact index_slash r
  | c :: r, i + 1, hj, h => by
    have hc : c ≠ 47 := fun e => hj 0 (by omega) (by rw [e]; rfl)
    have ih := index_first r i (fun j hji => by have := hj (j + 1) (by omega); simpa using this) (by simpa using h)
    rw [index_other r hc, ih]
    have : ¬ ((i : Int) == -1) = true := by
      intro e
      have := eq_of_beq e
      omega
    rw [if_neg this]
    omega
theorem index_none : ∀ (l : List UInt8), (∀ j : Nat, l[j]? ≠ some 47) → Lib.index l [47] = -1
  | [], _ => rfl
  | c :: r, hj => by
    have hc : c ≠ 47 := fun e => hj 0 (by rw [e]; rfl)
    have ih := index_none r (fun j => by have := hj (j + 1); simpa using this)
    rw [index_other r hc, ih]; rfl
theorem cut_first {s : ByteArray} {i : Nat} (hi : i < s.size) (hj : ∀ j, j < i → s.data.toList[j]? ≠ some 47) (h : (s[i]'hi).toNat = 47) : cutA s = s.extract 0 i ∧ cutB s = s.extract (i + 1) s.size ∧ cutF s = true := by
  have h0 : s.data.toList[i]? = some 47 := by
    rw [List.getElem?_eq_getElem (by simpa using hi)]
    have : s[i] = 47 := UInt8.toNat_inj.1 h
    exact congrArg some this
  have := Lib.cutB_hit s ⟨#[47]⟩ i (index_first _ i hj h0)
  exact this
theorem cut_none {s : ByteArray} (hj : ∀ j : Nat, s.data.toList[j]? ≠ some 47) : cutF s = false := (Lib.cutB_miss s ⟨#[47]⟩ (index_none _ hj)).2.2
theorem not_yet {s : ByteArray} {k : Nat} (hk : k < s.size) (h : ∀ j, j < k → s.data.toList[j]? ≠ some 47) (h47 : ¬ (s[k]'hk).toNat = 47) : ∀ j, j < k + 1 → s.data.toList[j]? ≠ some 47 := fun j hj => by
  by_cases e : j < k
  · exact h j e
  · have : j = k := by omega
    subst this
    rw [List.getElem?_eq_getElem (by simpa using hk)]
    intro e2
    apply h47
    have : s[j] = 47 := Option.some.inj e2
    rw [this]; rfl
set_option maxHeartbeats 1000000 in
theorem rsplit_any (s : ByteArray) (w : World) (hs : s.size ≤ 1000000) :
    Calls Tryd.prog 8 #[.string s] w fun e w' => e = splitR s ∧ Below w.heap.size w w' := by
  have hy := Lib.hid (splitR_yes (s := s))
  have hn := Lib.hid (splitR_no (s := s))
  have hO : Hid (splitOk s = (cutF s && isName (cutA s).data.toList && isKey (cutB s).size)) := rfl
  go_enter Tryd.func8, Tryd.ntmps8
  go_wp2_with fail
  go_loopw [5] (fun iv wr => ∃ k : Nat, k ≤ s.size ∧ iv = .int .i64 k ∧ wr = w ∧ Hid (∀ j, j < k → s.data.toList[j]? ≠ some 47)) (fun iv _ => s.size - (intOf iv).toNat)
  case atStart => exact ⟨0, by omega, rfl, rfl, fun j h => by omega⟩
  case round =>
    obtain ⟨k, hk, rfl, rfl, hI⟩ := hrel
    by_cases hlt : k < s.size
    · by_cases h47 : (s[k]'hlt).toNat = 47
      · obtain ⟨ea, eb, ef⟩ := cut_first hlt hI.out h47
        rw [ea, eb, ef] at hO
        rw [ea, eb] at hy
        have za : (s.extract 0 k).size ≤ 1000000 := by have := cutA_size s; rw [ea] at this; omega
        have zb : (s.extract (k + 1) s.size).size ≤ 1000000 := by have := cutB_size s; rw [eb] at this; omega
        clear ea eb ef hI
        have hIs := Lib.hid (fun w => Go.Proofs.YtkkihbnaaaajeaaDoor.reg.rname_any (s.extract 0 k) w (by unfold maxLen; omega))
        have hKy := Lib.hid (fun w => rkey_any (s.extract (k + 1) s.size) w (by unfold maxLen; omega))
        have eA : Hid (s.extract 0 k = s.extract 0 k) := rfl
        generalize hga : s.extract 0 k = a at *
        generalize hgb : s.extract (k + 1) s.size = b at *
        cases ha : isName a.data.toList with
        | false =>
          have hR := Lib.hid (hn.out (by rw [hO.out, ha]; rfl))
          rw [ha] at hIs
          clear hy hn hO
          go_wp2_with fail
          refine (hIs.out _).mono ?_
          rintro e w2 ⟨rfl, rfl⟩
          go_wp2
          go_ret3
          exact ⟨hR.out.symm, Below.refl _ _⟩
        | true =>
          rw [ha] at hIs
          cases hk2 : isKey b.size with
          | false =>
            have hR := Lib.hid (hn.out (by rw [hO.out, ha, hk2]; rfl))
            rw [hk2] at hKy
            clear hy hn hO
            go_wp2_with fail
            refine (hIs.out _).mono ?_
            rintro e w2 ⟨rfl, rfl⟩
            go_wp2_with fail
            refine (hKy.out _).mono ?_
            rintro e w2 ⟨rfl, rfl⟩
            go_wp2
            go_ret3
            exact ⟨hR.out.symm, Below.refl _ _⟩
          | true =>
            have hR := Lib.hid (hy.out (by rw [hO.out, ha, hk2]; rfl))
            rw [hk2] at hKy
            clear hy hn hO
            go_wp2_with fail
            refine (hIs.out _).mono ?_
            rintro e w2 ⟨rfl, rfl⟩
            go_wp2_with fail
            refine (hKy.out _).mono ?_
            rintro e w2 ⟨rfl, rfl⟩
            go_wp2_with fail
            go_quiet (fail)
            go_wp2
            go_ret3
            exact ⟨hR.out.symm, Aid.below_drewN (Below.refl _ _) _⟩
      · have hI2 := Lib.hid (not_yet hlt hI.out h47)
        have h47b : ((((s[k]'hlt).toNat : Nat) : Int) == 47) = false := by rw [beq_eq_false_iff_ne]; omega
        clear hy hn hO
        go_wp2
        go_roundw
        case rel => exact ⟨k + 1, by omega, by go_num, by trivial, hI2⟩
        case measure => simp [intOf]; omega
    · have hR := Lib.hid (hn.out (by
        rw [hO.out, cut_none (fun j => by
          by_cases e : j < k
          · exact hI.out j e
          · rw [List.getElem?_eq_none (by simp; omega)]; simp)]
        rfl))
      clear hy hn hO
      go_wp2
      go_ret3
      exact ⟨hR.out.symm, Below.refl _ _⟩
end Go.Proofs.YtkkihbnaaaajeaaDoor.nm
