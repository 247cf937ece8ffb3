/- What the references answer. -/
import Derived.Test.YtcbfcmnnahbblaaD
namespace Go.Proofs.Ytcbfcmnnahbblaa.quorum
open Go.ChangeShapes Go.WideShapes Go.ChangeAt Go.RowKit Go.Proofs.Aid Go.Proofs.Ytcbfcmnnahbblaa.texts
theorem info9 : (Try.prog.info? 9).map (fun i => (i.zero, i.size, i.bytes)) = some (some (.string ⟨#[]⟩), 1, 16) := by kernel_rfl
set_option maxHeartbeats 1000000 in
theorem in_any (w : World) (A : Option Addr) (cap : Nat) (xs : List ByteArray) (s : ByteArray) (hl : xs.length ≤ 1099511627776) (h1 : Reads w w.heap.size 1 A xs.length (xs.flatMap tc)) :
    Calls Try.prog 17 #[.slice A xs.length cap, .string s] w fun e w' => e = .returned (.bool (memB xs s)) ∧ w' = w := by
  have H1 := Lib.hid h1
  clear h1
  go_enter Try.func17, Try.ntmps17
  go_wp2_with fail
  go_loopw [5] (fun iv w' => ∃ k : Nat, k ≤ xs.length ∧ iv = .int .i64 k ∧ w' = w ∧ Hid (∀ j (_ : j < xs.length), j < k → xs[j] ≠ s)) (fun iv _ => xs.length - (intOf iv).toNat)
  case atStart => exact ⟨0, by omega, rfl, rfl, fun _ _ h => by omega⟩
  case round =>
    obtain ⟨k, hk, rfl, rfl, hI⟩ := hrel
    by_cases hlt : k < xs.length
    · obtain ⟨a1, q1, -, c1⟩ := H1.out.elem1 hlt
      subst q1
      by_cases hx : xs[k] = s
      · have hin : Hid (s ∈ xs) := by rw [← hx]; exact List.getElem_mem hlt
        rw [hx] at c1
        clear hx
        go_wp2
        go_ret
        exact ⟨ret_bool (by first | exact (memB_iff.2 hin.out).symm | exact (memB_no.2 hin.out).symm), rfl⟩
      · have hI2 : Hid (∀ j (_ : j < xs.length), j < k + 1 → xs[j] ≠ s) := fun j h hj => by
          by_cases e : j < k
          · exact hI.out j h e
          · have : j = k := by omega
            subst this; exact hx
        have hx' := bytes_ne hx
        clear hx
        generalize xs[k] = x at c1 hx'
        go_wp2
        go_roundw
        case rel => exact ⟨k + 1, by omega, by go_num, by trivial, hI2⟩
        case measure => simp [intOf]; omega
    · have hin : Hid (s ∉ xs) := fun h => by
        obtain ⟨j, hj, q⟩ := List.getElem_of_mem h
        exact hI.out j hj (by omega) q
      go_wp2
      go_ret
      exact ⟨ret_bool (by first | exact (memB_iff.2 hin.out).symm | exact (memB_no.2 hin.out).symm), rfl⟩
set_option maxHeartbeats 2000000 in
theorem rcount_any (w : World) (A B : Option Addr) (ca cb : Nat) (cs : List R38) (ns : List ByteArray) (hl : cs.length ≤ 1000) (hn : ns.length ≤ 3000) (h1 : Reads w w.heap.size 2 A cs.length (cs.flatMap R38.cells)) (h2 : Reads w w.heap.size 1 B ns.length (ns.flatMap tc)) :
    Calls Try.prog 8 #[.slice A cs.length ca, .slice B ns.length cb] w fun e w' => e = .returned (.tuple #[.int .i64 (nA (memB ns) cs), .int .i64 (nB (memB ns) cs)]) ∧ w' = w := by
  have H1 := Lib.hid h1
  have H2 := Lib.hid h2
  clear h1 h2
  go_enter Try.func8, Try.ntmps8
  go_wp2_with fail
  go_loopw [6, 7, 8] (fun ia ib iv w' => ∃ k : Nat, k ≤ cs.length ∧ iv = .int .i64 k ∧ ia = .int .i64 (cntA (memB ns) cs k) ∧ ib = .int .i64 (cntB (memB ns) cs k) ∧ w' = w) (fun _ _ iv _ => cs.length - (intOf iv).toNat)
  case atStart => exact ⟨0, by omega, rfl, rfl, rfl, rfl⟩
  case round =>
    obtain ⟨k, hk, rfl, rfl, rfl, rfl⟩ := hrel
    have hcle := cnt_le (memB ns) cs k
    obtain ⟨hc1, hc2⟩ := hcle
    by_cases hlt : k < cs.length
    · obtain ⟨a1, q1, -, c0, c1⟩ := elem38 H1.out hlt
      subst q1
      have hn' := Lib.hid (fun h => cnt_no (f := memB ns) hlt h)
      have hy := Lib.hid (fun h h2 => cnt_yes (f := memB ns) hlt h h2)
      have ho := Lib.hid (fun h h2 => cnt_one (f := memB ns) hlt h h2)
      generalize hcsk : cs[k] = c at *
      obtain ⟨s, pr⟩ := c
      clear hcsk
      simp only at c0 c1 hn' hy ho
      cases hf : memB ns s with
      | false =>
        obtain ⟨e1, e2⟩ := hn'.out hf
        have E1 := Lib.hid e1
        have E2 := Lib.hid e2
        have HF := Lib.hid hf
        clear hf e1 e2 hn' hy ho
        generalize cntA (memB ns) cs k = x at *
        generalize cntB (memB ns) cs k = y at *
        go_wp2_with fail
        refine (in_any _ B cb ns s (by omega) H2.out).mono ?_
        rw [HF.out]
        rintro e w3 ⟨rfl, rfl⟩
        go_wp2
        go_roundw
        case rel => exact ⟨k + 1, by omega, by go_num, by rw [E1.out], by rw [E2.out], by trivial⟩
        case measure => simp [intOf]; omega
      | true =>
        cases pr with
        | true =>
          obtain ⟨e1, e2⟩ := hy.out hf rfl
          have E1 := Lib.hid e1
          have E2 := Lib.hid e2
          have HF := Lib.hid hf
          clear hf e1 e2 hn' hy ho
          generalize cntA (memB ns) cs k = x at *
          generalize cntB (memB ns) cs k = y at *
          go_wp2_with fail
          refine (in_any _ B cb ns s (by omega) H2.out).mono ?_
          rw [HF.out]
          rintro e w3 ⟨rfl, rfl⟩
          go_wp2
          go_roundw
          case rel => exact ⟨k + 1, by omega, by go_num, by rw [E1.out]; rfl, by rw [E2.out]; rfl, by trivial⟩
          case measure => simp [intOf]; omega
        | false =>
          obtain ⟨e1, e2⟩ := ho.out hf rfl
          have E1 := Lib.hid e1
          have E2 := Lib.hid e2
          have HF := Lib.hid hf
          clear hf e1 e2 hn' hy ho
          generalize cntA (memB ns) cs k = x at *
          generalize cntB (memB ns) cs k = y at *
          go_wp2_with fail
          refine (in_any _ B cb ns s (by omega) H2.out).mono ?_
          rw [HF.out]
          rintro e w3 ⟨rfl, rfl⟩
          go_wp2
          go_roundw
          case rel => exact ⟨k + 1, by omega, by go_num, by rw [E1.out]; rfl, by rw [E2.out], by trivial⟩
          case measure => simp [intOf]; omega
    · have hkl : k = cs.length := by omega
      subst hkl
      go_wp2
      go_ret2
      exact ⟨rfl, rfl⟩
def RowPost (w : World) (xs : List ByteArray) (e : Ending) (w' : World) : Prop := ∃ v, e = .returned v ∧ Row w' w.heap.size 9 1 tc v xs ∧ Below w.heap.size w w'
set_option maxHeartbeats 1000000 in
theorem both_any (w : World) (A B : Option Addr) (ca cb : Nat) (xs ys : List ByteArray) (hl : xs.length ≤ 3000) (hl2 : ys.length ≤ 3000) (h1 : Reads w w.heap.size 1 A xs.length (xs.flatMap tc)) (h2 : Reads w w.heap.size 1 B ys.length (ys.flatMap tc)) :
    Calls Try.prog 21 #[.slice A xs.length ca, .slice B ys.length cb] w (RowPost w (xs ++ ys)) := by
  obtain ⟨i0, hi0, hz0, hz1, hz2⟩ := info_parts info9
  have H1 := Lib.hid h1
  have H2 := Lib.hid h2
  clear h1 h2
  have hr0 : Row w w.heap.size 9 1 tc (.slice none 0 0) [] := Row.nil _ _ _ _ _
  have tok1 : True := trivial
  go_enter Try.func21, Try.ntmps21
  go_wp2_with (first
    | (at_builtin; have _t := tok1; refine wpList_append_rows _ rfl _ _ 25 rfl w.heap.size 9 i0 (.string ⟨#[]⟩) 1 16 Try.underlying25 hi0 hz0 hz1 hz2 rfl (by decide) _ _ rfl hr0 _ _ _ xs rfl H1.out (fun y _ u hu => by simp [tc] at hu; subst hu; rfl) (by unfold maxLen; simp; omega) (by simp; omega) (by simp) ?_; intro v1 w1 hrow1 hgrow1; clear tok1)
    | (at_builtin; refine wpList_append_rows _ rfl _ _ 25 rfl w.heap.size 9 i0 (.string ⟨#[]⟩) 1 16 Try.underlying25 hi0 hz0 hz1 hz2 rfl (by decide) _ _ rfl hrow1 _ _ _ ys rfl (H2.out.grown hgrow1 (Nat.le_refl _) (fun g h => by cases h)) (fun y _ u hu => by simp [tc] at hu; subst hu; rfl) (by unfold maxLen; simp; omega) (by simp; omega) (by have := hgrow1.size; omega) ?_; intro v2 w2 hrow2 hgrow2))
  have hl1 := low_grown (Below.refl w.heap.size w) (Nat.le_refl _) (Nat.le_refl _) hr0 hgrow1
  have hl3 := low_grown hl1 (Nat.le_refl _) hl1.size hrow1 hgrow2
  go_ret
  exact ⟨_, rfl, by simpa using hrow2, hl3⟩
def opened (ns : List ByteArray) (cs : List R38) (k : Nat) : List ByteArray := ((cs.take k).map R38.node_).filter fun s => !memB ns s
theorem opened_yes {ns : List ByteArray} {cs : List R38} {k : Nat} (h : k < cs.length) (hp : memB ns cs[k].node_ = false) : opened ns cs (k + 1) = opened ns cs k ++ [cs[k].node_] := by
  unfold opened; rw [List.take_succ_eq_append_getElem h, List.map_append, List.filter_append]; simp [hp]
theorem opened_no {ns : List ByteArray} {cs : List R38} {k : Nat} (h : k < cs.length) (hp : memB ns cs[k].node_ = true) : opened ns cs (k + 1) = opened ns cs k := by
  unfold opened; rw [List.take_succ_eq_append_getElem h, List.map_append, List.filter_append]; simp [hp]
theorem opened_len (ns : List ByteArray) (cs : List R38) (k : Nat) : (opened ns cs k).length ≤ k := by
  unfold opened; exact Nat.le_trans (List.length_filter_le _ _) (by rw [List.length_map]; exact List.length_take_le _ _)
set_option maxHeartbeats 2000000 in
theorem open_any (w : World) (A B : Option Addr) (ca cb : Nat) (cs : List R38) (ns : List ByteArray) (hl : cs.length ≤ 1000) (hl2 : ns.length ≤ 3000) (h1 : Reads w w.heap.size 2 A cs.length (cs.flatMap R38.cells)) (h2 : Reads w w.heap.size 1 B ns.length (ns.flatMap tc)) :
    Calls Try.prog 22 #[.slice A cs.length ca, .slice B ns.length cb] w (RowPost w (opened ns cs cs.length)) := by
  obtain ⟨i0, hi0, hz0, hz1, hz2⟩ := info_parts info9
  have H1 := Lib.hid h1
  have H2 := Lib.hid h2
  clear h1 h2
  have hrow0 : Row w w.heap.size 9 1 tc (.slice none 0 0) (opened ns cs 0) := Row.nil _ _ _ _ _
  go_enter Try.func22, Try.ntmps22
  go_wp2_with fail
  go_loopw [5, 6] (fun v iv wr => ∃ k : Nat, k ≤ cs.length ∧ iv = .int .i64 k ∧ Row wr w.heap.size 9 1 tc v (opened ns cs k) ∧ Below w.heap.size w wr) (fun _ iv _ => cs.length - (intOf iv).toNat)
  case atStart => exact ⟨0, by omega, rfl, hrow0, Below.refl _ _⟩
  case round =>
    clear hrow0
    obtain ⟨k, hk, rfl, hrow, hlow⟩ := hrel
    have hsz := hlow.size
    have hlen := opened_len ns cs k
    by_cases hlt : k < cs.length
    · obtain ⟨a1, q1, hb1, c0, c1⟩ := elem38 (H1.out.below hlow) hlt
      subst q1
      clear c1
      have H2' := Lib.hid (Reads.more (H2.out.below hlow) hsz)
      cases hin : memB ns cs[k].node_ with
      | true =>
        have hro := Lib.hid (opened_no hlt hin)
        have HI := Lib.hid hin
        clear hin
        generalize cs[k].node_ = s at *
        generalize opened ns cs k = L at *
        go_wp2_with fail
        refine (in_any wr B cb ns s (by omega) H2'.out).mono ?_
        rw [HI.out]
        rintro e wx ⟨rfl, rfl⟩
        go_wp2
        go_roundw
        case rel => exact ⟨k + 1, by omega, by go_num, by rw [hro.out]; exact hrow, hlow⟩
        case measure => simp [intOf]; omega
      | false =>
        have hro := Lib.hid (opened_yes hlt hin)
        have HI := Lib.hid hin
        clear hin
        generalize cs[k].node_ = s at *
        generalize opened ns cs k = L at *
        go_wp2_with fail
        refine (in_any wr B cb ns s (by omega) H2'.out).mono ?_
        rw [HI.out]
        rintro e wx ⟨rfl, rfl⟩
        go_wp2_with (at_builtin; refine wpList_append_row _ rfl _ _ 25 rfl w.heap.size 9 i0 (.string ⟨#[]⟩) 1 16 Try.underlying25 hi0 hz0 hz1 hz2 rfl (by decide) _ _ rfl (hrow.alloc _) (fun _ => rfl) _ s rfl (cells_new _ _ _) (by simp [tc, Value.oneCell']) (by unfold maxLen; omega) (by omega) (by simp; omega) ?_; intro v' w1 hrow' hgrow)
        have hlow' := low_row hlow hrow (Nat.le_refl _) hsz hgrow
        go_roundw
        case rel => exact ⟨k + 1, by omega, by go_num, by rw [hro.out]; exact hrow', hlow'⟩
        case measure => simp [intOf]; omega
    · have hkl : k = cs.length := by omega
      subst hkl
      go_wp2
      go_ret
      exact ⟨_, rfl, hrow, hlow⟩
end Go.Proofs.Ytcbfcmnnahbblaa.quorum
