/- What is gained, and what rests, by the reference. -/
import Derived.Test.YtagebkahbehmfaaTexts
import Derived.Test.YtagebkahbehmfaaMapF
import Derived.IntWalk
namespace Go.Proofs.Ytagebkahbehmfaa.move
open Go.ChangeShapes Go.WideShapes Go.ChangeAt Go.RowKit Go.Proofs.Aid Go.Proofs.Ytagebkahbehmfaa.texts
theorem info9 : (Try.prog.info? 9).map (fun i => (i.zero, i.size, i.bytes)) = some (some (.string ⟨#[]⟩), 1, 16) := by kernel_rfl
set_option maxHeartbeats 1000000 in
theorem in_any (w : World) (A : Option Addr) (cap : Nat) (xs : List ByteArray) (s : ByteArray) (hl : xs.length ≤ 1099511627776) (h1 : Reads w w.heap.size 1 A xs.length (xs.flatMap tc)) :
    Calls Try.prog 23 #[.slice A xs.length cap, .string s] w fun e w' => e = .returned (.bool (memB xs s)) ∧ w' = w := by
  have H1 := Lib.hid h1
  clear h1
  go_enter Try.func23, Try.ntmps23
  go_wp2_with fail
  go_loopw [5] (fun iv w' => ∃ k : Nat, k ≤ xs.length ∧ iv = .int .i64 k ∧ w' = w ∧ Hid (∀ j (_ : j < xs.length), j < k → xs[j] ≠ s)) (fun iv _ => xs.length - (intOf iv).toNat)
  case atStart => exact ⟨0, by omega, rfl, rfl, fun _ _ h => by omega⟩
  case round =>
    obtain ⟨k, hk, rfl, rfl, hI⟩ := hrel
    by_cases hlt : k < xs.length
    · obtain ⟨a1, q1, -, c1⟩ := H1.out.elem1 hlt
      subst q1
      by_cases hx : xs[k] = s
      · have hin : Hid (s ∈ xs) := by rw [← hx]; exact List.getElem_mem hlt
        rw [hx] at c1
        clear hx
        go_wp2
        go_ret
        exact ⟨ret_bool (by first | exact (memB_iff.2 hin.out).symm | exact (memB_no.2 hin.out).symm), rfl⟩
      · have hI2 : Hid (∀ j (_ : j < xs.length), j < k + 1 → xs[j] ≠ s) := fun j h hj => by
          by_cases e : j < k
          · exact hI.out j h e
          · have : j = k := by omega
            subst this; exact hx
        have hx' := bytes_ne hx
        clear hx
        generalize xs[k] = x at c1 hx'
        go_wp2
        go_roundw
        case rel => exact ⟨k + 1, by omega, by go_num, by trivial, hI2⟩
        case measure => simp [intOf]; omega
    · have hin : Hid (s ∉ xs) := fun h => by
        obtain ⟨j, hj, q⟩ := List.getElem_of_mem h
        exact hI.out j hj (by omega) q
      go_wp2
      go_ret
      exact ⟨ret_bool (by first | exact (memB_iff.2 hin.out).symm | exact (memB_no.2 hin.out).symm), rfl⟩
def keep (p : ByteArray → Bool) (xs : List ByteArray) (k : Nat) : List ByteArray := (xs.take k).filter p
theorem keep_yes {p : ByteArray → Bool} {xs : List ByteArray} {k : Nat} (h : k < xs.length) (hp : p xs[k] = true) : keep p xs (k + 1) = keep p xs k ++ [xs[k]] := by
  unfold keep; rw [List.take_succ_eq_append_getElem h, List.filter_append]; simp [hp]
theorem keep_no {p : ByteArray → Bool} {xs : List ByteArray} {k : Nat} (h : k < xs.length) (hp : p xs[k] = false) : keep p xs (k + 1) = keep p xs k := by
  unfold keep; rw [List.take_succ_eq_append_getElem h, List.filter_append]; simp [hp]
theorem keep_all (p : ByteArray → Bool) (xs : List ByteArray) : keep p xs xs.length = xs.filter p := by unfold keep; rw [List.take_length]
theorem keep_len (p : ByteArray → Bool) (xs : List ByteArray) (k : Nat) : (keep p xs k).length ≤ k := by
  unfold keep; exact Nat.le_trans (List.length_filter_le _ _) (List.length_take_le _ _)
def gains (was now : List ByteArray) : List ByteArray := now.filter fun s => !memB was s
def rests (was now : List ByteArray) : List ByteArray := now.filter fun s => memB was s
set_option maxHeartbeats 2000000 in
theorem rgains_any (w : World) (A B : Option Addr) (ca cb : Nat) (was now : List ByteArray) (hl : was.length ≤ 1000) (hl2 : now.length ≤ 1000) (h1 : Reads w w.heap.size 1 A was.length (was.flatMap tc)) (h2 : Reads w w.heap.size 1 B now.length (now.flatMap tc)) :
    Calls Try.prog 16 #[.slice A was.length ca, .slice B now.length cb] w fun e w' => ∃ v, e = .returned v ∧ Row w' w.heap.size 9 1 tc v (gains was now) ∧ Below w.heap.size w w' := by
  obtain ⟨i0, hi0, hz0, hz1, hz2⟩ := info_parts info9
  have H1 := Lib.hid h1
  have H2 := Lib.hid h2
  clear h1 h2
  have HG := Lib.hid (show gains was now = keep (fun s => !memB was s) now now.length by rw [keep_all]; rfl)
  have hrow0 : Row w w.heap.size 9 1 tc (.slice none 0 0) (keep (fun s => !memB was s) now 0) := Row.nil _ _ _ _ _
  go_enter Try.func16, Try.ntmps16
  go_wp2_with fail
  go_loopw [5, 6] (fun v iv wr => ∃ k : Nat, k ≤ now.length ∧ iv = .int .i64 k ∧ Row wr w.heap.size 9 1 tc v (keep (fun s => !memB was s) now k) ∧ Below w.heap.size w wr) (fun _ iv _ => now.length - (intOf iv).toNat)
  case atStart => exact ⟨0, by omega, rfl, hrow0, Below.refl _ _⟩
  case round =>
    clear hrow0
    obtain ⟨k, hk, rfl, hrow, hlow⟩ := hrel
    have hsz := hlow.size
    have hlen := keep_len (fun s => !memB was s) now k
    by_cases hlt : k < now.length
    · obtain ⟨a1, q1, -, c1⟩ := (H2.out.below hlow).elem1 hlt
      subst q1
      have H1' := Lib.hid (Reads.more (H1.out.below hlow) hsz)
      by_cases hin : now[k] ∈ was
      · have hro := Lib.hid (keep_no (p := fun s => !memB was s) hlt (by simp [memB_iff.2 hin]))
        have hin' : memB was now[k] = true := memB_iff.2 hin
        clear hin
        generalize now[k] = s at *
        generalize keep (fun s => !memB was s) now k = L at *
        go_wp2_with fail
        refine (in_any wr A ca was s (by omega) H1'.out).mono ?_
        rw [hin']
        rintro e wx ⟨rfl, rfl⟩
        clear hin'
        go_wp2
        go_roundw
        case rel => exact ⟨k + 1, by omega, by go_num, by rw [hro.out]; exact hrow, hlow⟩
        case measure => simp [intOf]; omega
      · have hro := Lib.hid (keep_yes (p := fun s => !memB was s) hlt (by simp [memB_no.2 hin]))
        have hin' : memB was now[k] = false := memB_no.2 hin
        clear hin
        generalize now[k] = s at *
        generalize keep (fun s => !memB was s) now k = L at *
        go_wp2_with fail
        refine (in_any wr A ca was s (by omega) H1'.out).mono ?_
        rw [hin']
        rintro e wx ⟨rfl, rfl⟩
        clear hin'
        go_wp2_with (at_builtin; refine wpList_append_row _ rfl _ _ 22 rfl w.heap.size 9 i0 (.string ⟨#[]⟩) 1 16 Try.underlying22 hi0 hz0 hz1 hz2 rfl (by decide) _ _ rfl (hrow.alloc _) (fun _ => rfl) _ s rfl (cells_new _ _ _) (by simp [tc, Value.oneCell']) (by unfold maxLen; omega) (by omega) (by simp; omega) ?_; intro v' w1 hrow' hgrow)
        have hlow' := low_row hlow hrow (Nat.le_refl _) hsz hgrow
        go_roundw
        case rel => exact ⟨k + 1, by omega, by go_num, by rw [hro.out]; exact hrow', hlow'⟩
        case measure => simp [intOf]; omega
    · have hkl : k = now.length := by omega
      subst hkl
      go_wp2
      go_ret
      exact ⟨_, rfl, by rw [HG.out]; exact hrow, hlow⟩
set_option maxHeartbeats 2000000 in
theorem rrests_any (w : World) (A B : Option Addr) (ca cb : Nat) (was now : List ByteArray) (hl : was.length ≤ 1000) (hl2 : now.length ≤ 1000) (h1 : Reads w w.heap.size 1 A was.length (was.flatMap tc)) (h2 : Reads w w.heap.size 1 B now.length (now.flatMap tc)) :
    Calls Try.prog 18 #[.slice A was.length ca, .slice B now.length cb] w fun e w' => ∃ v, e = .returned v ∧ Row w' w.heap.size 9 1 tc v (rests was now) ∧ Below w.heap.size w w' := by
  obtain ⟨i0, hi0, hz0, hz1, hz2⟩ := info_parts info9
  have H1 := Lib.hid h1
  have H2 := Lib.hid h2
  clear h1 h2
  have HG := Lib.hid (show rests was now = keep (fun s => memB was s) now now.length by rw [keep_all]; rfl)
  have hrow0 : Row w w.heap.size 9 1 tc (.slice none 0 0) (keep (fun s => memB was s) now 0) := Row.nil _ _ _ _ _
  go_enter Try.func18, Try.ntmps18
  go_wp2_with fail
  go_loopw [5, 6] (fun v iv wr => ∃ k : Nat, k ≤ now.length ∧ iv = .int .i64 k ∧ Row wr w.heap.size 9 1 tc v (keep (fun s => memB was s) now k) ∧ Below w.heap.size w wr) (fun _ iv _ => now.length - (intOf iv).toNat)
  case atStart => exact ⟨0, by omega, rfl, hrow0, Below.refl _ _⟩
  case round =>
    clear hrow0
    obtain ⟨k, hk, rfl, hrow, hlow⟩ := hrel
    have hsz := hlow.size
    have hlen := keep_len (fun s => memB was s) now k
    by_cases hlt : k < now.length
    · obtain ⟨a1, q1, -, c1⟩ := (H2.out.below hlow).elem1 hlt
      subst q1
      have H1' := Lib.hid (Reads.more (H1.out.below hlow) hsz)
      by_cases hin : now[k] ∈ was
      · have hro := Lib.hid (keep_yes (p := fun s => memB was s) hlt (by simp [memB_iff.2 hin]))
        have hin' : memB was now[k] = true := memB_iff.2 hin
        clear hin
        generalize now[k] = s at *
        generalize keep (fun s => memB was s) now k = L at *
        go_wp2_with fail
        refine (in_any wr A ca was s (by omega) H1'.out).mono ?_
        rw [hin']
        rintro e wx ⟨rfl, rfl⟩
        clear hin'
        go_wp2_with (at_builtin; refine wpList_append_row _ rfl _ _ 22 rfl w.heap.size 9 i0 (.string ⟨#[]⟩) 1 16 Try.underlying22 hi0 hz0 hz1 hz2 rfl (by decide) _ _ rfl (hrow.alloc _) (fun _ => rfl) _ s rfl (cells_new _ _ _) (by simp [tc, Value.oneCell']) (by unfold maxLen; omega) (by omega) (by simp; omega) ?_; intro v' w1 hrow' hgrow)
        have hlow' := low_row hlow hrow (Nat.le_refl _) hsz hgrow
        go_roundw
        case rel => exact ⟨k + 1, by omega, by go_num, by rw [hro.out]; exact hrow', hlow'⟩
        case measure => simp [intOf]; omega
      · have hro := Lib.hid (keep_no (p := fun s => memB was s) hlt (by simp [memB_no.2 hin]))
        have hin' : memB was now[k] = false := memB_no.2 hin
        clear hin
        generalize now[k] = s at *
        generalize keep (fun s => memB was s) now k = L at *
        go_wp2_with fail
        refine (in_any wr A ca was s (by omega) H1'.out).mono ?_
        rw [hin']
        rintro e wx ⟨rfl, rfl⟩
        clear hin'
        go_wp2
        go_roundw
        case rel => exact ⟨k + 1, by omega, by go_num, by rw [hro.out]; exact hrow, hlow⟩
        case measure => simp [intOf]; omega
    · have hkl : k = now.length := by omega
      subst hkl
      go_wp2
      go_ret
      exact ⟨_, rfl, by rw [HG.out]; exact hrow, hlow⟩
end Go.Proofs.Ytagebkahbehmfaa.move
