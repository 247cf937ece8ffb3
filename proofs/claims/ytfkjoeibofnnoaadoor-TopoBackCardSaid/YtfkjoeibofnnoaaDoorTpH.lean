/- What members have, rising, once each: the reference's. -/
import Derived.Test.YtfkjoeibofnnoaaDoorTpG
import Derived.Test.YtfkjoeibofnnoaaDoorKn
namespace Go.Proofs.YtfkjoeibofnnoaaDoor.tp
set_option linter.unusedSimpArgs false
open Go.ChangeShapes Go.WideShapes Go.ChangeAt Go.RowKit Go.Proofs.Aid
open Go.Proofs.YtfkjoeibofnnoaaDoor.texts (tc)
open Go.Proofs.YtfkjoeibofnnoaaDoor.sets (T)
theorem put_same : ∀ {L : List T} {s : T} {k : Nat} (h : k < L.length), (∀ j (_ : j < L.length), j < k → L[j] < s) → L[k] = s → sets.put L s = L
  | [], _, _, h, _, _ => absurd h (Nat.not_lt_zero _)
  | x :: l, s, 0, _, _, e => by
    have e : x = s := e
    subst e
    rw [sets.put, if_neg (sets.lt_irr x), if_pos rfl]
  | x :: l, s, k + 1, h, hj, e => by
    have h0 : x < s := hj 0 (by simp) (by omega)
    rw [sets.put, if_pos h0, put_same (L := l) (k := k) (Nat.lt_of_succ_lt_succ h) (fun j h1 h2 => hj (j + 1) (Nat.succ_lt_succ h1) (by omega)) e]
theorem put_new : ∀ {L : List T} {s : T} {k : Nat} (h : k < L.length), (∀ j (_ : j < L.length), j < k → L[j] < s) → ¬ L[k] < s → L[k] ≠ s → sets.put L s = L.take k ++ [s] ++ L.drop k
  | [], _, _, h, _, _, _ => absurd h (Nat.not_lt_zero _)
  | x :: l, s, 0, _, _, h1, h2 => by
    rw [sets.put, if_neg (by simpa using h1), if_neg (by simpa using h2)]; simp
  | x :: l, s, k + 1, h, hj, h1, h2 => by
    have h0 : x < s := hj 0 (by simp) (by omega)
    rw [sets.put, if_pos h0, put_new (L := l) (k := k) (Nat.lt_of_succ_lt_succ h) (fun j h1 h2 => hj (j + 1) (Nat.succ_lt_succ h1) (by omega)) h1 h2]
    simp
theorem put_end : ∀ {L : List T} {s : T}, (∀ j (_ : j < L.length), L[j] < s) → sets.put L s = L ++ [s]
  | [], _, _ => rfl
  | x :: l, s, hj => by
    have h0 : x < s := hj 0 (by simp)
    rw [sets.put, if_pos h0, put_end (L := l) (fun j h1 => hj (j + 1) (Nat.succ_lt_succ h1))]
    simp
theorem put_len : ∀ (L : List T) (s : T), (sets.put L s).length ≤ L.length + 1
  | [], _ => by simp [sets.put]
  | x :: l, s => by
    have := put_len l s
    rw [sets.put]
    split
    · simp; omega
    · split
      · simp
      · simp
theorem all_snoc : ∀ (r acc : List T) (s : T), sets.all acc (r ++ [s]) = sets.put (sets.all acc r) s
  | [], _, _ => rfl
  | x :: r, acc, s => by
    rw [List.cons_append, sets.all, sets.all, all_snoc r]
theorem less_at {x s : ByteArray} : Op.bytesLess x.toList s.toList = decide (x.data.toList < s.data.toList) := by
  rw [bytesLess_eq, Lib.toList_data, Lib.toList_data]
theorem strs_at {L : List T} {k : Nat} (h : k < (strs L).length) : (strs L)[k].data.toList = L[k]'(by rwa [strs_length] at h) := by simp [strs]
theorem strs_put (a b : List T) (s : ByteArray) : ([] ++ strs a ++ [s]) ++ strs b = strs (a ++ [s.data.toList] ++ b) := by simp [strs]
set_option maxRecDepth 100000 in
set_option maxHeartbeats 2000000 in
theorem rput_any (w : World) (A : Option Addr) (ca : Nat) (L : List T) (s : ByteArray) (hl : L.length ≤ 100000) (hc : L.length ≤ ca) (h1 : Reads w w.heap.size 1 A L.length ((strs L).flatMap tc)) :
    Calls Tryd.prog 37 #[.slice A L.length ca, .string s] w (TextsAt w (sets.put L s.data.toList)) := by
  obtain ⟨i0, hi0, hz0, hz1, hz2⟩ := info_parts infoT
  have hLl := strs_length L
  have H1 : Hid (Reads w w.heap.size 1 A (strs L).length ((strs L).flatMap tc)) := by rw [hLl]; exact h1
  have hSame := Lib.hid (fun k h a b => @put_same L s.data.toList k h a b)
  have hNew := Lib.hid (fun k h a b c => @put_new L s.data.toList k h a b c)
  have hEnd := Lib.hid (@put_end L s.data.toList)
  have hsp := Lib.hid strs_put
  clear h1
  have HLl := Lib.hid hLl
  clear hLl
  go_enter Tryd.func37, Tryd.ntmps37
  go_wp2_with fail
  go_loopw [5] (fun iv wr => ∃ k : Nat, k ≤ L.length ∧ iv = .int .i64 k ∧ Hid (∀ j (_ : j < L.length), j < k → L[j] < s.data.toList) ∧ Below w.heap.size w wr) (fun iv _ => L.length - (intOf iv).toNat)
  case atStart => exact ⟨0, by omega, rfl, fun _ _ h => by omega, Below.refl _ _⟩
  case round =>
    obtain ⟨k, hk, rfl, hI, hlow⟩ := hrel
    have hsz := hlow.size
    by_cases hlt : k < L.length
    · have hlts : k < (strs L).length := by rw [HLl.out]; exact hlt
      obtain ⟨ad, rfl, had, c0⟩ := Reads.elem1 (g := Value.string) (H1.out.below hlow) hlts
      have hxd := strs_at hlts
      have hls := less_at (x := (strs L)[k]) (s := s)
      rw [hxd] at hls
      by_cases hs : L[k] < s.data.toList
      · have hI2 : Hid (∀ j (_ : j < L.length), j < k + 1 → L[j] < s.data.toList) := fun j h hj => by
          by_cases e : j < k
          · exact hI.out j h e
          · have : j = k := by omega
            subst this; exact hs
        rw [decide_eq_true hs] at hls
        clear hxd hs hI
        generalize (strs L)[k] = x at *
        go_wp2
        go_roundw
        case rel => exact ⟨k + 1, by omega, by go_num, hI2, hlow⟩
        case measure => simp [intOf]; omega
      · rw [decide_eq_false hs] at hls
        by_cases he : L[k] = s.data.toList
        · have hfin := Lib.hid (hSame.out k hlt hI.out he)
          have hxs : (strs L)[k] = s := by
            apply ByteArray.ext; apply Array.toList_inj.1; rw [hxd, he]
          rw [hxs] at c0 hls
          have HR : Hid (Reads wr wr.heap.size 1 (some ad) L.length ((strs L).flatMap tc)) := by
            have := H1.out.more_below hlow
            rw [HLl.out] at this; exact this
          clear hxd hs hI he hxs hNew hEnd hSame
          go_wp2
          go_ret
          refine ⟨some ad, ca, ?_, ?_, ?_, hlow⟩
          · rw [hfin.out]; rfl
          · rw [hfin.out]; exact hc
          · rw [hfin.out]; exact HR.out
        · have hfin := Lib.hid (hNew.out k hlt hI.out hs he)
          have hxs : (strs L)[k] ≠ s := fun e => he (by rw [← hxd, e])
          have hq := bytes_ne hxs
          generalize (strs L)[k] = x at *
          have hrz := H1.out.below hlow
          have htk := Lib.hid (Reads.take (f := tc) (size := 1) (fun _ => rfl) hrz (by rw [HLl.out]; omega : k ≤ (strs L).length))
          have htl := Lib.hid (show ((strs L).take k).length = k by rw [List.length_take, HLl.out]; omega)
          rw [htl.out] at htk
          have hdl := Lib.hid (show ((strs L).drop k).length = L.length - k by rw [List.length_drop, HLl.out])
          have hdr := Reads.dropL (f := tc) (size := 1) (fun _ => rfl) H1.out (by rw [HLl.out]; omega : k ≤ (strs L).length) (by rw [HLl.out]; exact hc)
          rw [if_neg (by omega : ¬ ca = k), Option.map_some, Nat.mul_one, HLl.out] at hdr
          have HD := Lib.hid hdr
          have hrow0 : Row wr w.heap.size 9 1 tc (.slice none 0 0) [] := Row.nil _ _ _ _ _
          have hff : Hid ([] ++ (strs L).take k ++ [s] ++ (strs L).drop k = strs (sets.put L s.data.toList)) := by
            rw [hfin.out]; simp [strs, Hid]
          clear hrz hdr hxd hs hI he hxs hNew hEnd hSame hfin
          generalize (strs L).take k = T1 at *
          generalize (strs L).drop k = T2 at *
          have tok1 : True := trivial
          have tok2 : True := trivial
          have tok3 : True := trivial
          go_wp2_with (first
            | (at_builtin; have _t := tok1; refine wpList_append_rowsN _ rfl _ _ 40 rfl w.heap.size 9 i0 _ 1 16 Tryd.underlying40 hi0 hz0 hz1 hz2 rfl (by decide) _ _ rfl hrow0 _ _ k _ T1 htl.out rfl htk.out (fun y _ => one_T y) (by rw [htl.out]; unfold maxLen; simp; omega) (by rw [htl.out]; simp; omega) (by omega) ?_; intro v1 w1 hrow1 hgrow1; have hl1 := low_grown hlow (Nat.le_refl _) hsz hrow0 hgrow1; have hz1' := hl1.size; have hr1 := Lib.hid hrow1; clear tok1 hgrow1 hrow1 hrow0)
            | (at_builtin; have _t := tok2; refine wpList_append_row _ rfl _ _ 40 rfl w.heap.size 9 i0 _ 1 16 Tryd.underlying40 hi0 hz0 hz1 hz2 rfl (by decide) _ _ rfl (hr1.out.alloc _) (fun _ => rfl) _ s rfl (cells_new _ _ (tc s)) (one_T _) (by rw [List.nil_append, htl.out]; unfold maxLen; omega) (by rw [List.nil_append, htl.out]; omega) (by simp; omega) ?_; intro v2 w2 hrow2 hgrow2; have hl2 := low_rowT hl1 hr1.out (Nat.le_refl _) hz1' hgrow2; have hz2' := hl2.size; have hr2 := Lib.hid hrow2; clear tok2 hgrow2 hrow2)
            | (at_builtin; have _t := tok3; refine wpList_append_rowsN _ rfl _ _ 40 rfl w.heap.size 9 i0 _ 1 16 Tryd.underlying40 hi0 hz0 hz1 hz2 rfl (by decide) _ _ rfl hr2.out _ _ (L.length - k) _ T2 hdl.out rfl (HD.out.below hl2) (fun y _ => one_T y) (by rw [hdl.out, List.nil_append, List.length_append, htl.out]; unfold maxLen; simp; omega) (by rw [hdl.out, List.nil_append, List.length_append, htl.out]; simp; omega) (by omega) ?_; intro v3 w3 hrow3 hgrow3; have hl3 := low_grown hl2 (Nat.le_refl _) hz2' hr2.out hgrow3; clear tok3))
          go_ret
          rw [hff.out] at hrow3
          obtain ⟨A4, c4, rfl, hc4, hR4⟩ := hrow3.reads'
          rw [strs_length] at hc4 hR4
          exact ⟨A4, c4, by rw [strs_length]; rfl, hc4, hR4, hl3⟩
    · have hkl : k = L.length := by omega
      subst hkl
      have hfin := Lib.hid (hEnd.out (fun j h => hI.out j h h))
      have htk : Hid (Reads wr w.heap.size 1 A L.length ((strs L).flatMap tc)) := by
        have h := H1.out.below hlow
        rw [HLl.out] at h
        exact h
      have hkd : decide (L.length < L.length) = false := by simp
      have hrow0 : Row wr w.heap.size 9 1 tc (.slice none 0 0) [] := Row.nil _ _ _ _ _
      have hff : Hid ([] ++ strs L ++ [s] ++ [] = strs (sets.put L s.data.toList)) := by
        rw [hfin.out]; simp [strs, Hid]
      have htl := HLl
      clear hI hNew hEnd hSame hfin H1 hlt
      generalize strs L = T1 at *
      by_cases hcap : ca = L.length
      all_goals
        cases A
        all_goals
          have tok1 : True := trivial
          have tok2 : True := trivial
          have tok3 : True := trivial
          go_wp2_with (first
            | (at_builtin; have _t := tok1; refine wpList_append_rowsN _ rfl _ _ 40 rfl w.heap.size 9 i0 _ 1 16 Tryd.underlying40 hi0 hz0 hz1 hz2 rfl (by decide) _ _ rfl hrow0 _ _ L.length _ T1 htl.out rfl htk.out (fun y _ => one_T y) (by rw [htl.out]; unfold maxLen; simp; omega) (by rw [htl.out]; simp; omega) (by omega) ?_; intro v1 w1 hrow1 hgrow1; have hl1 := low_grown hlow (Nat.le_refl _) hsz hrow0 hgrow1; have hz1' := hl1.size; have hr1 := Lib.hid hrow1; clear tok1 hgrow1 hrow1 hrow0)
            | (at_builtin; have _t := tok2; refine wpList_append_row _ rfl _ _ 40 rfl w.heap.size 9 i0 _ 1 16 Tryd.underlying40 hi0 hz0 hz1 hz2 rfl (by decide) _ _ rfl (hr1.out.alloc _) (fun _ => rfl) _ s rfl (cells_new _ _ (tc s)) (one_T _) (by rw [List.nil_append, htl.out]; unfold maxLen; omega) (by rw [List.nil_append, htl.out]; omega) (by simp; omega) ?_; intro v2 w2 hrow2 hgrow2; have hl2 := low_rowT hl1 hr1.out (Nat.le_refl _) hz1' hgrow2; have hz2' := hl2.size; have hr2 := Lib.hid hrow2; clear tok2 hgrow2 hrow2)
            | (at_builtin; have _t := tok3; refine wpList_append_rowsN _ rfl _ _ 40 rfl w.heap.size 9 i0 _ 1 16 Tryd.underlying40 hi0 hz0 hz1 hz2 rfl (by decide) _ _ rfl hr2.out w.heap.size _ 0 _ [] rfl rfl ⟨by simp, fun h => absurd h (by omega)⟩ (fun y _ => one_T y) (by rw [List.nil_append, List.length_append, htl.out]; unfold maxLen; simp; omega) (by rw [List.nil_append, List.length_append, htl.out]; simp; omega) (by omega) ?_; intro v3 w3 hrow3 hgrow3; have hl3 := low_grown hl2 (Nat.le_refl _) hz2' hr2.out hgrow3; clear tok3))
          go_ret
          rw [hff.out] at hrow3
          obtain ⟨A4, c4, rfl, hc4, hR4⟩ := hrow3.reads'
          rw [strs_length] at hc4 hR4
          exact ⟨A4, c4, by rw [strs_length]; rfl, hc4, hR4, hl3⟩
def setK (f : Mb → ByteArray) (xs : List Mb) (k : Nat) : List T := sets.all [] (srt.data ((xs.take k).map f))
theorem setK_step {f : Mb → ByteArray} {xs : List Mb} {k : Nat} (h : k < xs.length) : setK f xs (k + 1) = sets.put (setK f xs k) (f xs[k]).data.toList := by
  unfold setK srt.data
  rw [List.take_succ_eq_append_getElem h, List.map_append, List.map_append]
  exact all_snoc _ _ _
theorem setK_all (f : Mb → ByteArray) (xs : List Mb) : setK f xs xs.length = setT (xs.map f) := by unfold setK setT; rw [List.take_length]
theorem setK_len {f : Mb → ByteArray} {xs : List Mb} : ∀ {k : Nat}, k ≤ xs.length → (setK f xs k).length ≤ k
  | 0, _ => by show (sets.all [] (srt.data ((xs.take 0).map f))).length ≤ 0; simp [srt.data, sets.all]
  | k + 1, h => by
    rw [setK_step (by omega)]
    have := setK_len (f := f) (xs := xs) (k := k) (by omega)
    have := put_len (setK f xs k) (f xs[k]).data.toList
    omega
set_option maxRecDepth 100000 in
set_option maxHeartbeats 2000000 in
theorem rracks_any (w : World) (A : Option Addr) (ca : Nat) (xs : List Mb) (hl : xs.length ≤ 10000) (h1 : Reads w w.heap.size 4 A xs.length (xs.flatMap Mb.cells)) :
    Calls Tryd.prog 22 #[.slice A xs.length ca] w (TextsAt w (setT (xs.map Mb.r))) := by
  have H1 := Lib.hid h1
  have HG := Lib.hid (setK_all Mb.r xs)
  clear h1
  go_enter Tryd.func22, Tryd.ntmps22
  go_wp2_with fail
  go_loopw [3, 4] (fun v iv wr => ∃ (k : Nat) (A1 : Option Addr) (c1 : Nat), k ≤ xs.length ∧ iv = .int .i64 k ∧ v = .slice A1 (setK Mb.r xs k).length c1 ∧ (setK Mb.r xs k).length ≤ c1 ∧ Hid (Reads wr wr.heap.size 1 A1 (setK Mb.r xs k).length ((strs (setK Mb.r xs k)).flatMap tc)) ∧ Below w.heap.size w wr) (fun _ iv _ => xs.length - (intOf iv).toNat)
  case atStart => exact ⟨0, none, 0, by omega, rfl, rfl, Nat.le_refl _, ⟨rfl, fun h => absurd h (Nat.lt_irrefl 0)⟩, Below.refl _ _⟩
  case round =>
    obtain ⟨k, A1, c1, hk, rfl, rfl, hc1, hR, hlow⟩ := hrel
    have hsz := hlow.size
    by_cases hlt : k < xs.length
    · obtain ⟨ad, rfl, had, c0, c1', c2, c3⟩ := elemM (H1.out.below hlow) hlt
      have hro := Lib.hid (setK_step (f := Mb.r) hlt)
      have hlen := setK_len (f := Mb.r) hk
      generalize setK Mb.r xs k = L at *
      generalize xs[k] = xe at *
      have HC := Lib.hid (rput_any wr A1 c1 L (Mb.r xe) (by omega) hc1 hR.out)
      obtain ⟨nn, rr, zz, uu⟩ := xe
      simp only at c0 c1' c2 c3 hro
      go_wp2_with fail
      refine HC.out.mono ?_
      rintro e w2 ⟨A2, c22, rfl, hc2, hR2, hb⟩
      have HR2 := Lib.hid hR2
      have hlow2 := hlow.trans (hb.mono hsz)
      clear hb HC hR hR2 hlow
      go_wp2
      go_roundw
      case rel => exact ⟨k + 1, A2, c22, by omega, by go_num, by rw [hro.out], by rw [hro.out]; exact hc2, by rw [hro.out]; exact HR2, hlow2⟩
      case measure => simp [intOf]; omega
    · have hkl : k = xs.length := by omega
      subst hkl
      rw [HG.out] at hR hc1
      rw [HG.out]
      generalize setT (xs.map Mb.r) = L at *
      go_wp2
      go_ret
      exact ⟨A1, c1, rfl, hc1, hR.out, hlow⟩
set_option maxRecDepth 100000 in
set_option maxHeartbeats 2000000 in
theorem rzones_any (w : World) (A : Option Addr) (ca : Nat) (xs : List Mb) (hl : xs.length ≤ 10000) (h1 : Reads w w.heap.size 4 A xs.length (xs.flatMap Mb.cells)) :
    Calls Tryd.prog 24 #[.slice A xs.length ca] w (TextsAt w (setT (xs.map Mb.z))) := by
  have H1 := Lib.hid h1
  have HG := Lib.hid (setK_all Mb.z xs)
  clear h1
  go_enter Tryd.func24, Tryd.ntmps24
  go_wp2_with fail
  go_loopw [3, 4] (fun v iv wr => ∃ (k : Nat) (A1 : Option Addr) (c1 : Nat), k ≤ xs.length ∧ iv = .int .i64 k ∧ v = .slice A1 (setK Mb.z xs k).length c1 ∧ (setK Mb.z xs k).length ≤ c1 ∧ Hid (Reads wr wr.heap.size 1 A1 (setK Mb.z xs k).length ((strs (setK Mb.z xs k)).flatMap tc)) ∧ Below w.heap.size w wr) (fun _ iv _ => xs.length - (intOf iv).toNat)
  case atStart => exact ⟨0, none, 0, by omega, rfl, rfl, Nat.le_refl _, ⟨rfl, fun h => absurd h (Nat.lt_irrefl 0)⟩, Below.refl _ _⟩
  case round =>
    obtain ⟨k, A1, c1, hk, rfl, rfl, hc1, hR, hlow⟩ := hrel
    have hsz := hlow.size
    by_cases hlt : k < xs.length
    · obtain ⟨ad, rfl, had, c0, c1', c2, c3⟩ := elemM (H1.out.below hlow) hlt
      have hro := Lib.hid (setK_step (f := Mb.z) hlt)
      have hlen := setK_len (f := Mb.z) hk
      generalize setK Mb.z xs k = L at *
      generalize xs[k] = xe at *
      have HC := Lib.hid (rput_any wr A1 c1 L (Mb.z xe) (by omega) hc1 hR.out)
      obtain ⟨nn, rr, zz, uu⟩ := xe
      simp only at c0 c1' c2 c3 hro
      go_wp2_with fail
      refine HC.out.mono ?_
      rintro e w2 ⟨A2, c22, rfl, hc2, hR2, hb⟩
      have HR2 := Lib.hid hR2
      have hlow2 := hlow.trans (hb.mono hsz)
      clear hb HC hR hR2 hlow
      go_wp2
      go_roundw
      case rel => exact ⟨k + 1, A2, c22, by omega, by go_num, by rw [hro.out], by rw [hro.out]; exact hc2, by rw [hro.out]; exact HR2, hlow2⟩
      case measure => simp [intOf]; omega
    · have hkl : k = xs.length := by omega
      subst hkl
      rw [HG.out] at hR hc1
      rw [HG.out]
      generalize setT (xs.map Mb.z) = L at *
      go_wp2
      go_ret
      exact ⟨A1, c1, rfl, hc1, hR.out, hlow⟩
end Go.Proofs.YtfkjoeibofnnoaaDoor.tp
