/- FrameIs: the frames of any records, and the records of any bytes. FrameBack: what is framed is scanned as it was, cut anywhere. -/
import Derived.Test.YtgojeoebflpglaaFrR
import Derived.Test.YtgojeoebflpglaaFrN
import Derived.BigQuiet
namespace Go.Proofs.Ytgojeoebflpglaa.fr
set_option linter.unusedSimpArgs false
set_option linter.unusedVariables false
open Go.ChangeShapes Go.WideShapes Go.ChangeAt Go.RowKit Go.Proofs.Aid
open Go.Proofs.Ytgojeoebflpglaa.oc Go.Proofs.CrcMath
open Go.Proofs.Ytgojeoebflpglaa.texts (tc)
abbrev sA : ByteArray := ⟨#[97]⟩
abbrev sE : ByteArray := ⟨#[]⟩
abbrev lAE : List ByteArray := [sA, sE]
theorem aw_size : (bz (frsB lAE)).size = 17 := by kernel_rfl
theorem aw_cat : bz (frB sA) ++ bz (frB sE) = bz (frsB lAE) := by rw [bz_append]; simp [frsB]
theorem aw_scan : scanS (bz (frsB lAE) ++ ⟨#[120]⟩) = (lAE, 17) := by kernel_rfl
theorem SPost.reads {x : ByteArray} {w : World} {e : Ending} {w' : World} (h : SPost x w e w') {L : List ByteArray} {n : Nat} (hs : scanS x = (L, n)) : ∃ A c, e = .returned (.tuple #[.slice A L.length c, .int .i64 n]) ∧ Reads w' w'.heap.size 1 A L.length (L.flatMap tc) ∧ Below w.heap.size w w' := by
  obtain ⟨v, rfl, hrow, hb⟩ := h
  rw [hs] at hrow ⊢
  obtain ⟨A, c, rfl, hR⟩ := hrow.reads
  exact ⟨A, c, rfl, hR, hb⟩
set_option maxRecDepth 100000 in
set_option maxHeartbeats 4000000 in
theorem awake_any (W : World) :
    Calls Try.prog 7 #[] W fun e w' => e = .returned (.bool true) ∧ Below W.heap.size W w' := by
  have HL := Lib.hid (below_lit W (.cells #[.string sA, .string sE] 9))
  have hr0 := lit1 (f := tc) (size := 1) W 9 lAE (fun _ => rfl)
  have HA := Lib.hid (all_any (some ⟨W.heap.size, 0, none⟩) 2 lAE _ (by decide) (by intro s hs; simp at hs; rcases hs with rfl | rfl <;> decide) hr0)
  have z1 := aw_size
  have hsc := Lib.hid aw_scan
  have hcat := Lib.hid aw_cat
  have hxz : (bz (frsB lAE) ++ ⟨#[120]⟩).size ≤ 100 := by rw [ByteArray.size_append]; rw [z1]; decide
  have zA : (bz (frB sA)).size ≤ 100 := by rw [bz_size, frB_len]; decide
  have zE : (bz (frB sE)).size ≤ 100 := by rw [bz_size, frB_len]; decide
  have HS := Lib.hid (fun w => scan_any (bz (frsB lAE) ++ ⟨#[120]⟩) w (by omega))
  generalize hX : bz (frsB lAE) ++ ⟨#[120]⟩ = X at *
  have hX := Lib.hid hX
  have HP1 := Lib.hid (fun w => fput_any sA w (by decide))
  have HP2 := Lib.hid (fun w => fput_any sE w (by decide))
  generalize bz (frsB lAE) = S at *
  generalize bz (frB sA) = PA at *
  generalize bz (frB sE) = PE at *
  go_enter Try.func7, Try.ntmps7
  go_wp2_with fail
  refine HA.out.mono ?_
  rintro e w1 ⟨rfl, hb⟩
  replace HL := Lib.hid (HL.out.trans (hb.mono HL.out.size)); clear hb
  have hX2 := hX.out
  go_wp2_with fail
  clear hX2
  refine (HS.out _).mono ?_
  rintro e w2 hsp
  obtain ⟨A1, c1, rfl, hR, hb⟩ := hsp.reads hsc.out
  replace HL := Lib.hid (HL.out.trans (hb.mono HL.out.size)); clear hb
  have HR := Lib.hid hR
  clear hR hsp
  go_wp2_with fail
  refine (HP1.out _).mono ?_
  rintro e w3 ⟨rfl, hb⟩
  replace HR := Lib.hid (HR.out.more_below hb)
  replace HL := Lib.hid (HL.out.trans (hb.mono HL.out.size)); clear hb
  go_wp2_with fail
  refine (HP2.out _).mono ?_
  rintro e w4 ⟨rfl, hb⟩
  replace HR := Lib.hid (HR.out.more_below hb)
  replace HL := Lib.hid (HL.out.trans (hb.mono HL.out.size)); clear hb
  have hc2 := hcat.out
  go_wp2_with fail
  have hr2 := lit1 (f := tc) (size := 1) w4 9 lAE (fun _ => rfl)
  have hb0 := below_lit w4 (.cells #[.string sA, .string sE] 9)
  have HQ := Lib.hid (texts.sameTexts_same (w4.alloc (.cells #[.string sA, .string sE] 9)) A1 (some ⟨w4.heap.size, 0, none⟩) c1 2 lAE (by decide) (HR.out.more_below hb0) hr2)
  clear hr2 hr0
  refine HQ.out.mono ?_
  rintro e w5 ⟨rfl, hb⟩
  replace HL := Lib.hid (HL.out.trans ((hb0.trans (hb.mono hb0.size)).mono HL.out.size))
  clear hb hb0 hc2
  go_wp2
  go_ret
  exact ⟨rfl, HL.out⟩
theorem few_z {l : List ByteArray} (h : ∀ s ∈ l, s.size ≤ 1024) : ∀ s ∈ l, s.size ≤ 1048576 := fun s hs => Nat.le_trans (h s hs) (by decide)
theorem frs_small {l : List ByteArray} (hl : l.length ≤ 20) (h : ∀ s ∈ l, s.size ≤ 1024) : (frsB l).length ≤ 30000 := by
  have h1 := frs_len (m := 1024) l h
  have : l.length * (8 + 1024) ≤ 20 * (8 + 1024) := Nat.mul_le_mul_right _ hl
  omega
theorem scan_len (x : ByteArray) : (scanS x).1.length ≤ x.size := by
  have h : ∀ k, (frun x k).1.length ≤ k := by
    intro k
    induction k with
    | zero => exact Nat.le_refl _
    | succ k ih =>
      rw [frun]
      unfold nextF
      cases firstS (x.extract (frun x k).2 x.size) with
      | none => simp only [Option.map_none]; omega
      | some b => simp only [Option.map_some, List.length_append, List.length_cons, List.length_nil]; omega
  exact h x.size
set_option maxRecDepth 100000 in
set_option maxHeartbeats 8000000 in
theorem is_walk (W : World) (A : Option Addr) (ca : Nat) (l : List ByteArray) (s : ByteArray) (hs : s.size ≤ maxLen) (hl : l.length ≤ maxLen) (h1 : Reads W W.heap.size 1 A l.length (l.flatMap tc)) (hz : ∀ t ∈ l, t.size ≤ maxLen) :
    Calls Try.prog 3 #[.slice A l.length ca, .string s] W fun e w' => e = .returned (.bool true) ∧ Below W.heap.size W w' := by
  have HF := Lib.hid (qfew_any W A ca l hl h1 hz)
  have H1 := Lib.hid h1
  have HL := Lib.hid (Below.refl W.heap.size W)
  unfold maxLen at hs
  clear h1 hz hl
  go_enter Try.func3, Try.ntmps3
  go_wp2_with fail
  refine HF.out.mono ?_
  rintro e w0 ⟨b1, rfl, rfl, hb⟩
  cases b1 with
  | false =>
    clear hb
    go_wp2_with fail
    refine (awake_any _).mono ?_; rintro e w9 ⟨rfl, hb⟩; have HL9 := Lib.hid (HL.out.trans (hb.mono HL.out.size)); clear hb; go_wp2; go_ret; exact ⟨rfl, HL9.out⟩
  | true =>
    obtain ⟨hl20, hz0⟩ := hb rfl
    have HZ := Lib.hid (few_z hz0)
    clear hb hz0 HF
    by_cases hsz : s.size ≤ 1024
    case neg =>
      go_wp2_with fail
      refine (awake_any _).mono ?_; rintro e w9 ⟨rfl, hb⟩; have HL9 := Lib.hid (HL.out.trans (hb.mono HL.out.size)); clear hb; go_wp2; go_ret; exact ⟨rfl, HL9.out⟩
    have HS1 := Lib.hid (fun w => scan_any s w (by omega))
    have HS2 := Lib.hid (fun w => rscan_any s w (by omega))
    obtain ⟨L, n, hscn⟩ : ∃ L n, scanS s = (L, n) := ⟨_, _, rfl⟩
    have hLn : L.length ≤ 1024 := by have := scan_len s; rw [hscn] at this; simp only at this; omega
    have HSC := Lib.hid hscn
    have HA1 := Lib.hid (fun w h => all_any A ca l w (by omega) HZ.out h)
    have HA2 := Lib.hid (fun w h => rall_any A ca l w (by omega) HZ.out h)
    have HP1 := Lib.hid (fun w => fput_any s w (by omega))
    have HP2 := Lib.hid (fun w => rput_any s w (by omega))
    clear hscn
    generalize bz (frsB l) = S at *
    generalize bz (frB s) = P at *
    go_wp2_with fail
    refine (HS1.out _).mono ?_
    rintro e w1 hsp
    obtain ⟨A1, c1, rfl, hR, hb⟩ := hsp.reads HSC.out
    have HR1 := Lib.hid hR
    clear hR hsp
    replace HL := Lib.hid (HL.out.trans (hb.mono HL.out.size)); clear hb
    go_wp2_with fail
    refine (HS2.out _).mono ?_
    rintro e w2 hsp
    obtain ⟨A2, c2, rfl, hR, hb⟩ := hsp.reads HSC.out
    have HR2 := Lib.hid hR
    replace HR1 := Lib.hid (HR1.out.more_below hb)
    clear hR hsp
    replace HL := Lib.hid (HL.out.trans (hb.mono HL.out.size)); clear hb
    go_wp2_with fail
    refine (HA1.out _ (H1.out.more_below HL.out)).mono ?_
    rintro e w3 ⟨rfl, hb⟩
    replace HR1 := Lib.hid (HR1.out.more_below hb)
    replace HR2 := Lib.hid (HR2.out.more_below hb)
    replace HL := Lib.hid (HL.out.trans (hb.mono HL.out.size)); clear hb
    go_wp2_with fail
    refine (HA2.out _ (H1.out.more_below HL.out)).mono ?_
    rintro e w4 ⟨rfl, hb⟩
    replace HR1 := Lib.hid (HR1.out.more_below hb)
    replace HR2 := Lib.hid (HR2.out.more_below hb)
    replace HL := Lib.hid (HL.out.trans (hb.mono HL.out.size)); clear hb
    go_wp2_with fail
    refine (HP1.out _).mono ?_
    rintro e w5 ⟨rfl, hb⟩
    replace HR1 := Lib.hid (HR1.out.more_below hb)
    replace HR2 := Lib.hid (HR2.out.more_below hb)
    replace HL := Lib.hid (HL.out.trans (hb.mono HL.out.size)); clear hb
    go_wp2_with fail
    refine (HP2.out _).mono ?_
    rintro e w6 ⟨rfl, hb⟩
    replace HR1 := Lib.hid (HR1.out.more_below hb)
    replace HR2 := Lib.hid (HR2.out.more_below hb)
    replace HL := Lib.hid (HL.out.trans (hb.mono HL.out.size)); clear hb
    have HQ := Lib.hid (texts.sameTexts_same w6 A1 A2 c1 c2 L (by omega) HR1.out HR2.out)
    go_wp2_with fail
    refine HQ.out.mono ?_
    rintro e w7 ⟨rfl, hb⟩
    replace HL := Lib.hid (HL.out.trans (hb.mono HL.out.size)); clear hb
    go_wp2_with fail
    refine (awake_any _).mono ?_; rintro e w9 ⟨rfl, hb⟩; have HL9 := Lib.hid (HL.out.trans (hb.mono HL.out.size)); clear hb; go_wp2; go_ret; exact ⟨rfl, HL9.out⟩
theorem begins_take (w : World) (A B : Option Addr) (ca cb : Nat) (xs ys : List ByteArray) (hle : xs.length ≤ ys.length) (hl : ys.length ≤ 100000) (hpre : ∀ j (h : j < xs.length) (h2 : j < ys.length), xs[j] = ys[j]) (h1 : Reads w w.heap.size 1 A xs.length (xs.flatMap tc)) (h2 : Reads w w.heap.size 1 B ys.length (ys.flatMap tc)) :
    Calls Try.prog 15 #[.slice A xs.length ca, .slice B ys.length cb] w fun e w' => e = .returned (.bool true) ∧ Below w.heap.size w w' := by
  have H1 := Lib.hid h1
  have H2 := Lib.hid h2
  have HP := Lib.hid hpre
  clear h1 h2 hpre
  go_enter Try.func15, Try.ntmps15
  go_wp2_with fail
  go_loopw [5] (fun iv w' => ∃ k : Nat, k ≤ xs.length ∧ iv = .int .i64 k ∧ Hid (Below w.heap.size w w')) (fun iv _ => xs.length - (intOf iv).toNat)
  case atStart => exact ⟨0, by omega, rfl, Below.refl _ _⟩
  case round =>
    obtain ⟨k, hk, rfl, hb⟩ := hrel
    by_cases hlt : k < xs.length
    · have hlt2 : k < ys.length := by omega
      obtain ⟨a1, q1, -, c1⟩ := (H1.out.below hb.out).elem1 hlt
      obtain ⟨a2, q2, -, c2⟩ := (H2.out.below hb.out).elem1 hlt2
      subst q1 q2
      have he := HP.out k hlt hlt2
      rw [← he] at c2
      clear he
      generalize xs[k] = x at *
      go_wp2_with fail
      go_quiet (fail)
      have hb2 : ∀ n, Hid (Below w.heap.size w (World.drewN _ n)) := fun n => below_drewN hb.out n
      go_wp2
      go_roundw
      case rel => exact ⟨k + 1, by omega, by go_num, hb2 _⟩
      case measure => simp [intOf]; omega
    · go_wp2
      go_ret
      exact ⟨rfl, hb.out⟩
set_option maxRecDepth 100000 in
set_option maxHeartbeats 8000000 in
theorem back_walk (W : World) (A : Option Addr) (ca : Nat) (l : List ByteArray) (t : Int) (ht0 : 0 ≤ t) (ht1 : t ≤ 65535) (hca : l.length ≤ ca) (hl : l.length ≤ maxLen) (h1 : Reads W W.heap.size 1 A l.length (l.flatMap tc)) (hz : ∀ t ∈ l, t.size ≤ maxLen) :
    Calls Try.prog 4 #[.slice A l.length ca, .int .u16 t] W fun e w' => e = .returned (.bool true) ∧ Below W.heap.size W w' := by
  have HF := Lib.hid (qfew_any W A ca l hl h1 hz)
  have H1 := Lib.hid h1
  have HL := Lib.hid (Below.refl W.heap.size W)
  clear h1 hz hl
  go_enter Try.func4, Try.ntmps4
  go_wp2_with fail
  refine HF.out.mono ?_
  rintro e w0 ⟨b1, rfl, rfl, hb⟩
  cases b1 with
  | false =>
    clear hb
    go_wp2_with fail
    refine (awake_any _).mono ?_; rintro e w9 ⟨rfl, hb⟩; have HL9 := Lib.hid (HL.out.trans (hb.mono HL.out.size)); clear hb; go_wp2; go_ret; exact ⟨rfl, HL9.out⟩
  | true =>
    obtain ⟨hl20, hz0⟩ := hb rfl
    have HZ := Lib.hid (few_z hz0)
    have hfs := frs_small hl20 hz0
    clear hb hz0 HF
    have hSz : (bz (frsB l)).size = (frsB l).length := bz_size _
    have hm0 : 0 ≤ t % ((bz (frsB l)).size + 1 : Int) := Int.emod_nonneg _ (by omega)
    have hm1 : t % ((bz (frsB l)).size + 1 : Int) < (bz (frsB l)).size + 1 := Int.emod_lt_of_pos _ (by omega)
    obtain ⟨k, hk⟩ : ∃ k : Nat, t % ((bz (frsB l)).size + 1 : Int) = k := ⟨(t % ((bz (frsB l)).size + 1 : Int)).toNat, by omega⟩
    have hkl : k ≤ (frsB l).length := by omega
    obtain ⟨j, hj, hsc, hjk, hjm⟩ := scan_cut l k HZ.out hkl
    have HSC := Lib.hid hsc
    have HSA := Lib.hid (scan_all l HZ.out)
    have HJM := Lib.hid hjm
    have hlj : (l.take j).length = j := by rw [List.length_take]; omega
    have hxz : ((bz (frsB l)).extract 0 k).size ≤ 30000 := by rw [ByteArray.size_extract]; omega
    have HS1 := Lib.hid (fun w => scan_any (bz (frsB l)) w (by omega))
    have HS2 := Lib.hid (fun w => scan_any ((bz (frsB l)).extract 0 k) w (by omega))
    have HA1 := Lib.hid (fun w h => all_any A ca l w (by omega) HZ.out h)
    have HA2 := Lib.hid (fun w A2 c2 h => all_any A2 c2 (l.take j) w (by omega) (fun s hs => HZ.out s (List.mem_of_mem_take hs)) h)
    have HA3 := Lib.hid (fun w h => all_any A ca (l.take (j + 1)) w (by rw [List.length_take]; omega) (fun s hs => HZ.out s (List.mem_of_mem_take hs)) h)
    have hz2 : (bz (frsB (l.take j))).size = (frsB (l.take j)).length := bz_size _
    have hz3 : (bz (frsB (l.take (j + 1)))).size = (frsB (l.take (j + 1))).length := bz_size _
    have hln3 : j < l.length → (l.take (j + 1)).length = j + 1 := fun h => by rw [List.length_take]; omega
    have HLN := Lib.hid hln3
    clear hsc hjm hm0 hm1 hln3
    generalize hcx : (bz (frsB l)).extract 0 k = c at *
    generalize (frsB l).length = nS at *
    generalize (frsB (l.take j)).length = n2 at *
    generalize (frsB (l.take (j + 1))).length = n3 at *
    generalize bz (frsB l) = S at *
    generalize bz (frsB (l.take j)) = S2 at *
    generalize bz (frsB (l.take (j + 1))) = S3 at *
    have hcx2 := Lib.hid hcx
    have hk2 := Lib.hid hk
    have hz2 := Lib.hid hz2
    have hz3 := Lib.hid hz3
    have hlj2 := Lib.hid hlj
    have hk3 : Hid (t % ((nS : Int) + 1) = k) := by rw [← hSz]; exact hk
    have hSz2 := Lib.hid hSz
    have hpre : Hid (∀ i (h1 : i < (l.take j).length) (h2 : i < l.length), (l.take j)[i] = l[i]) := fun i h1 h2 => by rw [List.getElem_take]
    clear hcx hk hlj hSz hk2
    generalize l.take j = L2 at *
    have hL2le : L2.length ≤ l.length := by have := hlj2.out; omega
    rename_i hz2o hz3o
    clear hz2o hz3o
    go_wp2_with fail
    refine (HA1.out _ (H1.out.more_below HL.out)).mono ?_
    rintro e w1 ⟨rfl, hb⟩
    replace HL := Lib.hid (HL.out.trans (hb.mono HL.out.size)); clear hb
    go_wp2_with fail
    refine (HS1.out _).mono ?_
    rintro e w2 hsp
    obtain ⟨A1, c1, rfl, hR, hb⟩ := hsp.reads HSA.out
    clear hsp
    replace HL := Lib.hid (HL.out.trans (hb.mono HL.out.size)); clear hb
    have HQ := Lib.hid (texts.sameTexts_same w2 A1 A c1 ca l (by omega) hR (H1.out.more_below HL.out))
    clear hR
    go_wp2_with fail
    refine HQ.out.mono ?_
    rintro e w3 ⟨rfl, hb⟩
    replace HL := Lib.hid (HL.out.trans (hb.mono HL.out.size)); clear hb
    have hk4 := hk3.out
    have hcx3 := hcx2.out
    have hSz3 := hSz2.out
    go_wp2_with fail
    clear hk4 hcx3 hSz3
    refine (HS2.out _).mono ?_
    rintro e w4 hsp
    obtain ⟨A2, c2, rfl, hR, hb⟩ := hsp.reads HSC.out
    have HR2 := Lib.hid hR
    clear hsp hR
    replace HL := Lib.hid (HL.out.trans (hb.mono HL.out.size)); clear hb
    have HB := Lib.hid (begins_take w4 A2 A c2 ca L2 l hL2le (by omega) hpre.out HR2.out (H1.out.more_below HL.out))
    go_wp2_with fail
    refine HB.out.mono ?_
    rintro e w5 ⟨rfl, hb⟩
    replace HR2 := Lib.hid (HR2.out.more_below hb)
    replace HL := Lib.hid (HL.out.trans (hb.mono HL.out.size)); clear hb
    have hk4 := hk3.out
    go_wp2_with fail
    refine (HA2.out _ _ _ HR2.out).mono ?_
    rintro e w6 ⟨rfl, hb⟩
    replace HL := Lib.hid (HL.out.trans (hb.mono HL.out.size)); clear hb
    have hz4 := hz2.out
    by_cases hjl : j = l.length
    · have hq : (((L2.length : Nat) : Int) == ((l.length : Nat) : Int)) = true := by rw [hlj2.out, hjl]; simp
      have hq2 : (L2.length == l.length) = true := by rw [hlj2.out, hjl]; simp
      go_wp2_with fail
      refine (awake_any _).mono ?_; rintro e w9 ⟨rfl, hb⟩; have HL9 := Lib.hid (HL.out.trans (hb.mono HL.out.size)); clear hb; go_wp2; go_ret; exact ⟨rfl, HL9.out⟩
    · have hjl2 : j < l.length := by omega
      have hln := HLN.out hjl2
      have hkn3 : k < n3 := by rcases HJM.out with h | h; exact absurd h hjl; exact h
      have hq : ((L2.length : Int) == ((l.length : Nat) : Int)) = false := by have := hlj2.out; simpa using (by omega : ¬ (L2.length : Int) = l.length)
      have hLj : L2.length + 1 ≤ ca := by have := hlj2.out; omega
      have hA3 := fun w h => HA3.out w h
      rw [hln, ← hlj2.out] at hA3
      have HA4 := Lib.hid hA3
      have HR3 := Lib.hid (fun w (h : Reads w w.heap.size 1 A l.length (l.flatMap tc)) => Reads.take (xs := l) (f := tc) (size := 1) (k := j + 1) (fun _ => rfl) h (by omega))
      rw [hln, ← hlj2.out] at HR3
      clear hA3 hln
      go_wp2_with fail
      refine (HA4.out _ (HR3.out _ (H1.out.more_below HL.out))).mono ?_
      rintro e w7 ⟨rfl, hb⟩
      replace HL := Lib.hid (HL.out.trans (hb.mono HL.out.size)); clear hb
      have hz5 := hz3.out
      go_wp2_with fail
      refine (awake_any _).mono ?_; rintro e w9 ⟨rfl, hb⟩; have HL9 := Lib.hid (HL.out.trans (hb.mono HL.out.size)); clear hb; go_wp2; go_ret; exact ⟨rfl, HL9.out⟩
end Go.Proofs.Ytgojeoebflpglaa.fr
