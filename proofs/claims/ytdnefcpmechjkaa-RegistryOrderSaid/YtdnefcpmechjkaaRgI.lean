/- Entries of a registry: Put, Join and Set of the reference. -/
import Derived.Test.YtdnefcpmechjkaaRgH
namespace Go.Proofs.Ytdnefcpmechjkaa.rgy
open Go.ChangeShapes Go.WideShapes Go.ChangeAt Go.RowKit Go.Proofs.Aid Go.Proofs.Ytdnefcpmechjkaa.name Go.Proofs.Ytdnefcpmechjkaa.reg
def RowP (w : World) (xs : List En) (c : Int) (e : Ending) (w' : World) : Prop := ∃ v, e = .returned (.tuple #[v, .int .i64 c]) ∧ Row w' w.heap.size 35 4 En.cells v xs ∧ Below w.heap.size w w'
def putsE (a b : List En) : List En := b.foldl putE a
theorem putE_len (l : List En) (x : En) : (putE l x).length ≤ l.length + 1 := by
  unfold putE putAt
  generalize pos l x.key = k
  split
  · split
    · simp only [List.length_append, List.length_take, List.length_cons, List.length_drop]; omega
    · simp only [List.length_append, List.length_take, List.length_cons, List.length_drop]; omega
  · simp only [List.length_append, List.length_take, List.length_cons, List.length_nil]; omega
theorem putsE_len (a b : List En) : (putsE a b).length ≤ a.length + b.length := by
  unfold putsE
  induction b generalizing a with
  | nil => simp
  | cons x b ih =>
    rw [List.foldl_cons, List.length_cons]
    have := ih (putE a x)
    have := putE_len a x
    omega
theorem puts_next {a b : List En} {k : Nat} (h : k < b.length) : putsE a (b.take (k + 1)) = putE (putsE a (b.take k)) b[k] := by
  unfold putsE; rw [List.take_succ_eq_append_getElem h, List.foldl_append]; rfl
theorem putE_sz {l : List En} {x : En} (hl : ∀ r ∈ l, r.sz) (hx : x.sz) : ∀ r ∈ putE l x, r.sz := by
  have hj : ∀ a b : Rg, (a.join b = a ∨ a.join b = b) := fun a b => by unfold Rg.join; split <;> simp
  intro r hr
  unfold putE putAt at hr
  rw [List.mem_append] at hr
  rcases hr with hr | hr
  · exact hl r (List.mem_of_mem_take hr)
  · split at hr
    · rename_i h
      split at hr
      · rcases List.mem_cons.1 hr with rfl | hr
        · have h1 := hl _ (List.getElem_mem h)
          refine ⟨hx.1, ?_⟩
          rcases hj l[pos l x.key].reg x.reg with e | e <;> simp only [e]
          · exact h1.2
          · exact hx.2
        · exact hl r (List.mem_of_mem_drop hr)
      · rcases List.mem_cons.1 hr with rfl | hr
        · exact hx
        · exact hl r (List.mem_of_mem_drop hr)
    · rw [List.mem_singleton] at hr; subst hr; exact hx
set_option maxRecDepth 100000 in
set_option maxHeartbeats 4000000 in
theorem rputC_any (w : World) (A : Option Addr) (ca : Nat) (xs : List En) (x : En) (hl : xs.length ≤ 4000) (hc : xs.length ≤ ca) (h1 : Reads w w.heap.size 4 A xs.length (xs.flatMap En.cells)) (hz : ∀ r ∈ xs, r.sz) (hx : x.sz) :
    Calls Try.prog 20 #[.slice A xs.length ca, x.val] w (RowP w (if may xs && isEntry x then putE xs x else []) (if may xs && isEntry x then 0 else 1)) := by
  have H1 := Lib.hid h1
  have HS := Lib.hid hz
  have HX := Lib.hid hx
  clear h1 hz hx
  have hb0 := Lib.hid (Blk.new w 35 #[.string x.key, .int .i64 x.reg.n, .string x.reg.by_, .string x.reg.value])
  have hl0 := Lib.hid (below_lit w (.cells #[.string x.key, .int .i64 x.reg.n, .string x.reg.by_, .string x.reg.value] 35))
  have hlen := Lib.hid (putE_len xs x)
  obtain ⟨kk, n, b, v⟩ := x
  simp only at hb0 hl0
  show Calls Try.prog 20 #[.slice A xs.length ca, .agg #[.string kk, .int .i64 n, .string b, .string v]] w _
  cases hm : may xs with
  | false =>
    have HM := Lib.hid hm
    clear hm
    go_enter Try.func20, Try.ntmps20
    go_wp2_with fail
    refine (rmayL_any _ A ca xs (by omega) (H1.out.more_below hl0.out) HS.out).mono ?_
    rw [HM.out]
    rintro e w1 ⟨rfl, hb⟩
    have HL := Lib.hid (hl0.out.trans (hb.mono (by simp)))
    clear hb
    go_wp2
    go_ret2
    exact ⟨_, rfl, Row.nil _ _ _ _ _, HL.out⟩
  | true =>
    have HM := Lib.hid hm
    clear hm
    cases hi : isEntry ⟨kk, n, b, v⟩ with
    | false =>
      have HI := Lib.hid hi
      clear hi
      go_enter Try.func20, Try.ntmps20
      go_wp2_with fail
      refine (rmayL_any _ A ca xs (by omega) (H1.out.more_below hl0.out) HS.out).mono ?_
      rw [HM.out]
      rintro e w1 ⟨rfl, hb⟩
      have HL := Lib.hid (hl0.out.trans (hb.mono (by simp)))
      have hb1 := hb0.out.below hb hb0.out.lt
      have d0 : w1.cell? ⟨w.heap.size, 0, none⟩ = some (.string kk) := by rw [hb1.cell]; rfl
      have d1 : w1.cell? ⟨w.heap.size, 1, none⟩ = some (.int .i64 n) := by rw [hb1.cell]; rfl
      have d2 : w1.cell? ⟨w.heap.size, 2, none⟩ = some (.string b) := by rw [hb1.cell]; rfl
      have d3 : w1.cell? ⟨w.heap.size, 3, none⟩ = some (.string v) := by rw [hb1.cell]; rfl
      clear hb hb1
      go_wp2_with fail
      refine (isEntry_any ⟨kk, n, b, v⟩ _ HX.out).mono ?_
      rw [HI.out]
      rintro e w2 ⟨rfl, hb⟩
      have HL2 := Lib.hid (HL.out.trans (hb.mono HL.out.size))
      clear hb
      go_wp2
      go_ret2
      exact ⟨_, rfl, Row.nil _ _ _ _ _, HL2.out⟩
    | true =>
      have HI := Lib.hid hi
      clear hi
      go_enter Try.func20, Try.ntmps20
      go_wp2_with fail
      refine (rmayL_any _ A ca xs (by omega) (H1.out.more_below hl0.out) HS.out).mono ?_
      rw [HM.out]
      rintro e w1 ⟨rfl, hb⟩
      have HL := Lib.hid (hl0.out.trans (hb.mono (by simp)))
      have hb1 := hb0.out.below hb hb0.out.lt
      have d0 : w1.cell? ⟨w.heap.size, 0, none⟩ = some (.string kk) := by rw [hb1.cell]; rfl
      have d1 : w1.cell? ⟨w.heap.size, 1, none⟩ = some (.int .i64 n) := by rw [hb1.cell]; rfl
      have d2 : w1.cell? ⟨w.heap.size, 2, none⟩ = some (.string b) := by rw [hb1.cell]; rfl
      have d3 : w1.cell? ⟨w.heap.size, 3, none⟩ = some (.string v) := by rw [hb1.cell]; rfl
      have HB1 := Lib.hid hb1
      clear hb hb1
      go_wp2_with fail
      refine (isEntry_any ⟨kk, n, b, v⟩ _ HX.out).mono ?_
      rw [HI.out]
      rintro e w2 ⟨rfl, hb⟩
      have HL2 := Lib.hid (HL.out.trans (hb.mono HL.out.size))
      have hb2 := HB1.out.below hb HB1.out.lt
      clear d0 d1 d2 d3
      have d0 : w2.cell? ⟨w.heap.size, 0, none⟩ = some (.string kk) := by rw [hb2.cell]; rfl
      have d1 : w2.cell? ⟨w.heap.size, 1, none⟩ = some (.int .i64 n) := by rw [hb2.cell]; rfl
      have d2 : w2.cell? ⟨w.heap.size, 2, none⟩ = some (.string b) := by rw [hb2.cell]; rfl
      have d3 : w2.cell? ⟨w.heap.size, 3, none⟩ = some (.string v) := by rw [hb2.cell]; rfl
      clear hb hb2
      go_wp2_with fail
      refine (rput_any w2 A ca xs ⟨kk, n, b, v⟩ (by omega) hc (H1.out.more_below HL2.out)).mono ?_
      rintro e w3 ⟨v3, rfl, hrow, hlow⟩
      have hz2 := HL2.out.size
      have HL3 := Lib.hid (HL2.out.trans (hlow.mono hz2))
      have hr3 := Lib.hid (hrow.more hz2)
      obtain ⟨A3, c3, rfl⟩ := hrow.form
      have hl3 : (putE xs ⟨kk, n, b, v⟩).length ≤ 4096 := by have := hlen.out; omega
      clear hrow hlow d0 d1 d2 d3
      generalize putE xs ⟨kk, n, b, v⟩ = L at *
      go_wp2
      go_ret2
      exact ⟨_, rfl, hr3.out, HL3.out⟩
set_option maxRecDepth 100000 in
set_option maxHeartbeats 8000000 in
theorem rjoinL_any (w : World) (A B : Option Addr) (ca cb : Nat) (xs ys : List En) (hl : xs.length + ys.length ≤ 4000) (hc : xs.length ≤ ca) (hcb : ys.length ≤ cb) (h1 : Reads w w.heap.size 4 A xs.length (xs.flatMap En.cells)) (h2 : Reads w w.heap.size 4 B ys.length (ys.flatMap En.cells)) (hz : ∀ r ∈ xs, r.sz) (hzb : ∀ r ∈ ys, r.sz) :
    Calls Try.prog 22 #[.slice A xs.length ca, .slice B ys.length cb] w (RowP w (if may xs && may ys then putsE xs ys else []) (if may xs && may ys then 0 else 1)) := by
  obtain ⟨i0, hi0, hz0, hz1, hz2⟩ := info_parts infoE
  have H1 := Lib.hid h1
  have H2 := Lib.hid h2
  have HS := Lib.hid hz
  have HT := Lib.hid hzb
  clear h1 h2 hz hzb
  cases hm : may xs with
  | false =>
    have HM := Lib.hid hm
    clear hm
    go_enter Try.func22, Try.ntmps22
    go_wp2_with fail
    refine (rmayL_any _ A ca xs (by omega) H1.out HS.out).mono ?_
    rw [HM.out]
    rintro e w1 ⟨rfl, hb⟩
    go_wp2
    go_ret2
    exact ⟨_, rfl, Row.nil _ _ _ _ _, hb⟩
  | true =>
    have HM := Lib.hid hm
    clear hm
    cases hm2 : may ys with
    | false =>
      have HM2 := Lib.hid hm2
      clear hm2
      go_enter Try.func22, Try.ntmps22
      go_wp2_with fail
      refine (rmayL_any _ A ca xs (by omega) H1.out HS.out).mono ?_
      rw [HM.out]
      rintro e w1 ⟨rfl, hb⟩
      have HL := Lib.hid hb
      clear hb
      go_wp2_with fail
      refine (rmayL_any _ B cb ys (by omega) (H2.out.more_below HL.out) HT.out).mono ?_
      rw [HM2.out]
      rintro e w2 ⟨rfl, hb⟩
      have HL2 := Lib.hid (HL.out.trans (hb.mono HL.out.size))
      clear hb
      go_wp2
      go_ret2
      exact ⟨_, rfl, Row.nil _ _ _ _ _, HL2.out⟩
    | true =>
      have HM2 := Lib.hid hm2
      clear hm2
      have hsl := Lib.hid (fun k => putsE_len xs (ys.take k))
      go_enter Try.func22, Try.ntmps22
      go_wp2_with fail
      refine (rmayL_any _ A ca xs (by omega) H1.out HS.out).mono ?_
      rw [HM.out]
      rintro e w1 ⟨rfl, hb⟩
      have HL := Lib.hid hb
      clear hb
      go_wp2_with fail
      refine (rmayL_any _ B cb ys (by omega) (H2.out.more_below HL.out) HT.out).mono ?_
      rw [HM2.out]
      rintro e w2 ⟨rfl, hb⟩
      have HL2 := Lib.hid (HL.out.trans (hb.mono HL.out.size))
      clear hb HL
      have hsz2 := HL2.out.size
      have hrow0 : Row w2 w.heap.size 35 4 En.cells (.slice none 0 0) [] := Row.nil _ _ _ _ _
      go_wp2_with (at_builtin; refine wpList_append_rowsN _ rfl _ _ 22 rfl w.heap.size 35 i0 _ 4 56 Try.underlying22 hi0 hz0 ‹_› hz2 rfl (by decide) _ _ rfl hrow0 _ _ xs.length _ xs rfl rfl (H1.out.below HL2.out) (fun y _ => one_E y) (by unfold maxLen; simp; omega) (by simp; omega) hsz2 ?_; intro v3 w3 hrow3 hgrow3)
      have hl3 : Below w.heap.size w w3 := low_grown HL2.out (Nat.le_refl _) hsz2 hrow0 hgrow3
      rw [List.nil_append] at hrow3
      have hs0 : Row w3 w.heap.size 35 4 En.cells v3 (putsE xs (ys.take 0)) := by rw [List.take_zero]; exact hrow3
      have HR3 := Lib.hid hs0
      have HL3 := Lib.hid hl3
      clear hrow3 hl3 hs0 hgrow3 hrow0 HL2 hsz2
      go_loopw [6, 7] (fun v iv wr => ∃ k : Nat, k ≤ ys.length ∧ iv = .int .i64 k ∧ Hid (Row wr w.heap.size 35 4 En.cells v (putsE xs (ys.take k))) ∧ Hid (Below w.heap.size w wr)) (fun _ iv _ => ys.length - (intOf iv).toNat)
      case atStart => exact ⟨0, by omega, rfl, HR3, HL3⟩
      case round =>
        clear HR3 HL3
        obtain ⟨k, hk, rfl, hrow, hlow⟩ := hrel
        have hsk := hsl.out k
        rw [List.length_take] at hsk
        by_cases hlt : k < ys.length
        · obtain ⟨ad, rfl, had, c0, c1, c2, c3⟩ := elemE (H2.out.below hlow.out) hlt
          have hnx := Lib.hid (puts_next (a := xs) hlt)
          obtain ⟨A4, c4, rfl, hc4, hr4⟩ := hrow.out.reads'
          have HR4 := Lib.hid hr4
          clear hr4
          generalize putsE xs (ys.take k) = L at *
          generalize ys[k] = xe at *
          obtain ⟨kk, n, b, v⟩ := xe
          simp only at c0 c1 c2 c3
          have hsz := hlow.out.size
          go_wp2_with fail
          refine (rput_any _ A4 c4 L ⟨kk, n, b, v⟩ (by omega) hc4 HR4.out).mono ?_
          rintro e w5 ⟨v5, rfl, hrow5, hlow5⟩
          have hr5 := Lib.hid (hrow5.more hsz)
          have hl5 := Lib.hid (hlow.out.trans (hlow5.mono hsz))
          clear hrow5 hlow5
          go_wp2
          go_roundw
          case rel => exact ⟨k + 1, by omega, by go_num, by rw [hnx.out]; exact hr5, hl5⟩
          case measure => simp [intOf]; omega
        · have hkl : k = ys.length := by omega
          subst hkl
          rw [List.take_length] at hrow hsk
          obtain ⟨A4, c4, rfl⟩ := hrow.out.form
          have hln : (putsE xs ys).length ≤ 4096 := by omega
          generalize putsE xs ys = L at *
          go_wp2
          go_ret2
          exact ⟨_, rfl, hrow.out, hlow.out⟩
end Go.Proofs.Ytdnefcpmechjkaa.rgy
