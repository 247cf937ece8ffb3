/- Members that are up, by the package: slices.Clone and slices.DeleteFunc at members. -/
import Derived.Test.YtfkjoeibofnnoaaDoorTpE
namespace Go.Proofs.YtfkjoeibofnnoaaDoor.tp
set_option linter.unusedSimpArgs false
open Go.ChangeShapes Go.WideShapes Go.ChangeAt Go.RowKit Go.Proofs.Aid
open Go.Proofs.YtfkjoeibofnnoaaDoor.nm (Lets)
set_option maxRecDepth 100000 in
set_option maxHeartbeats 1000000 in
theorem clone_any (w : World) (A : Option Addr) (ca : Nat) (xs : List Mb) (hl : xs.length ≤ 100000) (h1 : Reads w w.heap.size 4 A xs.length (xs.flatMap Mb.cells)) :
    Calls Tryd.prog 46 #[.slice A xs.length ca] w (RowM w xs) := by
  obtain ⟨i0, hi0, hz0, hz1, hz2⟩ := info_parts infoM
  have H1 := Lib.hid h1
  cases A with
  | none =>
    have hx : xs = [] := by
      cases xs with
      | nil => rfl
      | cons x xs => obtain ⟨_, h, _⟩ := h1.2 (by simp); cases h
    subst hx
    clear h1
    have hnil := fun w => Lib.run_eql_slice_nil (P := Tryd.prog) w 30 26 none 0 ca 0 0 Tryd.underlying30
    go_enter Tryd.func46, Tryd.ntmps46
    go_wp2
    go_ret
    exact ⟨_, rfl, Row.nil _ _ _ _ _, Below.refl _ _⟩
  | some ad =>
    clear h1
    have hnil := fun w => Lib.run_eql_slice_nil (P := Tryd.prog) w 30 26 (some ad) xs.length ca 0 0 Tryd.underlying30
    have hrow : Row (w.alloc (.cells #[] 26)) w.heap.size 26 4 Mb.cells (.slice (some ⟨w.heap.size, 0, none⟩) 0 0) [] := RowN.of (xs := []) Mb.len (Nat.le_refl _) (Nat.le_refl _) (by decide) (Blk.new w 26 #[]) rfl rfl
    have hr2 := Lib.hid (H1.out.alloc (Nat.le_refl _) (.cells #[] 26))
    go_enter Tryd.func46, Tryd.ntmps46
    go_wp2_with (at_builtin; refine wpList_append_rows _ rfl _ _ 30 rfl w.heap.size 26 i0 mz 4 56 Tryd.underlying30 hi0 hz0 hz1 hz2 rfl (by decide) _ _ rfl hrow _ _ _ xs rfl hr2.out (fun y _ u hu => one_M y u hu) (by unfold maxLen; simp; omega) (by simp; omega) (by simp) ?_; intro v' w4 hrow4 hgrow4)
    have hl4 := low_grown (((Below.refl w.heap.size w).alloc (Nat.le_refl _) (.cells #[] 26))) (Nat.le_refl _) (by simp) hrow hgrow4
    go_ret
    exact ⟨_, rfl, by simpa using hrow4, hl4⟩
theorem filter_none {f : Mb → Bool} {xs : List Mb} (h : xs.findIdx? f = none) : xs.filter (fun s => !f s) = xs := by
  rw [List.findIdx?_eq_none_iff] at h
  rw [List.filter_eq_self]
  intro s hs; simp [h s hs]
/-- What DeleteFunc has done when j of the members were asked. -/
structure Kept (f : Mb → Bool) (xs L : List Mb) (i j : Nat) : Prop where
  len : L.length = xs.length
  lt : i < j
  low : L.take i = (xs.take j).filter fun s => !f s
  high : L.drop j = xs.drop j
theorem Kept.start {f : Mb → Bool} {xs : List Mb} {k : Nat} (h : xs.findIdx? f = some k) : Kept f xs xs k (k + 1) := by
  obtain ⟨hk, h1, h2⟩ := List.findIdx?_eq_some_iff_getElem.1 h
  refine ⟨rfl, by omega, ?_, rfl⟩
  rw [List.take_succ_eq_append_getElem hk, List.filter_append]
  have : (xs.take k).filter (fun s => !f s) = xs.take k := by
    rw [List.filter_eq_self]
    intro s hs
    obtain ⟨j, hj, rfl⟩ := List.getElem_of_mem hs
    rw [List.length_take] at hj
    rw [List.getElem_take]
    simpa using h2 j (by omega)
  rw [this]; simp [h1]
theorem Kept.at_ {f : Mb → Bool} {xs L : List Mb} {i j : Nat} (h : Kept f xs L i j) (hj : j < xs.length) : ∃ hL : j < L.length, L[j] = xs[j] := by
  have hL : j < L.length := by rw [h.len]; exact hj
  refine ⟨hL, ?_⟩
  have h1 : (L.drop j)[0]? = (xs.drop j)[0]? := by rw [h.high]
  rw [List.getElem?_drop, List.getElem?_drop] at h1
  simpa [hL, hj] using h1
theorem Kept.skip {f : Mb → Bool} {xs L : List Mb} {i j : Nat} (h : Kept f xs L i j) (hj : j < xs.length) (hf : f xs[j] = true) : Kept f xs L i (j + 1) := by
  refine ⟨h.len, by have := h.lt; omega, ?_, ?_⟩
  · rw [List.take_succ_eq_append_getElem hj, List.filter_append, h.low]; simp [hf]
  · rw [← List.drop_drop, ← List.drop_drop, h.high]
theorem Kept.put {f : Mb → Bool} {xs L : List Mb} {i j : Nat} (h : Kept f xs L i j) (hj : j < xs.length) (hf : f xs[j] = false) : Kept f xs (L.set i xs[j]) (i + 1) (j + 1) := by
  have hlt := h.lt
  have hiL : i < L.length := by rw [h.len]; omega
  refine ⟨by rw [List.length_set]; exact h.len, by omega, ?_, ?_⟩
  · rw [List.take_succ_eq_append_getElem hj, List.filter_append, ← h.low, List.take_succ_eq_append_getElem (by simpa using hiL), List.take_set_of_le (Nat.le_refl _)]
    simp [hf]
  · rw [List.drop_set_of_lt (by omega), ← List.drop_drop, ← List.drop_drop, h.high]
theorem cellM {w : World} {base g n c : Nat} {xs : List Mb} (h : Row w base 26 4 Mb.cells (.slice (some ⟨g, 0, none⟩) n c) xs) {i : Nat} (hi : i < xs.length) :
    w.cell? ⟨g, i * 4, none⟩ = some (.string xs[i].n) ∧ w.cell? ⟨g, i * 4 + 1, none⟩ = some (.string xs[i].r) ∧ w.cell? ⟨g, i * 4 + 2, none⟩ = some (.string xs[i].z) ∧ w.cell? ⟨g, i * 4 + 3, none⟩ = some (.bool xs[i].u) ∧ w.frozen? ⟨g, i * 4, none⟩ = false ∧ w.frozen? ⟨g, i * 4 + 1, none⟩ = false ∧ w.frozen? ⟨g, i * 4 + 2, none⟩ = false ∧ w.frozen? ⟨g, i * 4 + 3, none⟩ = false :=
  ⟨(RowN.cell Mb.len h hi (j := 0) (by decide)).1, (RowN.cell Mb.len h hi (j := 1) (by decide)).1, (RowN.cell Mb.len h hi (j := 2) (by decide)).1, (RowN.cell Mb.len h hi (j := 3) (by decide)).1, (RowN.cell Mb.len h hi (j := 0) (by decide)).2, (RowN.cell Mb.len h hi (j := 1) (by decide)).2, (RowN.cell Mb.len h hi (j := 2) (by decide)).2, (RowN.cell Mb.len h hi (j := 3) (by decide)).2⟩
theorem cell_some {w : World} {base g n c : Nat} {xs : List Mb} (h : Row w base 26 4 Mb.cells (.slice (some ⟨g, 0, none⟩) n c) xs) {q : Nat} (hq : q < xs.length * 4) : (w.cell? ⟨g, q, none⟩).isSome = true ∧ w.frozen? ⟨g, q, none⟩ = false := by
  have h1 : q = q / 4 * 4 + q % 4 := by omega
  have hi : q / 4 < xs.length := by omega
  have := RowN.cell Mb.len h hi (j := q % 4) (by omega)
  rw [← h1] at this
  refine ⟨?_, this.2⟩
  rw [this.1, List.getElem?_eq_getElem (by rw [Mb.len]; omega)]
  rfl
set_option maxRecDepth 100000 in
set_option maxHeartbeats 4000000 in
theorem delete_any (B : Nat) (w0 w : World) (base : Nat) (hB : B ≤ base) (A : Option Addr) (ca : Nat) (xs : List Mb) (F : FuncId) (hF : Enters F) (p : Addr) (f : Mb → Bool) (hP : Pred B w0 F p f) (hlow : Below B w0 w) (hBz : base ≤ w.heap.size) (hl : xs.length ≤ 100000) (hrow : Row w base 26 4 Mb.cells (.slice A xs.length ca) xs) :
    Calls Tryd.prog 45 #[.slice A xs.length ca, .func (.func F) #[] #[.pointer (some p)]] w fun e w' => ∃ v, e = .returned v ∧ Row w' base 26 4 Mb.cells v (xs.filter fun s => !f s) ∧ Below B w0 w' := by
  have HP := Lib.hid hP
  have HL := Lib.hid hlow
  obtain ⟨A9, c9, e9, hcc, hrd⟩ := hrow.reads'
  injection e9 with e9 _ e9c
  subst e9 e9c
  have HRD := Lib.hid hrd
  have hFE := hF
  unfold Enters at hF
  clear hP hlow hrd
  go_enter Tryd.func45, Tryd.ntmps45
  go_wp2_with fail
  refine (index_any B w0 w A ca xs F hFE p f HP.out HL.out (by omega) hl HRD.out).mono ?_
  rintro e w1 ⟨rfl, hb1⟩
  have hrow1 := hrow.below hb1
  have hlow1 := HL.out.trans (hb1.mono (by omega))
  have hz1 := hb1.size
  cases hfi : xs.findIdx? f with
  | none =>
    have hfin := Lib.hid (filter_none hfi)
    rw [show idx f xs = -1 by unfold idx; rw [hfi]]
    clear hfi
    go_wp2
    go_ret
    exact ⟨_, rfl, by rw [hfin.out]; exact hrow1, hlow1⟩
  | some k =>
    have hK := Lib.hid (Kept.start hfi)
    have hk := (List.findIdx?_eq_some_iff_getElem.1 hfi).1
    rw [show idx f xs = k by unfold idx; rw [hfi]]
    clear hfi
    obtain ⟨g, rfl⟩ : ∃ g, A = some ⟨g, 0, none⟩ := by
      rcases hrow.2 with ⟨h, _⟩ | ⟨g, _, _, h, _⟩
      · injection h with h1 h2; omega
      · injection h with h1; exact ⟨g, h1⟩
    have hkm : ((k : Int) == -1) = false := by simp
    go_wp2_with fail
    clear hrow HRD hb1
    go_loopw [5, 6] (fun iv jv wr => ∃ (i j : Nat) (L : List Mb), iv = .int .i64 i ∧ jv = .int .i64 j ∧ j ≤ xs.length ∧ i < j ∧ Hid (Kept f xs L i j) ∧ Row wr base 26 4 Mb.cells (.slice (some ⟨g, 0, none⟩) xs.length ca) L ∧ Below B w0 wr ∧ base ≤ wr.heap.size) (fun _ jv _ => xs.length - (intOf jv).toNat)
    case atStart => exact ⟨k, k + 1, xs, rfl, by go_num, by omega, by omega, hK, hrow1, hlow1, by omega⟩
    case round =>
      clear hrow1 hlow1 hz1 hK
      obtain ⟨i, j, L, rfl, rfl, hj, hij, hK, hrow, hlow, hz⟩ := hrel
      have hgb : base ≤ g := (hrow.own rfl).1
      have hgw : g < wr.heap.size := (hrow.own rfl).2
      by_cases hlt : j < xs.length
      · obtain ⟨hjL, hLj⟩ := hK.out.at_ hlt
        obtain ⟨cj0, cj1, cj2, cj3, -, -, -, -⟩ := cellM hrow hjL
        rw [hLj] at cj0 cj1 cj2 cj3
        have hcall := Lib.hid (fun o => HP.out (wr.alloc o) xs[j] (hlow.alloc (by omega) o))
        cases hf : f xs[j] with
        | true =>
          have hK2 := Lib.hid (hK.out.skip hlt hf)
          rw [hf] at hcall
          clear hf hLj
          generalize xs[j] = s at *
          obtain ⟨sn, sr, sz, su⟩ := s
          simp only at cj0 cj1 cj2 cj3
          go_wp2_with fail
          refine (hcall.out _).mono ?_
          rintro e w2 ⟨rfl, hb2⟩
          have hrow2 := (hrow.alloc _).below hb2
          have hlow2 := (hlow.alloc (by omega) _).trans (hb2.mono (by simp; omega))
          have hz2 : base ≤ w2.heap.size := Nat.le_trans (by simp; omega) hb2.size
          clear hb2
          go_wp2
          go_roundw
          case rel => exact ⟨i, j + 1, L, rfl, by go_num, by omega, by omega, hK2, hrow2, hlow2, hz2⟩
          case measure => simp [intOf]; omega
        | false =>
          have hK2 := Lib.hid (hK.out.put hlt hf)
          have hiL : i < L.length := by omega
          have hnx := fun (w2 : World) (h : Row w2 base 26 4 Mb.cells (.slice (some ⟨g, 0, none⟩) xs.length ca) L) => Lib.hid (RowN.put Mb.len h hiL xs[j])
          rw [hf] at hcall
          clear hf hLj
          generalize xs[j] = s at *
          obtain ⟨sn, sr, sz, su⟩ := s
          simp only at cj0 cj1 cj2 cj3
          have hbk := Lib.hid (Blk.new wr 26 #[.string sn, .string sr, .string sz, .bool su])
          go_wp2_with fail
          refine (hcall.out _).mono ?_
          rintro e w2 ⟨rfl, hb2⟩
          have hrow2 := (hrow.alloc _).below hb2
          have hlow2 := (hlow.alloc (by omega) _).trans (hb2.mono (by simp; omega))
          have hz2 : base ≤ w2.heap.size := Nat.le_trans (by simp; omega) hb2.size
          have hbk2 := Lib.hid (hbk.out.below hb2 hbk.out.lt)
          clear hb2
          obtain ⟨ci0, ci1, ci2, ci3, cf0, cf1, cf2, cf3⟩ := cellM hrow2 hiL
          have d0 := hbk2.out.cell 0
          have d1 := hbk2.out.cell 1
          have d2 := hbk2.out.cell 2
          have d3 := hbk2.out.cell 3
          simp at d0 d1 d2 d3
          have hil : i < xs.length := by omega
          have hnx2 := hnx w2 hrow2
          have hlow3 := Lib.hid (low_setCells (g := g) (by omega : B ≤ g) (Mb.cells ⟨sn, sr, sz, su⟩) (i * 4) w2 hlow2)
          have hz3 : Hid (base ≤ (w2.setCells g (i * 4) (Mb.cells ⟨sn, sr, sz, su⟩)).heap.size) := by simpa [World.setCells, Mb.cells, Hid] using hz2
          clear hnx
          generalize L[i] = old at ci0 ci1 ci2 ci3
          obtain ⟨on, orr, oz, ou⟩ := old
          simp only at ci0 ci1 ci2 ci3
          go_wp2
          go_roundw
          case rel => exact ⟨i + 1, j + 1, _, by go_num, by go_num, by omega, by omega, hK2, hnx2.out, hlow3.out, hz3.out⟩
          case measure => simp [intOf]; omega
      · have hjl : j = xs.length := by omega
        subst hjl
        have hfin : Hid (L.take i = xs.filter fun s => !f s) := by have h := hK.out.low; rw [List.take_length] at h; exact h
        have hLl := Lib.hid hK.out.len
        have hci : i ≤ ca := by omega
        have hci2 : ¬ ca = i := by omega
        have hcl := fun ty => run_clear_sliceN (P := Tryd.prog) wr 30 26 ty mz Tryd.underlying30 zeroM (by simp [mz, Value.cells, Value.oneCell']) (by decide) g (i * 4) (xs.length - i) (ca - i) (by omega) (fun t ht => (cell_some hrow (q := i * 4 + t) (by have := hLl.out; have ht' : t < (xs.length - i) * 4 := ht; omega)).1) (fun t ht => (cell_some hrow (q := i * 4 + t) (by have := hLl.out; have ht' : t < (xs.length - i) * 4 := ht; omega)).2)
        have hrow2 := RowN.beyonds Mb.len (RowN.cut Mb.len hrow (k := i) (by have := hLl.out; omega)) (Builtin.zeroCells mz.cells (xs.length - i)).toList (Nat.le_refl _)
        have hlow2 := low_setCells (g := g) (by omega : B ≤ g) (Builtin.zeroCells mz.cells (xs.length - i)).toList (i * 4) wr hlow
        generalize wr.setCells g (i * 4) (Builtin.zeroCells mz.cells (xs.length - i)).toList = w5 at *
        go_wp2
        go_ret
        exact ⟨_, rfl, by rw [← hfin.out]; exact hrow2, hlow2⟩
set_option maxHeartbeats 1000000 in
theorem up_any (w : World) (A : Option Addr) (ca : Nat) (xs : List Mb) (hl : xs.length ≤ 100000) (h1 : Reads w w.heap.size 4 A xs.length (xs.flatMap Mb.cells)) :
    Calls Tryd.prog 18 #[.slice A xs.length ca] w (RowM w (xs.filter Mb.u)) := by
  have HN := Lib.hid (show (xs.filter fun m => !(!m.u)) = xs.filter Mb.u by simp)
  have hO : Hid (Calls Tryd.prog 33 #[.slice A xs.length ca, .func (.func 34) #[] #[]] w (RowM w (xs.filter Mb.u))) := by
    have HL := Lib.hid (below_lit w (.cells #[.func (.func 34) #[] #[]] 54))
    have HB := Lib.hid (Blk.new w 54 #[.func (.func 34) #[] #[]])
    have H1 := Lib.hid (h1.more_below HL.out)
    clear h1
    go_enter Tryd.func33, Tryd.ntmps33
    go_wp2_with fail
    generalize w.alloc (.cells #[.func (.func 34) #[] #[]] 54) = w1 at *
    refine (clone_any w1 A ca xs hl H1.out).mono ?_
    rintro e w2 ⟨v, rfl, hrow, hlow⟩
    obtain ⟨A1, c1, rfl⟩ := hrow.form
    have hz := hlow.size
    have hbk := Lib.hid (HB.out.below hlow HB.out.lt)
    have HPr := Lib.hid (not1_pred (B := w1.heap.size) (w := w2) (p := ⟨w.heap.size, 0, none⟩) HB.out.lt hz (by rw [hbk.out.cell]; rfl))
    have hz0 := HL.out.size
    have HL2 := Lib.hid (HL.out.trans (hlow.mono hz0))
    clear hlow
    go_wp2_with fail
    refine (delete_any w1.heap.size w2 w2 w1.heap.size (Nat.le_refl _) A1 c1 xs 47 entersN ⟨w.heap.size, 0, none⟩ _ HPr.out (Below.refl _ _) hz hl hrow).mono ?_
    rw [HN.out]
    rintro e w3 ⟨v2, rfl, hrow2, hlow2⟩
    have HR3 := Lib.hid (hrow2.more hz0)
    have HL3 := Lib.hid (HL2.out.trans (hlow2.mono hz0))
    clear hrow hrow2 hlow2
    go_wp2
    go_ret
    exact ⟨_, rfl, HR3.out, HL3.out⟩
  go_enter Tryd.func18, Tryd.ntmps18
  go_wp2_with fail
  refine hO.out.mono ?_
  rintro e w1 ⟨v, rfl, hrow, hlow⟩
  have HR := Lib.hid hrow
  have HL := Lib.hid hlow
  clear hrow hlow h1
  go_wp2
  go_ret
  exact ⟨_, rfl, HR.out, HL.out⟩
end Go.Proofs.YtfkjoeibofnnoaaDoor.tp
