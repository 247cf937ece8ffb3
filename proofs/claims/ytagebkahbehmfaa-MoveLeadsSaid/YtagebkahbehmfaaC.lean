/- What moves lead to. -/
import Derived.Test.YtagebkahbehmfaaB
namespace Go.Proofs.Ytagebkahbehmfaa.move
open Go.ChangeShapes Go.WideShapes Go.ChangeAt Go.RowKit Go.Proofs.Aid Go.Proofs.Ytagebkahbehmfaa.texts
def app1 (l : List ByteArray) (m : R36) : Option (List ByteArray) := if 0 ≤ m.part ∧ m.part < l.length ∧ l.getD m.part.toNat ByteArray.empty = m.from_ then some (l.set m.part.toNat m.to_) else none
def appTo (was : List ByteArray) (rs : List R36) : Nat → Option (List ByteArray)
  | 0 => some was
  | k + 1 => (appTo was rs k).bind fun l => match rs[k]? with | some m => app1 l m | none => some l
theorem appTo_succ {was : List ByteArray} {rs : List R36} {k : Nat} (h : k < rs.length) {l : List ByteArray} (hl : appTo was rs k = some l) : appTo was rs (k + 1) = app1 l rs[k] := by
  simp only [appTo, hl, Option.bind, List.getElem?_eq_getElem h]
theorem appTo_none {was : List ByteArray} {rs : List R36} {k : Nat} (h : appTo was rs k = none) : ∀ j, appTo was rs (k + j) = none
  | 0 => h
  | j + 1 => by rw [show k + (j + 1) = (k + j) + 1 by omega, appTo, appTo_none h j]; rfl
def apply (was : List ByteArray) (rs : List R36) : Option (List ByteArray) := appTo was rs rs.length
theorem apply_none {was : List ByteArray} {rs : List R36} {k : Nat} (hk : k ≤ rs.length) (h : appTo was rs k = none) : apply was rs = none := by
  have := appTo_none h (rs.length - k)
  rwa [show k + (rs.length - k) = rs.length by omega] at this
theorem app1_low {l : List ByteArray} {p : Int} {x y : ByteArray} (h : p < 0) : app1 l ⟨p, x, y⟩ = none := by unfold app1; rw [if_neg]; simp only; omega
theorem app1_high {l : List ByteArray} {p : Int} {x y : ByteArray} (h : (l.length : Int) ≤ p) : app1 l ⟨p, x, y⟩ = none := by unfold app1; rw [if_neg]; simp only; omega
theorem app1_other {l : List ByteArray} {q : Nat} {x y : ByteArray} (h : q < l.length) (hx : l[q] ≠ x) : app1 l ⟨q, x, y⟩ = none := by
  unfold app1; rw [if_neg]
  rintro ⟨_, _, e⟩
  exact hx (by simpa [h] using e)
theorem app1_some {l : List ByteArray} {q : Nat} {x y : ByteArray} (h : q < l.length) (hx : l[q] = x) : app1 l ⟨q, x, y⟩ = some (l.set q y) := by
  unfold app1; rw [if_pos ⟨by simp, by simpa using h, by simpa [h] using hx⟩]; simp
def AppPost (w : World) (r : Option (List ByteArray)) (e : Ending) (w' : World) : Prop := ∃ v, e = .returned (.tuple #[v, .int .i64 (if r.isSome then 0 else 1)]) ∧ Row w' w.heap.size 9 1 tc v (r.getD []) ∧ Below w.heap.size w w'
def RowPost (w : World) (xs : List ByteArray) (e : Ending) (w' : World) : Prop := ∃ v, e = .returned v ∧ Row w' w.heap.size 9 1 tc v xs ∧ Below w.heap.size w w'
set_option maxHeartbeats 1000000 in
theorem clone_any (w : World) (A : Option Addr) (ca : Nat) (xs : List ByteArray) (hl : xs.length ≤ 1000) (h1 : Reads w w.heap.size 1 A xs.length (xs.flatMap tc)) :
    Calls Try.prog 20 #[.slice A xs.length ca] w (RowPost w xs) := by
  obtain ⟨i0, hi0, hz0, hz1, hz2⟩ := info_parts info9
  have H1 := Lib.hid h1
  cases A with
  | none =>
    have hx : xs = [] := by
      cases xs with
      | nil => rfl
      | cons x xs => obtain ⟨_, h, _⟩ := h1.2 (by simp); cases h
    subst hx
    clear h1
    have hnil := fun w => Lib.run_eql_slice_nil (P := Try.prog) w 22 9 none 0 ca 0 0 Try.underlying22
    go_enter Try.func20, Try.ntmps20
    go_wp2
    go_ret
    exact ⟨_, rfl, Row.nil _ _ _ _ _, Below.refl _ _⟩
  | some ad =>
    clear h1
    have hnil := fun w => Lib.run_eql_slice_nil (P := Try.prog) w 22 9 (some ad) xs.length ca 0 0 Try.underlying22
    have hrow : Row (w.alloc (.cells #[] 9)) w.heap.size 9 1 tc (.slice (some ⟨w.heap.size, 0, none⟩) 0 0) [] := Row1.of (xs := []) (q := Value.string) (Nat.le_refl _) (Nat.le_refl _) (by decide) (Blk.new w 9 #[]) rfl rfl
    have hr2 := Lib.hid (H1.out.alloc (Nat.le_refl _) (.cells #[] 9))
    go_enter Try.func20, Try.ntmps20
    go_wp2_with (at_builtin; refine wpList_append_rows _ rfl _ _ 22 rfl w.heap.size 9 i0 (.string ⟨#[]⟩) 1 16 Try.underlying22 hi0 hz0 hz1 hz2 rfl (by decide) _ _ rfl hrow _ _ _ xs rfl hr2.out (fun y _ u hu => by simp [tc] at hu; subst hu; rfl) (by unfold maxLen; simp; omega) (by simp; omega) (by simp) ?_; intro v' w4 hrow4 hgrow4)
    have hl4 := low_grown (((Below.refl w.heap.size w).alloc (Nat.le_refl _) (.cells #[] 9))) (Nat.le_refl _) (by simp) hrow hgrow4
    go_ret
    exact ⟨_, rfl, by simpa using hrow4, hl4⟩
set_option maxRecDepth 100000 in
set_option maxHeartbeats 4000000 in
theorem apply_any (w : World) (A B : Option Addr) (ca cb : Nat) (was : List ByteArray) (rs : List R36) (hl : was.length ≤ 1000) (hl2 : rs.length ≤ 1000) (h1 : Reads w w.heap.size 1 A was.length (was.flatMap tc)) (h2 : Reads w w.heap.size 3 B rs.length (rs.flatMap R36.cells)) :
    Calls Try.prog 9 #[.slice A was.length ca, .slice B rs.length cb] w (AppPost w (apply was rs)) := by
  have H1 := Lib.hid h1
  have H2 := Lib.hid h2
  clear h1 h2
  go_enter Try.func9, Try.ntmps9
  go_wp2_with fail
  refine (clone_any w A ca was hl H1.out).mono ?_
  rintro e w1 ⟨v, rfl, hrow, hlow⟩
  obtain ⟨A1, c1, rfl⟩ := hrow.form
  have hz : Hid (appTo was rs 0 = some was) := rfl
  go_wp2_with fail
  go_loopw [13] (fun iv wr => ∃ (k : Nat) (L : List ByteArray), k ≤ rs.length ∧ iv = .int .i64 k ∧ Hid (appTo was rs k = some L) ∧ Hid (L.length = was.length) ∧ Row wr w.heap.size 9 1 tc (.slice A1 was.length c1) L ∧ Below w.heap.size w wr) (fun iv _ => rs.length - (intOf iv).toNat)
  case atStart => exact ⟨0, was, by omega, rfl, hz, rfl, hrow, hlow⟩
  case round =>
    clear hrow hlow hz
    obtain ⟨k, L, hk, rfl, hap, hLw, hrow, hlow⟩ := hrel
    have hsz := hlow.size
    by_cases hlt : k < rs.length
    · obtain ⟨a1, q1, -, c0, c1', c2⟩ := elem36 (H2.out.below hlow) hlt
      subst q1
      have HA := Lib.hid (appTo_succ hlt hap.out)
      generalize hm : rs[k] = m at *
      obtain ⟨p, x, y⟩ := m
      simp only at c0 c1' c2
      clear hm
      have hrow2 := hrow.alloc (.cells #[.int .i64 p, .string x, .string y] 36)
      have hlow2 := hlow.alloc hsz (.cells #[.int .i64 p, .string x, .string y] 36)
      have hlowN : ∀ n, Below w.heap.size w (World.drewN _ n) := fun n => below_drewN hlow2 n
      have hrowN : ∀ n, Row (World.drewN _ n) w.heap.size 9 1 tc _ _ := fun n => hrow2.drewN n
      have hn0 : ∀ n, Row (World.drewN (wr.alloc (.cells #[.int .i64 p, .string x, .string y] 36)) n) w.heap.size 9 1 tc (.slice none 0 0) [] := fun n => Row.nil _ _ _ _ _
      by_cases hp0 : p < 0
      · have HN := Lib.hid (apply_none (by omega) (HA.out.trans (app1_low hp0)))
        clear HA
        go_wp2_with fail
        go_quiet (fail)
        go_wp2
        go_ret2
        exact ⟨_, by rw [HN.out]; rfl, by rw [HN.out]; exact hn0 nq, hlowN nq⟩
      · by_cases hp1 : (was.length : Int) ≤ p
        · have HN := Lib.hid (apply_none (by omega) (HA.out.trans (app1_high (by rw [hLw.out]; exact hp1))))
          have hd0 : decide (p < 0) = false := by simpa using hp0
          have hd1 : decide ((was.length : Int) ≤ p) = true := by simpa using hp1
          clear HA hp0 hp1
          go_wp2_with fail
          go_quiet (fail)
          go_wp2
          go_ret2
          exact ⟨_, by rw [HN.out]; rfl, by rw [HN.out]; exact hn0 nq, hlowN nq⟩
        · obtain ⟨q, rfl⟩ := Int.eq_ofNat_of_zero_le (by omega : 0 ≤ p)
          have hqw : q < was.length := by omega
          have hq : q < L.length := by rw [hLw.out]; exact hqw
          obtain ⟨g, rfl⟩ : ∃ g, A1 = some ⟨g, 0, none⟩ := by
            rcases hrow.2 with ⟨h, _⟩ | ⟨g, _, _, h, _⟩
            · injection h with h1 h2; omega
            · injection h with h1; exact ⟨g, h1⟩
          obtain ⟨cc, cf⟩ := Row1.cell hrow hq
          have hgb := (hrow.own rfl).1
          have hd1 : decide (was.length ≤ q) = false := by simp; omega
          have hd0 : decide ((q : Int) < 0) = false := by simp
          have hgl := (hrow.own rfl).2
          clear hp0 hp1
          by_cases hx : L[q] = x
          · have HS := Lib.hid (HA.out.trans (app1_some hq hx))
            rw [hx] at cc
            clear HA hx
            have hnx := fun n => Row1.set (hrowN n) hq y
            go_wp2_with fail
            go_quiet (fail)
            have hnx' := hnx nq
            have hlow' := (hlowN nq).setCell (p := ⟨g, q, none⟩) hgb (.string y)
            clear hnx hn0
            go_wp2
            go_roundw
            case rel => exact ⟨k + 1, _, by omega, by go_num, HS.out, by rw [List.length_set]; exact hLw.out, hnx', hlow'⟩
            case measure => simp [intOf]; omega
          · have HN := Lib.hid (apply_none (by omega) (HA.out.trans (app1_other hq hx)))
            have hx' := bytes_ne hx
            clear HA hx
            generalize L[q] = z at cc hx'
            go_wp2_with fail
            go_quiet (fail)
            go_wp2
            go_ret2
            exact ⟨_, by rw [HN.out]; rfl, by rw [HN.out]; exact hn0 nq, hlowN nq⟩
    · have hkl : k = rs.length := by omega
      subst hkl
      go_wp2
      go_ret2
      exact ⟨_, by unfold apply; rw [hap.out]; rfl, by unfold apply; rw [hap.out]; exact hrow, hlow⟩
theorem set_parts {L : List ByteArray} {q : Nat} (h : q < L.length) (y : ByteArray) : (L.take q ++ [y]) ++ L.drop (q + 1) = L.set q y := by
  rw [List.set_eq_take_append_cons_drop, if_pos h]; simp
theorem drop_reads {w : World} {B : Nat} {A : Option Addr} {L : List ByteArray} {k cap : Nat} (h : Reads w B 1 A L.length (L.flatMap tc)) (hk : k ≤ L.length) (hc : L.length ≤ cap) :
    Reads w B 1 (if cap = k then A else A.map (·.add k)) (L.drop k).length ((L.drop k).flatMap tc) := by
  have h' := h.cut (k := k) (cap := cap) hk hc
  rw [List.length_drop]
  have : (L.flatMap tc).drop (k * 1) = (L.drop k).flatMap tc := by rw [Nat.mul_one, map_flat, map_flat, List.map_drop]
  rw [this] at h'
  simpa using h'
set_option maxRecDepth 100000 in
set_option maxHeartbeats 8000000 in
theorem rapply_any (w : World) (A B : Option Addr) (ca cb : Nat) (was : List ByteArray) (rs : List R36) (hl : was.length ≤ 1000) (hl2 : rs.length ≤ 1000) (h1 : Reads w w.heap.size 1 A was.length (was.flatMap tc)) (h2 : Reads w w.heap.size 3 B rs.length (rs.flatMap R36.cells)) :
    Calls Try.prog 10 #[.slice A was.length ca, .slice B rs.length cb] w (AppPost w (apply was rs)) := by
  obtain ⟨i0, hi0, hz0, hz1, hz2⟩ := info_parts info9
  have H1 := Lib.hid h1
  have H2 := Lib.hid h2
  clear h1 h2
  have hz : Hid (appTo was rs 0 = some was) := rfl
  have hr0 : Row w w.heap.size 9 1 tc (.slice none 0 0) [] := Row.nil _ _ _ _ _
  go_enter Try.func10, Try.ntmps10
  go_wp2_with (at_builtin; refine wpList_append_rows _ rfl _ _ 22 rfl w.heap.size 9 i0 (.string ⟨#[]⟩) 1 16 Try.underlying22 hi0 hz0 hz1 hz2 rfl (by decide) _ _ rfl hr0 _ _ _ was rfl H1.out (fun y _ u hu => by simp [tc] at hu; subst hu; rfl) (by unfold maxLen; simp; omega) (by simp; omega) (by simp) ?_; intro v' w1 hrow hgrow)
  have hlow := low_grown (Below.refl w.heap.size w) (Nat.le_refl _) (Nat.le_refl _) hr0 hgrow
  rw [List.nil_append] at hrow
  clear hr0 hgrow
  go_loopw [6, 7] (fun v iv wr => ∃ (k : Nat) (L : List ByteArray), k ≤ rs.length ∧ iv = .int .i64 k ∧ Hid (appTo was rs k = some L) ∧ L.length ≤ 1000 ∧ Row wr w.heap.size 9 1 tc v L ∧ Below w.heap.size w wr) (fun _ iv _ => rs.length - (intOf iv).toNat)
  case atStart => exact ⟨0, was, by omega, rfl, hz, hl, hrow, hlow⟩
  case round =>
    clear hrow hlow hz
    obtain ⟨k, L, hk, rfl, hap, hLl, hrow, hlow⟩ := hrel
    have hsz := hlow.size
    by_cases hlt : k < rs.length
    · obtain ⟨a1, q1, -, c0, c1', c2⟩ := elem36 (H2.out.below hlow) hlt
      subst q1
      have HA := Lib.hid (appTo_succ hlt hap.out)
      generalize hm : rs[k] = m at *
      obtain ⟨p, x, y⟩ := m
      simp only at c0 c1' c2
      clear hm
      have hrow2 := hrow.alloc (.cells #[.int .i64 p, .string x, .string y] 36)
      have hlow2 := hlow.alloc hsz (.cells #[.int .i64 p, .string x, .string y] 36)
      have hlowN : ∀ n, Below w.heap.size w (World.drewN _ n) := fun n => below_drewN hlow2 n
      have hrowN : ∀ n, Row (World.drewN _ n) w.heap.size 9 1 tc _ _ := fun n => hrow2.drewN n
      have hn0 : ∀ n, Row (World.drewN (wr.alloc (.cells #[.int .i64 p, .string x, .string y] 36)) n) w.heap.size 9 1 tc (.slice none 0 0) [] := fun n => Row.nil _ _ _ _ _
      obtain ⟨A1, c1, rfl, hcc, -⟩ := hrow.reads'
      by_cases hp0 : p < 0
      · have HN := Lib.hid (apply_none (by omega) (HA.out.trans (app1_low hp0)))
        clear HA
        go_wp2_with fail
        go_quiet (fail)
        go_wp2
        go_ret2
        exact ⟨_, by rw [HN.out]; rfl, by rw [HN.out]; exact hn0 nq, hlowN nq⟩
      · by_cases hp1 : (L.length : Int) ≤ p
        · have HN := Lib.hid (apply_none (by omega) (HA.out.trans (app1_high hp1)))
          have hd0 : decide (p < 0) = false := by simpa using hp0
          have hd1 : decide ((L.length : Int) ≤ p) = true := by simpa using hp1
          clear HA hp0 hp1
          go_wp2_with fail
          go_quiet (fail)
          go_wp2
          go_ret2
          exact ⟨_, by rw [HN.out]; rfl, by rw [HN.out]; exact hn0 nq, hlowN nq⟩
        · obtain ⟨q, rfl⟩ := Int.eq_ofNat_of_zero_le (by omega : 0 ≤ p)
          have hq : q < L.length := by omega
          obtain ⟨g, rfl⟩ : ∃ g, A1 = some ⟨g, 0, none⟩ := by
            rcases hrow.2 with ⟨h, _⟩ | ⟨g, _, _, h, _⟩
            · injection h with h1 h2; omega
            · injection h with h1; exact ⟨g, h1⟩
          obtain ⟨cc, cf⟩ := Row1.cell hrow hq
          have hd1 : decide (L.length ≤ q) = false := by simp; omega
          have hd0 : decide ((q : Int) < 0) = false := by simp
          have hgl := (hrow.own rfl).2
          have hcq : q ≤ c1 := by omega
          have hcq1 : q + 1 ≤ c1 := by omega
          have hcq2 : q + 1 ≤ L.length := by omega
          clear hp0 hp1
          by_cases hx : L[q] = x
          · have HS := Lib.hid (HA.out.trans (app1_some hq hx))
            rw [hx] at cc
            clear HA hx
            have hcell : ∀ n, (World.drewN (wr.alloc (.cells #[.int .i64 q, .string x, .string y] 36)) n).cell? ⟨wr.heap.size, 0, none⟩ = some (.int .i64 q) ∧ (World.drewN (wr.alloc (.cells #[.int .i64 q, .string x, .string y] 36)) n).cell? ⟨wr.heap.size, 2, none⟩ = some (.string y) := fun n => ⟨(Blk.new wr 36 #[.int .i64 q, .string x, .string y]).cell 0, (Blk.new wr 36 #[.int .i64 q, .string x, .string y]).cell 2⟩
            go_wp2_with fail
            go_quiet (fail)
            have hrw := hrowN nq
            have hlw := hlowN nq
            obtain ⟨hx0, hx2⟩ := hcell nq
            have hbz : wr.heap.size < ((wr.alloc (.cells #[.int .i64 q, .string x, .string y] 36)).drewN nq).heap.size := by simp
            clear hrowN hlowN hcell hn0 hrow hlow hrow2 hlow2 c0 c1' c2 cc cf hd0 hd1 hgl
            generalize (wr.alloc (.cells #[.int .i64 q, .string x, .string y] 36)).drewN nq = wz at *
            generalize wr.heap.size = bm at *
            obtain ⟨A9, c9, e9, -, hrd⟩ := hrw.reads'
            injection e9 with e9 _ e9c
            subst e9 e9c
            have HRD := Lib.hid hrd
            clear hrd
            have hsz := hlw.size
            have hn0 : Row wz wz.heap.size 9 1 tc (.slice none 0 0) [] := Row.nil _ _ _ _ _
            have htk := Lib.hid (Reads.take (f := tc) (fun _ => rfl) HRD.out (by omega : q ≤ L.length))
            have htl := Lib.hid (show (L.take q).length = q by rw [List.length_take]; omega)
            have hdl := Lib.hid (show (L.drop (q + 1)).length = L.length - (q + 1) from List.length_drop)
            rw [htl.out] at htk
            have HSP := Lib.hid (set_parts hq y)
            by_cases hcap : c1 = q + 1
            · have hdr := drop_reads (k := q + 1) (cap := c1) HRD.out hcq2 hcc
              rw [if_pos hcap, hdl.out] at hdr
              have HDR := Lib.hid hdr
              clear hdr
              have hT1 := Lib.hid (show (L.take q).length ≤ 1000 by rw [htl.out]; omega)
              have hT2 := Lib.hid (show (L.drop (q + 1)).length ≤ 1000 by rw [hdl.out]; omega)
              generalize L.take q = T1 at *
              generalize L.drop (q + 1) = T2 at *
              have tok1 : True := trivial
              have tok2 : True := trivial
              have tok3 : True := trivial
              go_wp2_with (first
                | (at_builtin; have _t := tok1; refine wpList_append_rowsN _ rfl _ _ 22 rfl wz.heap.size 9 i0 (.string ⟨#[]⟩) 1 16 Try.underlying22 hi0 hz0 hz1 hz2 rfl (by decide) _ _ rfl hn0 _ _ q _ T1 htl.out rfl htk.out (fun y _ u hu => by simp [tc] at hu; subst hu; rfl) (by have := hT1.out; unfold maxLen; simp; omega) (by have := hT1.out; simp; omega) (by omega) ?_; intro v1 w1 hrow1 hgrow1; have hx0 := (World.cell?_of_block (hgrow1.block bm hbz (fun e => by cases e)) : w1.cell? ⟨bm, 0, none⟩ = wz.cell? ⟨bm, 0, none⟩).trans hx0; have hx2 := (World.cell?_of_block (hgrow1.block bm hbz (fun e => by cases e)) : w1.cell? ⟨bm, 2, none⟩ = wz.cell? ⟨bm, 2, none⟩).trans hx2; have hs1 : wz.heap.size ≤ w1.heap.size := hgrow1.size; clear tok1)
                | (at_builtin; have _t := tok2; refine wpList_append_row _ rfl _ _ 22 rfl wz.heap.size 9 i0 (.string ⟨#[]⟩) 1 16 Try.underlying22 hi0 hz0 hz1 hz2 rfl (by decide) _ _ rfl (hrow1.alloc _) (fun _ => rfl) _ y rfl (cells_new _ _ _) (by simp [tc, Value.oneCell']) (by have := hT1.out; unfold maxLen; simp; omega) (by have := hT1.out; simp; omega) (by have := hgrow1.size; simp; omega) ?_; intro v2 w2 hrow2 hgrow2; have hx0 := (World.cell?_of_block (hgrow2.block bm (by simp; omega) (fun e => by have := (hrow1.own e.symm).1; omega)) : w2.cell? ⟨bm, 0, none⟩ = _).trans ((World.cell?_alloc_lt w1 _ ⟨bm, 0, none⟩ (by show bm < _; omega)).trans hx0); have hs2 : w1.heap.size + 1 ≤ w2.heap.size := (by have := hgrow2.size; simpa using this); clear tok2)
                | (at_builtin; have _t := tok3; refine wpList_append_rowsN _ rfl _ _ 22 rfl wz.heap.size 9 i0 (.string ⟨#[]⟩) 1 16 Try.underlying22 hi0 hz0 hz1 hz2 rfl (by decide) _ _ rfl hrow2 _ _ (L.length - (q + 1)) _ T2 hdl.out rfl (((HDR.out.grown hgrow1 (Nat.le_refl _) (fun g h => by cases h)).alloc (by have := hgrow1.size; exact this) _).grown hgrow2 (by have := hgrow1.size; simp; omega) (fun g h => (hrow1.own h).1)) (fun y _ u hu => by simp [tc] at hu; subst hu; rfl) (by have := hT1.out; have := hT2.out; unfold maxLen; simp; omega) (by have := hT1.out; have := hT2.out; simp; omega) (by have := hgrow1.size; have := hgrow2.size; simp at *; omega) ?_; intro v3 w3 hrow3 hgrow3; clear tok3))
              have hl1 := low_grown hlw hsz hsz hn0 hgrow1
              have hl2 := low_row hl1 hrow1 hsz hl1.size hgrow2
              have hl3 := low_grown hl2 hsz hl2.size hrow2 hgrow3
              have hfin : Row w3 w.heap.size 9 1 tc v3 (L.set q y) := Row.more (by rw [← HSP.out]; simpa using hrow3) hsz
              have hLs : (L.set q y).length ≤ 1000 := by rw [List.length_set]; exact hLl
              clear hrow1 hrow2 hrow3 hgrow1 hgrow2 hgrow3 hl1 hl2 hcq hcq1 hcq2
              go_roundw
              case rel => exact ⟨k + 1, L.set q y, by omega, by go_num, HS.out, hLs, hfin, hl3⟩
              case measure => simp [intOf]; omega
            · have hdr := drop_reads (k := q + 1) (cap := c1) HRD.out hcq2 hcc
              rw [if_neg hcap, hdl.out, show (some (⟨g, 0, none⟩ : Addr)).map (·.add (q + 1)) = some ⟨g, q + 1, none⟩ by simp [Addr.add]] at hdr
              have HDR := Lib.hid hdr
              clear hdr
              have hT1 := Lib.hid (show (L.take q).length ≤ 1000 by rw [htl.out]; omega)
              have hT2 := Lib.hid (show (L.drop (q + 1)).length ≤ 1000 by rw [hdl.out]; omega)
              generalize L.take q = T1 at *
              generalize L.drop (q + 1) = T2 at *
              have tok1 : True := trivial
              have tok2 : True := trivial
              have tok3 : True := trivial
              go_wp2_with (first
                | (at_builtin; have _t := tok1; refine wpList_append_rowsN _ rfl _ _ 22 rfl wz.heap.size 9 i0 (.string ⟨#[]⟩) 1 16 Try.underlying22 hi0 hz0 hz1 hz2 rfl (by decide) _ _ rfl hn0 _ _ q _ T1 htl.out rfl htk.out (fun y _ u hu => by simp [tc] at hu; subst hu; rfl) (by have := hT1.out; unfold maxLen; simp; omega) (by have := hT1.out; simp; omega) (by omega) ?_; intro v1 w1 hrow1 hgrow1; have hx0 := (World.cell?_of_block (hgrow1.block bm hbz (fun e => by cases e)) : w1.cell? ⟨bm, 0, none⟩ = wz.cell? ⟨bm, 0, none⟩).trans hx0; have hx2 := (World.cell?_of_block (hgrow1.block bm hbz (fun e => by cases e)) : w1.cell? ⟨bm, 2, none⟩ = wz.cell? ⟨bm, 2, none⟩).trans hx2; have hs1 : wz.heap.size ≤ w1.heap.size := hgrow1.size; clear tok1)
                | (at_builtin; have _t := tok2; refine wpList_append_row _ rfl _ _ 22 rfl wz.heap.size 9 i0 (.string ⟨#[]⟩) 1 16 Try.underlying22 hi0 hz0 hz1 hz2 rfl (by decide) _ _ rfl (hrow1.alloc _) (fun _ => rfl) _ y rfl (cells_new _ _ _) (by simp [tc, Value.oneCell']) (by have := hT1.out; unfold maxLen; simp; omega) (by have := hT1.out; simp; omega) (by have := hgrow1.size; simp; omega) ?_; intro v2 w2 hrow2 hgrow2; have hx0 := (World.cell?_of_block (hgrow2.block bm (by simp; omega) (fun e => by have := (hrow1.own e.symm).1; omega)) : w2.cell? ⟨bm, 0, none⟩ = _).trans ((World.cell?_alloc_lt w1 _ ⟨bm, 0, none⟩ (by show bm < _; omega)).trans hx0); have hs2 : w1.heap.size + 1 ≤ w2.heap.size := (by have := hgrow2.size; simpa using this); clear tok2)
                | (at_builtin; have _t := tok3; refine wpList_append_rowsN _ rfl _ _ 22 rfl wz.heap.size 9 i0 (.string ⟨#[]⟩) 1 16 Try.underlying22 hi0 hz0 hz1 hz2 rfl (by decide) _ _ rfl hrow2 _ _ (L.length - (q + 1)) _ T2 hdl.out rfl (((HDR.out.grown hgrow1 (Nat.le_refl _) (fun g h => by cases h)).alloc (by have := hgrow1.size; exact this) _).grown hgrow2 (by have := hgrow1.size; simp; omega) (fun g h => (hrow1.own h).1)) (fun y _ u hu => by simp [tc] at hu; subst hu; rfl) (by have := hT1.out; have := hT2.out; unfold maxLen; simp; omega) (by have := hT1.out; have := hT2.out; simp; omega) (by have := hgrow1.size; have := hgrow2.size; simp at *; omega) ?_; intro v3 w3 hrow3 hgrow3; clear tok3))
              have hl1 := low_grown hlw hsz hsz hn0 hgrow1
              have hl2 := low_row hl1 hrow1 hsz hl1.size hgrow2
              have hl3 := low_grown hl2 hsz hl2.size hrow2 hgrow3
              have hfin : Row w3 w.heap.size 9 1 tc v3 (L.set q y) := Row.more (by rw [← HSP.out]; simpa using hrow3) hsz
              have hLs : (L.set q y).length ≤ 1000 := by rw [List.length_set]; exact hLl
              clear hrow1 hrow2 hrow3 hgrow1 hgrow2 hgrow3 hl1 hl2 hcq hcq1 hcq2
              go_roundw
              case rel => exact ⟨k + 1, L.set q y, by omega, by go_num, HS.out, hLs, hfin, hl3⟩
              case measure => simp [intOf]; omega
          · have HN := Lib.hid (apply_none (by omega) (HA.out.trans (app1_other hq hx)))
            have hx' := bytes_ne hx
            clear HA hx
            generalize L[q] = z at cc hx'
            go_wp2_with fail
            go_quiet (fail)
            go_wp2
            go_ret2
            exact ⟨_, by rw [HN.out]; rfl, by rw [HN.out]; exact hn0 nq, hlowN nq⟩
    · have hkl : k = rs.length := by omega
      subst hkl
      go_wp2
      go_ret2
      exact ⟨_, by unfold apply; rw [hap.out]; rfl, by unfold apply; rw [hap.out]; exact hrow, hlow⟩
end Go.Proofs.Ytagebkahbehmfaa.move
