/- Awake, and the walk of MoveIs. -/
import Derived.Test.YtagebkahbehmfaaD
namespace Go.Proofs.Ytagebkahbehmfaa.move
open Go.ChangeShapes Go.WideShapes Go.ChangeAt Go.RowKit Go.Proofs.Aid Go.Proofs.Ytagebkahbehmfaa.texts
abbrev ca : ByteArray := ⟨#[97]⟩
abbrev cb : ByteArray := ⟨#[98]⟩
abbrev cc : ByteArray := ⟨#[99]⟩
theorem a_plan : planAll [⟨#[97]⟩, ⟨#[98]⟩] [⟨#[97]⟩, ⟨#[99]⟩] = [⟨1, ⟨#[98]⟩, ⟨#[99]⟩⟩] := by kernel_rfl
theorem a_app1 : apply [⟨#[97]⟩, ⟨#[98]⟩] [⟨1, ⟨#[98]⟩, ⟨#[99]⟩⟩] = some [⟨#[97]⟩, ⟨#[99]⟩] := by kernel_rfl
theorem a_app2 : apply [⟨#[97]⟩, ⟨#[99]⟩] [⟨1, ⟨#[98]⟩, ⟨#[99]⟩⟩] = none := by kernel_rfl
theorem a_gains : gains [⟨#[97]⟩] [⟨#[98]⟩, ⟨#[97]⟩] = [⟨#[98]⟩] := by kernel_rfl
theorem a_rests : rests [⟨#[97]⟩] [⟨#[98]⟩, ⟨#[97]⟩] = [⟨#[97]⟩] := by kernel_rfl
theorem sz1 : ∀ s ∈ ([⟨#[97]⟩] : List ByteArray), s.size ≤ maxLen := by decide
theorem sz2 : ∀ s ∈ ([⟨#[98]⟩, ⟨#[97]⟩] : List ByteArray), s.size ≤ maxLen := by decide
theorem AppPost.yes {w w' : World} {e : Ending} {r : List ByteArray} (h : AppPost w (some r) e w') : ∃ A c, e = .returned (.tuple #[.slice A r.length c, .int .i64 0]) ∧ Reads w' w'.heap.size 1 A r.length (r.flatMap tc) ∧ Below w.heap.size w w' := by
  obtain ⟨v, rfl, hrow, hb⟩ := h
  obtain ⟨A, c, rfl, hr⟩ := hrow.reads
  exact ⟨A, c, rfl, hr, hb⟩
theorem AppPost.no {w w' : World} {e : Ending} (h : AppPost w none e w') : ∃ A c, e = .returned (.tuple #[.slice A 0 c, .int .i64 1]) ∧ Reads w' w'.heap.size 1 A ([] : List ByteArray).length (([] : List ByteArray).flatMap tc) ∧ Below w.heap.size w w' := by
  obtain ⟨v, rfl, hrow, hb⟩ := h
  obtain ⟨A, c, rfl, hr⟩ := hrow.reads
  exact ⟨A, c, rfl, hr, hb⟩
theorem RowPost.out {w w' : World} {e : Ending} {r : List ByteArray} (h : RowPost w r e w') : ∃ A c, e = .returned (.slice A r.length c) ∧ Reads w' w'.heap.size 1 A r.length (r.flatMap tc) ∧ Below w.heap.size w w' := by
  obtain ⟨v, rfl, hrow, hb⟩ := h
  obtain ⟨A, c, rfl, hr⟩ := hrow.reads
  exact ⟨A, c, rfl, hr, hb⟩
set_option maxHeartbeats 4000000 in
theorem awake_any (W : World) : Calls Try.prog 8 #[] W fun e w' => e = .returned (.bool true) ∧ Below W.heap.size W w' := by
  have HL := Lib.hid (Below.refl W.heap.size W)
  go_enter Try.func8, Try.ntmps8
  go_wp2_with fail
  have hb := below_lit2 W (.cells #[.string ⟨#[97]⟩, .string ⟨#[98]⟩] 9) (.cells #[.string ⟨#[97]⟩, .string ⟨#[99]⟩] 9)
  have HA := Lib.hid (lit2 (f := tc) W 9 [⟨#[97]⟩, ⟨#[98]⟩] (.cells #[.string ⟨#[97]⟩, .string ⟨#[99]⟩] 9) (fun _ => rfl))
  have HB := Lib.hid (lit3 (f := tc) W 9 [⟨#[97]⟩, ⟨#[99]⟩] (.cells #[.string ⟨#[97]⟩, .string ⟨#[98]⟩] 9) (fun _ => rfl))
  refine (plan_any _ _ _ 2 2 [⟨#[97]⟩, ⟨#[98]⟩] [⟨#[97]⟩, ⟨#[99]⟩] (by decide) (by decide) HA.out HB.out).mono ?_
  rw [a_plan]
  replace HL := Lib.hid ((Hid.out HL).trans (hb.mono (Hid.out HL).size))
  clear hb
  clear HA HB
  rintro e w1 ⟨v1, rfl, hrow, hb⟩
  replace HL := Lib.hid ((Hid.out HL).trans (hb.mono (Hid.out HL).size))
  clear hb
  obtain ⟨A1, c1, rfl, hr⟩ := hrow.reads
  have HP := Lib.hid hr
  clear hrow hr
  go_wp2_with fail
  have hb := below_lit w1 (.cells #[.string ⟨#[97]⟩, .string ⟨#[98]⟩] 9)
  have HA := Lib.hid (lit1 (f := tc) w1 9 [⟨#[97]⟩, ⟨#[98]⟩] (fun _ => rfl))
  replace HP := Lib.hid ((Hid.out HP).more_below hb)
  replace HL := Lib.hid ((Hid.out HL).trans (hb.mono (Hid.out HL).size))
  clear hb
  refine (apply_any _ _ _ 2 _ [⟨#[97]⟩, ⟨#[98]⟩] [⟨1, ⟨#[98]⟩, ⟨#[99]⟩⟩] (by decide) (by decide) HA.out HP.out).mono ?_
  rw [a_app1]
  rintro e w2 h
  obtain ⟨A2, c2, rfl, hr, hb⟩ := AppPost.yes h
  clear h
  replace HP := Lib.hid ((Hid.out HP).more_below hb)
  replace HL := Lib.hid ((Hid.out HL).trans (hb.mono (Hid.out HL).size))
  clear hb
  have HR := Lib.hid hr
  clear hr HA
  go_wp2_with fail
  have hb := below_lit w2 (.cells #[.string ⟨#[97]⟩, .string ⟨#[99]⟩] 9)
  have HA := Lib.hid (lit1 (f := tc) w2 9 [⟨#[97]⟩, ⟨#[99]⟩] (fun _ => rfl))
  replace HP := Lib.hid ((Hid.out HP).more_below hb)
  replace HR := Lib.hid ((Hid.out HR).more_below hb)
  replace HL := Lib.hid ((Hid.out HL).trans (hb.mono (Hid.out HL).size))
  clear hb
  refine (apply_any _ _ _ 2 _ [⟨#[97]⟩, ⟨#[99]⟩] [⟨1, ⟨#[98]⟩, ⟨#[99]⟩⟩] (by decide) (by decide) HA.out HP.out).mono ?_
  rw [a_app2]
  rintro e w3 h
  obtain ⟨A3, c3, rfl, hr, hb⟩ := AppPost.no h
  clear h hr HA
  replace HP := Lib.hid ((Hid.out HP).more_below hb)
  replace HR := Lib.hid ((Hid.out HR).more_below hb)
  replace HL := Lib.hid ((Hid.out HL).trans (hb.mono (Hid.out HL).size))
  clear hb
  go_wp2_with fail
  have hb := below_lit w3 (.cells #[.int .i64 1, .string ⟨#[98]⟩, .string ⟨#[99]⟩] 36)
  have HA := Lib.hid (lit1 (f := R36.cells) w3 36 [⟨1, ⟨#[98]⟩, ⟨#[99]⟩⟩] R36.len)
  replace HP := Lib.hid ((Hid.out HP).more_below hb)
  replace HR := Lib.hid ((Hid.out HR).more_below hb)
  replace HL := Lib.hid ((Hid.out HL).trans (hb.mono (Hid.out HL).size))
  clear hb
  refine (same_same _ _ _ _ 1 [⟨1, ⟨#[98]⟩, ⟨#[99]⟩⟩] (by decide) HP.out HA.out).mono ?_
  rintro e w4 ⟨rfl, hb⟩
  clear HA HP
  replace HR := Lib.hid ((Hid.out HR).more_below hb)
  replace HL := Lib.hid ((Hid.out HL).trans (hb.mono (Hid.out HL).size))
  clear hb
  go_wp2_with fail
  have hb := below_lit w4 (.cells #[.string ⟨#[97]⟩, .string ⟨#[99]⟩] 9)
  have HA := Lib.hid (lit1 (f := tc) w4 9 [⟨#[97]⟩, ⟨#[99]⟩] (fun _ => rfl))
  replace HR := Lib.hid ((Hid.out HR).more_below hb)
  replace HL := Lib.hid ((Hid.out HL).trans (hb.mono (Hid.out HL).size))
  clear hb
  refine (sameTexts_same _ _ _ _ 2 [⟨#[97]⟩, ⟨#[99]⟩] (by decide) HR.out HA.out).mono ?_
  rintro e w5 ⟨rfl, hb⟩
  clear HA HR
  replace HL := Lib.hid ((Hid.out HL).trans (hb.mono (Hid.out HL).size))
  clear hb
  go_wp2_with fail
  have hb := below_lit2 w5 (.cells #[.string ⟨#[97]⟩] 9) (.cells #[.string ⟨#[98]⟩, .string ⟨#[97]⟩] 9)
  have HA := Lib.hid (lit2 (f := tc) w5 9 [⟨#[97]⟩] (.cells #[.string ⟨#[98]⟩, .string ⟨#[97]⟩] 9) (fun _ => rfl))
  have HB := Lib.hid (lit3 (f := tc) w5 9 [⟨#[98]⟩, ⟨#[97]⟩] (.cells #[.string ⟨#[97]⟩] 9) (fun _ => rfl))
  replace HL := Lib.hid ((Hid.out HL).trans (hb.mono (Hid.out HL).size))
  clear hb
  refine (gains_any _ _ _ 1 2 [⟨#[97]⟩] [⟨#[98]⟩, ⟨#[97]⟩] (by decide) (by decide) HA.out HB.out sz1 sz2).mono ?_
  rw [a_gains]
  rintro e w6 h
  obtain ⟨A6, c6, rfl, hr, hb⟩ := RowPost.out h
  have HR := Lib.hid hr
  clear h hr HA HB
  replace HL := Lib.hid ((Hid.out HL).trans (hb.mono (Hid.out HL).size))
  clear hb
  go_wp2_with fail
  have hb := below_lit w6 (.cells #[.string ⟨#[98]⟩] 9)
  have HA := Lib.hid (lit1 (f := tc) w6 9 [⟨#[98]⟩] (fun _ => rfl))
  replace HR := Lib.hid ((Hid.out HR).more_below hb)
  replace HL := Lib.hid ((Hid.out HL).trans (hb.mono (Hid.out HL).size))
  clear hb
  refine (sameTexts_same _ _ _ _ 1 [⟨#[98]⟩] (by decide) HR.out HA.out).mono ?_
  rintro e w7 ⟨rfl, hb⟩
  clear HA HR
  replace HL := Lib.hid ((Hid.out HL).trans (hb.mono (Hid.out HL).size))
  clear hb
  go_wp2_with fail
  have hb := below_lit2 w7 (.cells #[.string ⟨#[97]⟩] 9) (.cells #[.string ⟨#[98]⟩, .string ⟨#[97]⟩] 9)
  have HA := Lib.hid (lit2 (f := tc) w7 9 [⟨#[97]⟩] (.cells #[.string ⟨#[98]⟩, .string ⟨#[97]⟩] 9) (fun _ => rfl))
  have HB := Lib.hid (lit3 (f := tc) w7 9 [⟨#[98]⟩, ⟨#[97]⟩] (.cells #[.string ⟨#[97]⟩] 9) (fun _ => rfl))
  replace HL := Lib.hid ((Hid.out HL).trans (hb.mono (Hid.out HL).size))
  clear hb
  refine (rests_any _ _ _ 1 2 [⟨#[97]⟩] [⟨#[98]⟩, ⟨#[97]⟩] (by decide) (by decide) HA.out HB.out sz1 sz2).mono ?_
  rw [a_rests]
  rintro e w8 h
  obtain ⟨A8, c8, rfl, hr, hb⟩ := RowPost.out h
  have HR := Lib.hid hr
  clear h hr HA HB
  replace HL := Lib.hid ((Hid.out HL).trans (hb.mono (Hid.out HL).size))
  clear hb
  go_wp2_with fail
  have hb := below_lit w8 (.cells #[.string ⟨#[97]⟩] 9)
  have HA := Lib.hid (lit1 (f := tc) w8 9 [⟨#[97]⟩] (fun _ => rfl))
  replace HR := Lib.hid ((Hid.out HR).more_below hb)
  replace HL := Lib.hid ((Hid.out HL).trans (hb.mono (Hid.out HL).size))
  clear hb
  refine (sameTexts_same _ _ _ _ 1 [⟨#[97]⟩] (by decide) HR.out HA.out).mono ?_
  rintro e w9 ⟨rfl, hb⟩
  clear HA HR
  replace HL := Lib.hid ((Hid.out HL).trans (hb.mono (Hid.out HL).size))
  clear hb
  go_wp2
  go_ret
  exact ⟨rfl, HL.out⟩
theorem planAll_len (was now : List ByteArray) : (planAll was now).length ≤ was.length := by
  have := plan_len was now (min was.length now.length)
  unfold planAll; omega
theorem appTo_len {was : List ByteArray} {rs : List R36} : ∀ {k : Nat} {r : List ByteArray}, appTo was rs k = some r → r.length = was.length
  | 0, r, h => by simp [appTo] at h; subst h; rfl
  | k + 1, r, h => by
    simp only [appTo] at h
    cases hk : appTo was rs k with
    | none => rw [hk] at h; cases h
    | some l =>
      rw [hk] at h
      simp only [Option.bind] at h
      have hl := appTo_len hk
      split at h
      · unfold app1 at h
        split at h
        · injection h with h; subst h; rw [List.length_set]; exact hl
        · cases h
      · injection h with h; subst h; exact hl
set_option maxRecDepth 100000 in
set_option maxHeartbeats 4000000 in
theorem is_walk (W : World) (A B C : Option Addr) (ca cb cc : Nat) (was now : List ByteArray) (rs : List R36) (h1 : Reads W W.heap.size 1 A was.length (was.flatMap tc)) (h2 : Reads W W.heap.size 1 B now.length (now.flatMap tc)) (h3 : Reads W W.heap.size 3 C rs.length (rs.flatMap R36.cells))
    (hs1 : ∀ s ∈ was, s.size ≤ maxLen) (hs2 : ∀ s ∈ now, s.size ≤ maxLen) (hs3 : ∀ r ∈ rs, r.ok W) (hl1 : was.length ≤ maxLen) (hl2 : now.length ≤ maxLen) (hl3 : rs.length ≤ maxLen) :
    Calls Try.prog 3 #[.slice A was.length ca, .slice B now.length cb, .slice C rs.length cc] W fun e w' => e = .returned (.bool true) ∧ Below W.heap.size W w' := by
  have H1 := Lib.hid h1
  have H2 := Lib.hid h2
  have H3 := Lib.hid h3
  have S1 := Lib.hid hs1
  have S2 := Lib.hid hs2
  have S3 := Lib.hid hs3
  have L1 := Lib.hid hl1
  have L2 := Lib.hid hl2
  have L3 := Lib.hid hl3
  have HL := Lib.hid (Below.refl W.heap.size W)
  clear h1 h2 h3 hs1 hs2 hs3 hl1 hl2 hl3
  go_enter Try.func3, Try.ntmps3
  go_wp2_with fail
  refine (few19_any _ A ca was L1.out H1.out S1.out).mono ?_
  rintro e w1 ⟨b, rfl, rfl, hb⟩
  cases b
  · clear hb
    go_wp2_with fail
    refine (awake_any _).mono ?_
    rintro e w2 ⟨rfl, hlow⟩
    go_wp2
    go_ret
    exact ⟨rfl, hlow⟩
  · have h40 := hb rfl
    clear hb
    go_wp2_with fail
    refine (few19_any _ B cb now L2.out H2.out S2.out).mono ?_
    rintro e w1 ⟨b, rfl, rfl, hb⟩
    cases b
    · clear hb
      go_wp2_with fail
      refine (awake_any _).mono ?_
      rintro e w2 ⟨rfl, hlow⟩
      go_wp2
      go_ret
      exact ⟨rfl, hlow⟩
    · have h41 := hb rfl
      clear hb
      go_wp2_with fail
      refine (few20_any _ C cc rs L3.out H3.out S3.out).mono ?_
      rintro e w1 ⟨b, rfl, rfl, hb⟩
      cases b
      · clear hb
        go_wp2_with fail
        refine (awake_any _).mono ?_
        rintro e w2 ⟨rfl, hlow⟩
        go_wp2
        go_ret
        exact ⟨rfl, hlow⟩
      · have h20 := hb rfl
        clear hb S3
        cases hap : apply was rs with
        | none =>
          have HAP := Lib.hid hap
          clear hap
          go_wp2_with fail
          refine (apply_any _ A C ca cc was rs (by omega) (by omega) H1.out H3.out).mono ?_
          rw [HAP.out]
          rintro e w2 h
          obtain ⟨A2, c2, rfl, hr, hb⟩ := AppPost.no h
          have HR2 := Lib.hid hr
          clear h hr
          replace H1 := Lib.hid ((Hid.out H1).more_below hb)
          replace H2 := Lib.hid ((Hid.out H2).more_below hb)
          replace H3 := Lib.hid ((Hid.out H3).more_below hb)
          replace HL := Lib.hid ((Hid.out HL).trans (hb.mono (Hid.out HL).size))
          clear hb
          go_wp2_with fail
          refine (rapply_any _ A C ca cc was rs (by omega) (by omega) H1.out H3.out).mono ?_
          rw [HAP.out]
          rintro e w3 h
          obtain ⟨A3, c3, rfl, hr, hb⟩ := AppPost.no h
          have HR3 := Lib.hid hr
          clear h hr
          replace H1 := Lib.hid ((Hid.out H1).more_below hb)
          replace H2 := Lib.hid ((Hid.out H2).more_below hb)
          replace H3 := Lib.hid ((Hid.out H3).more_below hb)
          replace HR2 := Lib.hid ((Hid.out HR2).more_below hb)
          replace HL := Lib.hid ((Hid.out HL).trans (hb.mono (Hid.out HL).size))
          clear hb
          go_wp2_with fail
          refine (plan_any _ A B ca cb was now (by omega) (by omega) H1.out H2.out).mono ?_
          rintro e w4 ⟨v4, rfl, hrow, hb⟩
          obtain ⟨A4, c4, rfl, hr⟩ := hrow.reads
          have HR4 := Lib.hid hr
          clear hr hrow
          replace H1 := Lib.hid ((Hid.out H1).more_below hb)
          replace H2 := Lib.hid ((Hid.out H2).more_below hb)
          replace HR2 := Lib.hid ((Hid.out HR2).more_below hb)
          replace HR3 := Lib.hid ((Hid.out HR3).more_below hb)
          replace HL := Lib.hid ((Hid.out HL).trans (hb.mono (Hid.out HL).size))
          clear hb
          have hpl := planAll_len was now
          generalize hpe : planAll was now = pl at *
          have HPE := Lib.hid hpe
          clear hpe
          go_wp2_with fail
          refine (rplan_any _ A B ca cb was now (by omega) (by omega) H1.out H2.out).mono ?_
          rw [HPE.out]
          rintro e w5 ⟨v5, rfl, hrow, hb⟩
          obtain ⟨A5, c5, rfl, hr⟩ := hrow.reads
          have HR5 := Lib.hid hr
          clear hr hrow
          replace H1 := Lib.hid ((Hid.out H1).more_below hb)
          replace H2 := Lib.hid ((Hid.out H2).more_below hb)
          replace HR2 := Lib.hid ((Hid.out HR2).more_below hb)
          replace HR3 := Lib.hid ((Hid.out HR3).more_below hb)
          replace HR4 := Lib.hid ((Hid.out HR4).more_below hb)
          replace HL := Lib.hid ((Hid.out HL).trans (hb.mono (Hid.out HL).size))
          clear hb
          go_wp2_with fail
          refine (same_same _ A4 A5 c4 c5 pl (by omega) HR4.out HR5.out).mono ?_
          rintro e w6 ⟨rfl, hb⟩
          clear HR4 HR5
          replace H1 := Lib.hid ((Hid.out H1).more_below hb)
          replace H2 := Lib.hid ((Hid.out H2).more_below hb)
          replace HR2 := Lib.hid ((Hid.out HR2).more_below hb)
          replace HR3 := Lib.hid ((Hid.out HR3).more_below hb)
          replace HL := Lib.hid ((Hid.out HL).trans (hb.mono (Hid.out HL).size))
          clear hb
          go_wp2_with fail
          refine (sameTexts_same _ A2 A3 c2 c3 [] (by first | omega | decide) HR2.out HR3.out).mono ?_
          rintro e w7 ⟨rfl, hb⟩
          clear HR2 HR3
          replace H1 := Lib.hid ((Hid.out H1).more_below hb)
          replace H2 := Lib.hid ((Hid.out H2).more_below hb)
          replace HL := Lib.hid ((Hid.out HL).trans (hb.mono (Hid.out HL).size))
          clear hb
          go_wp2_with fail
          refine (gains_any _ A B ca cb was now (by omega) (by omega) H1.out H2.out S1.out S2.out).mono ?_
          have hgl : (gains was now).length ≤ now.length := List.length_filter_le _ _
          generalize hge : gains was now = gl at *
          have HGE := Lib.hid hge
          clear hge
          rintro e w8 h
          obtain ⟨A8, c8, rfl, hr, hb⟩ := RowPost.out h
          have HR8 := Lib.hid hr
          clear h hr
          replace H1 := Lib.hid ((Hid.out H1).more_below hb)
          replace H2 := Lib.hid ((Hid.out H2).more_below hb)
          replace HL := Lib.hid ((Hid.out HL).trans (hb.mono (Hid.out HL).size))
          clear hb
          go_wp2_with fail
          refine (rgains_any _ A B ca cb was now (by omega) (by omega) H1.out H2.out).mono ?_
          rw [HGE.out]
          rintro e w9 ⟨v9, rfl, hrow, hb⟩
          obtain ⟨A9, c9, rfl, hr⟩ := hrow.reads
          have HR9 := Lib.hid hr
          clear hr hrow
          replace H1 := Lib.hid ((Hid.out H1).more_below hb)
          replace H2 := Lib.hid ((Hid.out H2).more_below hb)
          replace HR8 := Lib.hid ((Hid.out HR8).more_below hb)
          replace HL := Lib.hid ((Hid.out HL).trans (hb.mono (Hid.out HL).size))
          clear hb
          go_wp2_with fail
          refine (sameTexts_same _ A8 A9 c8 c9 gl (by omega) HR8.out HR9.out).mono ?_
          rintro e w10 ⟨rfl, hb⟩
          clear HR8 HR9
          replace H1 := Lib.hid ((Hid.out H1).more_below hb)
          replace H2 := Lib.hid ((Hid.out H2).more_below hb)
          replace HL := Lib.hid ((Hid.out HL).trans (hb.mono (Hid.out HL).size))
          clear hb
          go_wp2_with fail
          refine (rests_any _ A B ca cb was now (by omega) (by omega) H1.out H2.out S1.out S2.out).mono ?_
          have hrl2 : (rests was now).length ≤ now.length := List.length_filter_le _ _
          generalize hre : rests was now = rl at *
          have HRE := Lib.hid hre
          clear hre
          rintro e w11 h
          obtain ⟨A11, c11, rfl, hr, hb⟩ := RowPost.out h
          have HR11 := Lib.hid hr
          clear h hr
          replace H1 := Lib.hid ((Hid.out H1).more_below hb)
          replace H2 := Lib.hid ((Hid.out H2).more_below hb)
          replace HL := Lib.hid ((Hid.out HL).trans (hb.mono (Hid.out HL).size))
          clear hb
          go_wp2_with fail
          refine (rrests_any _ A B ca cb was now (by omega) (by omega) H1.out H2.out).mono ?_
          rw [HRE.out]
          rintro e w12 ⟨v12, rfl, hrow, hb⟩
          obtain ⟨A12, c12, rfl, hr⟩ := hrow.reads
          have HR12 := Lib.hid hr
          clear hr hrow
          replace HR11 := Lib.hid ((Hid.out HR11).more_below hb)
          replace HL := Lib.hid ((Hid.out HL).trans (hb.mono (Hid.out HL).size))
          clear hb
          go_wp2_with fail
          refine (sameTexts_same _ A11 A12 c11 c12 rl (by omega) HR11.out HR12.out).mono ?_
          rintro e w13 ⟨rfl, hb⟩
          clear HR11 HR12
          replace HL := Lib.hid ((Hid.out HL).trans (hb.mono (Hid.out HL).size))
          clear hb
          go_wp2_with fail
          refine (awake_any _).mono ?_
          rintro e w14 ⟨rfl, hb⟩
          replace HL := Lib.hid ((Hid.out HL).trans (hb.mono (Hid.out HL).size))
          clear hb
          go_wp2
          go_ret
          exact ⟨rfl, HL.out⟩
        | some r =>
          have HAP := Lib.hid hap
          have hrl : r.length ≤ 40 := by have := appTo_len hap; omega
          clear hap
          go_wp2_with fail
          refine (apply_any _ A C ca cc was rs (by omega) (by omega) H1.out H3.out).mono ?_
          rw [HAP.out]
          rintro e w2 h
          obtain ⟨A2, c2, rfl, hr, hb⟩ := AppPost.yes h
          have HR2 := Lib.hid hr
          clear h hr
          replace H1 := Lib.hid ((Hid.out H1).more_below hb)
          replace H2 := Lib.hid ((Hid.out H2).more_below hb)
          replace H3 := Lib.hid ((Hid.out H3).more_below hb)
          replace HL := Lib.hid ((Hid.out HL).trans (hb.mono (Hid.out HL).size))
          clear hb
          go_wp2_with fail
          refine (rapply_any _ A C ca cc was rs (by omega) (by omega) H1.out H3.out).mono ?_
          rw [HAP.out]
          rintro e w3 h
          obtain ⟨A3, c3, rfl, hr, hb⟩ := AppPost.yes h
          have HR3 := Lib.hid hr
          clear h hr
          replace H1 := Lib.hid ((Hid.out H1).more_below hb)
          replace H2 := Lib.hid ((Hid.out H2).more_below hb)
          replace H3 := Lib.hid ((Hid.out H3).more_below hb)
          replace HR2 := Lib.hid ((Hid.out HR2).more_below hb)
          replace HL := Lib.hid ((Hid.out HL).trans (hb.mono (Hid.out HL).size))
          clear hb
          go_wp2_with fail
          refine (plan_any _ A B ca cb was now (by omega) (by omega) H1.out H2.out).mono ?_
          rintro e w4 ⟨v4, rfl, hrow, hb⟩
          obtain ⟨A4, c4, rfl, hr⟩ := hrow.reads
          have HR4 := Lib.hid hr
          clear hr hrow
          replace H1 := Lib.hid ((Hid.out H1).more_below hb)
          replace H2 := Lib.hid ((Hid.out H2).more_below hb)
          replace HR2 := Lib.hid ((Hid.out HR2).more_below hb)
          replace HR3 := Lib.hid ((Hid.out HR3).more_below hb)
          replace HL := Lib.hid ((Hid.out HL).trans (hb.mono (Hid.out HL).size))
          clear hb
          have hpl := planAll_len was now
          generalize hpe : planAll was now = pl at *
          have HPE := Lib.hid hpe
          clear hpe
          go_wp2_with fail
          refine (rplan_any _ A B ca cb was now (by omega) (by omega) H1.out H2.out).mono ?_
          rw [HPE.out]
          rintro e w5 ⟨v5, rfl, hrow, hb⟩
          obtain ⟨A5, c5, rfl, hr⟩ := hrow.reads
          have HR5 := Lib.hid hr
          clear hr hrow
          replace H1 := Lib.hid ((Hid.out H1).more_below hb)
          replace H2 := Lib.hid ((Hid.out H2).more_below hb)
          replace HR2 := Lib.hid ((Hid.out HR2).more_below hb)
          replace HR3 := Lib.hid ((Hid.out HR3).more_below hb)
          replace HR4 := Lib.hid ((Hid.out HR4).more_below hb)
          replace HL := Lib.hid ((Hid.out HL).trans (hb.mono (Hid.out HL).size))
          clear hb
          go_wp2_with fail
          refine (same_same _ A4 A5 c4 c5 pl (by omega) HR4.out HR5.out).mono ?_
          rintro e w6 ⟨rfl, hb⟩
          clear HR4 HR5
          replace H1 := Lib.hid ((Hid.out H1).more_below hb)
          replace H2 := Lib.hid ((Hid.out H2).more_below hb)
          replace HR2 := Lib.hid ((Hid.out HR2).more_below hb)
          replace HR3 := Lib.hid ((Hid.out HR3).more_below hb)
          replace HL := Lib.hid ((Hid.out HL).trans (hb.mono (Hid.out HL).size))
          clear hb
          go_wp2_with fail
          refine (sameTexts_same _ A2 A3 c2 c3 r (by first | omega | decide) HR2.out HR3.out).mono ?_
          rintro e w7 ⟨rfl, hb⟩
          clear HR2 HR3
          replace H1 := Lib.hid ((Hid.out H1).more_below hb)
          replace H2 := Lib.hid ((Hid.out H2).more_below hb)
          replace HL := Lib.hid ((Hid.out HL).trans (hb.mono (Hid.out HL).size))
          clear hb
          go_wp2_with fail
          refine (gains_any _ A B ca cb was now (by omega) (by omega) H1.out H2.out S1.out S2.out).mono ?_
          have hgl : (gains was now).length ≤ now.length := List.length_filter_le _ _
          generalize hge : gains was now = gl at *
          have HGE := Lib.hid hge
          clear hge
          rintro e w8 h
          obtain ⟨A8, c8, rfl, hr, hb⟩ := RowPost.out h
          have HR8 := Lib.hid hr
          clear h hr
          replace H1 := Lib.hid ((Hid.out H1).more_below hb)
          replace H2 := Lib.hid ((Hid.out H2).more_below hb)
          replace HL := Lib.hid ((Hid.out HL).trans (hb.mono (Hid.out HL).size))
          clear hb
          go_wp2_with fail
          refine (rgains_any _ A B ca cb was now (by omega) (by omega) H1.out H2.out).mono ?_
          rw [HGE.out]
          rintro e w9 ⟨v9, rfl, hrow, hb⟩
          obtain ⟨A9, c9, rfl, hr⟩ := hrow.reads
          have HR9 := Lib.hid hr
          clear hr hrow
          replace H1 := Lib.hid ((Hid.out H1).more_below hb)
          replace H2 := Lib.hid ((Hid.out H2).more_below hb)
          replace HR8 := Lib.hid ((Hid.out HR8).more_below hb)
          replace HL := Lib.hid ((Hid.out HL).trans (hb.mono (Hid.out HL).size))
          clear hb
          go_wp2_with fail
          refine (sameTexts_same _ A8 A9 c8 c9 gl (by omega) HR8.out HR9.out).mono ?_
          rintro e w10 ⟨rfl, hb⟩
          clear HR8 HR9
          replace H1 := Lib.hid ((Hid.out H1).more_below hb)
          replace H2 := Lib.hid ((Hid.out H2).more_below hb)
          replace HL := Lib.hid ((Hid.out HL).trans (hb.mono (Hid.out HL).size))
          clear hb
          go_wp2_with fail
          refine (rests_any _ A B ca cb was now (by omega) (by omega) H1.out H2.out S1.out S2.out).mono ?_
          have hrl2 : (rests was now).length ≤ now.length := List.length_filter_le _ _
          generalize hre : rests was now = rl at *
          have HRE := Lib.hid hre
          clear hre
          rintro e w11 h
          obtain ⟨A11, c11, rfl, hr, hb⟩ := RowPost.out h
          have HR11 := Lib.hid hr
          clear h hr
          replace H1 := Lib.hid ((Hid.out H1).more_below hb)
          replace H2 := Lib.hid ((Hid.out H2).more_below hb)
          replace HL := Lib.hid ((Hid.out HL).trans (hb.mono (Hid.out HL).size))
          clear hb
          go_wp2_with fail
          refine (rrests_any _ A B ca cb was now (by omega) (by omega) H1.out H2.out).mono ?_
          rw [HRE.out]
          rintro e w12 ⟨v12, rfl, hrow, hb⟩
          obtain ⟨A12, c12, rfl, hr⟩ := hrow.reads
          have HR12 := Lib.hid hr
          clear hr hrow
          replace HR11 := Lib.hid ((Hid.out HR11).more_below hb)
          replace HL := Lib.hid ((Hid.out HL).trans (hb.mono (Hid.out HL).size))
          clear hb
          go_wp2_with fail
          refine (sameTexts_same _ A11 A12 c11 c12 rl (by omega) HR11.out HR12.out).mono ?_
          rintro e w13 ⟨rfl, hb⟩
          clear HR11 HR12
          replace HL := Lib.hid ((Hid.out HL).trans (hb.mono (Hid.out HL).size))
          clear hb
          go_wp2_with fail
          refine (awake_any _).mono ?_
          rintro e w14 ⟨rfl, hb⟩
          replace HL := Lib.hid ((Hid.out HL).trans (hb.mono (Hid.out HL).size))
          clear hb
          go_wp2
          go_ret
          exact ⟨rfl, HL.out⟩
theorem is_all (W : World) (v0 : Value) (v1 : Value) (v2 : Value) (h0 : V22 W v0) (h1 : V22 W v1) (h2 : V23 W v2) :
    Calls Try.prog 3 #[v0, v1, v2] W fun e w' => e = .returned (.bool true) ∧ Below W.heap.size W w' := by
  obtain ⟨A, n, cap, os, rfl, a1, a2, rfl, hR, hok⟩ := s22 h0
  obtain ⟨B, m, cap2, ps, rfl, b1, b2, rfl, hR2, hok2⟩ := s22 h1
  obtain ⟨C, k, cap3, rs, rfl, c1, c2, rfl, hR3, hok3⟩ := s23 h2
  have e1 : os.length = (os.map R9.v).length := by simp
  have e2 : ps.length = (ps.map R9.v).length := by simp
  have t1 := texts_of hR
  have t2 := texts_of hR2
  rw [e1] at t1 ⊢
  rw [e2] at t2 ⊢
  exact is_walk W A B C cap cap2 cap3 _ _ rs t1 t2 hR3 (fun s hs => by obtain ⟨r, hr, rfl⟩ := List.mem_map.1 hs; exact hok r hr) (fun s hs => by obtain ⟨r, hr, rfl⟩ := List.mem_map.1 hs; exact hok2 r hr) hok3 (by omega) (by omega) (by omega)
end Go.Proofs.Ytagebkahbehmfaa.move
