/- A reader of bytes, the package's: lists of texts. No condition. -/
import Derived.Test.YtpdmchkmdkdfgaaOcS
namespace Go.Proofs.Ytpdmchkmdkdfgaa.oc
set_option linter.unusedSimpArgs false
set_option linter.unusedVariables false
open Go.ChangeShapes Go.WideShapes Go.ChangeAt Go.RowKit Go.Proofs.Aid
open Go.Proofs.Ytpdmchkmdkdfgaa.texts (tc)
set_option maxRecDepth 100000 in
set_option maxHeartbeats 4000000 in
theorem several_any (o : Option Nat) (st : St) (n : Nat) (hn : n ≤ 65536) (w : World) (h : RAt o st w) :
    Calls Try.prog 43 #[.int .i64 n, bound 27 o, bound 32 o] w (LPost o (runS n st).1 (runS n st).2 w) := by
  obtain ⟨i0, hi0, hz0, hz1, hz2⟩ := info_parts infoT
  have eT := entersText
  have eB := entersBad
  unfold Enters at eT eB
  have HR := Lib.hid h
  have hrow0 : Row w w.heap.size 9 1 tc (.slice none 0 0) [] := Row.nil _ _ _ _ _
  have hran0 : Hid (Ran st n 0 [] st) := ⟨rfl, rfl, by omega⟩
  clear h
  go_enter Try.func43, Try.ntmps43
  go_wp2_with fail
  go_loopw [7] (fun v wr => ∃ (k : Nat) (L : List ByteArray) (st' : St), Hid (Ran st n k L st') ∧ Row wr w.heap.size 9 1 tc v L ∧ Hid (RAt o st' wr) ∧ Hid (w.grownBy wr o)) (fun v _ => n - slen v)
  case atStart => exact ⟨0, [], st, hran0, hrow0, HR, grown_refl _ _⟩
  case round =>
    clear hrow0 hran0
    obtain ⟨k, L, st', hran, hrow, hr, hg⟩ := hrel
    have hL := hran.out.2.1
    have hk := hran.out.2.2
    subst hL
    obtain ⟨A, c, rfl⟩ := hrow.form
    have hsz := hg.out.size
    by_cases hlt : L.length < n
    · have hB := Lib.hid (bad_any o st' wr hr.out)
      cases st' with
      | none =>
        have hst := Lib.hid hran.out.stop
        have HF : Hid (LPost o (runS n st).1 (runS n st).2 w (.returned (.slice A L.length c)) wr) := by
          rw [hst.out]; exact ⟨_, rfl, hrow, hr.out, hg.out⟩
        clear hrow hst
        go_wp2_with fail
        refine hB.out.mono ?_
        rintro e w1 ⟨rfl, rfl⟩
        go_wp2
        go_ret
        exact HF.out
      | some s =>
        have hnx := Lib.hid (hran.out.next hlt)
        have hT := Lib.hid (rtext_any o (some s) wr hr.out)
        generalize (textS (some s)).1 = t at *
        generalize (textS (some s)).2 = st2 at *
        go_wp2_with fail
        refine hB.out.mono ?_
        rintro e w1 ⟨rfl, rfl⟩
        go_wp2_with fail
        refine hT.out.mono ?_
        rintro e w2 ⟨rfl, h1, h2⟩
        have hrow2 := hrow.kept h2 (fun g hgg e => by
          have h3 := (hrow.own hgg).1
          subst e
          have := HR.out.lt
          omega)
        have H1 := Lib.hid h1
        have H2 := Lib.hid (grown_step hg.out h2)
        have hsz2 : w.heap.size ≤ w2.heap.size := H2.out.size
        clear h1 h2 hrow hg hr hran hT hB
        go_wp2_with (at_builtin; refine wpList_append_row _ rfl _ _ 22 rfl w.heap.size 9 i0 _ 1 16 Try.underlying22 hi0 hz0 hz1 hz2 rfl (by decide) _ _ rfl (hrow2.alloc _) (fun _ => rfl) _ t rfl (cells_new _ _ _) (one_t _) (by unfold maxLen; omega) (by omega) (by simp; omega) ?_; intro v' w3 hrow3 hgrow3)
        have hown : ∀ g, (Value.slice A L.length c).ownBlock = some g → w.heap.size ≤ g := fun g hgg => (hrow2.own hgg).1
        have H3 : Hid (RAt o st2 w3) := RAt.grown (H1.out.alloc _) hgrow3 (fun b hb e => by
          subst hb
          have := HR.out.lt
          have := hown b e
          omega)
        have H4 : Hid (w.grownBy w3 o) := grown_far (only_alloc H2.out _) hgrow3 hown
        have hlen := Lib.hid (len_of hrow3)
        clear hgrow3 hrow2 H1 H2
        go_roundw
        case rel => exact ⟨L.length + 1, L ++ [t], st2, hnx, hrow3, H3, H4⟩
        case measure =>
          have := hlen.out
          simp [slen] at this ⊢
          omega
    · have he : L.length = n := by omega
      have HF : Hid (LPost o (runS n st).1 (runS n st).2 w (.returned (.slice A L.length c)) wr) := by
        have hran := hran.out
        rw [he] at hran
        rw [hran.end_]
        exact ⟨_, rfl, hrow, hr.out, hg.out⟩
      clear hrow hran
      go_wp2
      go_ret
      exact HF.out
set_option maxRecDepth 100000 in
set_option maxHeartbeats 4000000 in
theorem rtexts_any (o : Option Nat) (st : St) (w : World) (h : RAt o st w) :
    Calls Try.prog 30 #[pv o] w (LPost o (textsS st).1 (textsS st).2 w) := by
  have HN := Lib.hid (rcount_any o st 65536 w h)
  have hc := Lib.hid (countS_bd 65536 st (by decide))
  have he : Hid (textsS st = match (runS (countS 65536 st).1.toNat (countS 65536 st).2).2 with
    | none => ([], none)
    | some s => ((runS (countS 65536 st).1.toNat (countS 65536 st).2).1, some s)) := rfl
  generalize countS 65536 st = ns at *
  obtain ⟨n0, st'⟩ := ns
  obtain ⟨n, hn⟩ : ∃ n : Nat, n0 = n := ⟨n0.toNat, by have := hc.out.1; simp only at this; omega⟩
  subst hn
  have hn2 : n ≤ 65536 := by have := hc.out.2; simp only at this; omega
  simp only [Int.toNat_natCast] at he
  have hz := Lib.hid h
  clear h hc
  have hL := Lib.hid (fun w h => several_any o st' n hn2 w h)
  generalize runS n st' = rs at *
  obtain ⟨L, st2⟩ := rs
  cases st2 with
  | none =>
    have e : textsS st = ([], none) := he.out
    rw [e]
    clear he e
    go_enter Try.func30, Try.ntmps30
    go_wp2_with fail
    refine HN.out.mono ?_
    rintro e w1 ⟨rfl, h1, h2⟩
    have H2 := Lib.hid h2
    have HS := Lib.hid (hL.out w1 h1)
    clear h1 h2 HN hL
    go_wp2_with fail
    refine HS.out.mono ?_
    rintro e w2 ⟨v, rfl, hrow, h1, h2⟩
    obtain ⟨A, c, rfl⟩ := hrow.form
    have HB := Lib.hid (bad_any o none w2 h1)
    have HF : Hid (LPost o [] none w (.returned (.slice none 0 0)) w2) := ⟨_, rfl, Row.nil _ _ _ _ _, h1, grown_step H2.out h2⟩
    clear h1 h2 HS hrow
    go_wp2_with fail
    refine HB.out.mono ?_
    rintro e w3 ⟨rfl, rfl⟩
    go_wp2
    go_ret
    exact HF.out
  | some s =>
    have e : textsS st = (L, some s) := he.out
    rw [e]
    clear he e
    go_enter Try.func30, Try.ntmps30
    go_wp2_with fail
    refine HN.out.mono ?_
    rintro e w1 ⟨rfl, h1, h2⟩
    have H2 := Lib.hid h2
    have HS := Lib.hid (hL.out w1 h1)
    clear h1 h2 HN hL
    go_wp2_with fail
    refine HS.out.mono ?_
    rintro e w2 ⟨v, rfl, hrow, h1, h2⟩
    obtain ⟨A, c, rfl⟩ := hrow.form
    have HB := Lib.hid (bad_any o (some s) w2 h1)
    have HF : Hid (LPost o L (some s) w (.returned (.slice A L.length c)) w2) := ⟨_, rfl, hrow.more H2.out.size, h1, grown_step H2.out h2⟩
    clear h1 h2 HS hrow
    go_wp2_with fail
    refine HB.out.mono ?_
    rintro e w3 ⟨rfl, rfl⟩
    go_wp2
    go_ret
    exact HF.out
end Go.Proofs.Ytpdmchkmdkdfgaa.oc
