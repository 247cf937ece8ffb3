/- OctetReads: whatever is read of any bytes, in whatever order. -/
import Derived.Test.YtpdmchkmdkdfgaaOcA
import Derived.BigQuiet
namespace Go.Proofs.Ytpdmchkmdkdfgaa.oc
set_option linter.unusedSimpArgs false
set_option linter.unusedVariables false
open Go.ChangeShapes Go.WideShapes Go.ChangeAt Go.RowKit Go.Proofs.Aid
open Go.Proofs.Ytpdmchkmdkdfgaa.texts (tc)
abbrev uc (x : Int) : List Value := [.int .u8 x]
theorem runS_len (st : St) : ∀ k, (runS k st).1.length ≤ k
  | 0 => Nat.le_refl _
  | k + 1 => by
    have ih := runS_len st k
    rw [runS]
    split
    · omega
    · simp; exact ih
theorem textsS_len (st : St) : (textsS st).1.length ≤ 65536 := by
  have h := countS_bd 65536 st (by decide)
  have h2 := runS_len (countS 65536 st).2 (countS 65536 st).1.toNat
  unfold textsS
  split
  · exact Nat.zero_le _
  · simp only; omega
/-- Both readers. -/
structure Both (W : World) (st : St) (w : World) : Prop where
  r : RAt (some W.heap.size) st w
  q : QAt (W.heap.size + 1) st w
  low : Below W.heap.size W w
theorem Both.drewN {W : World} {st : St} {w : World} (h : Both W st w) (n : Nat) : Both W st (w.drewN n) := ⟨h.r, h.q, below_drewN h.low n⟩
theorem Both.below {W : World} {st : St} {w w' : World} (h : Both W st w) (hb : Below w.heap.size w w') : Both W st w' :=
  ⟨h.r.grown (only_of_below hb none) (by simp), h.q.grown (only_of_below hb none) (by simp), h.low.trans (hb.mono h.low.size)⟩
theorem Both.first {W : World} {st st2 : St} {w w' : World} (h : Both W st w) (h1 : RAt (some W.heap.size) st2 w') (h2 : w.grownBy w' (some W.heap.size)) : QAt (W.heap.size + 1) st w' ∧ Below W.heap.size W w' :=
  ⟨h.q.grown h2 (by simp), low_of h.low h2 (Nat.le_refl _) h.low.size⟩
theorem Both.mk2 {W : World} {st2 : St} {w1 w2 : World} (hr : RAt (some W.heap.size) st2 w1) (hl : Below W.heap.size W w1) (h1 : QAt (W.heap.size + 1) st2 w2) (h2 : w1.grownBy w2 (some (W.heap.size + 1))) : Both W st2 w2 :=
  ⟨hr.grown h2 (fun b hb e => by injection hb with hb; injection e with e; omega), h1, low_of hl h2 (Nat.le_succ _) hl.size⟩
set_option maxRecDepth 100000 in
set_option maxHeartbeats 8000000 in
theorem reads_walk (W : World) (s : ByteArray) (A : Option Addr) (ca : Nat) (ks : List Int) (most : Int) (hs : s.size ≤ maxLen) (hl : ks.length ≤ maxLen) (h1 : Reads W W.heap.size 1 A ks.length (ks.flatMap uc)) :
    Calls Try.prog 4 #[.string s, .slice A ks.length ca, .int .i64 most] W fun e w' => e = .returned (.bool true) ∧ Below W.heap.size W w' := by
  have H1 := Lib.hid h1
  have HL := Lib.hid (Below.refl W.heap.size W)
  unfold maxLen at hs hl
  clear h1
  by_cases hsz : s.size ≤ 1024
  case neg =>
    go_enter Try.func4, Try.ntmps4
    go_wp2_with fail
    refine (awake_any _).mono ?_; rintro e w9 ⟨rfl, hb⟩; have HL9 := Lib.hid (HL.out.trans (hb.mono HL.out.size)); clear hb; go_wp2; go_ret; exact ⟨rfl, HL9.out⟩
  by_cases hk20 : ks.length ≤ 20
  case neg =>
    go_enter Try.func4, Try.ntmps4
    go_wp2_with fail
    refine (awake_any _).mono ?_; rintro e w9 ⟨rfl, hb⟩; have HL9 := Lib.hid (HL.out.trans (hb.mono HL.out.size)); clear hb; go_wp2; go_ret; exact ⟨rfl, HL9.out⟩
  have hq0 := Blk.new (W.alloc (.cells #[.string s, .bool true] 54)) 44 #[.string s, .bool false]
  rw [World.size_alloc] at hq0
  have HB0 : Hid (Both W (some s) ((W.alloc (.cells #[.string s, .bool true] 54)).alloc (.cells #[.string s, .bool false] 44))) :=
    ⟨RAt.alloc (RAt.new s (by omega) W) _, ⟨by show s.size ≤ _; omega, s, by omega, hq0, fun x hx => by injection hx with hx; exact hx.symm⟩, below_lit2 _ _ _⟩
  clear hq0
  go_enter Try.func4, Try.ntmps4
  go_wp2_with fail
  refine (new_any s W).mono ?_
  rintro e w1 ⟨rfl, rfl⟩
  go_wp2_with fail
  go_loopw [9] (fun iv wr => ∃ (k : Nat) (st : St), k ≤ ks.length ∧ iv = .int .i64 k ∧ Hid (Both W st wr)) (fun iv _ => ks.length - (intOf iv).toNat)
  case atStart => exact ⟨0, some s, by omega, rfl, HB0⟩
  case round =>
    clear HB0
    obtain ⟨k, st, hk, rfl, hbo⟩ := hrel
    by_cases hlt : k < ks.length
    · obtain ⟨ad, rfl, hbl, c0⟩ := (H1.out.below hbo.out.low).elem1 hlt
      generalize ks[k] = x at *
      by_cases hx1 : x = 1
      · subst hx1
        have hp := Lib.hid (rbyte_any (some W.heap.size) st wr hbo.out.r)
        have hq := Lib.hid (fun w h => qbyte_any (W.heap.size + 1) st w h)
        have hst0 : True := trivial
        generalize (numS 1 st).1 = v at *
        generalize (numS 1 st).2 = st1 at *
        go_wp2_with fail
        refine hp.out.mono ?_
        rintro e w1 ⟨rfl, h1, h2⟩
        have hx := Lib.hid (hbo.out.first h1 h2)
        have hr := Lib.hid h1
        clear h1 h2
        go_wp2_with fail
        refine (hq.out w1 hx.out.1).mono ?_
        rintro e w2 ⟨rfl, h1, h2⟩
        have hbo2 := Lib.hid (Both.mk2 hr.out hx.out.2 h1 h2)
        clear hx hr h1 h2 hbo hp hq
        have hbo := hbo2
        clear hbo2
        clear hst0
        have hn := hbo.out
        have hbb := Lib.hid (fun n => bad_any (some W.heap.size) st1 _ (hbo.out.drewN n).r)
        have hdd := Lib.hid (fun n => done_any (some W.heap.size) st1 _ (hbo.out.drewN n).r)
        have hqd := Lib.hid (fun n => qdone_any (W.heap.size + 1) st1 _ (hbo.out.drewN n).q)
        have cq := hbo.out.q.cell
        have hst := Lib.hid (fun n => hbo.out.drewN n)
        clear hn hbo
        generalize hbn : Option.isNone st1 = bb at *
        generalize hdn : decide (st1 = some ⟨#[]⟩) = dd at *
        have hbn := Lib.hid hbn
        have hdn := Lib.hid hdn
        go_wp2_with fail
        go_quiet ((first | (go_at_call 32; exact Calls.quiet_of_same (hbb.out _)) | (go_at_call 33; exact Calls.quiet_of_same (hdd.out _)) | (go_at_call 34; exact Calls.quiet_of_same (hqd.out _))))
        have hst2 := fun n => Lib.hid (hst.out n)
        clear hbb hdd hqd hst
        go_wp2
        go_roundw
        case rel => exact ⟨k + 1, st1, by omega, by go_num, hst2 _⟩
        case measure => simp [intOf]; omega
      ·
        by_cases hx2 : x = 2
        · subst hx2
          have hp := Lib.hid (rint_any (some W.heap.size) st wr hbo.out.r)
          have hq := Lib.hid (fun w h => qint_any (W.heap.size + 1) st w h)
          have hst0 : True := trivial
          generalize (numS 8 st).1 = v at *
          generalize (numS 8 st).2 = st1 at *
          go_wp2_with fail
          refine hp.out.mono ?_
          rintro e w1 ⟨rfl, h1, h2⟩
          have hx := Lib.hid (hbo.out.first h1 h2)
          have hr := Lib.hid h1
          clear h1 h2
          go_wp2_with fail
          refine (hq.out w1 hx.out.1).mono ?_
          rintro e w2 ⟨rfl, h1, h2⟩
          have hbo2 := Lib.hid (Both.mk2 hr.out hx.out.2 h1 h2)
          clear hx hr h1 h2 hbo hp hq
          have hbo := hbo2
          clear hbo2
          clear hst0
          have hn := hbo.out
          have hbb := Lib.hid (fun n => bad_any (some W.heap.size) st1 _ (hbo.out.drewN n).r)
          have hdd := Lib.hid (fun n => done_any (some W.heap.size) st1 _ (hbo.out.drewN n).r)
          have hqd := Lib.hid (fun n => qdone_any (W.heap.size + 1) st1 _ (hbo.out.drewN n).q)
          have cq := hbo.out.q.cell
          have hst := Lib.hid (fun n => hbo.out.drewN n)
          clear hn hbo
          generalize hbn : Option.isNone st1 = bb at *
          generalize hdn : decide (st1 = some ⟨#[]⟩) = dd at *
          have hbn := Lib.hid hbn
          have hdn := Lib.hid hdn
          go_wp2_with fail
          go_quiet ((first | (go_at_call 32; exact Calls.quiet_of_same (hbb.out _)) | (go_at_call 33; exact Calls.quiet_of_same (hdd.out _)) | (go_at_call 34; exact Calls.quiet_of_same (hqd.out _))))
          have hst2 := fun n => Lib.hid (hst.out n)
          clear hbb hdd hqd hst
          go_wp2
          go_roundw
          case rel => exact ⟨k + 1, st1, by omega, by go_num, hst2 _⟩
          case measure => simp [intOf]; omega
        ·
          by_cases hx3 : x = 3
          · subst hx3
            have hp := Lib.hid (rcount_any (some W.heap.size) st most wr hbo.out.r)
            have hq := Lib.hid (fun w h => qcount_any (W.heap.size + 1) st most w h)
            have hst0 : True := trivial
            generalize (countS most st).1 = v at *
            generalize (countS most st).2 = st1 at *
            go_wp2_with fail
            refine hp.out.mono ?_
            rintro e w1 ⟨rfl, h1, h2⟩
            have hx := Lib.hid (hbo.out.first h1 h2)
            have hr := Lib.hid h1
            clear h1 h2
            go_wp2_with fail
            refine (hq.out w1 hx.out.1).mono ?_
            rintro e w2 ⟨rfl, h1, h2⟩
            have hbo2 := Lib.hid (Both.mk2 hr.out hx.out.2 h1 h2)
            clear hx hr h1 h2 hbo hp hq
            have hbo := hbo2
            clear hbo2
            clear hst0
            have hn := hbo.out
            have hbb := Lib.hid (fun n => bad_any (some W.heap.size) st1 _ (hbo.out.drewN n).r)
            have hdd := Lib.hid (fun n => done_any (some W.heap.size) st1 _ (hbo.out.drewN n).r)
            have hqd := Lib.hid (fun n => qdone_any (W.heap.size + 1) st1 _ (hbo.out.drewN n).q)
            have cq := hbo.out.q.cell
            have hst := Lib.hid (fun n => hbo.out.drewN n)
            clear hn hbo
            generalize hbn : Option.isNone st1 = bb at *
            generalize hdn : decide (st1 = some ⟨#[]⟩) = dd at *
            have hbn := Lib.hid hbn
            have hdn := Lib.hid hdn
            go_wp2_with fail
            go_quiet ((first | (go_at_call 32; exact Calls.quiet_of_same (hbb.out _)) | (go_at_call 33; exact Calls.quiet_of_same (hdd.out _)) | (go_at_call 34; exact Calls.quiet_of_same (hqd.out _))))
            have hst2 := fun n => Lib.hid (hst.out n)
            clear hbb hdd hqd hst
            go_wp2
            go_roundw
            case rel => exact ⟨k + 1, st1, by omega, by go_num, hst2 _⟩
            case measure => simp [intOf]; omega
          ·
            by_cases hx4 : x = 4
            · subst hx4
              have hp := Lib.hid (rtext_any (some W.heap.size) st wr hbo.out.r)
              have hq := Lib.hid (fun w h => qtext_any (W.heap.size + 1) st w h)
              have hst0 : True := trivial
              generalize (textS st).1 = v at *
              generalize (textS st).2 = st1 at *
              go_wp2_with fail
              refine hp.out.mono ?_
              rintro e w1 ⟨rfl, h1, h2⟩
              have hx := Lib.hid (hbo.out.first h1 h2)
              have hr := Lib.hid h1
              clear h1 h2
              go_wp2_with fail
              refine (hq.out w1 hx.out.1).mono ?_
              rintro e w2 ⟨rfl, h1, h2⟩
              have hbo2 := Lib.hid (Both.mk2 hr.out hx.out.2 h1 h2)
              clear hx hr h1 h2 hbo hp hq
              have hbo := hbo2
              clear hbo2
              clear hst0
              have hn := hbo.out
              have hbb := Lib.hid (fun n => bad_any (some W.heap.size) st1 _ (hbo.out.drewN n).r)
              have hdd := Lib.hid (fun n => done_any (some W.heap.size) st1 _ (hbo.out.drewN n).r)
              have hqd := Lib.hid (fun n => qdone_any (W.heap.size + 1) st1 _ (hbo.out.drewN n).q)
              have cq := hbo.out.q.cell
              have hst := Lib.hid (fun n => hbo.out.drewN n)
              clear hn hbo
              generalize hbn : Option.isNone st1 = bb at *
              generalize hdn : decide (st1 = some ⟨#[]⟩) = dd at *
              have hbn := Lib.hid hbn
              have hdn := Lib.hid hdn
              go_wp2_with fail
              go_quiet ((first | (go_at_call 32; exact Calls.quiet_of_same (hbb.out _)) | (go_at_call 33; exact Calls.quiet_of_same (hdd.out _)) | (go_at_call 34; exact Calls.quiet_of_same (hqd.out _))))
              have hst2 := fun n => Lib.hid (hst.out n)
              clear hbb hdd hqd hst
              go_wp2
              go_roundw
              case rel => exact ⟨k + 1, st1, by omega, by go_num, hst2 _⟩
              case measure => simp [intOf]; omega
            ·
              have hp := Lib.hid (rtexts_any (some W.heap.size) st wr hbo.out.r)
              have hq := Lib.hid (fun w h => qtexts_any (W.heap.size + 1) st w h)
              have hll := Lib.hid (textsS_len st)
              have hst0 : True := trivial
              generalize (textsS st).1 = L at *
              generalize (textsS st).2 = st1 at *
              have hL := hll.out
              go_wp2_with fail
              refine hp.out.mono ?_
              rintro e w1 ⟨vA, rfl, hrowA, h1, h2⟩
              have hx := Lib.hid (hbo.out.first h1 h2)
              have hr := Lib.hid h1
              obtain ⟨A1, c1, rfl⟩ := hrowA.form
              have hz1 := hbo.out.low.size
              clear h1 h2
              go_wp2_with fail
              refine (hq.out w1 hx.out.1).mono ?_
              rintro e w2 ⟨vB, rfl, hrowB, h1, h2⟩
              obtain ⟨A2, c2, rfl⟩ := hrowB.form
              have hrA := hrowA.kept h2 (fun g hg e => by
                have := (hrowA.own hg).1
                have := hbo.out.q.lt
                injection e with e
                omega)
              obtain ⟨A3, c3, e3, hRA⟩ := hrA.reads
              injection e3 with e3 _ e3c
              subst e3 e3c
              obtain ⟨A4, c4, e4, hRB⟩ := hrowB.reads
              injection e4 with e4 _ e4c
              subst e4 e4c
              have hbo2 := Lib.hid (Both.mk2 hr.out hx.out.2 h1 h2)
              clear hx hr h1 h2 hrowA hrowB hrA hbo hp hq
              have hbo := hbo2
              clear hbo2
              have hsm := Lib.hid (texts.sameTexts_same w2 A1 A2 c1 c2 L (by omega) hRA hRB)
              clear hRA hRB
              go_wp2_with fail
              refine hsm.out.mono ?_
              rintro e w3 ⟨rfl, hb⟩
              replace hbo := Lib.hid (hbo.out.below hb)
              clear hb hsm
              clear hst0
              have hn := hbo.out
              have hbb := Lib.hid (fun n => bad_any (some W.heap.size) st1 _ (hbo.out.drewN n).r)
              have hdd := Lib.hid (fun n => done_any (some W.heap.size) st1 _ (hbo.out.drewN n).r)
              have hqd := Lib.hid (fun n => qdone_any (W.heap.size + 1) st1 _ (hbo.out.drewN n).q)
              have cq := hbo.out.q.cell
              have hst := Lib.hid (fun n => hbo.out.drewN n)
              clear hn hbo
              generalize hbn : Option.isNone st1 = bb at *
              generalize hdn : decide (st1 = some ⟨#[]⟩) = dd at *
              have hbn := Lib.hid hbn
              have hdn := Lib.hid hdn
              go_wp2_with fail
              go_quiet ((first | (go_at_call 32; exact Calls.quiet_of_same (hbb.out _)) | (go_at_call 33; exact Calls.quiet_of_same (hdd.out _)) | (go_at_call 34; exact Calls.quiet_of_same (hqd.out _))))
              have hst2 := fun n => Lib.hid (hst.out n)
              clear hbb hdd hqd hst
              go_wp2
              go_roundw
              case rel => exact ⟨k + 1, st1, by omega, by go_num, hst2 _⟩
              case measure => simp [intOf]; omega
    · clear HL
      replace HL := Lib.hid hbo.out.low
      go_wp2_with fail
      refine (awake_any _).mono ?_; rintro e w9 ⟨rfl, hb⟩; have HL9 := Lib.hid (HL.out.trans (hb.mono HL.out.size)); clear hb; go_wp2; go_ret; exact ⟨rfl, HL9.out⟩
end Go.Proofs.Ytpdmchkmdkdfgaa.oc
