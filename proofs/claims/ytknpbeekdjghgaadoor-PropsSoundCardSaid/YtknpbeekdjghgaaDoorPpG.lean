/- The entry by which a property gets another value, by the package and by the reference. -/
import Derived.Test.YtknpbeekdjghgaaDoorPpF
namespace Go.Proofs.YtknpbeekdjghgaaDoor.pp
set_option linter.unusedSimpArgs false
open Go.ChangeShapes Go.WideShapes Go.ChangeAt Go.RowKit Go.Proofs.Aid
open Go.Proofs.YtknpbeekdjghgaaDoor.rgy (En)
open Go.Proofs.YtknpbeekdjghgaaDoor.reg (Rg)
open Go.Proofs.YtknpbeekdjghgaaDoor.name (isName)
open Go.Proofs.YtknpbeekdjghgaaDoor.nm (Lets num numV numR)
def setP (l : List En) (s t b f : ByteArray) (n : Int) : En × Int :=
  if isName t.data.toList && isName b.data.toList && mayF f n then rgy.setE l s (pkey t b f) (nm.dec n) else (rgy.En.zero, 1)
set_option maxRecDepth 100000 in
set_option maxHeartbeats 8000000 in
theorem set_any (w : World) (A : Option Addr) (ca : Nat) (xs : List En) (s t b f : ByteArray) (n : Int) (hl : xs.length ≤ 100000) (h1 : Reads w w.heap.size 4 A xs.length (xs.flatMap En.cells)) (hz : ∀ x ∈ xs, x.sz) (hs : s.size ≤ 1000000) (ht : t.size ≤ 1000000) (hb : b.size ≤ 1000000) (hf : f.size ≤ 1000000) (HLt : Hid (Lets w)) :
    Calls Tryd.prog 13 #[.slice A xs.length ca, .string s, .string t, .string b, .string f, .int .i64 n] w fun e w' => e = .returned (.tuple #[(setP xs s t b f n).1.val, .int .i64 (setP xs s t b f n).2]) ∧ Below w.heap.size w w' := by
  have HS := Lib.hid hz
  have HL := Lib.hid (below_lit w (.cells #[.string ⟨#[]⟩, .int .i64 0, .string ⟨#[]⟩, .string ⟨#[]⟩] 34))
  have HB := Lib.hid (Blk.new w 34 #[.string ⟨#[]⟩, .int .i64 0, .string ⟨#[]⟩, .string ⟨#[]⟩])
  have H1 := Lib.hid (h1.more_below HL.out)
  have hE := Lib.hid (show setP xs s t b f n = if isName t.data.toList && isName b.data.toList && mayF f n then rgy.setE xs s (pkey t b f) (nm.dec n) else (rgy.En.zero, 1) from rfl)
  have hks := pkey_size t b f
  have T1 := Lib.hid (show t.size ≤ maxLen by unfold maxLen; omega)
  have T2 := Lib.hid (show b.size ≤ maxLen by unfold maxLen; omega)
  have hset := Lib.hid (fun w' (hd : (nm.dec n).size ≤ 1000000) h => rgy.set_any w' A ca xs s (pkey t b f) (nm.dec n) hl h HS.out (by unfold maxLen; omega) (by unfold maxLen; omega) (by unfold maxLen; omega))
  clear h1 hz hks
  cases hi0 : isName t.data.toList with
  | false =>
    rw [hi0] at hE
    simp only [Bool.and_false, Bool.false_and, Bool.false_eq_true, if_false] at hE
    go_enter Tryd.func13, Tryd.ntmps13
    go_wp2_with fail
    generalize w.alloc (.cells #[.string ⟨#[]⟩, .int .i64 0, .string ⟨#[]⟩, .string ⟨#[]⟩] 34) = w0 at *
    refine (name.is_any t w0 T1.out).mono ?_
    rw [hi0]
    rintro e w1 ⟨rfl, hbq⟩
    replace HB := Lib.hid (Blk.below (Hid.out HB) hbq (Hid.out HB).lt)
    replace H1 := Lib.hid ((Hid.out H1).more_below hbq)
    replace HL := Lib.hid ((Hid.out HL).trans (hbq.mono (Hid.out HL).size))
    clear hbq
    have hbf := HB.out
    have f0 := hbf.frozen 0
    have f1 := hbf.frozen 1
    have f2 := hbf.frozen 2
    have f3 := hbf.frozen 3
    have d0 : w1.cell? ⟨w.heap.size, 0, none⟩ = some (.string ⟨#[]⟩) := by rw [hbf.cell]; rfl
    have d1 : w1.cell? ⟨w.heap.size, 1, none⟩ = some (.int .i64 0) := by rw [hbf.cell]; rfl
    have d2 : w1.cell? ⟨w.heap.size, 2, none⟩ = some (.string ⟨#[]⟩) := by rw [hbf.cell]; rfl
    have d3 : w1.cell? ⟨w.heap.size, 3, none⟩ = some (.string ⟨#[]⟩) := by rw [hbf.cell]; rfl
    go_wp2
    exact bodyPost_ret (v := .tuple #[.agg #[.string ⟨#[]⟩, .int .i64 0, .string ⟨#[]⟩, .string ⟨#[]⟩], .int .i64 1]) (by simp [results, Tryd.results13, go_sem, d0, d1, d2, d3] <;> rfl) rfl ⟨by rw [hE.out]; rfl, rgy.low4 HL.out (Nat.le_refl _) _ _ _ _⟩
  | true =>
    cases hi1 : isName b.data.toList with
    | false =>
      rw [hi0, hi1] at hE
      simp only [Bool.and_false, Bool.false_and, Bool.false_eq_true, if_false] at hE
      go_enter Tryd.func13, Tryd.ntmps13
      go_wp2_with fail
      generalize w.alloc (.cells #[.string ⟨#[]⟩, .int .i64 0, .string ⟨#[]⟩, .string ⟨#[]⟩] 34) = w0 at *
      refine (name.is_any t w0 T1.out).mono ?_
      rw [hi0]
      rintro e w1 ⟨rfl, hbq⟩
      replace HB := Lib.hid (Blk.below (Hid.out HB) hbq (Hid.out HB).lt)
      replace H1 := Lib.hid ((Hid.out H1).more_below hbq)
      replace HL := Lib.hid ((Hid.out HL).trans (hbq.mono (Hid.out HL).size))
      clear hbq
      go_wp2_with fail
      refine (name.is_any b w1 T2.out).mono ?_
      rw [hi1]
      rintro e w2 ⟨rfl, hbq⟩
      replace HB := Lib.hid (Blk.below (Hid.out HB) hbq (Hid.out HB).lt)
      replace H1 := Lib.hid ((Hid.out H1).more_below hbq)
      replace HL := Lib.hid ((Hid.out HL).trans (hbq.mono (Hid.out HL).size))
      clear hbq
      have hbf := HB.out
      have f0 := hbf.frozen 0
      have f1 := hbf.frozen 1
      have f2 := hbf.frozen 2
      have f3 := hbf.frozen 3
      have d0 : w2.cell? ⟨w.heap.size, 0, none⟩ = some (.string ⟨#[]⟩) := by rw [hbf.cell]; rfl
      have d1 : w2.cell? ⟨w.heap.size, 1, none⟩ = some (.int .i64 0) := by rw [hbf.cell]; rfl
      have d2 : w2.cell? ⟨w.heap.size, 2, none⟩ = some (.string ⟨#[]⟩) := by rw [hbf.cell]; rfl
      have d3 : w2.cell? ⟨w.heap.size, 3, none⟩ = some (.string ⟨#[]⟩) := by rw [hbf.cell]; rfl
      go_wp2
      exact bodyPost_ret (v := .tuple #[.agg #[.string ⟨#[]⟩, .int .i64 0, .string ⟨#[]⟩, .string ⟨#[]⟩], .int .i64 1]) (by simp [results, Tryd.results13, go_sem, d0, d1, d2, d3] <;> rfl) rfl ⟨by rw [hE.out]; rfl, rgy.low4 HL.out (Nat.le_refl _) _ _ _ _⟩
    | true =>
      cases hm : mayF f n with
      | false =>
        rw [hi0, hi1, hm] at hE
        simp only [Bool.and_false, Bool.false_and, Bool.false_eq_true, if_false] at hE
        go_enter Tryd.func13, Tryd.ntmps13
        go_wp2_with fail
        generalize w.alloc (.cells #[.string ⟨#[]⟩, .int .i64 0, .string ⟨#[]⟩, .string ⟨#[]⟩] 34) = w0 at *
        refine (name.is_any t w0 T1.out).mono ?_
        rw [hi0]
        rintro e w1 ⟨rfl, hbq⟩
        replace HB := Lib.hid (Blk.below (Hid.out HB) hbq (Hid.out HB).lt)
        replace H1 := Lib.hid ((Hid.out H1).more_below hbq)
        replace HL := Lib.hid ((Hid.out HL).trans (hbq.mono (Hid.out HL).size))
        clear hbq
        go_wp2_with fail
        refine (name.is_any b w1 T2.out).mono ?_
        rw [hi1]
        rintro e w2 ⟨rfl, hbq⟩
        replace HB := Lib.hid (Blk.below (Hid.out HB) hbq (Hid.out HB).lt)
        replace H1 := Lib.hid ((Hid.out H1).more_below hbq)
        replace HL := Lib.hid ((Hid.out HL).trans (hbq.mono (Hid.out HL).size))
        clear hbq
        go_wp2_with fail
        refine (may_any f n w2).mono ?_
        rw [hm]
        rintro e w4 ⟨rfl, rfl⟩
        have hbf := HB.out
        have f0 := hbf.frozen 0
        have f1 := hbf.frozen 1
        have f2 := hbf.frozen 2
        have f3 := hbf.frozen 3
        have d0 : w4.cell? ⟨w.heap.size, 0, none⟩ = some (.string ⟨#[]⟩) := by rw [hbf.cell]; rfl
        have d1 : w4.cell? ⟨w.heap.size, 1, none⟩ = some (.int .i64 0) := by rw [hbf.cell]; rfl
        have d2 : w4.cell? ⟨w.heap.size, 2, none⟩ = some (.string ⟨#[]⟩) := by rw [hbf.cell]; rfl
        have d3 : w4.cell? ⟨w.heap.size, 3, none⟩ = some (.string ⟨#[]⟩) := by rw [hbf.cell]; rfl
        go_wp2
        exact bodyPost_ret (v := .tuple #[.agg #[.string ⟨#[]⟩, .int .i64 0, .string ⟨#[]⟩, .string ⟨#[]⟩], .int .i64 1]) (by simp [results, Tryd.results13, go_sem, d0, d1, d2, d3] <;> rfl) rfl ⟨by rw [hE.out]; rfl, rgy.low4 HL.out (Nat.le_refl _) _ _ _ _⟩
      | true =>
        rw [hi0, hi1, hm] at hE
        simp only [Bool.and_true, if_true] at hE
        have hn := may_small hm
        have hdz := nm.dec_size n (by omega) (by omega)
        go_enter Tryd.func13, Tryd.ntmps13
        go_wp2_with fail
        generalize w.alloc (.cells #[.string ⟨#[]⟩, .int .i64 0, .string ⟨#[]⟩, .string ⟨#[]⟩] 34) = w0 at *
        refine (name.is_any t w0 T1.out).mono ?_
        rw [hi0]
        rintro e w1 ⟨rfl, hbq⟩
        replace HB := Lib.hid (Blk.below (Hid.out HB) hbq (Hid.out HB).lt)
        replace H1 := Lib.hid ((Hid.out H1).more_below hbq)
        replace HL := Lib.hid ((Hid.out HL).trans (hbq.mono (Hid.out HL).size))
        clear hbq
        go_wp2_with fail
        refine (name.is_any b w1 T2.out).mono ?_
        rw [hi1]
        rintro e w2 ⟨rfl, hbq⟩
        replace HB := Lib.hid (Blk.below (Hid.out HB) hbq (Hid.out HB).lt)
        replace H1 := Lib.hid ((Hid.out H1).more_below hbq)
        replace HL := Lib.hid ((Hid.out HL).trans (hbq.mono (Hid.out HL).size))
        clear hbq
        go_wp2_with fail
        refine (may_any f n w2).mono ?_
        rw [hm]
        rintro e w4 ⟨rfl, rfl⟩
        go_wp2_with fail
        refine (pkey_any t b f _ (by omega) (by omega) (by omega)).mono ?_
        rintro e w5 ⟨rfl, hbq⟩
        replace HB := Lib.hid (Blk.below (Hid.out HB) hbq (Hid.out HB).lt)
        replace H1 := Lib.hid ((Hid.out H1).more_below hbq)
        replace HL := Lib.hid ((Hid.out HL).trans (hbq.mono (Hid.out HL).size))
        clear hbq
        go_wp2_with fail
        refine (nm.dec_any n _ (by omega) (by omega) (Lib.hid (HLt.out.next HL.out))).mono ?_
        rintro e w6 ⟨rfl, hbq⟩
        replace HB := Lib.hid (Blk.below (Hid.out HB) hbq (Hid.out HB).lt)
        replace H1 := Lib.hid ((Hid.out H1).more_below hbq)
        replace HL := Lib.hid ((Hid.out HL).trans (hbq.mono (Hid.out HL).size))
        clear hbq
        replace hset := Lib.hid (hset.out · (by omega))
        generalize hsr : rgy.setE xs s (pkey t b f) (nm.dec n) = sr at *
        obtain ⟨⟨kk, ⟨rn, rb, rv⟩⟩, c⟩ := sr
        have HSR := Lib.hid hsr
        clear hsr
        go_wp2_with fail
        refine (hset.out _ H1.out).mono ?_
        try rw [HSR.out]
        rintro e w7 ⟨rfl, hbq⟩
        replace HB := Lib.hid (Blk.below (Hid.out HB) hbq (Hid.out HB).lt)
        replace H1 := Lib.hid ((Hid.out H1).more_below hbq)
        replace HL := Lib.hid ((Hid.out HL).trans (hbq.mono (Hid.out HL).size))
        clear hbq
        have hbf := HB.out
        have f0 := hbf.frozen 0
        have f1 := hbf.frozen 1
        have f2 := hbf.frozen 2
        have f3 := hbf.frozen 3
        have d0 : w7.cell? ⟨w.heap.size, 0, none⟩ = some (.string ⟨#[]⟩) := by rw [hbf.cell]; rfl
        have d1 : w7.cell? ⟨w.heap.size, 1, none⟩ = some (.int .i64 0) := by rw [hbf.cell]; rfl
        have d2 : w7.cell? ⟨w.heap.size, 2, none⟩ = some (.string ⟨#[]⟩) := by rw [hbf.cell]; rfl
        have d3 : w7.cell? ⟨w.heap.size, 3, none⟩ = some (.string ⟨#[]⟩) := by rw [hbf.cell]; rfl
        have h4 := Lib.hid (rgy.set4 (x := .string kk) (y := .int .i64 rn) (z := .string rb) (u := .string rv) HB.out)
        have hlf := Lib.hid (rgy.low4 HL.out (Nat.le_refl _) (.string kk) (.int .i64 rn) (.string rb) (.string rv))
        go_wp2
        exact bodyPost_ret (v := .tuple #[.agg #[.string kk, .int .i64 rn, .string rb, .string rv], .int .i64 c]) (by have r0 := h4.out.cell 0; have r1 := h4.out.cell 1; have r2 := h4.out.cell 2; have r3 := h4.out.cell 3; simp [results, Tryd.results13, go_sem, r0, r1, r2, r3]) rfl ⟨by rw [hE.out], hlf.out⟩
set_option maxRecDepth 100000 in
set_option maxHeartbeats 8000000 in
theorem rset_any (w : World) (A : Option Addr) (ca : Nat) (xs : List En) (s t b f : ByteArray) (n : Int) (hl : xs.length ≤ 100000) (h1 : Reads w w.heap.size 4 A xs.length (xs.flatMap En.cells)) (hz : ∀ x ∈ xs, x.sz) (hs : s.size ≤ 1000000) (ht : t.size ≤ 1000000) (hb : b.size ≤ 1000000) (hf : f.size ≤ 1000000) :
    Calls Tryd.prog 14 #[.slice A xs.length ca, .string s, .string t, .string b, .string f, .int .i64 n] w fun e w' => e = .returned (.tuple #[(setP xs s t b f n).1.val, .int .i64 (setP xs s t b f n).2]) ∧ Below w.heap.size w w' := by
  have HS := Lib.hid hz
  have HL := Lib.hid (below_lit w (.cells #[.string ⟨#[]⟩, .int .i64 0, .string ⟨#[]⟩, .string ⟨#[]⟩] 34))
  have HB := Lib.hid (Blk.new w 34 #[.string ⟨#[]⟩, .int .i64 0, .string ⟨#[]⟩, .string ⟨#[]⟩])
  have H1 := Lib.hid (h1.more_below HL.out)
  have hE := Lib.hid (show setP xs s t b f n = if isName t.data.toList && isName b.data.toList && mayF f n then rgy.setE xs s (pkey t b f) (nm.dec n) else (rgy.En.zero, 1) from rfl)
  have hks := pkey_size t b f
  have T1 := Lib.hid (show t.size ≤ maxLen by unfold maxLen; omega)
  have T2 := Lib.hid (show b.size ≤ maxLen by unfold maxLen; omega)
  have hset := Lib.hid (fun w' (hd : (nm.dec n).size ≤ 1000000) h => rgy.rset_any w' A ca xs s (pkey t b f) (nm.dec n) hl h HS.out (by unfold maxLen; omega) (by unfold maxLen; omega) (by unfold maxLen; omega))
  clear h1 hz hks
  cases hi0 : isName t.data.toList with
  | false =>
    rw [hi0] at hE
    simp only [Bool.and_false, Bool.false_and, Bool.false_eq_true, if_false] at hE
    go_enter Tryd.func14, Tryd.ntmps14
    go_wp2_with fail
    generalize w.alloc (.cells #[.string ⟨#[]⟩, .int .i64 0, .string ⟨#[]⟩, .string ⟨#[]⟩] 34) = w0 at *
    refine (reg.rname_any t w0 T1.out).mono ?_
    rw [hi0]
    rintro e w1 ⟨rfl, rfl⟩
    have hbf := HB.out
    have f0 := hbf.frozen 0
    have f1 := hbf.frozen 1
    have f2 := hbf.frozen 2
    have f3 := hbf.frozen 3
    have d0 : w1.cell? ⟨w.heap.size, 0, none⟩ = some (.string ⟨#[]⟩) := by rw [hbf.cell]; rfl
    have d1 : w1.cell? ⟨w.heap.size, 1, none⟩ = some (.int .i64 0) := by rw [hbf.cell]; rfl
    have d2 : w1.cell? ⟨w.heap.size, 2, none⟩ = some (.string ⟨#[]⟩) := by rw [hbf.cell]; rfl
    have d3 : w1.cell? ⟨w.heap.size, 3, none⟩ = some (.string ⟨#[]⟩) := by rw [hbf.cell]; rfl
    go_wp2
    exact bodyPost_ret (v := .tuple #[.agg #[.string ⟨#[]⟩, .int .i64 0, .string ⟨#[]⟩, .string ⟨#[]⟩], .int .i64 1]) (by simp [results, Tryd.results14, go_sem, d0, d1, d2, d3] <;> rfl) rfl ⟨by rw [hE.out]; rfl, rgy.low4 HL.out (Nat.le_refl _) _ _ _ _⟩
  | true =>
    cases hi1 : isName b.data.toList with
    | false =>
      rw [hi0, hi1] at hE
      simp only [Bool.and_false, Bool.false_and, Bool.false_eq_true, if_false] at hE
      go_enter Tryd.func14, Tryd.ntmps14
      go_wp2_with fail
      generalize w.alloc (.cells #[.string ⟨#[]⟩, .int .i64 0, .string ⟨#[]⟩, .string ⟨#[]⟩] 34) = w0 at *
      refine (reg.rname_any t w0 T1.out).mono ?_
      rw [hi0]
      rintro e w1 ⟨rfl, rfl⟩
      go_wp2_with fail
      refine (reg.rname_any b w1 T2.out).mono ?_
      rw [hi1]
      rintro e w2 ⟨rfl, rfl⟩
      have hbf := HB.out
      have f0 := hbf.frozen 0
      have f1 := hbf.frozen 1
      have f2 := hbf.frozen 2
      have f3 := hbf.frozen 3
      have d0 : w2.cell? ⟨w.heap.size, 0, none⟩ = some (.string ⟨#[]⟩) := by rw [hbf.cell]; rfl
      have d1 : w2.cell? ⟨w.heap.size, 1, none⟩ = some (.int .i64 0) := by rw [hbf.cell]; rfl
      have d2 : w2.cell? ⟨w.heap.size, 2, none⟩ = some (.string ⟨#[]⟩) := by rw [hbf.cell]; rfl
      have d3 : w2.cell? ⟨w.heap.size, 3, none⟩ = some (.string ⟨#[]⟩) := by rw [hbf.cell]; rfl
      go_wp2
      exact bodyPost_ret (v := .tuple #[.agg #[.string ⟨#[]⟩, .int .i64 0, .string ⟨#[]⟩, .string ⟨#[]⟩], .int .i64 1]) (by simp [results, Tryd.results14, go_sem, d0, d1, d2, d3] <;> rfl) rfl ⟨by rw [hE.out]; rfl, rgy.low4 HL.out (Nat.le_refl _) _ _ _ _⟩
    | true =>
      cases hm : mayF f n with
      | false =>
        rw [hi0, hi1, hm] at hE
        simp only [Bool.and_false, Bool.false_and, Bool.false_eq_true, if_false] at hE
        go_enter Tryd.func14, Tryd.ntmps14
        go_wp2_with fail
        generalize w.alloc (.cells #[.string ⟨#[]⟩, .int .i64 0, .string ⟨#[]⟩, .string ⟨#[]⟩] 34) = w0 at *
        refine (reg.rname_any t w0 T1.out).mono ?_
        rw [hi0]
        rintro e w1 ⟨rfl, rfl⟩
        go_wp2_with fail
        refine (reg.rname_any b w1 T2.out).mono ?_
        rw [hi1]
        rintro e w2 ⟨rfl, rfl⟩
        go_wp2_with fail
        refine (rmay_any f n w2).mono ?_
        rw [hm]
        rintro e w4 ⟨rfl, rfl⟩
        have hbf := HB.out
        have f0 := hbf.frozen 0
        have f1 := hbf.frozen 1
        have f2 := hbf.frozen 2
        have f3 := hbf.frozen 3
        have d0 : w4.cell? ⟨w.heap.size, 0, none⟩ = some (.string ⟨#[]⟩) := by rw [hbf.cell]; rfl
        have d1 : w4.cell? ⟨w.heap.size, 1, none⟩ = some (.int .i64 0) := by rw [hbf.cell]; rfl
        have d2 : w4.cell? ⟨w.heap.size, 2, none⟩ = some (.string ⟨#[]⟩) := by rw [hbf.cell]; rfl
        have d3 : w4.cell? ⟨w.heap.size, 3, none⟩ = some (.string ⟨#[]⟩) := by rw [hbf.cell]; rfl
        go_wp2
        exact bodyPost_ret (v := .tuple #[.agg #[.string ⟨#[]⟩, .int .i64 0, .string ⟨#[]⟩, .string ⟨#[]⟩], .int .i64 1]) (by simp [results, Tryd.results14, go_sem, d0, d1, d2, d3] <;> rfl) rfl ⟨by rw [hE.out]; rfl, rgy.low4 HL.out (Nat.le_refl _) _ _ _ _⟩
      | true =>
        rw [hi0, hi1, hm] at hE
        simp only [Bool.and_true, if_true] at hE
        have hn := may_small hm
        have hdz := nm.dec_size n (by omega) (by omega)
        go_enter Tryd.func14, Tryd.ntmps14
        go_wp2_with fail
        generalize w.alloc (.cells #[.string ⟨#[]⟩, .int .i64 0, .string ⟨#[]⟩, .string ⟨#[]⟩] 34) = w0 at *
        refine (reg.rname_any t w0 T1.out).mono ?_
        rw [hi0]
        rintro e w1 ⟨rfl, rfl⟩
        go_wp2_with fail
        refine (reg.rname_any b w1 T2.out).mono ?_
        rw [hi1]
        rintro e w2 ⟨rfl, rfl⟩
        go_wp2_with fail
        refine (rmay_any f n w2).mono ?_
        rw [hm]
        rintro e w4 ⟨rfl, rfl⟩
        go_wp2_with fail
        refine (rpkey_any t b f _ (by omega) (by omega) (by omega)).mono ?_
        rintro e w5 ⟨rfl, rfl⟩
        go_wp2_with fail
        refine (nm.rdec_any n _ (by omega) (by omega)).mono ?_
        rintro e w6 ⟨rfl, hbq⟩
        replace HB := Lib.hid (Blk.below (Hid.out HB) hbq (Hid.out HB).lt)
        replace H1 := Lib.hid ((Hid.out H1).more_below hbq)
        replace HL := Lib.hid ((Hid.out HL).trans (hbq.mono (Hid.out HL).size))
        clear hbq
        replace hset := Lib.hid (hset.out · (by omega))
        generalize hsr : rgy.setE xs s (pkey t b f) (nm.dec n) = sr at *
        obtain ⟨⟨kk, ⟨rn, rb, rv⟩⟩, c⟩ := sr
        have HSR := Lib.hid hsr
        clear hsr
        go_wp2_with fail
        refine (hset.out _ H1.out).mono ?_
        try rw [HSR.out]
        rintro e w7 ⟨rfl, hbq⟩
        replace HB := Lib.hid (Blk.below (Hid.out HB) hbq (Hid.out HB).lt)
        replace H1 := Lib.hid ((Hid.out H1).more_below hbq)
        replace HL := Lib.hid ((Hid.out HL).trans (hbq.mono (Hid.out HL).size))
        clear hbq
        have hbf := HB.out
        have f0 := hbf.frozen 0
        have f1 := hbf.frozen 1
        have f2 := hbf.frozen 2
        have f3 := hbf.frozen 3
        have d0 : w7.cell? ⟨w.heap.size, 0, none⟩ = some (.string ⟨#[]⟩) := by rw [hbf.cell]; rfl
        have d1 : w7.cell? ⟨w.heap.size, 1, none⟩ = some (.int .i64 0) := by rw [hbf.cell]; rfl
        have d2 : w7.cell? ⟨w.heap.size, 2, none⟩ = some (.string ⟨#[]⟩) := by rw [hbf.cell]; rfl
        have d3 : w7.cell? ⟨w.heap.size, 3, none⟩ = some (.string ⟨#[]⟩) := by rw [hbf.cell]; rfl
        have h4 := Lib.hid (rgy.set4 (x := .string kk) (y := .int .i64 rn) (z := .string rb) (u := .string rv) HB.out)
        have hlf := Lib.hid (rgy.low4 HL.out (Nat.le_refl _) (.string kk) (.int .i64 rn) (.string rb) (.string rv))
        go_wp2
        exact bodyPost_ret (v := .tuple #[.agg #[.string kk, .int .i64 rn, .string rb, .string rv], .int .i64 c]) (by have r0 := h4.out.cell 0; have r1 := h4.out.cell 1; have r2 := h4.out.cell 2; have r3 := h4.out.cell 3; simp [results, Tryd.results14, go_sem, r0, r1, r2, r3]) rfl ⟨by rw [hE.out], hlf.out⟩
end Go.Proofs.YtknpbeekdjghgaaDoor.pp
