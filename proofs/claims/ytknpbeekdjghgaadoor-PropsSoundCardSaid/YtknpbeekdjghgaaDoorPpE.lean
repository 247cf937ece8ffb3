/- A bucket's properties: the package's and the reference's. -/
import Derived.Test.YtknpbeekdjghgaaDoorPpD
import Derived.Lib.MinMax
namespace Go.Proofs.YtknpbeekdjghgaaDoor.pp
set_option linter.unusedSimpArgs false
open Go.ChangeShapes Go.WideShapes Go.ChangeAt Go.RowKit Go.Proofs.Aid
open Go.Proofs.YtknpbeekdjghgaaDoor.rgy (En)
open Go.Proofs.YtknpbeekdjghgaaDoor.nm (Lets num numV numR)
set_option maxRecDepth 100000 in
set_option maxHeartbeats 4000000 in
theorem default_any (w : World) : Calls Tryd.prog 22 #[] w fun e w' => e = .returned (.agg dflt) ∧ Below w.heap.size w w' := by
  go_enter Tryd.func22, Tryd.ntmps22
  go_wp2
  have h8 := Lib.hid (Blk.new w 26 dflt)
  exact bodyPost_ret (v := .agg dflt) (by have r0 := h8.out.cell 0; have r1 := h8.out.cell 1; have r2 := h8.out.cell 2; have r3 := h8.out.cell 3; have r4 := h8.out.cell 4; have r5 := h8.out.cell 5; have r6 := h8.out.cell 6; have r7 := h8.out.cell 7; simp [results, Tryd.results22, go_sem, r0, r1, r2, r3, r4, r5, r6, r7]) rfl ⟨rfl, below_lit w _⟩
set_option maxRecDepth 100000 in
set_option maxHeartbeats 4000000 in
theorem rdefault_any (w : World) : Calls Tryd.prog 23 #[] w fun e w' => e = .returned (.agg dflt) ∧ Below w.heap.size w w' := by
  go_enter Tryd.func23, Tryd.ntmps23
  go_wp2
  have h8 := Lib.hid (Blk.new w 26 dflt)
  exact bodyPost_ret (v := .agg dflt) (by have r0 := h8.out.cell 0; have r1 := h8.out.cell 1; have r2 := h8.out.cell 2; have r3 := h8.out.cell 3; have r4 := h8.out.cell 4; have r5 := h8.out.cell 5; have r6 := h8.out.cell 6; have r7 := h8.out.cell 7; simp [results, Tryd.results23, go_sem, r0, r1, r2, r3, r4, r5, r6, r7]) rfl ⟨rfl, below_lit w _⟩
/-- A bucket's properties, of what is told of its fields. -/
def ofG (G : ByteArray → Int → Int) : Array Value := prCells (G fN 3) (min (G fN 3) (G fR 2)) (min (G fN 3) (G fW 2)) (min (G fN 3) (G fPR 0)) (min (G fN 3) (G fPW 0)) (G fSev 1 == 1) (G fMis 1 == 1) (G fBas 0 == 1)
def ofV (l : List En) (t b : ByteArray) : Value := .agg (ofG (fieldV l t b))
set_option maxRecDepth 100000 in
set_option maxHeartbeats 8000000 in
theorem rof_any (w : World) (A : Option Addr) (ca : Nat) (xs : List En) (t b : ByteArray) (hl : xs.length ≤ 100000) (h1 : Reads w w.heap.size 4 A xs.length (xs.flatMap En.cells)) (hsh : short xs) (ht : t.size ≤ 1000000) (hb : b.size ≤ 1000000) :
    Calls Tryd.prog 10 #[.slice A xs.length ca, .string t, .string b] w fun e w' => e = .returned (ofV xs t b) ∧ Below w.heap.size w w' := by
  have HB := Lib.hid (Blk.new w 26 zeroP)
  have HL := Lib.hid (below_lit w (.cells zeroP 26))
  have H1 := Lib.hid (h1.more_below HL.out)
  have HF : Hid (∀ (w : World) (f : ByteArray) (u : Int), Reads w w.heap.size 4 A xs.length (xs.flatMap En.cells) → f.size ≤ 100 → Calls Tryd.prog 29 #[.slice A xs.length ca, .string t, .string b, .string f, .int .i64 u] w fun e w' => e = .returned (.int .i64 (fieldV xs t b f u)) ∧ Below w.heap.size w w') :=
    fun w f u h hf => rfield_any w A ca xs t b f u hl h hsh ht hb (by omega)
  have hO := Lib.hid (show ofV xs t b = .agg (ofG (fieldV xs t b)) from rfl)
  generalize fieldV xs t b = G at *
  clear h1 hsh
  go_enter Tryd.func10, Tryd.ntmps10
  go_wp2_with fail
  generalize w.alloc (.cells zeroP 26) = w0 at *
  refine (HF.out _ fN 3 H1.out (by decide)).mono ?_
  rintro e w1 ⟨rfl, hb⟩
  replace HB := Lib.hid (Blk.below (Hid.out HB) hb (Hid.out HB).lt)
  replace H1 := Lib.hid ((Hid.out H1).more_below hb)
  replace HL := Lib.hid ((Hid.out HL).trans (hb.mono (Hid.out HL).size))
  clear hb
  go_wp2_with fail; refine (HF.out _ fR 2 H1.out (by decide)).mono ?_; rintro e w2 ⟨rfl, hb⟩
  replace HB := Lib.hid (Blk.below (Hid.out HB) hb (Hid.out HB).lt)
  replace H1 := Lib.hid ((Hid.out H1).more_below hb)
  replace HL := Lib.hid ((Hid.out HL).trans (hb.mono (Hid.out HL).size))
  clear hb
  go_wp2_with fail; refine (HF.out _ fW 2 H1.out (by decide)).mono ?_; rintro e w3 ⟨rfl, hb⟩
  replace HB := Lib.hid (Blk.below (Hid.out HB) hb (Hid.out HB).lt)
  replace H1 := Lib.hid ((Hid.out H1).more_below hb)
  replace HL := Lib.hid ((Hid.out HL).trans (hb.mono (Hid.out HL).size))
  clear hb
  go_wp2_with fail; refine (HF.out _ fPR 0 H1.out (by decide)).mono ?_; rintro e w4 ⟨rfl, hb⟩
  replace HB := Lib.hid (Blk.below (Hid.out HB) hb (Hid.out HB).lt)
  replace H1 := Lib.hid ((Hid.out H1).more_below hb)
  replace HL := Lib.hid ((Hid.out HL).trans (hb.mono (Hid.out HL).size))
  clear hb
  go_wp2_with fail; refine (HF.out _ fPW 0 H1.out (by decide)).mono ?_; rintro e w5 ⟨rfl, hb⟩
  replace HB := Lib.hid (Blk.below (Hid.out HB) hb (Hid.out HB).lt)
  replace H1 := Lib.hid ((Hid.out H1).more_below hb)
  replace HL := Lib.hid ((Hid.out HL).trans (hb.mono (Hid.out HL).size))
  clear hb
  go_wp2_with fail; refine (HF.out _ fSev 1 H1.out (by decide)).mono ?_; rintro e w6 ⟨rfl, hb⟩
  replace HB := Lib.hid (Blk.below (Hid.out HB) hb (Hid.out HB).lt)
  replace H1 := Lib.hid ((Hid.out H1).more_below hb)
  replace HL := Lib.hid ((Hid.out HL).trans (hb.mono (Hid.out HL).size))
  clear hb
  go_wp2_with fail; refine (HF.out _ fMis 1 H1.out (by decide)).mono ?_; rintro e w7 ⟨rfl, hb⟩
  replace HB := Lib.hid (Blk.below (Hid.out HB) hb (Hid.out HB).lt)
  replace H1 := Lib.hid ((Hid.out H1).more_below hb)
  replace HL := Lib.hid ((Hid.out HL).trans (hb.mono (Hid.out HL).size))
  clear hb
  go_wp2_with fail; refine (HF.out _ fBas 0 H1.out (by decide)).mono ?_; rintro e w8 ⟨rfl, hb⟩
  replace HB := Lib.hid (Blk.below (Hid.out HB) hb (Hid.out HB).lt)
  replace H1 := Lib.hid ((Hid.out H1).more_below hb)
  replace HL := Lib.hid ((Hid.out HL).trans (hb.mono (Hid.out HL).size))
  clear hb
  have hbk := HB.out
  have f0 := hbk.frozen 0; have f1 := hbk.frozen 1; have f2 := hbk.frozen 2; have f3 := hbk.frozen 3; have f4 := hbk.frozen 4; have f5 := hbk.frozen 5; have f6 := hbk.frozen 6; have f7 := hbk.frozen 7
  obtain ⟨e0, e1, e2, e3, e4, e5, e6, e7⟩ := Res.cells (cs := zeroP) rfl hbk
  have h8 := Lib.hid (set8 (.int .i64 (G fN 3)) (.int .i64 (min (G fN 3) (G fR 2))) (.int .i64 (min (G fN 3) (G fW 2))) (.int .i64 (min (G fN 3) (G fPR 0))) (.int .i64 (min (G fN 3) (G fPW 0))) (.bool (G fSev 1 == 1)) (.bool (G fMis 1 == 1)) (.bool (G fBas 0 == 1)) (cs := zeroP) rfl hbk)
  have hlf := Lib.hid (low8 HL.out (Nat.le_refl _) (.int .i64 (G fN 3)) (.int .i64 (min (G fN 3) (G fR 2))) (.int .i64 (min (G fN 3) (G fW 2))) (.int .i64 (min (G fN 3) (G fPR 0))) (.int .i64 (min (G fN 3) (G fPW 0))) (.bool (G fSev 1 == 1)) (.bool (G fMis 1 == 1)) (.bool (G fBas 0 == 1)))
  clear hbk
  go_wp2
  exact bodyPost_ret (v := .agg (ofG G)) (by have r0 := h8.out.cell 0; have r1 := h8.out.cell 1; have r2 := h8.out.cell 2; have r3 := h8.out.cell 3; have r4 := h8.out.cell 4; have r5 := h8.out.cell 5; have r6 := h8.out.cell 6; have r7 := h8.out.cell 7; simp [results, Tryd.results10, go_sem, r0, r1, r2, r3, r4, r5, r6, r7, ofG]) rfl ⟨by rw [hO.out], hlf.out⟩
end Go.Proofs.YtknpbeekdjghgaaDoor.pp
