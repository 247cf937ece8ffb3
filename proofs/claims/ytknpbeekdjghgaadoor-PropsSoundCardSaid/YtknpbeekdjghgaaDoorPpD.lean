/- The reference's field; the properties told by a function value. -/
import Derived.Test.YtknpbeekdjghgaaDoorPpC
namespace Go.Proofs.YtknpbeekdjghgaaDoor.pp
set_option linter.unusedSimpArgs false
open Go.ChangeShapes Go.WideShapes Go.ChangeAt Go.RowKit Go.Proofs.Aid
open Go.Proofs.YtknpbeekdjghgaaDoor.rgy (En)
open Go.Proofs.YtknpbeekdjghgaaDoor.nm (Lets num numV numR)
set_option maxRecDepth 100000 in
set_option maxHeartbeats 8000000 in
theorem rfield_any (w : World) (A : Option Addr) (ca : Nat) (xs : List En) (t b f : ByteArray) (u : Int) (hl : xs.length ≤ 100000) (h1 : Reads w w.heap.size 4 A xs.length (xs.flatMap En.cells)) (hsh : short xs) (ht : t.size ≤ 1000000) (hb : b.size ≤ 1000000) (hf : f.size ≤ 1000000) :
    Calls Tryd.prog 29 #[.slice A xs.length ca, .string t, .string b, .string f, .int .i64 u] w fun e w' => e = .returned (.int .i64 (fieldV xs t b f u)) ∧ Below w.heap.size w w' := by
  have H1 := Lib.hid h1
  have hgs := get_short hsh (pkey t b f)
  clear h1 hsh
  have hO := Lib.hid (show fieldV xs t b f u = if (num (rgy.get xs (pkey t b f)).value).isSome && mayF f (numV (rgy.get xs (pkey t b f)).value) then numV (rgy.get xs (pkey t b f)).value else u from rfl)
  generalize hga : rgy.get xs (pkey t b f) = ga at *
  obtain ⟨gn, gb, gv⟩ := ga
  have HG := Lib.hid hga
  clear hga
  simp only at hO hgs
  have fa : ∀ w', (Instr.field 32 (.agg #[.int .i64 gn, .string gb, .string gv]) 2).run Tryd.prog w' = .ok (.string gv) w' := fun _ => by kernel_rfl
  have HN := Lib.hid (fun w => nm.rnum_any gv w (by omega))
  unfold numR at HN
  generalize (num gv).isSome = no at *
  generalize numV gv = nv at *
  have HM := Lib.hid (fun w => rmay_any f nv w)
  generalize mayF f nv = mf at *
  have HL := Lib.hid (Below.refl w.heap.size w)
  go_enter Tryd.func29, Tryd.ntmps29
  go_wp2_with fail
  refine (rpkey_any t b f _ ht hb hf).mono ?_
  rintro e w1 ⟨rfl, rfl⟩
  go_wp2_with fail
  refine (rgy.rget_any _ A ca xs (pkey t b f) (by omega) H1.out).mono ?_
  rw [HG.out]
  rintro e w2 ⟨rfl, hb⟩
  replace H1 := Lib.hid ((Hid.out H1).more_below hb)
  replace HL := Lib.hid ((Hid.out HL).trans (hb.mono (Hid.out HL).size))
  clear hb
  go_wp2_with fail
  refine (HN.out _).mono ?_
  rintro e w3 ⟨rfl, hb⟩
  replace H1 := Lib.hid ((Hid.out H1).more_below hb)
  replace HL := Lib.hid ((Hid.out HL).trans (hb.mono (Hid.out HL).size))
  clear hb
  cases no with
  | false =>
    have hR := Lib.hid (show fieldV xs t b f u = u by rw [hO.out]; rfl)
    go_wp2
    go_ret
    exact ⟨ret_int hR.out.symm, HL.out⟩
  | true =>
    cases mf with
    | false =>
      have hR := Lib.hid (show fieldV xs t b f u = u by rw [hO.out]; rfl)
      go_wp2_with fail
      refine (HM.out _).mono ?_
      rintro e w4 ⟨rfl, rfl⟩
      go_wp2
      go_ret
      exact ⟨ret_int hR.out.symm, HL.out⟩
    | true =>
      have hR := Lib.hid (show fieldV xs t b f u = nv by rw [hO.out]; rfl)
      go_wp2_with fail
      refine (HM.out _).mono ?_
      rintro e w4 ⟨rfl, rfl⟩
      go_wp2
      go_ret
      exact ⟨ret_int hR.out.symm, HL.out⟩
/-- The function value that tells fields. -/
abbrev fv (pl pt pb : Addr) : Value := .func (.func 25) #[] #[.pointer (some pl), .pointer (some pt), .pointer (some pb)]
/-- It tells G of fields, in whatever world in which nothing below B has turned. -/
def Tells (B : Nat) (w0 : World) (pl pt pb : Addr) (G : ByteArray → Int → Int) : Prop :=
  ∀ (w : World) (f : ByteArray) (u : Int), f.size ≤ 100 → Below B w0 w → Calls Tryd.prog 25 #[.string f, .int .i64 u, .pointer (some pl), .pointer (some pt), .pointer (some pb)] w fun e w' => e = .returned (.int .i64 (G f u)) ∧ Below w.heap.size w w'
theorem Tells.on {B : Nat} {w w1 : World} {pl pt pb : Addr} {G : ByteArray → Int → Int} (h : Tells B w pl pt pb G) (hb : Below B w w1) (hB : B ≤ w1.heap.size) : Tells w1.heap.size w1 pl pt pb G :=
  fun w2 f u hf h2 => h w2 f u hf (hb.trans (h2.mono hB))
theorem truth_any (w : World) (pl pt pb p : Addr) (G : ByteArray → Int → Int) (hG : Tells w.heap.size w pl pt pb G) (f : ByteArray) (u : Bool) (k : Int) (hk : k = if u then 1 else 0) (hf : f.size ≤ 100) (hc : w.cell? p = some (fv pl pt pb)) :
    Calls Tryd.prog 40 #[.string f, .bool u, .pointer (some p)] w fun e w' => e = .returned (.bool (G f k == 1)) ∧ Below w.heap.size w w' := by
  subst hk
  have HG := Lib.hid (fun u => hG w f u hf (Below.refl _ _))
  clear hG
  cases u with
  | true =>
    go_enter Tryd.func40, Tryd.ntmps40
    go_wp2_with fail
    refine (HG.out 1).mono ?_
    rintro e w1 ⟨rfl, hb⟩
    have hb := Lib.hid hb
    go_wp2
    go_ret
    exact ⟨ret_bool (by simp), hb.out⟩
  | false =>
    go_enter Tryd.func40, Tryd.ntmps40
    go_wp2_with fail
    refine (HG.out 0).mono ?_
    rintro e w1 ⟨rfl, hb⟩
    have hb := Lib.hid hb
    go_wp2
    go_ret
    exact ⟨ret_bool (by simp), hb.out⟩
/-- What is told. -/
def toldP (G : ByteArray → Int → Int) : Value := .agg (prCells (G fN 3) (G fR 2) (G fW 2) (G fPR 0) (G fPW 0) (G fSev 1 == 1) (G fMis 1 == 1) (G fBas 0 == 1))
abbrev dflt : Array Value := prCells 3 2 2 0 0 true true false
abbrev zeroP : Array Value := prCells 0 0 0 0 0 false false false
/-- The block of the result: whatever it holds. -/
def Res (g : Nat) (w : World) : Prop := ∃ cs : Array Value, cs.size = 8 ∧ Blk w (g + 1 + 1) 26 cs
theorem Res.cells {w : World} {g : Nat} {t : TypeId} {cs : Array Value} (h : cs.size = 8) (hb : Blk w g t cs) : w.cell? ⟨g, 0, none⟩ = some (cs[0]'(by omega)) ∧ w.cell? ⟨g, 1, none⟩ = some (cs[1]'(by omega)) ∧ w.cell? ⟨g, 2, none⟩ = some (cs[2]'(by omega)) ∧ w.cell? ⟨g, 3, none⟩ = some (cs[3]'(by omega)) ∧ w.cell? ⟨g, 4, none⟩ = some (cs[4]'(by omega)) ∧ w.cell? ⟨g, 5, none⟩ = some (cs[5]'(by omega)) ∧ w.cell? ⟨g, 6, none⟩ = some (cs[6]'(by omega)) ∧ w.cell? ⟨g, 7, none⟩ = some (cs[7]'(by omega)) := by
  refine ⟨?_, ?_, ?_, ?_, ?_, ?_, ?_, ?_⟩ <;> (rw [hb.cell]; exact Array.getElem?_eq_getElem _)
theorem set8 {w : World} {g : Nat} {t : TypeId} {cs : Array Value} (x0 x1 x2 x3 x4 x5 x6 x7 : Value) (h : cs.size = 8) (hb : Blk w g t cs) :
    Blk ((((((((w.setCell ⟨g, 0, none⟩ x0).setCell ⟨g, 1, none⟩ x1).setCell ⟨g, 2, none⟩ x2).setCell ⟨g, 3, none⟩ x3).setCell ⟨g, 4, none⟩ x4).setCell ⟨g, 5, none⟩ x5).setCell ⟨g, 6, none⟩ x6).setCell ⟨g, 7, none⟩ x7) g t #[x0, x1, x2, x3, x4, x5, x6, x7] := by
  have e : (((((((cs.setIfInBounds 0 x0).setIfInBounds 1 x1).setIfInBounds 2 x2).setIfInBounds 3 x3).setIfInBounds 4 x4).setIfInBounds 5 x5).setIfInBounds 6 x6).setIfInBounds 7 x7 = #[x0, x1, x2, x3, x4, x5, x6, x7] := by
    obtain ⟨l⟩ := cs
    match l, h with
    | [a0, a1, a2, a3, a4, a5, a6, a7], _ => simp only [List.setIfInBounds_toArray, List.set_cons_zero, List.set_cons_succ]
  rw [← e]
  exact (((((((hb.set_ 0 x0).set_ 1 x1).set_ 2 x2).set_ 3 x3).set_ 4 x4).set_ 5 x5).set_ 6 x6).set_ 7 x7
theorem low8 {B : Nat} {W w : World} {g : Nat} (h : Below B W w) (hg : B ≤ g) (x0 x1 x2 x3 x4 x5 x6 x7 : Value) :
    Below B W ((((((((w.setCell ⟨g, 0, none⟩ x0).setCell ⟨g, 1, none⟩ x1).setCell ⟨g, 2, none⟩ x2).setCell ⟨g, 3, none⟩ x3).setCell ⟨g, 4, none⟩ x4).setCell ⟨g, 5, none⟩ x5).setCell ⟨g, 6, none⟩ x6).setCell ⟨g, 7, none⟩ x7) :=
  (((((((h.setCell (p := ⟨g, 0, none⟩) hg x0).setCell (p := ⟨g, 1, none⟩) hg x1).setCell (p := ⟨g, 2, none⟩) hg x2).setCell (p := ⟨g, 3, none⟩) hg x3).setCell (p := ⟨g, 4, none⟩) hg x4).setCell (p := ⟨g, 5, none⟩) hg x5).setCell (p := ⟨g, 6, none⟩) hg x6).setCell (p := ⟨g, 7, none⟩) hg x7
theorem Res.drew {g : Nat} {w : World} (h : Res g w) : Res g w.drew := by obtain ⟨cs, h1, h2⟩ := h; exact ⟨cs, h1, h2.drew⟩
theorem Res.step {g : Nat} {w w1 : World} (h : Hid (Res g w)) (hb : Below w.heap.size w w1) : Hid (Res g w1) := by obtain ⟨cs, h1, h2⟩ := h; exact ⟨cs, h1, h2.below hb h2.lt⟩
set_option maxRecDepth 100000 in
set_option maxHeartbeats 8000000 in
theorem told_any (w : World) (pl pt pb : Addr) (G : ByteArray → Int → Int) (hG : Tells w.heap.size w pl pt pb G) :
    Calls Tryd.prog 24 #[.agg dflt, fv pl pt pb] w fun e w' => e = .returned (toldP G) ∧ Below w.heap.size w w' := by
  have hT := Lib.hid hG
  have HL := Lib.hid (((below_lit w (.cells dflt 26)).alloc (by simp) (.cells #[fv pl pt pb] 53)).alloc (by simp; omega) (.cells zeroP 26))
  have HB1 := Lib.hid (((Blk.new w 26 dflt).alloc (.cells #[fv pl pt pb] 53)).alloc (.cells zeroP 26))
  have hB2 := (Blk.new (w.alloc (.cells dflt 26)) 53 #[fv pl pt pb]).alloc (.cells zeroP 26)
  have hB3 := Blk.new ((w.alloc (.cells dflt 26)).alloc (.cells #[fv pl pt pb] 53)) 26 zeroP
  rw [World.size_alloc] at hB2
  rw [World.size_alloc, World.size_alloc] at hB3
  have HB2 := Lib.hid hB2
  have HB3 := Lib.hid hB3
  clear hG hB2 hB3
  go_enter Tryd.func24, Tryd.ntmps24
  go_wp2_with fail
  generalize ((w.alloc (.cells dflt 26)).alloc (.cells #[fv pl pt pb] 53)).alloc (.cells zeroP 26) = w3 at *
  have hsz := HB3.out.lt
  have hres : Res w.heap.size w3 := ⟨zeroP, rfl, HB3.out⟩
  have test : (fun w' => w'.cell? (⟨w.heap.size, 0, none⟩) = some (.int .i64 3) ∧ w'.cell? (⟨w.heap.size, 1, none⟩) = some (.int .i64 2) ∧ w'.cell? (⟨w.heap.size, 2, none⟩) = some (.int .i64 2) ∧ w'.cell? (⟨w.heap.size, 3, none⟩) = some (.int .i64 0) ∧ w'.cell? (⟨w.heap.size, 4, none⟩) = some (.int .i64 0) ∧ w'.cell? (⟨w.heap.size, 5, none⟩) = some (.bool true) ∧ w'.cell? (⟨w.heap.size, 6, none⟩) = some (.bool true) ∧ w'.cell? (⟨w.heap.size, 7, none⟩) = some (.bool false) ∧ w'.cell? (⟨w.heap.size + 1, 0, none⟩) = some (fv pl pt pb) ∧ Hid (Kn (w.heap.size + 2) (w3) [(⟨w.heap.size, 0, none⟩, .int .i64 3), (⟨w.heap.size, 1, none⟩, .int .i64 2), (⟨w.heap.size, 2, none⟩, .int .i64 2), (⟨w.heap.size, 3, none⟩, .int .i64 0), (⟨w.heap.size, 4, none⟩, .int .i64 0), (⟨w.heap.size, 5, none⟩, .bool true), (⟨w.heap.size, 6, none⟩, .bool true), (⟨w.heap.size, 7, none⟩, .bool false), (⟨w.heap.size + 1, 0, none⟩, fv pl pt pb)] w')) w3.drew ∧ Hid (Res w.heap.size w3.drew) := ⟨Kn.drew_9 (Kn.new_9 (w0 := w3) (M := w.heap.size + 2) (p0 := ⟨w.heap.size, 0, none⟩) (p1 := ⟨w.heap.size, 1, none⟩) (p2 := ⟨w.heap.size, 2, none⟩) (p3 := ⟨w.heap.size, 3, none⟩) (p4 := ⟨w.heap.size, 4, none⟩) (p5 := ⟨w.heap.size, 5, none⟩) (p6 := ⟨w.heap.size, 6, none⟩) (p7 := ⟨w.heap.size, 7, none⟩) (p8 := ⟨w.heap.size + 1, 0, none⟩) (v0 := .int .i64 3) (v1 := .int .i64 2) (v2 := .int .i64 2) (v3 := .int .i64 0) (v4 := .int .i64 0) (v5 := .bool true) (v6 := .bool true) (v7 := .bool false) (v8 := fv pl pt pb) (by omega)
    (by rw [HB1.out.cell]; rfl) (by show w.heap.size < _; omega) (by rw [HB1.out.cell]; rfl) (by show w.heap.size < _; omega) (by rw [HB1.out.cell]; rfl) (by show w.heap.size < _; omega) (by rw [HB1.out.cell]; rfl) (by show w.heap.size < _; omega) (by rw [HB1.out.cell]; rfl) (by show w.heap.size < _; omega) (by rw [HB1.out.cell]; rfl) (by show w.heap.size < _; omega) (by rw [HB1.out.cell]; rfl) (by show w.heap.size < _; omega) (by rw [HB1.out.cell]; rfl) (by show w.heap.size < _; omega) (by rw [HB2.out.cell]; rfl) (by show w.heap.size + 1 < _; omega)), Res.drew hres⟩
  clear HB1 HB2 HB3 hres
  refine wp_region_held_drew (S := (fun w' => (fun w' => w'.cell? (⟨w.heap.size, 0, none⟩) = some (.int .i64 3) ∧ w'.cell? (⟨w.heap.size, 1, none⟩) = some (.int .i64 2) ∧ w'.cell? (⟨w.heap.size, 2, none⟩) = some (.int .i64 2) ∧ w'.cell? (⟨w.heap.size, 3, none⟩) = some (.int .i64 0) ∧ w'.cell? (⟨w.heap.size, 4, none⟩) = some (.int .i64 0) ∧ w'.cell? (⟨w.heap.size, 5, none⟩) = some (.bool true) ∧ w'.cell? (⟨w.heap.size, 6, none⟩) = some (.bool true) ∧ w'.cell? (⟨w.heap.size, 7, none⟩) = some (.bool false) ∧ w'.cell? (⟨w.heap.size + 1, 0, none⟩) = some (fv pl pt pb) ∧ Hid (Kn (w.heap.size + 2) (w3) [(⟨w.heap.size, 0, none⟩, .int .i64 3), (⟨w.heap.size, 1, none⟩, .int .i64 2), (⟨w.heap.size, 2, none⟩, .int .i64 2), (⟨w.heap.size, 3, none⟩, .int .i64 0), (⟨w.heap.size, 4, none⟩, .int .i64 0), (⟨w.heap.size, 5, none⟩, .bool true), (⟨w.heap.size, 6, none⟩, .bool true), (⟨w.heap.size, 7, none⟩, .bool false), (⟨w.heap.size + 1, 0, none⟩, fv pl pt pb)] w')) w' ∧ Hid (Res w.heap.size w'))) (by kernel_rfl) ?_ (fun hHeldp0 => ?_)
  · exact test
  refine wpAnyH_take (i := 0) (v := ?vp0) ops0 (by kernel_rfl) (by kernel_rfl) (by kernel_rfl) (fun _ _ _ h => h) (Or.inl ⟨by rfl, ?yp0⟩) hHeldp0 ?_
  case yp0 => (intro w hSw; (try dsimp only at hSw); go_simp; try (with_reducible rfl))
  try simp only [Act.put, List.setIfInBounds_toArray, List.set_cons_zero, List.set_cons_succ]
  refine wpAnyH_take (i := 1) (v := ?vp1) (opsS ops0) (by kernel_rfl) (by kernel_rfl) (by kernel_rfl) (fun _ _ _ h => h) (Or.inl ⟨by rfl, ?yp1⟩) hHeldp0 ?_
  case yp1 => (intro w hSw; (try dsimp only at hSw); go_simp; try (with_reducible rfl))
  try simp only [Act.put, List.setIfInBounds_toArray, List.set_cons_zero, List.set_cons_succ]
  refine wpAnyH_take (i := 2) (v := ?vp2) (opsS (opsS ops0)) (by kernel_rfl) (by kernel_rfl) (by kernel_rfl) (fun _ _ _ h => h) (Or.inl ⟨by rfl, ?yp2⟩) hHeldp0 ?_
  case yp2 => (intro w hSw; (try dsimp only at hSw); go_simp; try (with_reducible rfl))
  try simp only [Act.put, List.setIfInBounds_toArray, List.set_cons_zero, List.set_cons_succ]
  refine wpAnyH_take (i := 4) (v := ?vp4) (opsS (opsS (opsS (opsS ops0)))) (by kernel_rfl) (by kernel_rfl) (by kernel_rfl) (fun _ _ _ h => h) (Or.inl ⟨by rfl, ?yp4⟩) hHeldp0 ?_
  case yp4 => (intro w hSw; (try dsimp only at hSw); go_simp; try (with_reducible rfl))
  try simp only [Act.put, List.setIfInBounds_toArray, List.set_cons_zero, List.set_cons_succ]
  refine wpAnyH_take (i := 5) (v := ?vp5) (opsS (opsS (opsS (opsS (opsS ops0))))) (by kernel_rfl) (by kernel_rfl) (by kernel_rfl) (fun _ _ _ h => h) (Or.inl ⟨by rfl, ?yp5⟩) hHeldp0 ?_
  case yp5 => (intro w hSw; (try dsimp only at hSw); go_simp; try (with_reducible rfl))
  try simp only [Act.put, List.setIfInBounds_toArray, List.set_cons_zero, List.set_cons_succ]
  refine wpAnyH_take (i := 6) (v := ?vp6) (opsS (opsS (opsS (opsS (opsS (opsS ops0)))))) (by kernel_rfl) (by kernel_rfl) (by kernel_rfl) (fun _ _ _ h => h) (Or.inl ⟨by rfl, ?yp6⟩) hHeldp0 ?_
  case yp6 => (intro w hSw; (try dsimp only at hSw); go_simp; try (with_reducible rfl))
  try simp only [Act.put, List.setIfInBounds_toArray, List.set_cons_zero, List.set_cons_succ]
  refine wpAnyH_take (i := 8) (v := ?vp8) (opsS (opsS (opsS (opsS (opsS (opsS (opsS (opsS ops0)))))))) (by kernel_rfl) (by kernel_rfl) (by kernel_rfl) (fun _ _ _ h => h) (Or.inl ⟨by rfl, ?yp8⟩) hHeldp0 ?_
  case yp8 => (intro w hSw; (try dsimp only at hSw); go_simp; try (with_reducible rfl))
  try simp only [Act.put, List.setIfInBounds_toArray, List.set_cons_zero, List.set_cons_succ]
  refine wpAnyH_take (i := 9) (v := ?vp9) (opsS (opsS (opsS (opsS (opsS (opsS (opsS (opsS (opsS ops0))))))))) (by kernel_rfl) (by kernel_rfl) (by kernel_rfl) (fun _ _ _ h => h) (Or.inl ⟨by rfl, ?yp9⟩) hHeldp0 ?_
  case yp9 => (intro w hSw; (try dsimp only at hSw); go_simp; try (with_reducible rfl))
  try simp only [Act.put, List.setIfInBounds_toArray, List.set_cons_zero, List.set_cons_succ]
  refine wpAnyH_take (i := 10) (v := ?vp10) (opsS (opsS (opsS (opsS (opsS (opsS (opsS (opsS (opsS (opsS ops0)))))))))) (by kernel_rfl) (by kernel_rfl) (by kernel_rfl) (fun _ _ _ h => h) (Or.inl ⟨by rfl, ?yp10⟩) hHeldp0 ?_
  case yp10 => (intro w hSw; (try dsimp only at hSw); go_simp; try (with_reducible rfl))
  try simp only [Act.put, List.setIfInBounds_toArray, List.set_cons_zero, List.set_cons_succ]
  refine wpAnyH_take (i := 12) (v := ?vp12) (opsS (opsS (opsS (opsS (opsS (opsS (opsS (opsS (opsS (opsS (opsS (opsS ops0)))))))))))) (by kernel_rfl) (by kernel_rfl) (by kernel_rfl) (fun _ _ _ h => h) (Or.inl ⟨by rfl, ?yp12⟩) hHeldp0 ?_
  case yp12 => (intro w hSw; (try dsimp only at hSw); go_simp; try (with_reducible rfl))
  try simp only [Act.put, List.setIfInBounds_toArray, List.set_cons_zero, List.set_cons_succ]
  refine wpAnyH_take (i := 13) (v := ?vp13) (opsS (opsS (opsS (opsS (opsS (opsS (opsS (opsS (opsS (opsS (opsS (opsS (opsS ops0))))))))))))) (by kernel_rfl) (by kernel_rfl) (by kernel_rfl) (fun _ _ _ h => h) (Or.inl ⟨by rfl, ?yp13⟩) hHeldp0 ?_
  case yp13 => (intro w hSw; (try dsimp only at hSw); go_simp; try (with_reducible rfl))
  try simp only [Act.put, List.setIfInBounds_toArray, List.set_cons_zero, List.set_cons_succ]
  refine wpAnyH_take (i := 14) (v := ?vp14) (opsS (opsS (opsS (opsS (opsS (opsS (opsS (opsS (opsS (opsS (opsS (opsS (opsS (opsS ops0)))))))))))))) (by kernel_rfl) (by kernel_rfl) (by kernel_rfl) (fun _ _ _ h => h) (Or.inl ⟨by rfl, ?yp14⟩) hHeldp0 ?_
  case yp14 => (intro w hSw; (try dsimp only at hSw); go_simp; try (with_reducible rfl))
  try simp only [Act.put, List.setIfInBounds_toArray, List.set_cons_zero, List.set_cons_succ]
  refine wpAnyH_take (i := 16) (v := ?vp16) (opsS (opsS (opsS (opsS (opsS (opsS (opsS (opsS (opsS (opsS (opsS (opsS (opsS (opsS (opsS (opsS ops0)))))))))))))))) (by kernel_rfl) (by kernel_rfl) (by kernel_rfl) (fun _ _ _ h => h) (Or.inl ⟨by rfl, ?yp16⟩) hHeldp0 ?_
  case yp16 => (intro w hSw; (try dsimp only at hSw); go_simp; try (with_reducible rfl))
  try simp only [Act.put, List.setIfInBounds_toArray, List.set_cons_zero, List.set_cons_succ]
  refine wpAnyH_take (i := 17) (v := ?vp17) (opsS (opsS (opsS (opsS (opsS (opsS (opsS (opsS (opsS (opsS (opsS (opsS (opsS (opsS (opsS (opsS (opsS ops0))))))))))))))))) (by kernel_rfl) (by kernel_rfl) (by kernel_rfl) (fun _ _ _ h => h) (Or.inl ⟨by rfl, ?yp17⟩) hHeldp0 ?_
  case yp17 => (intro w hSw; (try dsimp only at hSw); go_simp; try (with_reducible rfl))
  try simp only [Act.put, List.setIfInBounds_toArray, List.set_cons_zero, List.set_cons_succ]
  refine wpAnyH_take (i := 18) (v := ?vp18) (opsS (opsS (opsS (opsS (opsS (opsS (opsS (opsS (opsS (opsS (opsS (opsS (opsS (opsS (opsS (opsS (opsS (opsS ops0)))))))))))))))))) (by kernel_rfl) (by kernel_rfl) (by kernel_rfl) (fun _ _ _ h => h) (Or.inl ⟨by rfl, ?yp18⟩) hHeldp0 ?_
  case yp18 => (intro w hSw; (try dsimp only at hSw); go_simp; try (with_reducible rfl))
  try simp only [Act.put, List.setIfInBounds_toArray, List.set_cons_zero, List.set_cons_succ]
  refine wpAnyH_take (i := 20) (v := ?vp20) (opsS (opsS (opsS (opsS (opsS (opsS (opsS (opsS (opsS (opsS (opsS (opsS (opsS (opsS (opsS (opsS (opsS (opsS (opsS (opsS ops0)))))))))))))))))))) (by kernel_rfl) (by kernel_rfl) (by kernel_rfl) (fun _ _ _ h => h) (Or.inl ⟨by rfl, ?yp20⟩) hHeldp0 ?_
  case yp20 => (intro w hSw; (try dsimp only at hSw); go_simp; try (with_reducible rfl))
  try simp only [Act.put, List.setIfInBounds_toArray, List.set_cons_zero, List.set_cons_succ]
  refine wpAnyH_take (i := 21) (v := ?vp21) (opsS (opsS (opsS (opsS (opsS (opsS (opsS (opsS (opsS (opsS (opsS (opsS (opsS (opsS (opsS (opsS (opsS (opsS (opsS (opsS (opsS ops0))))))))))))))))))))) (by kernel_rfl) (by kernel_rfl) (by kernel_rfl) (fun _ _ _ h => h) (Or.inl ⟨by rfl, ?yp21⟩) hHeldp0 ?_
  case yp21 => (intro w hSw; (try dsimp only at hSw); go_simp; try (with_reducible rfl))
  try simp only [Act.put, List.setIfInBounds_toArray, List.set_cons_zero, List.set_cons_succ]
  refine wpAnyH_take (i := 22) (v := ?vp22) (opsS (opsS (opsS (opsS (opsS (opsS (opsS (opsS (opsS (opsS (opsS (opsS (opsS (opsS (opsS (opsS (opsS (opsS (opsS (opsS (opsS (opsS ops0)))))))))))))))))))))) (by kernel_rfl) (by kernel_rfl) (by kernel_rfl) (fun _ _ _ h => h) (Or.inl ⟨by rfl, ?yp22⟩) hHeldp0 ?_
  case yp22 => (intro w hSw; (try dsimp only at hSw); go_simp; try (with_reducible rfl))
  try simp only [Act.put, List.setIfInBounds_toArray, List.set_cons_zero, List.set_cons_succ]
  refine wpAnyH_take (i := 24) (v := ?vp24) (opsS (opsS (opsS (opsS (opsS (opsS (opsS (opsS (opsS (opsS (opsS (opsS (opsS (opsS (opsS (opsS (opsS (opsS (opsS (opsS (opsS (opsS (opsS (opsS ops0)))))))))))))))))))))))) (by kernel_rfl) (by kernel_rfl) (by kernel_rfl) (fun _ _ _ h => h) (Or.inl ⟨by rfl, ?yp24⟩) hHeldp0 ?_
  case yp24 => (intro w hSw; (try dsimp only at hSw); go_simp; try (with_reducible rfl))
  try simp only [Act.put, List.setIfInBounds_toArray, List.set_cons_zero, List.set_cons_succ]
  refine wpAnyH_take (i := 25) (v := ?vp25) (opsS (opsS (opsS (opsS (opsS (opsS (opsS (opsS (opsS (opsS (opsS (opsS (opsS (opsS (opsS (opsS (opsS (opsS (opsS (opsS (opsS (opsS (opsS (opsS (opsS ops0))))))))))))))))))))))))) (by kernel_rfl) (by kernel_rfl) (by kernel_rfl) (fun _ _ _ h => h) (Or.inl ⟨by rfl, ?yp25⟩) hHeldp0 ?_
  case yp25 => (intro w hSw; (try dsimp only at hSw); go_simp; try (with_reducible rfl))
  try simp only [Act.put, List.setIfInBounds_toArray, List.set_cons_zero, List.set_cons_succ]
  refine wpAnyH_take (i := 26) (v := ?vp26) (opsS (opsS (opsS (opsS (opsS (opsS (opsS (opsS (opsS (opsS (opsS (opsS (opsS (opsS (opsS (opsS (opsS (opsS (opsS (opsS (opsS (opsS (opsS (opsS (opsS (opsS ops0)))))))))))))))))))))))))) (by kernel_rfl) (by kernel_rfl) (by kernel_rfl) (fun _ _ _ h => h) (Or.inl ⟨by rfl, ?yp26⟩) hHeldp0 ?_
  case yp26 => (intro w hSw; (try dsimp only at hSw); go_simp; try (with_reducible rfl))
  try simp only [Act.put, List.setIfInBounds_toArray, List.set_cons_zero, List.set_cons_succ]
  refine wpAnyH_take (i := 28) (v := ?vp28) (opsS (opsS (opsS (opsS (opsS (opsS (opsS (opsS (opsS (opsS (opsS (opsS (opsS (opsS (opsS (opsS (opsS (opsS (opsS (opsS (opsS (opsS (opsS (opsS (opsS (opsS (opsS (opsS ops0)))))))))))))))))))))))))))) (by kernel_rfl) (by kernel_rfl) (by kernel_rfl) (fun _ _ _ h => h) (Or.inl ⟨by rfl, ?yp28⟩) hHeldp0 ?_
  case yp28 => (intro w hSw; (try dsimp only at hSw); go_simp; try (with_reducible rfl))
  try simp only [Act.put, List.setIfInBounds_toArray, List.set_cons_zero, List.set_cons_succ]
  refine wpAnyH_take (i := 29) (v := ?vp29) (opsS (opsS (opsS (opsS (opsS (opsS (opsS (opsS (opsS (opsS (opsS (opsS (opsS (opsS (opsS (opsS (opsS (opsS (opsS (opsS (opsS (opsS (opsS (opsS (opsS (opsS (opsS (opsS (opsS ops0))))))))))))))))))))))))))))) (by kernel_rfl) (by kernel_rfl) (by kernel_rfl) (fun _ _ _ h => h) (Or.inl ⟨by rfl, ?yp29⟩) hHeldp0 ?_
  case yp29 => (intro w hSw; (try dsimp only at hSw); go_simp; try (with_reducible rfl))
  try simp only [Act.put, List.setIfInBounds_toArray, List.set_cons_zero, List.set_cons_succ]
  refine wpAnyH_take (i := 30) (v := ?vp30) (opsS (opsS (opsS (opsS (opsS (opsS (opsS (opsS (opsS (opsS (opsS (opsS (opsS (opsS (opsS (opsS (opsS (opsS (opsS (opsS (opsS (opsS (opsS (opsS (opsS (opsS (opsS (opsS (opsS (opsS ops0)))))))))))))))))))))))))))))) (by kernel_rfl) (by kernel_rfl) (by kernel_rfl) (fun _ _ _ h => h) (Or.inl ⟨by rfl, ?yp30⟩) hHeldp0 ?_
  case yp30 => (intro w hSw; (try dsimp only at hSw); go_simp; try (with_reducible rfl))
  try simp only [Act.put, List.setIfInBounds_toArray, List.set_cons_zero, List.set_cons_succ]
  refine wpAnyH_ready (rs := [3]) (by kernel_rfl) (by simp) ?_
  refine AllReadyH.cons (opsS (opsS (opsS ops0))) (fun K hK => ?_) AllReadyH.nil
  go_simp
  refine (hT.out _ fN 3 (by decide) (HL.out.trans (hHeldp0.1.2.2.2.2.2.2.2.2.2.low.mono (by omega)))).mono ?_; rintro e w' ⟨rfl, hb⟩
  try dsimp only
  refine hK.out _ _ ?_ (fun hHeldp1 => ?_)
  · (first | (exact ⟨Kn.far_9 hkn (low8 hkn.low (by omega : w.heap.size + 2 ≤ w.heap.size + 1 + 1) _ _ _ _ _ _ _ _), ⟨_, rfl, h8.out⟩⟩) | assumption | (go_split_ands; exact ⟨Kn.step_9 (by assumption) (by assumption), Res.step (by assumption) (by assumption)⟩) | (go_split_ands; exact ⟨Kn.drew_9 (by assumption), Res.drew (by assumption)⟩))
  clear hK K hHeldp0
  try clear hb
  try simp only [Act.put, List.setIfInBounds_toArray, List.set_cons_zero, List.set_cons_succ]
  refine wpAnyH_ready (rs := [7]) (by kernel_rfl) (by simp) ?_
  refine AllReadyH.cons (opsS (opsS (opsS (opsS (opsS (opsS (opsS ops0))))))) (fun K hK => ?_) AllReadyH.nil
  go_simp
  refine (hT.out _ fR 2 (by decide) (HL.out.trans (hHeldp1.1.2.2.2.2.2.2.2.2.2.low.mono (by omega)))).mono ?_; rintro e w' ⟨rfl, hb⟩
  try dsimp only
  refine hK.out _ _ ?_ (fun hHeldp2 => ?_)
  · (first | (exact ⟨Kn.far_9 hkn (low8 hkn.low (by omega : w.heap.size + 2 ≤ w.heap.size + 1 + 1) _ _ _ _ _ _ _ _), ⟨_, rfl, h8.out⟩⟩) | assumption | (go_split_ands; exact ⟨Kn.step_9 (by assumption) (by assumption), Res.step (by assumption) (by assumption)⟩) | (go_split_ands; exact ⟨Kn.drew_9 (by assumption), Res.drew (by assumption)⟩))
  clear hK K hHeldp1
  try clear hb
  try simp only [Act.put, List.setIfInBounds_toArray, List.set_cons_zero, List.set_cons_succ]
  refine wpAnyH_ready (rs := [11]) (by kernel_rfl) (by simp) ?_
  refine AllReadyH.cons (opsS (opsS (opsS (opsS (opsS (opsS (opsS (opsS (opsS (opsS (opsS ops0))))))))))) (fun K hK => ?_) AllReadyH.nil
  go_simp
  refine (hT.out _ fW 2 (by decide) (HL.out.trans (hHeldp2.1.2.2.2.2.2.2.2.2.2.low.mono (by omega)))).mono ?_; rintro e w' ⟨rfl, hb⟩
  try dsimp only
  refine hK.out _ _ ?_ (fun hHeldp3 => ?_)
  · (first | (exact ⟨Kn.far_9 hkn (low8 hkn.low (by omega : w.heap.size + 2 ≤ w.heap.size + 1 + 1) _ _ _ _ _ _ _ _), ⟨_, rfl, h8.out⟩⟩) | assumption | (go_split_ands; exact ⟨Kn.step_9 (by assumption) (by assumption), Res.step (by assumption) (by assumption)⟩) | (go_split_ands; exact ⟨Kn.drew_9 (by assumption), Res.drew (by assumption)⟩))
  clear hK K hHeldp2
  try clear hb
  try simp only [Act.put, List.setIfInBounds_toArray, List.set_cons_zero, List.set_cons_succ]
  refine wpAnyH_ready (rs := [15]) (by kernel_rfl) (by simp) ?_
  refine AllReadyH.cons (opsS (opsS (opsS (opsS (opsS (opsS (opsS (opsS (opsS (opsS (opsS (opsS (opsS (opsS (opsS ops0))))))))))))))) (fun K hK => ?_) AllReadyH.nil
  go_simp
  refine (hT.out _ fPR 0 (by decide) (HL.out.trans (hHeldp3.1.2.2.2.2.2.2.2.2.2.low.mono (by omega)))).mono ?_; rintro e w' ⟨rfl, hb⟩
  try dsimp only
  refine hK.out _ _ ?_ (fun hHeldp4 => ?_)
  · (first | (exact ⟨Kn.far_9 hkn (low8 hkn.low (by omega : w.heap.size + 2 ≤ w.heap.size + 1 + 1) _ _ _ _ _ _ _ _), ⟨_, rfl, h8.out⟩⟩) | assumption | (go_split_ands; exact ⟨Kn.step_9 (by assumption) (by assumption), Res.step (by assumption) (by assumption)⟩) | (go_split_ands; exact ⟨Kn.drew_9 (by assumption), Res.drew (by assumption)⟩))
  clear hK K hHeldp3
  try clear hb
  try simp only [Act.put, List.setIfInBounds_toArray, List.set_cons_zero, List.set_cons_succ]
  refine wpAnyH_ready (rs := [19]) (by kernel_rfl) (by simp) ?_
  refine AllReadyH.cons (opsS (opsS (opsS (opsS (opsS (opsS (opsS (opsS (opsS (opsS (opsS (opsS (opsS (opsS (opsS (opsS (opsS (opsS (opsS ops0))))))))))))))))))) (fun K hK => ?_) AllReadyH.nil
  go_simp
  refine (hT.out _ fPW 0 (by decide) (HL.out.trans (hHeldp4.1.2.2.2.2.2.2.2.2.2.low.mono (by omega)))).mono ?_; rintro e w' ⟨rfl, hb⟩
  try dsimp only
  refine hK.out _ _ ?_ (fun hHeldp5 => ?_)
  · (first | (exact ⟨Kn.far_9 hkn (low8 hkn.low (by omega : w.heap.size + 2 ≤ w.heap.size + 1 + 1) _ _ _ _ _ _ _ _), ⟨_, rfl, h8.out⟩⟩) | assumption | (go_split_ands; exact ⟨Kn.step_9 (by assumption) (by assumption), Res.step (by assumption) (by assumption)⟩) | (go_split_ands; exact ⟨Kn.drew_9 (by assumption), Res.drew (by assumption)⟩))
  clear hK K hHeldp4
  try clear hb
  try simp only [Act.put, List.setIfInBounds_toArray, List.set_cons_zero, List.set_cons_succ]
  refine wpAnyH_ready (rs := [23]) (by kernel_rfl) (by simp) ?_
  refine AllReadyH.cons (opsS (opsS (opsS (opsS (opsS (opsS (opsS (opsS (opsS (opsS (opsS (opsS (opsS (opsS (opsS (opsS (opsS (opsS (opsS (opsS (opsS (opsS (opsS ops0))))))))))))))))))))))) (fun K hK => ?_) AllReadyH.nil
  go_simp
  refine (truth_any _ pl pt pb ⟨w.heap.size + 1, 0, none⟩ G (hT.out.on (HL.out.trans (hHeldp5.1.2.2.2.2.2.2.2.2.2.low.mono (by omega))) (HL.out.trans (hHeldp5.1.2.2.2.2.2.2.2.2.2.low.mono (by omega))).size) fSev true 1 rfl (by decide) hHeldp5.1.2.2.2.2.2.2.2.2.1).mono ?_; rintro e w' ⟨rfl, hb⟩
  try dsimp only
  refine hK.out _ _ ?_ (fun hHeldp6 => ?_)
  · (first | (exact ⟨Kn.far_9 hkn (low8 hkn.low (by omega : w.heap.size + 2 ≤ w.heap.size + 1 + 1) _ _ _ _ _ _ _ _), ⟨_, rfl, h8.out⟩⟩) | assumption | (go_split_ands; exact ⟨Kn.step_9 (by assumption) (by assumption), Res.step (by assumption) (by assumption)⟩) | (go_split_ands; exact ⟨Kn.drew_9 (by assumption), Res.drew (by assumption)⟩))
  clear hK K hHeldp5
  try clear hb
  try simp only [Act.put, List.setIfInBounds_toArray, List.set_cons_zero, List.set_cons_succ]
  refine wpAnyH_ready (rs := [27]) (by kernel_rfl) (by simp) ?_
  refine AllReadyH.cons (opsS (opsS (opsS (opsS (opsS (opsS (opsS (opsS (opsS (opsS (opsS (opsS (opsS (opsS (opsS (opsS (opsS (opsS (opsS (opsS (opsS (opsS (opsS (opsS (opsS (opsS (opsS ops0))))))))))))))))))))))))))) (fun K hK => ?_) AllReadyH.nil
  go_simp
  refine (truth_any _ pl pt pb ⟨w.heap.size + 1, 0, none⟩ G (hT.out.on (HL.out.trans (hHeldp6.1.2.2.2.2.2.2.2.2.2.low.mono (by omega))) (HL.out.trans (hHeldp6.1.2.2.2.2.2.2.2.2.2.low.mono (by omega))).size) fMis true 1 rfl (by decide) hHeldp6.1.2.2.2.2.2.2.2.2.1).mono ?_; rintro e w' ⟨rfl, hb⟩
  try dsimp only
  refine hK.out _ _ ?_ (fun hHeldp7 => ?_)
  · (first | (exact ⟨Kn.far_9 hkn (low8 hkn.low (by omega : w.heap.size + 2 ≤ w.heap.size + 1 + 1) _ _ _ _ _ _ _ _), ⟨_, rfl, h8.out⟩⟩) | assumption | (go_split_ands; exact ⟨Kn.step_9 (by assumption) (by assumption), Res.step (by assumption) (by assumption)⟩) | (go_split_ands; exact ⟨Kn.drew_9 (by assumption), Res.drew (by assumption)⟩))
  clear hK K hHeldp6
  try clear hb
  try simp only [Act.put, List.setIfInBounds_toArray, List.set_cons_zero, List.set_cons_succ]
  refine wpAnyH_ready (rs := [31]) (by kernel_rfl) (by simp) ?_
  refine AllReadyH.cons (opsS (opsS (opsS (opsS (opsS (opsS (opsS (opsS (opsS (opsS (opsS (opsS (opsS (opsS (opsS (opsS (opsS (opsS (opsS (opsS (opsS (opsS (opsS (opsS (opsS (opsS (opsS (opsS (opsS (opsS (opsS ops0))))))))))))))))))))))))))))))) (fun K hK => ?_) AllReadyH.nil
  go_simp
  refine (truth_any _ pl pt pb ⟨w.heap.size + 1, 0, none⟩ G (hT.out.on (HL.out.trans (hHeldp7.1.2.2.2.2.2.2.2.2.2.low.mono (by omega))) (HL.out.trans (hHeldp7.1.2.2.2.2.2.2.2.2.2.low.mono (by omega))).size) fBas false 0 rfl (by decide) hHeldp7.1.2.2.2.2.2.2.2.2.1).mono ?_; rintro e w' ⟨rfl, hb⟩
  try dsimp only
  refine hK.out _ _ ?_ (fun hHeldp8 => ?_)
  · (first | (exact ⟨Kn.far_9 hkn (low8 hkn.low (by omega : w.heap.size + 2 ≤ w.heap.size + 1 + 1) _ _ _ _ _ _ _ _), ⟨_, rfl, h8.out⟩⟩) | assumption | (go_split_ands; exact ⟨Kn.step_9 (by assumption) (by assumption), Res.step (by assumption) (by assumption)⟩) | (go_split_ands; exact ⟨Kn.drew_9 (by assumption), Res.drew (by assumption)⟩))
  clear hK K hHeldp7
  try clear hb
  try simp only [Act.put, List.setIfInBounds_toArray, List.set_cons_zero, List.set_cons_succ]
  refine wpAnyH_take (i := 32) (v := ?vp32) (opsS (opsS (opsS (opsS (opsS (opsS (opsS (opsS (opsS (opsS (opsS (opsS (opsS (opsS (opsS (opsS (opsS (opsS (opsS (opsS (opsS (opsS (opsS (opsS (opsS (opsS (opsS (opsS (opsS (opsS (opsS (opsS ops0)))))))))))))))))))))))))))))))) (by kernel_rfl) (by kernel_rfl) (by kernel_rfl) (fun _ _ _ h => h) (Or.inl ⟨by rfl, ?yp32⟩) hHeldp8 ?_
  case yp32 => (intro w hSw; (try dsimp only at hSw); go_simp; try (with_reducible rfl))
  try simp only [Act.put, List.setIfInBounds_toArray, List.set_cons_zero, List.set_cons_succ]
  refine wpAnyH_ready (rs := [33]) (by kernel_rfl) (by simp) ?_
  refine AllReadyH.cons (opsS (opsS (opsS (opsS (opsS (opsS (opsS (opsS (opsS (opsS (opsS (opsS (opsS (opsS (opsS (opsS (opsS (opsS (opsS (opsS (opsS (opsS (opsS (opsS (opsS (opsS (opsS (opsS (opsS (opsS (opsS (opsS (opsS ops0))))))))))))))))))))))))))))))))) (fun K hK => ?_) AllReadyH.nil
  obtain ⟨cs, hcs, hbk⟩ := hHeldp8.2; have f0 := hbk.frozen 0; have f1 := hbk.frozen 1; have f2 := hbk.frozen 2; have f3 := hbk.frozen 3; have f4 := hbk.frozen 4; have f5 := hbk.frozen 5; have f6 := hbk.frozen 6; have f7 := hbk.frozen 7; obtain ⟨e0, e1, e2, e3, e4, e5, e6, e7⟩ := Res.cells hcs hbk; go_simp; have h8 := Lib.hid (set8 (.int .i64 (G fN 3)) (.int .i64 (G fR 2)) (.int .i64 (G fW 2)) (.int .i64 (G fPR 0)) (.int .i64 (G fPW 0)) (.bool (G fSev 1 == 1)) (.bool (G fMis 1 == 1)) (.bool (G fBas 0 == 1)) hcs hbk); have hlf := Lib.hid (low8 (HL.out.trans (hHeldp8.1.2.2.2.2.2.2.2.2.2.low.mono (by omega))) (by omega : w.heap.size ≤ w.heap.size + 1 + 1) (.int .i64 (G fN 3)) (.int .i64 (G fR 2)) (.int .i64 (G fW 2)) (.int .i64 (G fPR 0)) (.int .i64 (G fPW 0)) (.bool (G fSev 1 == 1)) (.bool (G fMis 1 == 1)) (.bool (G fBas 0 == 1))); have hkn := hHeldp8.1.2.2.2.2.2.2.2.2.2
  try dsimp only
  refine hK.out _ _ ?_ (fun hHeldp9 => ?_)
  · (first | (exact ⟨Kn.far_9 hkn (low8 hkn.low (by omega : w.heap.size + 2 ≤ w.heap.size + 1 + 1) _ _ _ _ _ _ _ _), ⟨_, rfl, h8.out⟩⟩) | assumption | (go_split_ands; exact ⟨Kn.step_9 (by assumption) (by assumption), Res.step (by assumption) (by assumption)⟩) | (go_split_ands; exact ⟨Kn.drew_9 (by assumption), Res.drew (by assumption)⟩))
  clear hK K hHeldp8
  try clear hb
  try simp only [Act.put, List.setIfInBounds_toArray, List.set_cons_zero, List.set_cons_succ]
  refine wpAnyH_done (by kernel_rfl) ?_ _
  clear hHeldp9 test
  go_wp2
  exact bodyPost_ret (v := toldP G) (by have r0 := h8.out.cell 0; have r1 := h8.out.cell 1; have r2 := h8.out.cell 2; have r3 := h8.out.cell 3; have r4 := h8.out.cell 4; have r5 := h8.out.cell 5; have r6 := h8.out.cell 6; have r7 := h8.out.cell 7; simp [results, Tryd.results24, go_sem, r0, r1, r2, r3, r4, r5, r6, r7, toldP]) rfl ⟨rfl, hlf.out⟩
end Go.Proofs.YtknpbeekdjghgaaDoor.pp
