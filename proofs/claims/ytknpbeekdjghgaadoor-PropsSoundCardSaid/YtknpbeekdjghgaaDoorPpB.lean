/- Whether properties may be, and whether they are strict: the package's and the reference's. -/
import Derived.Test.YtknpbeekdjghgaaDoorPpA
namespace Go.Proofs.YtknpbeekdjghgaaDoor.pp
open Go.ChangeShapes Go.WideShapes Go.ChangeAt Go.RowKit Go.Proofs.Aid
structure Pr where
  n : Int
  r : Int
  w : Int
  pr : Int
  pw : Int
  s : Bool
  m : Bool
  b : Bool
@[reducible] def Pr.val (p : Pr) : Value := .agg #[.int .i64 p.n, .int .i64 p.r, .int .i64 p.w, .int .i64 p.pr, .int .i64 p.pw, .bool p.s, .bool p.m, .bool p.b]
abbrev prCells (n r w pr pw : Int) (s m b : Bool) : Array Value := #[.int .i64 n, .int .i64 r, .int .i64 w, .int .i64 pr, .int .i64 pw, .bool s, .bool m, .bool b]
def okP (n r w pr pw : Int) : Bool := mayF fN n && mayF fR r && mayF fW w && mayF fPR pr && mayF fPW pw && decide (r ≤ n ∧ w ≤ n ∧ pr ≤ n ∧ pw ≤ n)
def checkP (n r w pr pw : Int) : Int := if okP n r w pr pw then 0 else 1
def strictP (n r w pr pw : Int) : Bool := okP n r w pr pw && decide (n < pr + pw)
theorem may_small {f : ByteArray} {n : Int} (h : mayF f n = true) : 0 ≤ n ∧ n ≤ 16 := by
  unfold mayF at h
  split at h
  · simp at h; omega
  · split at h
    · simp at h; omega
    · split at h
      · simp at h; omega
      · cases h
theorem run_max4 (P : Program) (w : World) (ts : Array TypeId) (t : TypeId) (a b c d : Int) : (Builtin.max_ ts t #[.int .i64 a, .int .i64 b, .int .i64 c, .int .i64 d]).run P w = .ok (.int .i64 (max (max (max a b) c) d)) w := by
  have e : ∀ x y : Int, (if y > x then y else x) = max x y := fun x y => by
    rw [Int.max_def]
    split <;> split <;> omega
  simp [Builtin.max_, Builtin.max2, e]
set_option maxHeartbeats 4000000 in
theorem check_any (n r q pr pw : Int) (s m b : Bool) (w : World) : Calls Tryd.prog 15 #[.agg (prCells n r q pr pw s m b)] w fun e w' => e = .returned (.int .i64 (checkP n r q pr pw)) ∧ Below w.heap.size w w' := by
  have HB := Lib.hid (Blk.new w 26 (prCells n r q pr pw s m b))
  have HL := Lib.hid (below_lit w (.cells (prCells n r q pr pw s m b) 26))
  have hO := Lib.hid (show okP n r q pr pw = (mayF fN n && mayF fR r && mayF fW q && mayF fPR pr && mayF fPW pw && decide (r ≤ n ∧ q ≤ n ∧ pr ≤ n ∧ pw ≤ n)) from rfl)
  have hC : Hid (okP n r q pr pw = false → checkP n r q pr pw = 1) := fun h => by unfold checkP; rw [h]; rfl
  have hC0 : Hid (okP n r q pr pw = true → checkP n r q pr pw = 0) := fun h => by unfold checkP; rw [h]; rfl
  have m1 := Lib.hid (fun w => may_any fN n w)
  have m2 := Lib.hid (fun w => may_any fR r w)
  have m3 := Lib.hid (fun w => may_any fW q w)
  have m4 := Lib.hid (fun w => may_any fPR pr w)
  have m5 := Lib.hid (fun w => may_any fPW pw w)
  have z1 := Lib.hid (@may_small fN n)
  have z2 := Lib.hid (@may_small fR r)
  have z3 := Lib.hid (@may_small fW q)
  have z4 := Lib.hid (@may_small fPR pr)
  have z5 := Lib.hid (@may_small fPW pw)
  generalize mayF fN n = a1 at *
  generalize mayF fR r = a2 at *
  generalize mayF fW q = a3 at *
  generalize mayF fPR pr = a4 at *
  generalize mayF fPW pw = a5 at *
  go_enter Tryd.func15, Tryd.ntmps15
  go_wp2_with fail
  generalize w.alloc (.cells (prCells n r q pr pw s m b) 26) = w2 at *
  have d0 : w2.cell? ⟨w.heap.size, 0, none⟩ = some (.int .i64 n) := by rw [HB.out.cell]; rfl
  have d1 : w2.cell? ⟨w.heap.size, 1, none⟩ = some (.int .i64 r) := by rw [HB.out.cell]; rfl
  have d2 : w2.cell? ⟨w.heap.size, 2, none⟩ = some (.int .i64 q) := by rw [HB.out.cell]; rfl
  have d3 : w2.cell? ⟨w.heap.size, 3, none⟩ = some (.int .i64 pr) := by rw [HB.out.cell]; rfl
  have d4 : w2.cell? ⟨w.heap.size, 4, none⟩ = some (.int .i64 pw) := by rw [HB.out.cell]; rfl
  refine (m1.out w2).mono ?_
  rintro e w3 ⟨rfl, rfl⟩
  cases a1 with
  | false => (have hR := Lib.hid (hC.out (by rw [hO.out]; simp)); clear hC hO; go_wp2; go_ret; exact ⟨ret_int hR.out.symm, HL.out⟩)
  | true =>
  go_wp2_with fail
  refine (m2.out _).mono ?_
  rintro e w4 ⟨rfl, rfl⟩
  cases a2 with
  | false => (have hR := Lib.hid (hC.out (by rw [hO.out]; simp)); clear hC hO; go_wp2; go_ret; exact ⟨ret_int hR.out.symm, HL.out⟩)
  | true =>
  go_wp2_with fail
  refine (m3.out _).mono ?_
  rintro e w5 ⟨rfl, rfl⟩
  cases a3 with
  | false => (have hR := Lib.hid (hC.out (by rw [hO.out]; simp)); clear hC hO; go_wp2; go_ret; exact ⟨ret_int hR.out.symm, HL.out⟩)
  | true =>
  go_wp2_with fail
  refine (m4.out _).mono ?_
  rintro e w6 ⟨rfl, rfl⟩
  cases a4 with
  | false => (have hR := Lib.hid (hC.out (by rw [hO.out]; simp)); clear hC hO; go_wp2; go_ret; exact ⟨ret_int hR.out.symm, HL.out⟩)
  | true =>
  go_wp2_with fail
  refine (m5.out _).mono ?_
  rintro e w7 ⟨rfl, rfl⟩
  cases a5 with
  | false => (have hR := Lib.hid (hC.out (by rw [hO.out]; simp)); clear hC hO; go_wp2; go_ret; exact ⟨ret_int hR.out.symm, HL.out⟩)
  | true =>
  have y1 := z1.out (by trivial)
  have y2 := z2.out (by trivial)
  have y3 := z3.out (by trivial)
  have y4 := z4.out (by trivial)
  have y5 := z5.out (by trivial)
  by_cases hx : r ≤ n ∧ q ≤ n ∧ pr ≤ n ∧ pw ≤ n
  · have hR := Lib.hid (hC0.out (by rw [hO.out]; simp [hx]))
    have hmx : max (max (max r q) pr) pw ≤ n := by omega
    have HM4 := Lib.hid (fun w ts t => run_max4 Tryd.prog w ts t r q pr pw)
    generalize max (max (max r q) pr) pw = mx at *
    have hm4 := HM4.out
    have hlt : (decide (n < mx)) = false := by simp; omega
    clear hC hC0 hO z1 z2 z3 z4 z5 hx
    go_wp2
    go_ret
    exact ⟨ret_int hR.out.symm, HL.out⟩
  · have hR := Lib.hid (hC.out (by rw [hO.out]; simp only [hx]; rfl))
    have hmx : n < max (max (max r q) pr) pw := by omega
    have HM4 := Lib.hid (fun w ts t => run_max4 Tryd.prog w ts t r q pr pw)
    generalize max (max (max r q) pr) pw = mx at *
    have hm4 := HM4.out
    have hlt : (decide (n < mx)) = true := by simp; omega
    clear hC hC0 hO z1 z2 z3 z4 z5 hx
    go_wp2
    go_ret
    exact ⟨ret_int hR.out.symm, HL.out⟩
set_option maxHeartbeats 4000000 in
theorem rcheck_any (n r q pr pw : Int) (s m b : Bool) (w : World) : Calls Tryd.prog 16 #[.agg (prCells n r q pr pw s m b)] w fun e w' => e = .returned (.int .i64 (checkP n r q pr pw)) ∧ Below w.heap.size w w' := by
  have HB := Lib.hid (Blk.new w 26 (prCells n r q pr pw s m b))
  have HL := Lib.hid (below_lit w (.cells (prCells n r q pr pw s m b) 26))
  have hO := Lib.hid (show okP n r q pr pw = (mayF fN n && mayF fR r && mayF fW q && mayF fPR pr && mayF fPW pw && decide (r ≤ n ∧ q ≤ n ∧ pr ≤ n ∧ pw ≤ n)) from rfl)
  have hC : Hid (okP n r q pr pw = false → checkP n r q pr pw = 1) := fun h => by unfold checkP; rw [h]; rfl
  have hC0 : Hid (okP n r q pr pw = true → checkP n r q pr pw = 0) := fun h => by unfold checkP; rw [h]; rfl
  have m1 := Lib.hid (fun w => rmay_any fN n w)
  have m2 := Lib.hid (fun w => rmay_any fR r w)
  have m3 := Lib.hid (fun w => rmay_any fW q w)
  have m4 := Lib.hid (fun w => rmay_any fPR pr w)
  have m5 := Lib.hid (fun w => rmay_any fPW pw w)
  have z1 := Lib.hid (@may_small fN n)
  have z2 := Lib.hid (@may_small fR r)
  have z3 := Lib.hid (@may_small fW q)
  have z4 := Lib.hid (@may_small fPR pr)
  have z5 := Lib.hid (@may_small fPW pw)
  generalize mayF fN n = a1 at *
  generalize mayF fR r = a2 at *
  generalize mayF fW q = a3 at *
  generalize mayF fPR pr = a4 at *
  generalize mayF fPW pw = a5 at *
  go_enter Tryd.func16, Tryd.ntmps16
  go_wp2_with fail
  generalize w.alloc (.cells (prCells n r q pr pw s m b) 26) = w2 at *
  have d0 : w2.cell? ⟨w.heap.size, 0, none⟩ = some (.int .i64 n) := by rw [HB.out.cell]; rfl
  have d1 : w2.cell? ⟨w.heap.size, 1, none⟩ = some (.int .i64 r) := by rw [HB.out.cell]; rfl
  have d2 : w2.cell? ⟨w.heap.size, 2, none⟩ = some (.int .i64 q) := by rw [HB.out.cell]; rfl
  have d3 : w2.cell? ⟨w.heap.size, 3, none⟩ = some (.int .i64 pr) := by rw [HB.out.cell]; rfl
  have d4 : w2.cell? ⟨w.heap.size, 4, none⟩ = some (.int .i64 pw) := by rw [HB.out.cell]; rfl
  refine (m1.out w2).mono ?_
  rintro e w3 ⟨rfl, rfl⟩
  cases a1 with
  | false => (have hR := Lib.hid (hC.out (by rw [hO.out]; simp)); clear hC hO; go_wp2; go_ret; exact ⟨ret_int hR.out.symm, HL.out⟩)
  | true =>
  go_wp2_with fail
  refine (m2.out _).mono ?_
  rintro e w4 ⟨rfl, rfl⟩
  cases a2 with
  | false => (have hR := Lib.hid (hC.out (by rw [hO.out]; simp)); clear hC hO; go_wp2; go_ret; exact ⟨ret_int hR.out.symm, HL.out⟩)
  | true =>
  go_wp2_with fail
  refine (m3.out _).mono ?_
  rintro e w5 ⟨rfl, rfl⟩
  cases a3 with
  | false => (have hR := Lib.hid (hC.out (by rw [hO.out]; simp)); clear hC hO; go_wp2; go_ret; exact ⟨ret_int hR.out.symm, HL.out⟩)
  | true =>
  go_wp2_with fail
  refine (m4.out _).mono ?_
  rintro e w6 ⟨rfl, rfl⟩
  cases a4 with
  | false => (have hR := Lib.hid (hC.out (by rw [hO.out]; simp)); clear hC hO; go_wp2; go_ret; exact ⟨ret_int hR.out.symm, HL.out⟩)
  | true =>
  go_wp2_with fail
  refine (m5.out _).mono ?_
  rintro e w7 ⟨rfl, rfl⟩
  cases a5 with
  | false => (have hR := Lib.hid (hC.out (by rw [hO.out]; simp)); clear hC hO; go_wp2; go_ret; exact ⟨ret_int hR.out.symm, HL.out⟩)
  | true =>
  have y1 := z1.out (by trivial)
  have y2 := z2.out (by trivial)
  have y3 := z3.out (by trivial)
  have y4 := z4.out (by trivial)
  have y5 := z5.out (by trivial)
  clear z1 z2 z3 z4 z5
  by_cases x1 : r ≤ n
  case neg =>
    have hR := Lib.hid (hC.out (by rw [hO.out]; simp [x1]))
    clear hC hC0 hO
    go_wp2
    go_ret
    exact ⟨ret_int hR.out.symm, HL.out⟩
  by_cases x2 : q ≤ n
  case neg =>
    have hR := Lib.hid (hC.out (by rw [hO.out]; simp [x2]))
    clear hC hC0 hO
    go_wp2
    go_ret
    exact ⟨ret_int hR.out.symm, HL.out⟩
  by_cases x3 : pr ≤ n
  case neg =>
    have hR := Lib.hid (hC.out (by rw [hO.out]; simp [x3]))
    clear hC hC0 hO
    go_wp2
    go_ret
    exact ⟨ret_int hR.out.symm, HL.out⟩
  by_cases x4 : pw ≤ n
  case neg =>
    have hR := Lib.hid (hC.out (by rw [hO.out]; simp [x4]))
    clear hC hC0 hO
    go_wp2
    go_ret
    exact ⟨ret_int hR.out.symm, HL.out⟩
  have hR := Lib.hid (hC0.out (by rw [hO.out]; simp [x1, x2, x3, x4]))
  clear hC hC0 hO
  go_wp2
  go_ret
  exact ⟨ret_int hR.out.symm, HL.out⟩
set_option maxHeartbeats 4000000 in
theorem strict_any (n r q pr pw : Int) (s m b : Bool) (w : World) : Calls Tryd.prog 17 #[.agg (prCells n r q pr pw s m b)] w fun e w' => e = .returned (.bool (strictP n r q pr pw)) ∧ Below w.heap.size w w' := by
  have HB := Lib.hid (Blk.new w 26 (prCells n r q pr pw s m b))
  have HL := Lib.hid (below_lit w (.cells (prCells n r q pr pw s m b) 26))
  have hc := Lib.hid (fun w => check_any n r q pr pw s m b w)
  have hS := Lib.hid (show strictP n r q pr pw = (okP n r q pr pw && decide (n < pr + pw)) from rfl)
  cases ho : okP n r q pr pw with
  | false =>
    have hR := Lib.hid (show strictP n r q pr pw = false by rw [hS.out, ho]; rfl)
    have hcv : checkP n r q pr pw = 1 := by unfold checkP; rw [ho]; rfl
    rw [hcv] at hc
    clear hS ho hcv
    go_enter Tryd.func17, Tryd.ntmps17
    go_wp2_with fail
    generalize w.alloc (.cells (prCells n r q pr pw s m b) 26) = w2 at *
    refine (hc.out w2).mono ?_
    rintro e w3 ⟨rfl, hb⟩
    have hb3 := Lib.hid (HL.out.trans (hb.mono HL.out.size))
    clear hb
    go_wp2
    go_ret
    exact ⟨ret_bool hR.out.symm, hb3.out⟩
  | true =>
    have hR := Lib.hid (show strictP n r q pr pw = decide (n < pr + pw) by rw [hS.out, ho]; rfl)
    have hcv : checkP n r q pr pw = 0 := by unfold checkP; rw [ho]; rfl
    rw [hcv] at hc
    obtain ⟨⟨⟨⟨⟨h1, h2⟩, h3⟩, h4⟩, h5⟩, -⟩ : ((((mayF fN n = true ∧ mayF fR r = true) ∧ mayF fW q = true) ∧ mayF fPR pr = true) ∧ mayF fPW pw = true) ∧ decide (r ≤ n ∧ q ≤ n ∧ pr ≤ n ∧ pw ≤ n) = true := by
      unfold okP at ho
      rw [Bool.and_eq_true, Bool.and_eq_true, Bool.and_eq_true, Bool.and_eq_true, Bool.and_eq_true] at ho
      exact ho
    have y1 := may_small h1
    have y4 := may_small h4
    have y5 := may_small h5
    clear hS ho hcv h1 h2 h3 h4 h5
    go_enter Tryd.func17, Tryd.ntmps17
    go_wp2_with fail
    generalize w.alloc (.cells (prCells n r q pr pw s m b) 26) = w2 at *
    refine (hc.out w2).mono ?_
    rintro e w3 ⟨rfl, hb⟩
    have hb3 := Lib.hid (HL.out.trans (hb.mono HL.out.size))
    have HB3 := Lib.hid (HB.out.below hb HB.out.lt)
    clear hb
    have d0 : w3.cell? ⟨w.heap.size, 0, none⟩ = some (.int .i64 n) := by rw [HB3.out.cell]; rfl
    have d3 : w3.cell? ⟨w.heap.size, 3, none⟩ = some (.int .i64 pr) := by rw [HB3.out.cell]; rfl
    have d4 : w3.cell? ⟨w.heap.size, 4, none⟩ = some (.int .i64 pw) := by rw [HB3.out.cell]; rfl
    go_wp2
    go_ret
    exact ⟨ret_bool hR.out.symm, hb3.out⟩
set_option maxHeartbeats 4000000 in
theorem rstrict_any (n r q pr pw : Int) (s m b : Bool) (w : World) : Calls Tryd.prog 18 #[.agg (prCells n r q pr pw s m b)] w fun e w' => e = .returned (.bool (strictP n r q pr pw)) ∧ Below w.heap.size w w' := by
  have HB := Lib.hid (Blk.new w 26 (prCells n r q pr pw s m b))
  have HL := Lib.hid (below_lit w (.cells (prCells n r q pr pw s m b) 26))
  have hc := Lib.hid (fun w => rcheck_any n r q pr pw s m b w)
  have hS := Lib.hid (show strictP n r q pr pw = (okP n r q pr pw && decide (n < pr + pw)) from rfl)
  cases ho : okP n r q pr pw with
  | false =>
    have hR := Lib.hid (show strictP n r q pr pw = false by rw [hS.out, ho]; rfl)
    have hcv : checkP n r q pr pw = 1 := by unfold checkP; rw [ho]; rfl
    rw [hcv] at hc
    clear hS ho hcv
    go_enter Tryd.func18, Tryd.ntmps18
    go_wp2_with fail
    generalize w.alloc (.cells (prCells n r q pr pw s m b) 26) = w2 at *
    refine (hc.out w2).mono ?_
    rintro e w3 ⟨rfl, hb⟩
    have hb3 := Lib.hid (HL.out.trans (hb.mono HL.out.size))
    clear hb
    go_wp2
    go_ret
    exact ⟨ret_bool hR.out.symm, hb3.out⟩
  | true =>
    have hR := Lib.hid (show strictP n r q pr pw = decide (n < pr + pw) by rw [hS.out, ho]; rfl)
    have hcv : checkP n r q pr pw = 0 := by unfold checkP; rw [ho]; rfl
    rw [hcv] at hc
    obtain ⟨⟨⟨⟨⟨h1, h2⟩, h3⟩, h4⟩, h5⟩, -⟩ : ((((mayF fN n = true ∧ mayF fR r = true) ∧ mayF fW q = true) ∧ mayF fPR pr = true) ∧ mayF fPW pw = true) ∧ decide (r ≤ n ∧ q ≤ n ∧ pr ≤ n ∧ pw ≤ n) = true := by
      unfold okP at ho
      rw [Bool.and_eq_true, Bool.and_eq_true, Bool.and_eq_true, Bool.and_eq_true, Bool.and_eq_true] at ho
      exact ho
    have y1 := may_small h1
    have y4 := may_small h4
    have y5 := may_small h5
    clear hS ho hcv h1 h2 h3 h4 h5
    go_enter Tryd.func18, Tryd.ntmps18
    go_wp2_with fail
    generalize w.alloc (.cells (prCells n r q pr pw s m b) 26) = w2 at *
    refine (hc.out w2).mono ?_
    rintro e w3 ⟨rfl, hb⟩
    have hb3 := Lib.hid (HL.out.trans (hb.mono HL.out.size))
    have HB3 := Lib.hid (HB.out.below hb HB.out.lt)
    clear hb
    have d0 : w3.cell? ⟨w.heap.size, 0, none⟩ = some (.int .i64 n) := by rw [HB3.out.cell]; rfl
    have d3 : w3.cell? ⟨w.heap.size, 3, none⟩ = some (.int .i64 pr) := by rw [HB3.out.cell]; rfl
    have d4 : w3.cell? ⟨w.heap.size, 4, none⟩ = some (.int .i64 pw) := by rw [HB3.out.cell]; rfl
    go_wp2
    go_ret
    exact ⟨ret_bool hR.out.symm, hb3.out⟩
end Go.Proofs.YtknpbeekdjghgaaDoor.pp
