/- PropsSet: the entry by which any property of any bucket gets any value. -/
import Derived.Test.YtknpbeekdjghgaaDoorPpH
import Derived.Test.YtknpbeekdjghgaaDoorRgQ
namespace Go.Proofs.YtknpbeekdjghgaaDoor.pp
set_option linter.unusedSimpArgs false
open Go.ChangeShapes Go.WideShapes Go.ChangeAt Go.RowKit Go.Proofs.Aid
open Go.Proofs.YtknpbeekdjghgaaDoor.rgy (En)
open Go.Proofs.YtknpbeekdjghgaaDoor.nm (Lets)
theorem eqlE_same (x : En) (w : World) : (binOp .eql 34 x.val x.val).run Tryd.prog w = .ok (.bool true) w := by
  obtain ⟨k, n, b, v⟩ := x
  go_simp
set_option maxRecDepth 100000 in
set_option maxHeartbeats 8000000 in
theorem set_walk (W : World) (A : Option Addr) (ca : Nat) (xs : List En) (s0 s1 s2 s3 : ByteArray) (r : Int) (HLt : Hid (Lets W)) (hl : xs.length ≤ maxLen) (h1 : Reads W W.heap.size 4 A xs.length (xs.flatMap En.cells)) (hz : ∀ r ∈ xs, r.sz) (hs0 : s0.size ≤ maxLen) (hs1 : s1.size ≤ maxLen) (hs2 : s2.size ≤ maxLen) (hs3 : s3.size ≤ maxLen) :
    Calls Tryd.prog 4 #[.slice A xs.length ca, .agg #[.string s0, .string s1, .string s2, .string s3], .int .i64 r] W fun e w' => e = .returned (.bool true) ∧ Below W.heap.size W w' := by
  have HS := Lib.hid hz
  have HL1 := Lib.hid hl
  have HL := Lib.hid (below_lit W (.cells #[.string s0, .string s1, .string s2, .string s3] 30))
  have HB := Lib.hid (Blk.new W 30 #[.string s0, .string s1, .string s2, .string s3])
  have H1 := Lib.hid (h1.more_below HL.out)
  unfold maxLen at hs0 hs1 hs2 hs3
  clear h1 hz hl
  go_enter Tryd.func4, Tryd.ntmps4
  go_wp2_with fail
  generalize W.alloc (.cells #[.string s0, .string s1, .string s2, .string s3] 30) = w0 at *
  refine (rgy.rfew_any w0 A ca xs 30 (by omega) HL1.out H1.out HS.out).mono ?_
  rintro e w1 ⟨b1, rfl, hb, hf1⟩
  replace HB := Lib.hid (Blk.below (Hid.out HB) hb (Hid.out HB).lt)
  replace H1 := Lib.hid ((Hid.out H1).more_below hb)
  replace HL := Lib.hid ((Hid.out HL).trans (hb.mono (Hid.out HL).size))
  clear hb
  have d0 : w1.cell? ⟨W.heap.size, 0, none⟩ = some (.string s0) := by rw [HB.out.cell]; rfl
  have d1 : w1.cell? ⟨W.heap.size, 1, none⟩ = some (.string s1) := by rw [HB.out.cell]; rfl
  have d2 : w1.cell? ⟨W.heap.size, 2, none⟩ = some (.string s2) := by rw [HB.out.cell]; rfl
  have d3 : w1.cell? ⟨W.heap.size, 3, none⟩ = some (.string s3) := by rw [HB.out.cell]; rfl
  cases b1 with
  | false =>
    clear hf1
    go_wp2_with fail
    refine (awake_any _ (Lib.hid (HLt.out.next HL.out))).mono ?_; rintro e w2 ⟨rfl, hb⟩; replace HL := Lib.hid (HL.out.trans (hb.mono HL.out.size)); clear hb; go_wp2; go_ret; exact ⟨rfl, HL.out⟩
  | true =>
    have hx30 := (hf1 rfl).1
    clear hf1
    go_wp2
    refine wp_loop_rounds 5 ?_
    rw [rounds_succ]
    by_cases z0 : s0.size ≤ 100
    case neg =>
      go_wp2_with fail
      refine (awake_any _ (Lib.hid (HLt.out.next HL.out))).mono ?_; rintro e w2 ⟨rfl, hb⟩; replace HL := Lib.hid (HL.out.trans (hb.mono HL.out.size)); clear hb; go_wp2; go_ret; exact ⟨rfl, HL.out⟩
    go_wp2
    rw [rounds_succ]
    by_cases z1 : s1.size ≤ 100
    case neg =>
      go_wp2_with fail
      refine (awake_any _ (Lib.hid (HLt.out.next HL.out))).mono ?_; rintro e w2 ⟨rfl, hb⟩; replace HL := Lib.hid (HL.out.trans (hb.mono HL.out.size)); clear hb; go_wp2; go_ret; exact ⟨rfl, HL.out⟩
    go_wp2
    rw [rounds_succ]
    by_cases z2 : s2.size ≤ 100
    case neg =>
      go_wp2_with fail
      refine (awake_any _ (Lib.hid (HLt.out.next HL.out))).mono ?_; rintro e w2 ⟨rfl, hb⟩; replace HL := Lib.hid (HL.out.trans (hb.mono HL.out.size)); clear hb; go_wp2; go_ret; exact ⟨rfl, HL.out⟩
    go_wp2
    rw [rounds_succ]
    by_cases z3 : s3.size ≤ 100
    case neg =>
      go_wp2_with fail
      refine (awake_any _ (Lib.hid (HLt.out.next HL.out))).mono ?_; rintro e w2 ⟨rfl, hb⟩; replace HL := Lib.hid (HL.out.trans (hb.mono HL.out.size)); clear hb; go_wp2; go_ret; exact ⟨rfl, HL.out⟩
    go_wp2
    rw [rounds_succ]
    have hse := Lib.hid (fun w' h hl' => set_any w' A ca xs s0 s1 s2 s3 r (by omega) h HS.out (by omega) (by omega) (by omega) (by omega) hl')
    have hsr := Lib.hid (fun w' h => rset_any w' A ca xs s0 s1 s2 s3 r (by omega) h HS.out (by omega) (by omega) (by omega) (by omega))
    generalize setP xs s0 s1 s2 s3 r = q at *
    obtain ⟨⟨kk, n, b, v⟩, c⟩ := q
    simp only at hse hsr
    have heq := eqlE_same ⟨kk, n, b, v⟩
    go_wp2_with fail
    refine (hse.out w1 H1.out (Lib.hid (HLt.out.next HL.out))).mono ?_
    rintro e w2 ⟨rfl, hb⟩
    replace HB := Lib.hid (Blk.below (Hid.out HB) hb (Hid.out HB).lt)
    replace H1 := Lib.hid ((Hid.out H1).more_below hb)
    replace HL := Lib.hid ((Hid.out HL).trans (hb.mono (Hid.out HL).size))
    clear hb
    have hd0 : ∀ o, (w2.alloc o).cell? ⟨W.heap.size, 0, none⟩ = some (.string s0) := fun o => by rw [(HB.out.alloc o).cell]; rfl
    have hd1 : ∀ o, (w2.alloc o).cell? ⟨W.heap.size, 1, none⟩ = some (.string s1) := fun o => by rw [(HB.out.alloc o).cell]; rfl
    have hd2 : ∀ o, (w2.alloc o).cell? ⟨W.heap.size, 2, none⟩ = some (.string s2) := fun o => by rw [(HB.out.alloc o).cell]; rfl
    have hd3 : ∀ o, (w2.alloc o).cell? ⟨W.heap.size, 3, none⟩ = some (.string s3) := fun o => by rw [(HB.out.alloc o).cell]; rfl
    have hb := below_lit w2 (.cells #[.string kk, .int .i64 n, .string b, .string v] 34)
    have HX := Lib.hid (Blk.new w2 34 #[.string kk, .int .i64 n, .string b, .string v])
    replace HB := Lib.hid (Blk.below (Hid.out HB) hb (Hid.out HB).lt)
    replace H1 := Lib.hid ((Hid.out H1).more_below hb)
    replace HL := Lib.hid ((Hid.out HL).trans (hb.mono (Hid.out HL).size))
    clear hb
    clear d0 d1 d2 d3
    go_wp2_with fail
    generalize w2.alloc (.cells #[.string kk, .int .i64 n, .string b, .string v] 34) = w3 at *
    clear hd0 hd1 hd2 hd3
    generalize w2.heap.size = gx at *
    refine (hsr.out w3 H1.out).mono ?_
    rintro e w4 ⟨rfl, hb⟩
    replace HB := Lib.hid (Blk.below (Hid.out HB) hb (Hid.out HB).lt)
    replace HX := Lib.hid (Blk.below (Hid.out HX) hb (Hid.out HX).lt)
    replace H1 := Lib.hid ((Hid.out H1).more_below hb)
    replace HL := Lib.hid ((Hid.out HL).trans (hb.mono (Hid.out HL).size))
    clear hb
    have hb := below_lit w4 (.cells #[.string kk, .int .i64 n, .string b, .string v] 34)
    have HY := Lib.hid (Blk.new w4 34 #[.string kk, .int .i64 n, .string b, .string v])
    replace HB := Lib.hid (Blk.below (Hid.out HB) hb (Hid.out HB).lt)
    replace HX := Lib.hid (Blk.below (Hid.out HX) hb (Hid.out HX).lt)
    replace H1 := Lib.hid ((Hid.out H1).more_below hb)
    replace HL := Lib.hid ((Hid.out HL).trans (hb.mono (Hid.out HL).size))
    clear hb
    have e0 : (w4.alloc (.cells #[.string kk, .int .i64 n, .string b, .string v] 34)).cell? ⟨gx, 0, none⟩ = some (.string kk) := by rw [HX.out.cell]; rfl
    have e1 : (w4.alloc (.cells #[.string kk, .int .i64 n, .string b, .string v] 34)).cell? ⟨gx, 1, none⟩ = some (.int .i64 n) := by rw [HX.out.cell]; rfl
    have e2 : (w4.alloc (.cells #[.string kk, .int .i64 n, .string b, .string v] 34)).cell? ⟨gx, 2, none⟩ = some (.string b) := by rw [HX.out.cell]; rfl
    have e3 : (w4.alloc (.cells #[.string kk, .int .i64 n, .string b, .string v] 34)).cell? ⟨gx, 3, none⟩ = some (.string v) := by rw [HX.out.cell]; rfl
    have f0 : (w4.alloc (.cells #[.string kk, .int .i64 n, .string b, .string v] 34)).cell? ⟨w4.heap.size, 0, none⟩ = some (.string kk) := by rw [HY.out.cell]; rfl
    have f1 : (w4.alloc (.cells #[.string kk, .int .i64 n, .string b, .string v] 34)).cell? ⟨w4.heap.size, 1, none⟩ = some (.int .i64 n) := by rw [HY.out.cell]; rfl
    have f2 : (w4.alloc (.cells #[.string kk, .int .i64 n, .string b, .string v] 34)).cell? ⟨w4.heap.size, 2, none⟩ = some (.string b) := by rw [HY.out.cell]; rfl
    have f3 : (w4.alloc (.cells #[.string kk, .int .i64 n, .string b, .string v] 34)).cell? ⟨w4.heap.size, 3, none⟩ = some (.string v) := by rw [HY.out.cell]; rfl
    go_wp2_with fail
    clear e0 e1 e2 e3 f0 f1 f2 f3
    generalize w4.alloc (.cells #[.string kk, .int .i64 n, .string b, .string v] 34) = w5 at *
    refine (awake_any _ (Lib.hid (HLt.out.next HL.out))).mono ?_; rintro e w2 ⟨rfl, hb⟩; replace HL := Lib.hid (HL.out.trans (hb.mono HL.out.size)); clear hb; go_wp2; go_ret; exact ⟨rfl, HL.out⟩
theorem set_all (W : World) (v0 : Value) (v1 : Value) (v2 : Value) (h0 : V22 W v0) (h1 : V30 W v1) (h2 : V3 W v2) (HLt : Hid (Lets W)) :
    Calls Tryd.prog 4 #[v0, v1, v2] W fun e w' => e = .returned (.bool true) ∧ Below W.heap.size W w' := by
  obtain ⟨A, ca, xs, rfl, a1, a2, hR, hz⟩ := rgy.ents h0
  obtain ⟨q, rfl, hq⟩ := h1
  obtain ⟨r, rfl, hr⟩ := h2
  exact set_walk W A ca xs q.x0 q.x1 q.x2 q.x3 r.v HLt (Nat.le_trans a1 a2) hR hz hq.1 hq.2.1 hq.2.2.1 hq.2.2.2
end Go.Proofs.YtknpbeekdjghgaaDoor.pp
