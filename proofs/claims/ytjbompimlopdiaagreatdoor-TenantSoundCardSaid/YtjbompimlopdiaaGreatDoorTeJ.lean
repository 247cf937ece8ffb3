/- TenantOf: what any entries say of any tenant, and all tenants. TenantSets: the entries by which any tenant gets any secret, and any limit. -/
import Derived.Test.YtjbompimlopdiaaGreatDoorTeI
import Derived.Test.YtjbompimlopdiaaGreatDoorRgQ
namespace Go.Proofs.YtjbompimlopdiaaGreatDoor.te
set_option linter.unusedSimpArgs false
open Go.ChangeShapes Go.WideShapes Go.ChangeAt Go.RowKit Go.Proofs.Aid
open Go.Proofs.YtjbompimlopdiaaGreatDoor.rgy (En)
open Go.Proofs.YtjbompimlopdiaaGreatDoor.texts (tc)
open Go.Proofs.YtjbompimlopdiaaGreatDoor.nm (Lets strs_length)
theorem allT_len (xs : List En) : (allT xs).length ≤ xs.length := by rw [← setK_all]; exact setK_len _ (Nat.le_refl _)
theorem short_of {xs : List En} (h : ∀ x ∈ xs, x.key.size ≤ 200 ∧ x.reg.few = true) : short xs := fun x hx => by
  have := (h x hx).2
  unfold reg.Rg.few at this
  rw [Bool.and_eq_true, decide_eq_true_eq, decide_eq_true_eq] at this
  exact this.2
theorem keys_of {xs : List En} (h : ∀ x ∈ xs, x.key.size ≤ 200 ∧ x.reg.few = true) : ∀ x ∈ xs, x.key.size ≤ 1000 := fun x hx => by have := (h x hx).1; omega
theorem i64_wf {n : Int} (h : (Lit.int .i64 n).wf = true) : -9223372036854775808 ≤ n ∧ n ≤ 9223372036854775807 := by
  have h1 : (decide (IntKind.i64.min ≤ n) && decide (n ≤ IntKind.i64.max)) = true := h
  rw [Bool.and_eq_true, decide_eq_true_eq, decide_eq_true_eq] at h1
  exact h1
theorem eqlE_same (x : En) (w : World) : (binOp .eql 38 x.val x.val).run Tryz.prog w = .ok (.bool true) w := by
  obtain ⟨k, n, b, v⟩ := x
  go_simp
set_option maxRecDepth 100000 in
set_option maxHeartbeats 8000000 in
theorem of_walk (W : World) (A : Option Addr) (ca : Nat) (xs : List En) (t f : ByteArray) (HLt : Hid (Lets W)) (hl : xs.length ≤ maxLen) (h1 : Reads W W.heap.size 4 A xs.length (xs.flatMap En.cells)) (hz : ∀ r ∈ xs, r.sz) (ht : t.size ≤ maxLen) (hf : f.size ≤ maxLen) :
    Calls Tryz.prog 3 #[.slice A xs.length ca, .string t, .string f] W fun e w' => e = .returned (.bool true) ∧ Below W.heap.size W w' := by
  have HS := Lib.hid hz
  have HL1 := Lib.hid hl
  have HL := Lib.hid (Below.refl W.heap.size W)
  have H1 := Lib.hid h1
  unfold maxLen at ht hf
  clear h1 hz hl
  go_enter Tryz.func3, Tryz.ntmps3
  go_wp2_with fail
  refine (rgy.rfew_any W A ca xs 30 (by omega) HL1.out H1.out HS.out).mono ?_
  rintro e w1 ⟨b1, rfl, hb, hf1⟩
  replace H1 := Lib.hid ((Hid.out H1).more_below hb)
  replace HL := Lib.hid ((Hid.out HL).trans (hb.mono (Hid.out HL).size))
  clear hb
  cases b1 with
  | false =>
    clear hf1
    go_wp2_with fail
    refine (awake_any _ (Lib.hid (HLt.out.next HL.out))).mono ?_; rintro e w9 ⟨rfl, hb⟩; replace HL := Lib.hid (HL.out.trans (hb.mono HL.out.size)); clear hb; go_wp2; go_ret; exact ⟨rfl, HL.out⟩
  | true =>
    obtain ⟨hx30, hfe⟩ := hf1 rfl
    have hsh := Lib.hid (short_of hfe)
    have hky := Lib.hid (keys_of hfe)
    clear hf1 hfe
    by_cases z0 : t.size ≤ 100
    case neg =>
      go_wp2_with fail
      refine (awake_any _ (Lib.hid (HLt.out.next HL.out))).mono ?_; rintro e w9 ⟨rfl, hb⟩; replace HL := Lib.hid (HL.out.trans (hb.mono HL.out.size)); clear hb; go_wp2; go_ret; exact ⟨rfl, HL.out⟩
    by_cases z1 : f.size ≤ 100
    case neg =>
      go_wp2_with fail
      refine (awake_any _ (Lib.hid (HLt.out.next HL.out))).mono ?_; rintro e w9 ⟨rfl, hb⟩; replace HL := Lib.hid (HL.out.trans (hb.mono HL.out.size)); clear hb; go_wp2; go_ret; exact ⟨rfl, HL.out⟩
    have HO1 := Lib.hid (fun w h hL => tof_any w A ca xs t (by omega) h hsh.out (by omega) hL)
    have HO2 := Lib.hid (fun w h => rof_any w A ca xs t (by omega) h hsh.out (by omega))
    have HA1 := Lib.hid (fun w h hL => all_any w A ca xs (by omega) h HS.out hky.out hL)
    have HA2 := Lib.hid (fun w h => rall_any w A ca xs (by omega) h hsh.out hky.out)
    have HK1 := Lib.hid (fun w => tkey_any t f w (by omega) (by omega))
    have HK2 := Lib.hid (fun w => rtkey_any t f w (by omega) (by omega))
    have hal := allT_len xs
    generalize ofT xs t = tt at *
    obtain ⟨n0, n1, n2, n3, n4, n5⟩ := tt
    have heq := eqT_same ⟨n0, n1, n2, n3, n4, n5⟩
    unfold Ten.cells at HO1 HO2
    simp only at HO1 HO2 heq
    generalize isT xs t = bt at *
    generalize tkey t f = k at *
    generalize allT xs = S at *
    have HST : Hid (∀ (w : World) (A B : Option Addr) (ca cb : Nat), Reads w w.heap.size 1 A S.length ((nm.strs S).flatMap tc) → Reads w w.heap.size 1 B S.length ((nm.strs S).flatMap tc) → Calls Tryz.prog 10 #[.slice A S.length ca, .slice B S.length cb] w fun e w' => e = .returned (.bool true) ∧ Below w.heap.size w w') := fun w A B ca cb h1 h2 => by
      have := texts.sameTexts_same w A B ca cb (nm.strs S) (by rw [strs_length]; omega) (by rw [strs_length]; exact h1) (by rw [strs_length]; exact h2)
      rwa [strs_length] at this
    go_wp2_with fail
    refine (HO1.out w1 H1.out (Lib.hid (HLt.out.next HL.out))).mono ?_
    rintro e w2 ⟨rfl, hb⟩
    replace H1 := Lib.hid ((Hid.out H1).more_below hb)
    replace HL := Lib.hid ((Hid.out HL).trans (hb.mono (Hid.out HL).size))
    clear hb
    have HX := Lib.hid (Blk.new w2 26 #[.string n0, .string n1, .int .i64 n2, .int .i64 n3, .int .i64 n4, .int .i64 n5])
    have hb := below_lit w2 (.cells #[.string n0, .string n1, .int .i64 n2, .int .i64 n3, .int .i64 n4, .int .i64 n5] 26)
    replace H1 := Lib.hid ((Hid.out H1).more_below hb)
    replace HL := Lib.hid ((Hid.out HL).trans (hb.mono (Hid.out HL).size))
    clear hb
    generalize hgx : w2.heap.size = gx at *
    go_wp2_with fail
    generalize w2.alloc (.cells #[.string n0, .string n1, .int .i64 n2, .int .i64 n3, .int .i64 n4, .int .i64 n5] 26) = w3 at *
    clear hgx
    refine (HO2.out w3 H1.out).mono ?_
    rintro e w4 ⟨rfl, hb⟩
    replace HX := Lib.hid (Blk.below (Hid.out HX) hb (Hid.out HX).lt)
    replace H1 := Lib.hid ((Hid.out H1).more_below hb)
    replace HL := Lib.hid ((Hid.out HL).trans (hb.mono (Hid.out HL).size))
    clear hb
    have HY := Lib.hid (Blk.new w4 26 #[.string n0, .string n1, .int .i64 n2, .int .i64 n3, .int .i64 n4, .int .i64 n5])
    have hb := below_lit w4 (.cells #[.string n0, .string n1, .int .i64 n2, .int .i64 n3, .int .i64 n4, .int .i64 n5] 26)
    replace HX := Lib.hid (Blk.below (Hid.out HX) hb (Hid.out HX).lt)
    replace H1 := Lib.hid ((Hid.out H1).more_below hb)
    replace HL := Lib.hid ((Hid.out HL).trans (hb.mono (Hid.out HL).size))
    clear hb
    generalize hgy : w4.heap.size = gy at *
    have x0 : (w4.alloc (.cells #[.string n0, .string n1, .int .i64 n2, .int .i64 n3, .int .i64 n4, .int .i64 n5] 26)).cell? ⟨gx, 0, none⟩ = some (.string n0) := HX.out.cell 0; have x1 : (w4.alloc (.cells #[.string n0, .string n1, .int .i64 n2, .int .i64 n3, .int .i64 n4, .int .i64 n5] 26)).cell? ⟨gx, 1, none⟩ = some (.string n1) := HX.out.cell 1; have x2 : (w4.alloc (.cells #[.string n0, .string n1, .int .i64 n2, .int .i64 n3, .int .i64 n4, .int .i64 n5] 26)).cell? ⟨gx, 2, none⟩ = some (.int .i64 n2) := HX.out.cell 2; have x3 : (w4.alloc (.cells #[.string n0, .string n1, .int .i64 n2, .int .i64 n3, .int .i64 n4, .int .i64 n5] 26)).cell? ⟨gx, 3, none⟩ = some (.int .i64 n3) := HX.out.cell 3; have x4 : (w4.alloc (.cells #[.string n0, .string n1, .int .i64 n2, .int .i64 n3, .int .i64 n4, .int .i64 n5] 26)).cell? ⟨gx, 4, none⟩ = some (.int .i64 n4) := HX.out.cell 4; have x5 : (w4.alloc (.cells #[.string n0, .string n1, .int .i64 n2, .int .i64 n3, .int .i64 n4, .int .i64 n5] 26)).cell? ⟨gx, 5, none⟩ = some (.int .i64 n5) := HX.out.cell 5
    have y0 : (w4.alloc (.cells #[.string n0, .string n1, .int .i64 n2, .int .i64 n3, .int .i64 n4, .int .i64 n5] 26)).cell? ⟨gy, 0, none⟩ = some (.string n0) := HY.out.cell 0; have y1 : (w4.alloc (.cells #[.string n0, .string n1, .int .i64 n2, .int .i64 n3, .int .i64 n4, .int .i64 n5] 26)).cell? ⟨gy, 1, none⟩ = some (.string n1) := HY.out.cell 1; have y2 : (w4.alloc (.cells #[.string n0, .string n1, .int .i64 n2, .int .i64 n3, .int .i64 n4, .int .i64 n5] 26)).cell? ⟨gy, 2, none⟩ = some (.int .i64 n2) := HY.out.cell 2; have y3 : (w4.alloc (.cells #[.string n0, .string n1, .int .i64 n2, .int .i64 n3, .int .i64 n4, .int .i64 n5] 26)).cell? ⟨gy, 3, none⟩ = some (.int .i64 n3) := HY.out.cell 3; have y4 : (w4.alloc (.cells #[.string n0, .string n1, .int .i64 n2, .int .i64 n3, .int .i64 n4, .int .i64 n5] 26)).cell? ⟨gy, 4, none⟩ = some (.int .i64 n4) := HY.out.cell 4; have y5 : (w4.alloc (.cells #[.string n0, .string n1, .int .i64 n2, .int .i64 n3, .int .i64 n4, .int .i64 n5] 26)).cell? ⟨gy, 5, none⟩ = some (.int .i64 n5) := HY.out.cell 5
    go_wp2_with fail
    generalize w4.alloc (.cells #[.string n0, .string n1, .int .i64 n2, .int .i64 n3, .int .i64 n4, .int .i64 n5] 26) = w5 at *
    clear hgy x0 x1 x2 x3 x4 x5 y0 y1 y2 y3 y4 y5 HX HY heq
    refine (HA1.out w5 H1.out (Lib.hid (HLt.out.next HL.out))).mono ?_
    rintro e w6 ⟨A6, c6, rfl, -, hR6, hb⟩
    replace H1 := Lib.hid ((Hid.out H1).more_below hb)
    replace HL := Lib.hid ((Hid.out HL).trans (hb.mono (Hid.out HL).size))
    clear hb
    go_wp2_with fail
    refine (HA2.out w6 H1.out).mono ?_
    rintro e w7 ⟨A7, c7, rfl, -, hR7, hb⟩
    have HR6 := Lib.hid (hR6.more_below hb)
    have HR7 := Lib.hid hR7
    replace H1 := Lib.hid ((Hid.out H1).more_below hb)
    replace HL := Lib.hid ((Hid.out HL).trans (hb.mono (Hid.out HL).size))
    clear hb
    clear hR6 hR7
    go_wp2_with fail
    refine (HST.out w7 A6 A7 c6 c7 HR6.out HR7.out).mono ?_
    rintro e w8 ⟨rfl, hb⟩
    replace H1 := Lib.hid ((Hid.out H1).more_below hb)
    replace HL := Lib.hid ((Hid.out HL).trans (hb.mono (Hid.out HL).size))
    clear hb
    clear HR6 HR7 HST
    go_wp2_with fail
    refine (HK1.out w8).mono ?_
    rintro e w10 ⟨rfl, hb⟩
    replace H1 := Lib.hid ((Hid.out H1).more_below hb)
    replace HL := Lib.hid ((Hid.out HL).trans (hb.mono (Hid.out HL).size))
    clear hb
    go_wp2_with fail
    refine (HK2.out w10).mono ?_
    rintro e w11 ⟨rfl, rfl⟩
    go_wp2_with fail
    refine (awake_any _ (Lib.hid (HLt.out.next HL.out))).mono ?_; rintro e w9 ⟨rfl, hb⟩; replace HL := Lib.hid (HL.out.trans (hb.mono HL.out.size)); clear hb; go_wp2; go_ret; exact ⟨rfl, HL.out⟩
theorem of_all (W : World) (v0 : Value) (v1 : Value) (v2 : Value) (h0 : V22 W v0) (h1 : V9 W v1) (h2 : V9 W v2) (HLt : Hid (Lets W)) :
    Calls Tryz.prog 3 #[v0, v1, v2] W fun e w' => e = .returned (.bool true) ∧ Below W.heap.size W w' := by
  obtain ⟨A, ca, xs, rfl, a1, a2, hR, hz⟩ := rgy.ents h0
  obtain ⟨q, rfl, hq⟩ := h1
  obtain ⟨r, rfl, hr⟩ := h2
  exact of_walk W A ca xs q.v r.v HLt (Nat.le_trans a1 a2) hR hz hq hr
set_option maxRecDepth 100000 in
set_option maxHeartbeats 8000000 in
theorem sets_walk (W : World) (A : Option Addr) (ca : Nat) (xs : List En) (s0 s1 s2 s3 : ByteArray) (n : Int) (HLt : Hid (Lets W)) (hl : xs.length ≤ maxLen) (h1 : Reads W W.heap.size 4 A xs.length (xs.flatMap En.cells)) (hz : ∀ r ∈ xs, r.sz) (hs0 : s0.size ≤ maxLen) (hs1 : s1.size ≤ maxLen) (hs2 : s2.size ≤ maxLen) (hs3 : s3.size ≤ maxLen) (hn : -9223372036854775808 ≤ n ∧ n ≤ 9223372036854775807) :
    Calls Tryz.prog 4 #[.slice A xs.length ca, .agg #[.string s0, .string s1, .string s2, .string s3], .int .i64 n] W fun e w' => e = .returned (.bool true) ∧ Below W.heap.size W w' := by
  have HS := Lib.hid hz
  have HL1 := Lib.hid hl
  have HL := Lib.hid (below_lit W (.cells #[.string s0, .string s1, .string s2, .string s3] 34))
  have HB := Lib.hid (Blk.new W 34 #[.string s0, .string s1, .string s2, .string s3])
  have H1 := Lib.hid (h1.more_below HL.out)
  unfold maxLen at hs0 hs1 hs2 hs3
  clear h1 hz hl
  go_enter Tryz.func4, Tryz.ntmps4
  go_wp2_with fail
  generalize W.alloc (.cells #[.string s0, .string s1, .string s2, .string s3] 34) = w0 at *
  refine (rgy.rfew_any w0 A ca xs 30 (by omega) HL1.out H1.out HS.out).mono ?_
  rintro e w1 ⟨b1, rfl, hb, hf1⟩
  replace HB := Lib.hid (Blk.below (Hid.out HB) hb (Hid.out HB).lt)
  replace H1 := Lib.hid ((Hid.out H1).more_below hb)
  replace HL := Lib.hid ((Hid.out HL).trans (hb.mono (Hid.out HL).size))
  clear hb
  have d0 : w1.cell? ⟨W.heap.size, 0, none⟩ = some (.string s0) := HB.out.cell 0
  have d1 : w1.cell? ⟨W.heap.size, 1, none⟩ = some (.string s1) := HB.out.cell 1
  have d2 : w1.cell? ⟨W.heap.size, 2, none⟩ = some (.string s2) := HB.out.cell 2
  have d3 : w1.cell? ⟨W.heap.size, 3, none⟩ = some (.string s3) := HB.out.cell 3
  cases b1 with
  | false =>
    clear hf1
    go_wp2_with fail
    refine (awake_any _ (Lib.hid (HLt.out.next HL.out))).mono ?_; rintro e w9 ⟨rfl, hb⟩; replace HL := Lib.hid (HL.out.trans (hb.mono HL.out.size)); clear hb; go_wp2; go_ret; exact ⟨rfl, HL.out⟩
  | true =>
    have hx30 := (hf1 rfl).1
    clear hf1
    go_wp2
    refine wp_loop_rounds 5 ?_
    rw [rounds_succ]
    by_cases z0 : s0.size ≤ 100
    case neg =>
      go_wp2_with fail
      refine (awake_any _ (Lib.hid (HLt.out.next HL.out))).mono ?_; rintro e w9 ⟨rfl, hb⟩; replace HL := Lib.hid (HL.out.trans (hb.mono HL.out.size)); clear hb; go_wp2; go_ret; exact ⟨rfl, HL.out⟩
    go_wp2
    rw [rounds_succ]
    by_cases z1 : s1.size ≤ 100
    case neg =>
      go_wp2_with fail
      refine (awake_any _ (Lib.hid (HLt.out.next HL.out))).mono ?_; rintro e w9 ⟨rfl, hb⟩; replace HL := Lib.hid (HL.out.trans (hb.mono HL.out.size)); clear hb; go_wp2; go_ret; exact ⟨rfl, HL.out⟩
    go_wp2
    rw [rounds_succ]
    by_cases z2 : s2.size ≤ 100
    case neg =>
      go_wp2_with fail
      refine (awake_any _ (Lib.hid (HLt.out.next HL.out))).mono ?_; rintro e w9 ⟨rfl, hb⟩; replace HL := Lib.hid (HL.out.trans (hb.mono HL.out.size)); clear hb; go_wp2; go_ret; exact ⟨rfl, HL.out⟩
    go_wp2
    rw [rounds_succ]
    by_cases z3 : s3.size ≤ 100
    case neg =>
      go_wp2_with fail
      refine (awake_any _ (Lib.hid (HLt.out.next HL.out))).mono ?_; rintro e w9 ⟨rfl, hb⟩; replace HL := Lib.hid (HL.out.trans (hb.mono HL.out.size)); clear hb; go_wp2; go_ret; exact ⟨rfl, HL.out⟩
    go_wp2
    rw [rounds_succ]
    have hS1 := Lib.hid (fun w' h => setS_any w' A ca xs s0 s1 s2 (by omega) h HS.out (by omega) (by omega) (by omega))
    have hS2 := Lib.hid (fun w' h => rsetS_any w' A ca xs s0 s1 s2 (by omega) h HS.out (by omega) (by omega) (by omega))
    have hM1 := Lib.hid (fun w' h hl' => setL_any w' A ca xs s0 s1 s3 n (by omega) h HS.out (by omega) (by omega) (by omega) hn hl')
    have hM2 := Lib.hid (fun w' h => rsetL_any w' A ca xs s0 s1 s3 n (by omega) h HS.out (by omega) (by omega) (by omega) hn)
    generalize setS xs s0 s1 s2 = q at *
    obtain ⟨⟨k0, n0, b0, v0⟩, c0⟩ := q
    generalize setL xs s0 s1 s3 n = q at *
    obtain ⟨⟨k1, n1, b1, v1⟩, c1⟩ := q
    simp only at hS1 hS2 hM1 hM2
    have heq0 := eqlE_same ⟨k0, n0, b0, v0⟩
    have heq1 := eqlE_same ⟨k1, n1, b1, v1⟩
    go_wp2_with fail
    refine (hS1.out w1 H1.out).mono ?_
    rintro e w2 ⟨rfl, hb⟩
    replace HB := Lib.hid (Blk.below (Hid.out HB) hb (Hid.out HB).lt)
    replace H1 := Lib.hid ((Hid.out H1).more_below hb)
    replace HL := Lib.hid ((Hid.out HL).trans (hb.mono (Hid.out HL).size))
    clear hb
    clear d0 d1 d2 d3
    have HX := Lib.hid (Blk.new w2 38 #[.string k0, .int .i64 n0, .string b0, .string v0])
    have hb := below_lit w2 (.cells #[.string k0, .int .i64 n0, .string b0, .string v0] 38)
    replace HB := Lib.hid (Blk.below (Hid.out HB) hb (Hid.out HB).lt)
    replace H1 := Lib.hid ((Hid.out H1).more_below hb)
    replace HL := Lib.hid ((Hid.out HL).trans (hb.mono (Hid.out HL).size))
    clear hb
    generalize hg : w2.heap.size = gx at *
    have d0 : (w2.alloc (.cells #[.string k0, .int .i64 n0, .string b0, .string v0] 38)).cell? ⟨W.heap.size, 0, none⟩ = some (.string s0) := HB.out.cell 0
    have d1 : (w2.alloc (.cells #[.string k0, .int .i64 n0, .string b0, .string v0] 38)).cell? ⟨W.heap.size, 1, none⟩ = some (.string s1) := HB.out.cell 1
    have d2 : (w2.alloc (.cells #[.string k0, .int .i64 n0, .string b0, .string v0] 38)).cell? ⟨W.heap.size, 2, none⟩ = some (.string s2) := HB.out.cell 2
    have d3 : (w2.alloc (.cells #[.string k0, .int .i64 n0, .string b0, .string v0] 38)).cell? ⟨W.heap.size, 3, none⟩ = some (.string s3) := HB.out.cell 3
    go_wp2_with fail
    clear d0 d1 d2 d3 hg
    generalize w2.alloc (.cells #[.string k0, .int .i64 n0, .string b0, .string v0] 38) = w3 at *
    refine (hS2.out w3 H1.out).mono ?_
    rintro e w4 ⟨rfl, hb⟩
    replace HB := Lib.hid (Blk.below (Hid.out HB) hb (Hid.out HB).lt)
    replace HX := Lib.hid (Blk.below (Hid.out HX) hb (Hid.out HX).lt)
    replace H1 := Lib.hid ((Hid.out H1).more_below hb)
    replace HL := Lib.hid ((Hid.out HL).trans (hb.mono (Hid.out HL).size))
    clear hb
    have HY := Lib.hid (Blk.new w4 38 #[.string k0, .int .i64 n0, .string b0, .string v0])
    have hb := below_lit w4 (.cells #[.string k0, .int .i64 n0, .string b0, .string v0] 38)
    replace HB := Lib.hid (Blk.below (Hid.out HB) hb (Hid.out HB).lt)
    replace HX := Lib.hid (Blk.below (Hid.out HX) hb (Hid.out HX).lt)
    replace H1 := Lib.hid ((Hid.out H1).more_below hb)
    replace HL := Lib.hid ((Hid.out HL).trans (hb.mono (Hid.out HL).size))
    clear hb
    generalize hg : w4.heap.size = gy at *
    have d0 : (w4.alloc (.cells #[.string k0, .int .i64 n0, .string b0, .string v0] 38)).cell? ⟨W.heap.size, 0, none⟩ = some (.string s0) := HB.out.cell 0
    have d1 : (w4.alloc (.cells #[.string k0, .int .i64 n0, .string b0, .string v0] 38)).cell? ⟨W.heap.size, 1, none⟩ = some (.string s1) := HB.out.cell 1
    have d2 : (w4.alloc (.cells #[.string k0, .int .i64 n0, .string b0, .string v0] 38)).cell? ⟨W.heap.size, 2, none⟩ = some (.string s2) := HB.out.cell 2
    have d3 : (w4.alloc (.cells #[.string k0, .int .i64 n0, .string b0, .string v0] 38)).cell? ⟨W.heap.size, 3, none⟩ = some (.string s3) := HB.out.cell 3
    go_wp2_with fail
    clear d0 d1 d2 d3 hg
    generalize w4.alloc (.cells #[.string k0, .int .i64 n0, .string b0, .string v0] 38) = w5 at *
    refine (hM1.out w5 H1.out (Lib.hid (HLt.out.next HL.out))).mono ?_
    rintro e w6 ⟨rfl, hb⟩
    replace HB := Lib.hid (Blk.below (Hid.out HB) hb (Hid.out HB).lt)
    replace HX := Lib.hid (Blk.below (Hid.out HX) hb (Hid.out HX).lt)
    replace HY := Lib.hid (Blk.below (Hid.out HY) hb (Hid.out HY).lt)
    replace H1 := Lib.hid ((Hid.out H1).more_below hb)
    replace HL := Lib.hid ((Hid.out HL).trans (hb.mono (Hid.out HL).size))
    clear hb
    have HZ := Lib.hid (Blk.new w6 38 #[.string k1, .int .i64 n1, .string b1, .string v1])
    have hb := below_lit w6 (.cells #[.string k1, .int .i64 n1, .string b1, .string v1] 38)
    replace HB := Lib.hid (Blk.below (Hid.out HB) hb (Hid.out HB).lt)
    replace HX := Lib.hid (Blk.below (Hid.out HX) hb (Hid.out HX).lt)
    replace HY := Lib.hid (Blk.below (Hid.out HY) hb (Hid.out HY).lt)
    replace H1 := Lib.hid ((Hid.out H1).more_below hb)
    replace HL := Lib.hid ((Hid.out HL).trans (hb.mono (Hid.out HL).size))
    clear hb
    generalize hg : w6.heap.size = gz at *
    have d0 : (w6.alloc (.cells #[.string k1, .int .i64 n1, .string b1, .string v1] 38)).cell? ⟨W.heap.size, 0, none⟩ = some (.string s0) := HB.out.cell 0
    have d1 : (w6.alloc (.cells #[.string k1, .int .i64 n1, .string b1, .string v1] 38)).cell? ⟨W.heap.size, 1, none⟩ = some (.string s1) := HB.out.cell 1
    have d2 : (w6.alloc (.cells #[.string k1, .int .i64 n1, .string b1, .string v1] 38)).cell? ⟨W.heap.size, 2, none⟩ = some (.string s2) := HB.out.cell 2
    have d3 : (w6.alloc (.cells #[.string k1, .int .i64 n1, .string b1, .string v1] 38)).cell? ⟨W.heap.size, 3, none⟩ = some (.string s3) := HB.out.cell 3
    go_wp2_with fail
    clear d0 d1 d2 d3 hg
    generalize w6.alloc (.cells #[.string k1, .int .i64 n1, .string b1, .string v1] 38) = w7 at *
    refine (hM2.out w7 H1.out).mono ?_
    rintro e w8 ⟨rfl, hb⟩
    replace HB := Lib.hid (Blk.below (Hid.out HB) hb (Hid.out HB).lt)
    replace HX := Lib.hid (Blk.below (Hid.out HX) hb (Hid.out HX).lt)
    replace HY := Lib.hid (Blk.below (Hid.out HY) hb (Hid.out HY).lt)
    replace HZ := Lib.hid (Blk.below (Hid.out HZ) hb (Hid.out HZ).lt)
    replace H1 := Lib.hid ((Hid.out H1).more_below hb)
    replace HL := Lib.hid ((Hid.out HL).trans (hb.mono (Hid.out HL).size))
    clear hb
    have HU := Lib.hid (Blk.new w8 38 #[.string k1, .int .i64 n1, .string b1, .string v1])
    have hb := below_lit w8 (.cells #[.string k1, .int .i64 n1, .string b1, .string v1] 38)
    replace HX := Lib.hid (Blk.below (Hid.out HX) hb (Hid.out HX).lt)
    replace HY := Lib.hid (Blk.below (Hid.out HY) hb (Hid.out HY).lt)
    replace HZ := Lib.hid (Blk.below (Hid.out HZ) hb (Hid.out HZ).lt)
    replace H1 := Lib.hid ((Hid.out H1).more_below hb)
    replace HL := Lib.hid ((Hid.out HL).trans (hb.mono (Hid.out HL).size))
    clear hb
    generalize hg : w8.heap.size = gu at *
    have x0 : (w8.alloc (.cells #[.string k1, .int .i64 n1, .string b1, .string v1] 38)).cell? ⟨gx, 0, none⟩ = some (.string k0) := HX.out.cell 0
    have x1 : (w8.alloc (.cells #[.string k1, .int .i64 n1, .string b1, .string v1] 38)).cell? ⟨gx, 1, none⟩ = some (.int .i64 n0) := HX.out.cell 1
    have x2 : (w8.alloc (.cells #[.string k1, .int .i64 n1, .string b1, .string v1] 38)).cell? ⟨gx, 2, none⟩ = some (.string b0) := HX.out.cell 2
    have x3 : (w8.alloc (.cells #[.string k1, .int .i64 n1, .string b1, .string v1] 38)).cell? ⟨gx, 3, none⟩ = some (.string v0) := HX.out.cell 3
    have y0 : (w8.alloc (.cells #[.string k1, .int .i64 n1, .string b1, .string v1] 38)).cell? ⟨gy, 0, none⟩ = some (.string k0) := HY.out.cell 0
    have y1 : (w8.alloc (.cells #[.string k1, .int .i64 n1, .string b1, .string v1] 38)).cell? ⟨gy, 1, none⟩ = some (.int .i64 n0) := HY.out.cell 1
    have y2 : (w8.alloc (.cells #[.string k1, .int .i64 n1, .string b1, .string v1] 38)).cell? ⟨gy, 2, none⟩ = some (.string b0) := HY.out.cell 2
    have y3 : (w8.alloc (.cells #[.string k1, .int .i64 n1, .string b1, .string v1] 38)).cell? ⟨gy, 3, none⟩ = some (.string v0) := HY.out.cell 3
    have z0 : (w8.alloc (.cells #[.string k1, .int .i64 n1, .string b1, .string v1] 38)).cell? ⟨gz, 0, none⟩ = some (.string k1) := HZ.out.cell 0
    have z1 : (w8.alloc (.cells #[.string k1, .int .i64 n1, .string b1, .string v1] 38)).cell? ⟨gz, 1, none⟩ = some (.int .i64 n1) := HZ.out.cell 1
    have z2 : (w8.alloc (.cells #[.string k1, .int .i64 n1, .string b1, .string v1] 38)).cell? ⟨gz, 2, none⟩ = some (.string b1) := HZ.out.cell 2
    have z3 : (w8.alloc (.cells #[.string k1, .int .i64 n1, .string b1, .string v1] 38)).cell? ⟨gz, 3, none⟩ = some (.string v1) := HZ.out.cell 3
    have u0 : (w8.alloc (.cells #[.string k1, .int .i64 n1, .string b1, .string v1] 38)).cell? ⟨gu, 0, none⟩ = some (.string k1) := HU.out.cell 0
    have u1 : (w8.alloc (.cells #[.string k1, .int .i64 n1, .string b1, .string v1] 38)).cell? ⟨gu, 1, none⟩ = some (.int .i64 n1) := HU.out.cell 1
    have u2 : (w8.alloc (.cells #[.string k1, .int .i64 n1, .string b1, .string v1] 38)).cell? ⟨gu, 2, none⟩ = some (.string b1) := HU.out.cell 2
    have u3 : (w8.alloc (.cells #[.string k1, .int .i64 n1, .string b1, .string v1] 38)).cell? ⟨gu, 3, none⟩ = some (.string v1) := HU.out.cell 3
    go_wp2_with fail
    clear hg x0 x1 x2 x3 y0 y1 y2 y3 z0 z1 z2 z3 u0 u1 u2 u3
    generalize w8.alloc (.cells #[.string k1, .int .i64 n1, .string b1, .string v1] 38) = w9 at *
    refine (awake_any _ (Lib.hid (HLt.out.next HL.out))).mono ?_; rintro e w9 ⟨rfl, hb⟩; replace HL := Lib.hid (HL.out.trans (hb.mono HL.out.size)); clear hb; go_wp2; go_ret; exact ⟨rfl, HL.out⟩
theorem sets_all (W : World) (v0 : Value) (v1 : Value) (v2 : Value) (h0 : V22 W v0) (h1 : V34 W v1) (h2 : V3 W v2) (HLt : Hid (Lets W)) :
    Calls Tryz.prog 4 #[v0, v1, v2] W fun e w' => e = .returned (.bool true) ∧ Below W.heap.size W w' := by
  obtain ⟨A, ca, xs, rfl, a1, a2, hR, hz⟩ := rgy.ents h0
  obtain ⟨q, rfl, hq⟩ := h1
  obtain ⟨r, rfl, hr⟩ := h2
  exact sets_walk W A ca xs q.x0 q.x1 q.x2 q.x3 r.v HLt (Nat.le_trans a1 a2) hR hz hq.1 hq.2.1 hq.2.2.1 hq.2.2.2 (i64_wf hr)
end Go.Proofs.YtjbompimlopdiaaGreatDoor.te
