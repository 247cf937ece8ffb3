/- RegistryPuts: any entries with any one more, and what any two come to. -/
import Derived.Test.YtdnefcpmechjkaaRgQ
namespace Go.Proofs.Ytdnefcpmechjkaa.rgy
open Go.ChangeShapes Go.WideShapes Go.ChangeAt Go.RowKit Go.Proofs.Aid Go.Proofs.Ytdnefcpmechjkaa.name Go.Proofs.Ytdnefcpmechjkaa.reg
theorem put_same_as (xs : List En) (x : En) : (if may xs && isEntry x then merge xs [x] else []) = (if may xs && isEntry x then putE xs x else []) := by
  cases h : may xs with
  | false => rfl
  | true => rw [putE_merge x (may_iff.1 h).2.2]
theorem join_same_as (xs ys : List En) : (if may xs && may ys then merge xs ys else []) = (if may xs && may ys then putsE xs ys else []) := by
  cases h : may xs with
  | false => rfl
  | true =>
    cases h2 : may ys with
    | false => rfl
    | true => rw [putsE_merge (may_iff.1 h).2.2 (may_iff.1 h2).2.2]
theorem if_len {c : Bool} {l : List En} {n : Nat} (h : l.length ≤ n) : (if c then l else []).length ≤ n := by cases c <;> simp [h]
set_option maxRecDepth 100000 in
set_option maxHeartbeats 8000000 in
theorem puts_walk (W : World) (A B : Option Addr) (ca cb : Nat) (xs ys : List En) (x : En) (hl : xs.length ≤ maxLen) (hl2 : ys.length ≤ maxLen) (hca : xs.length ≤ ca) (hcb : ys.length ≤ cb) (h1 : Reads W W.heap.size 4 A xs.length (xs.flatMap En.cells)) (h2 : Reads W W.heap.size 4 B ys.length (ys.flatMap En.cells)) (hz : ∀ r ∈ xs, r.sz) (hz2 : ∀ r ∈ ys, r.sz) (hx : x.sz) :
    Calls Try.prog 4 #[.slice A xs.length ca, .slice B ys.length cb, x.val] W fun e w' => e = .returned (.bool true) ∧ Below W.heap.size W w' := by
  have HS := Lib.hid hz
  have HT := Lib.hid hz2
  have HX := Lib.hid hx
  have HL1 := Lib.hid hl
  have HL2 := Lib.hid hl2
  have HL := Lib.hid (below_lit W (.cells #[.string x.key, .int .i64 x.reg.n, .string x.reg.by_, .string x.reg.value] 35))
  have HB := Lib.hid (Blk.new W 35 #[.string x.key, .int .i64 x.reg.n, .string x.reg.by_, .string x.reg.value])
  have H1 := Lib.hid (h1.more_below HL.out)
  have H2 := Lib.hid (h2.more_below HL.out)
  clear h1 h2 hz hz2 hl hl2 hx
  have hp1 := Lib.hid (fun w' h h' => put_any w' A ca xs x h hca h' HS.out HX.out)
  have hp2 := Lib.hid (fun w' h h' => rputC_any w' A ca xs x h hca h' HS.out HX.out)
  have hj1 := Lib.hid (fun w' h h' h'' => join_any w' A B ca cb xs ys h hca hcb h' h'' HS.out HT.out)
  have hj2 := Lib.hid (fun w' h h' h'' => rjoinL_any w' A B ca cb xs ys h hca hcb h' h'' HS.out HT.out)
  rw [put_same_as] at hp1
  rw [join_same_as] at hj1
  have hpl := Lib.hid (fun n h => if_len (c := may xs && isEntry x) (l := putE xs x) (n := n) h)
  have hjl := Lib.hid (fun n h => if_len (c := may xs && may ys) (l := putsE xs ys) (n := n) h)
  have hpl2 := putE_len xs x
  have hjl2 := putsE_len xs ys
  have hpl3 := hpl.out _ hpl2
  have hjl3 := hjl.out _ hjl2
  clear hpl hjl hpl2 hjl2
  generalize (if may xs && isEntry x then putE xs x else []) = P at *
  generalize (if may xs && isEntry x then (0 : Int) else 1) = pc at *
  generalize (if may xs && may ys then putsE xs ys else []) = J at *
  generalize (if may xs && may ys then (0 : Int) else 1) = jc at *
  obtain ⟨kk, n, b, v⟩ := x
  simp only at HB HL H1 H2
  show Calls Try.prog 4 #[.slice A xs.length ca, .slice B ys.length cb, .agg #[.string kk, .int .i64 n, .string b, .string v]] W _
  go_enter Try.func4, Try.ntmps4
  go_wp2_with fail
  generalize W.alloc (.cells #[.string kk, .int .i64 n, .string b, .string v] 35) = w0 at *
  refine (rfew_any w0 A ca xs 30 (by omega) HL1.out H1.out HS.out).mono ?_
  rintro e w1 ⟨b1, rfl, hb, hf1⟩
  replace HB := Lib.hid (Blk.below (Hid.out HB) hb (Hid.out HB).lt)
  replace H1 := Lib.hid ((Hid.out H1).more_below hb)
  replace H2 := Lib.hid ((Hid.out H2).more_below hb)
  replace HL := Lib.hid ((Hid.out HL).trans (hb.mono (Hid.out HL).size))
  clear hb
  cases b1 with
  | false =>
    clear hf1
    go_wp2_with fail
    refine (awake_any _).mono ?_
    rintro e w2 ⟨rfl, hb⟩
    replace H1 := Lib.hid ((Hid.out H1).more_below hb)
    replace HL := Lib.hid ((Hid.out HL).trans (hb.mono (Hid.out HL).size))
    clear hb
    go_wp2
    go_ret
    exact ⟨rfl, HL.out⟩
  | true =>
    have hx30 := (hf1 rfl).1
    clear hf1
    go_wp2_with fail
    refine (rfew_any w1 B cb ys 30 (by omega) HL2.out H2.out HT.out).mono ?_
    rintro e w2 ⟨b2, rfl, hb, hf2⟩
    replace HB := Lib.hid (Blk.below (Hid.out HB) hb (Hid.out HB).lt)
    replace H1 := Lib.hid ((Hid.out H1).more_below hb)
    replace H2 := Lib.hid ((Hid.out H2).more_below hb)
    replace HL := Lib.hid ((Hid.out HL).trans (hb.mono (Hid.out HL).size))
    clear hb
    cases b2 with
    | false =>
      clear hf2
      go_wp2_with fail
      refine (awake_any _).mono ?_
      rintro e w3 ⟨rfl, hb⟩
      replace H1 := Lib.hid ((Hid.out H1).more_below hb)
      replace HL := Lib.hid ((Hid.out HL).trans (hb.mono (Hid.out HL).size))
      clear hb
      go_wp2
      go_ret
      exact ⟨rfl, HL.out⟩
    | true =>
      have hy30 := (hf2 rfl).1
      clear hf2
      have d0 : w2.cell? ⟨W.heap.size, 0, none⟩ = some (.string kk) := by rw [HB.out.cell]; rfl
      have d1 : w2.cell? ⟨W.heap.size, 1, none⟩ = some (.int .i64 n) := by rw [HB.out.cell]; rfl
      have d2 : w2.cell? ⟨W.heap.size, 2, none⟩ = some (.string b) := by rw [HB.out.cell]; rfl
      have d3 : w2.cell? ⟨W.heap.size, 3, none⟩ = some (.string v) := by rw [HB.out.cell]; rfl
      have HO := Lib.hid (lit1 w2 35 [(⟨kk, n, b, v⟩ : En)] En.len)
      have hbl := below_lit w2 (.cells ([(⟨kk, n, b, v⟩ : En)].flatMap En.cells).toArray 35)
      have hb := hbl
      clear hbl
      replace HB := Lib.hid (Blk.below (Hid.out HB) hb (Hid.out HB).lt)
      replace H1 := Lib.hid ((Hid.out H1).more_below hb)
      replace H2 := Lib.hid ((Hid.out H2).more_below hb)
      replace HL := Lib.hid ((Hid.out HL).trans (hb.mono (Hid.out HL).size))
      clear hb
      go_wp2_with fail
      refine (rfew_any _ (some ⟨w2.heap.size, 0, none⟩) 1 [(⟨kk, n, b, v⟩ : En)] 1 (by omega) (by unfold maxLen; simp) HO.out (fun r hr => by rw [List.mem_singleton] at hr; subst hr; exact HX.out)).mono ?_
      rintro e w3 ⟨b3, rfl, hb, -⟩
      replace HB := Lib.hid (Blk.below (Hid.out HB) hb (Hid.out HB).lt)
      replace H1 := Lib.hid ((Hid.out H1).more_below hb)
      replace H2 := Lib.hid ((Hid.out H2).more_below hb)
      replace HL := Lib.hid ((Hid.out HL).trans (hb.mono (Hid.out HL).size))
      clear hb
      clear d0 d1 d2 d3 HO
      cases b3 with
      | false =>
        go_wp2_with fail
        refine (awake_any _).mono ?_
        rintro e w4 ⟨rfl, hb⟩
        replace H1 := Lib.hid ((Hid.out H1).more_below hb)
        replace HL := Lib.hid ((Hid.out HL).trans (hb.mono (Hid.out HL).size))
        clear hb
        go_wp2
        go_ret
        exact ⟨rfl, HL.out⟩
      | true =>
        have d0 : w3.cell? ⟨W.heap.size, 0, none⟩ = some (.string kk) := by rw [HB.out.cell]; rfl
        have d1 : w3.cell? ⟨W.heap.size, 1, none⟩ = some (.int .i64 n) := by rw [HB.out.cell]; rfl
        have d2 : w3.cell? ⟨W.heap.size, 2, none⟩ = some (.string b) := by rw [HB.out.cell]; rfl
        have d3 : w3.cell? ⟨W.heap.size, 3, none⟩ = some (.string v) := by rw [HB.out.cell]; rfl
        go_wp2_with fail
        refine (hp1.out w3 (by omega) H1.out).mono ?_
        rintro e w4 ⟨v4, rfl, hrow, hb⟩
        obtain ⟨A4, c4, rfl, hr4⟩ := hrow.reads
        have H4 := Lib.hid hr4
        clear hr4 hrow d0 d1 d2 d3
        replace HB := Lib.hid (Blk.below (Hid.out HB) hb (Hid.out HB).lt)
        replace H1 := Lib.hid ((Hid.out H1).more_below hb)
        replace H2 := Lib.hid ((Hid.out H2).more_below hb)
        replace HL := Lib.hid ((Hid.out HL).trans (hb.mono (Hid.out HL).size))
        clear hb
        have d0 : w4.cell? ⟨W.heap.size, 0, none⟩ = some (.string kk) := by rw [HB.out.cell]; rfl
        have d1 : w4.cell? ⟨W.heap.size, 1, none⟩ = some (.int .i64 n) := by rw [HB.out.cell]; rfl
        have d2 : w4.cell? ⟨W.heap.size, 2, none⟩ = some (.string b) := by rw [HB.out.cell]; rfl
        have d3 : w4.cell? ⟨W.heap.size, 3, none⟩ = some (.string v) := by rw [HB.out.cell]; rfl
        go_wp2_with fail
        refine (hp2.out w4 (by omega) H1.out).mono ?_
        rintro e w5 ⟨v5, rfl, hrow, hb⟩
        obtain ⟨A5, c5, rfl, hr5⟩ := hrow.reads
        have H5 := Lib.hid hr5
        clear hr5 hrow d0 d1 d2 d3
        replace H1 := Lib.hid ((Hid.out H1).more_below hb)
        replace H2 := Lib.hid ((Hid.out H2).more_below hb)
        replace H4 := Lib.hid ((Hid.out H4).more_below hb)
        replace HL := Lib.hid ((Hid.out HL).trans (hb.mono (Hid.out HL).size))
        clear hb
        go_wp2_with fail
        refine (hj1.out w5 (by omega) H1.out H2.out).mono ?_
        rintro e w6 ⟨v6, rfl, hrow, hb⟩
        obtain ⟨A6, c6, rfl, hr6⟩ := hrow.reads
        have H6 := Lib.hid hr6
        clear hr6 hrow
        replace H1 := Lib.hid ((Hid.out H1).more_below hb)
        replace H2 := Lib.hid ((Hid.out H2).more_below hb)
        replace H4 := Lib.hid ((Hid.out H4).more_below hb)
        replace H5 := Lib.hid ((Hid.out H5).more_below hb)
        replace HL := Lib.hid ((Hid.out HL).trans (hb.mono (Hid.out HL).size))
        clear hb
        go_wp2_with fail
        refine (hj2.out w6 (by omega) H1.out H2.out).mono ?_
        rintro e w7 ⟨v7, rfl, hrow, hb⟩
        obtain ⟨A7, c7, rfl, hr7⟩ := hrow.reads
        have H7 := Lib.hid hr7
        clear hr7 hrow
        replace H1 := Lib.hid ((Hid.out H1).more_below hb)
        replace H2 := Lib.hid ((Hid.out H2).more_below hb)
        replace H4 := Lib.hid ((Hid.out H4).more_below hb)
        replace H5 := Lib.hid ((Hid.out H5).more_below hb)
        replace H6 := Lib.hid ((Hid.out H6).more_below hb)
        replace HL := Lib.hid ((Hid.out HL).trans (hb.mono (Hid.out HL).size))
        clear hb
        go_wp2_with fail
        refine (rsame_any w7 A4 A5 c4 c5 P P (by omega) (by omega) H4.out H5.out).mono ?_
        rw [show decide (P = P) = true by simp]
        rintro e w8 ⟨rfl, hb⟩
        replace H6 := Lib.hid ((Hid.out H6).more_below hb)
        replace H7 := Lib.hid ((Hid.out H7).more_below hb)
        replace HL := Lib.hid ((Hid.out HL).trans (hb.mono (Hid.out HL).size))
        clear hb
        go_wp2_with fail
        refine (rsame_any w8 A6 A7 c6 c7 J J (by omega) (by omega) H6.out H7.out).mono ?_
        rw [show decide (J = J) = true by simp]
        rintro e w9 ⟨rfl, hb⟩
        replace H6 := Lib.hid ((Hid.out H6).more_below hb)
        replace HL := Lib.hid ((Hid.out HL).trans (hb.mono (Hid.out HL).size))
        clear hb
        go_wp2_with fail
        refine (awake_any _).mono ?_
        rintro e w10 ⟨rfl, hb⟩
        replace H6 := Lib.hid ((Hid.out H6).more_below hb)
        replace HL := Lib.hid ((Hid.out HL).trans (hb.mono (Hid.out HL).size))
        clear hb
        go_wp2
        go_ret
        exact ⟨rfl, HL.out⟩
theorem puts_all (W : World) (v0 : Value) (v1 : Value) (v2 : Value) (h0 : V22 W v0) (h1 : V22 W v1) (h2 : V35 W v2) :
    Calls Try.prog 4 #[v0, v1, v2] W fun e w' => e = .returned (.bool true) ∧ Below W.heap.size W w' := by
  obtain ⟨A, ca, xs, rfl, a1, a2, hR, hz⟩ := ents h0
  obtain ⟨B, cb, ys, rfl, b1, b2, hR2, hz2⟩ := ents h1
  obtain ⟨r, rfl, hr⟩ := h2
  exact puts_walk W A B ca cb xs ys (toE r) (Nat.le_trans a1 a2) (Nat.le_trans b1 b2) a1 b1 hR hR2 hz hz2 ⟨hr.1, hr.2.2.1, hr.2.2.2⟩
end Go.Proofs.Ytdnefcpmechjkaa.rgy
