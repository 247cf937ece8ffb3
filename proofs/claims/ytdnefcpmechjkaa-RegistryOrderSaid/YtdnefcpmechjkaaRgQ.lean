/- RegistryIs: whether any entries may be, what any key has, and which lie under any path. -/
import Derived.Test.YtdnefcpmechjkaaRgP
namespace Go.Proofs.Ytdnefcpmechjkaa.rgy
open Go.ChangeShapes Go.WideShapes Go.ChangeAt Go.RowKit Go.Proofs.Aid Go.Proofs.Ytdnefcpmechjkaa.name Go.Proofs.Ytdnefcpmechjkaa.reg
def toE (r : R35) : En := ⟨r.key_, ⟨r.regN, r.regBy, r.regValue⟩⟩
theorem ents {w : World} {v : Value} (h : V22 w v) : ∃ (A : Option Addr) (c : Nat) (xs : List En), v = .slice A xs.length c ∧ xs.length ≤ c ∧ c ≤ maxLen ∧ Reads w w.heap.size 4 A xs.length (xs.flatMap En.cells) ∧ ∀ r ∈ xs, r.sz := by
  obtain ⟨A, n, cap, rs, rfl, h1, h2, rfl, hr, hok⟩ := s22 h
  refine ⟨A, cap, rs.map toE, by rw [List.length_map], by rw [List.length_map]; exact h1, h2, ?_, ?_⟩
  · rw [List.length_map, List.flatMap_map]; exact hr
  · intro x hx
    obtain ⟨r, hr, rfl⟩ := List.mem_map.1 hx
    exact ⟨(hok r hr).1, (hok r hr).2.2.1, (hok r hr).2.2.2⟩
theorem rchkL_any (w : World) (A : Option Addr) (cap : Nat) (rs : List En) (hl : rs.length ≤ 1000000) (h1 : Reads w w.heap.size 4 A rs.length (rs.flatMap En.cells)) (hs : ∀ r ∈ rs, r.sz) :
    Calls Try.prog 10 #[.slice A rs.length cap] w fun e w' => e = .returned (.int .i64 (chk rs)) ∧ Below w.heap.size w w' := by
  have H1 := Lib.hid h1
  have HS := Lib.hid hs
  clear h1 hs
  cases hm : may rs
  all_goals
    first | have HK := Lib.hid (chk_ok hm) | have HK := Lib.hid (chk_no hm)
    have HM := Lib.hid hm
    clear hm
    go_enter Try.func10, Try.ntmps10
    go_wp2_with fail
    refine (rmayL_any w A cap rs hl H1.out HS.out).mono ?_
    rw [HM.out]
    rintro e w1 ⟨rfl, hb⟩
    go_wp2
    go_ret
    exact ⟨reg.ret_int (by rw [HK.out]), hb⟩
theorem eqlR_same (r : Rg) (w : World) : (binOp .eql 28 r.val r.val).run Try.prog w = .ok (.bool true) w := by
  obtain ⟨n, b, v⟩ := r
  go_simp
set_option maxRecDepth 100000 in
set_option maxHeartbeats 8000000 in
theorem is_walk (W : World) (A B : Option Addr) (ca cb : Nat) (xs ys : List En) (s : ByteArray) (hl : xs.length ≤ maxLen) (hl2 : ys.length ≤ maxLen) (h1 : Reads W W.heap.size 4 A xs.length (xs.flatMap En.cells)) (h2 : Reads W W.heap.size 4 B ys.length (ys.flatMap En.cells)) (hz : ∀ r ∈ xs, r.sz) (hz2 : ∀ r ∈ ys, r.sz) (hs : s.size ≤ maxLen) :
    Calls Try.prog 3 #[.slice A xs.length ca, .slice B ys.length cb, .string s] W fun e w' => e = .returned (.bool true) ∧ Below W.heap.size W w' := by
  have H1 := Lib.hid h1
  have H2 := Lib.hid h2
  have HS := Lib.hid hz
  have HT := Lib.hid hz2
  have HL1 := Lib.hid hl
  have HL2 := Lib.hid hl2
  have HL := Lib.hid (Below.refl W.heap.size W)
  unfold maxLen at hs
  clear h1 h2 hz hz2 hl hl2
  go_enter Try.func3, Try.ntmps3
  go_wp2_with fail
  refine (rfew_any W A ca xs 30 (by omega) HL1.out H1.out HS.out).mono ?_
  rintro e w1 ⟨b1, rfl, hb, hf1⟩
  replace H1 := Lib.hid ((Hid.out H1).more_below hb)
  replace H2 := Lib.hid ((Hid.out H2).more_below hb)
  replace HL := Lib.hid ((Hid.out HL).trans (hb.mono (Hid.out HL).size))
  clear hb
  cases b1 with
  | false =>
    clear hf1
    go_wp2_with fail
    refine (awake_any _).mono ?_
    rintro e w2 ⟨rfl, hb⟩
    replace H1 := Lib.hid ((Hid.out H1).more_below hb)
    replace HL := Lib.hid ((Hid.out HL).trans (hb.mono (Hid.out HL).size))
    clear hb
    go_wp2
    go_ret
    exact ⟨rfl, HL.out⟩
  | true =>
    have hx30 := (hf1 rfl).1
    clear hf1
    go_wp2_with fail
    refine (rfew_any w1 B cb ys 30 (by omega) HL2.out H2.out HT.out).mono ?_
    rintro e w2 ⟨b2, rfl, hb, hf2⟩
    replace H1 := Lib.hid ((Hid.out H1).more_below hb)
    replace H2 := Lib.hid ((Hid.out H2).more_below hb)
    replace HL := Lib.hid ((Hid.out HL).trans (hb.mono (Hid.out HL).size))
    clear hb
    cases b2 with
    | false =>
      clear hf2
      go_wp2_with fail
      refine (awake_any _).mono ?_
      rintro e w3 ⟨rfl, hb⟩
      replace H1 := Lib.hid ((Hid.out H1).more_below hb)
      replace HL := Lib.hid ((Hid.out HL).trans (hb.mono (Hid.out HL).size))
      clear hb
      go_wp2
      go_ret
      exact ⟨rfl, HL.out⟩
    | true =>
      have hy30 := (hf2 rfl).1
      clear hf2
      by_cases hss : s.size ≤ 200
      · go_wp2_with fail
        refine (chk_any w2 A ca xs (by omega) H1.out HS.out).mono ?_
        have HRC := Lib.hid (fun w' h => rchkL_any w' A ca xs (by omega) h HS.out)
        generalize chk xs = c at *
        rintro e w3 ⟨rfl, hb⟩
        replace H1 := Lib.hid ((Hid.out H1).more_below hb)
        replace H2 := Lib.hid ((Hid.out H2).more_below hb)
        replace HL := Lib.hid ((Hid.out HL).trans (hb.mono (Hid.out HL).size))
        clear hb
        go_wp2_with fail
        refine (HRC.out w3 H1.out).mono ?_
        rintro e w4 ⟨rfl, hb⟩
        replace H1 := Lib.hid ((Hid.out H1).more_below hb)
        replace H2 := Lib.hid ((Hid.out H2).more_below hb)
        replace HL := Lib.hid ((Hid.out HL).trans (hb.mono (Hid.out HL).size))
        clear hb
        have HGa := Lib.hid (fun w' h => get_any w' A ca xs s (by omega) h)
        have HGb := Lib.hid (fun w' h => rget_any w' A ca xs s (by omega) h)
        generalize get xs s = gr at *
        have heq := eqlR_same gr
        go_wp2_with fail
        refine (HGa.out w4 H1.out).mono ?_
        rintro e w5 ⟨rfl, hb⟩
        replace H1 := Lib.hid ((Hid.out H1).more_below hb)
        replace H2 := Lib.hid ((Hid.out H2).more_below hb)
        replace HL := Lib.hid ((Hid.out HL).trans (hb.mono (Hid.out HL).size))
        clear hb
        go_wp2_with fail
        refine (HGb.out w5 H1.out).mono ?_
        rintro e w6 ⟨rfl, hb⟩
        replace H1 := Lib.hid ((Hid.out H1).more_below hb)
        replace H2 := Lib.hid ((Hid.out H2).more_below hb)
        replace HL := Lib.hid ((Hid.out HL).trans (hb.mono (Hid.out HL).size))
        clear hb
        have hlf := List.length_filter_le (underP s) xs
        go_wp2_with fail
        refine (under_any w6 A ca xs s (by omega) H1.out HS.out (by omega)).mono ?_
        rintro e w7 ⟨v7, rfl, hrow, hb⟩
        obtain ⟨A7, c7, rfl, hr7⟩ := hrow.reads
        have H7 := Lib.hid hr7
        clear hr7 hrow
        replace H1 := Lib.hid ((Hid.out H1).more_below hb)
        replace H2 := Lib.hid ((Hid.out H2).more_below hb)
        replace HL := Lib.hid ((Hid.out HL).trans (hb.mono (Hid.out HL).size))
        clear hb
        go_wp2_with fail
        refine (runder_any w7 A ca xs s (by omega) H1.out HS.out (by omega)).mono ?_
        rintro e w8 ⟨v8, rfl, hrow, hb⟩
        obtain ⟨A8, c8, rfl, hr8⟩ := hrow.reads
        have H8 := Lib.hid hr8
        clear hr8 hrow
        replace H1 := Lib.hid ((Hid.out H1).more_below hb)
        replace H2 := Lib.hid ((Hid.out H2).more_below hb)
        replace H7 := Lib.hid ((Hid.out H7).more_below hb)
        replace HL := Lib.hid ((Hid.out HL).trans (hb.mono (Hid.out HL).size))
        clear hb
        generalize xs.filter (underP s) = L at *
        go_wp2_with fail
        refine (rsame_any w8 A7 A8 c7 c8 L L (by omega) (by omega) H7.out H8.out).mono ?_
        rw [show decide (L = L) = true by simp]
        rintro e w9 ⟨rfl, hb⟩
        clear H7 H8
        replace H1 := Lib.hid ((Hid.out H1).more_below hb)
        replace H2 := Lib.hid ((Hid.out H2).more_below hb)
        replace HL := Lib.hid ((Hid.out HL).trans (hb.mono (Hid.out HL).size))
        clear hb
        have hlf2 := List.length_filter_le (newsP ys) xs
        go_wp2_with fail
        refine (news_any w9 A B ca cb xs ys (by omega) (by omega) H1.out H2.out HS.out).mono ?_
        rintro e w10 ⟨v10, rfl, hrow, hb⟩
        obtain ⟨A10, c10, rfl, hr10⟩ := hrow.reads
        have H7 := Lib.hid hr10
        clear hr10 hrow
        replace H1 := Lib.hid ((Hid.out H1).more_below hb)
        replace H2 := Lib.hid ((Hid.out H2).more_below hb)
        replace HL := Lib.hid ((Hid.out HL).trans (hb.mono (Hid.out HL).size))
        clear hb
        go_wp2_with fail
        refine (rnews_any w10 A B ca cb xs ys (by omega) (by omega) H1.out H2.out).mono ?_
        rintro e w11 ⟨v11, rfl, hrow, hb⟩
        obtain ⟨A11, c11, rfl, hr11⟩ := hrow.reads
        have H8 := Lib.hid hr11
        clear hr11 hrow
        replace H1 := Lib.hid ((Hid.out H1).more_below hb)
        replace H2 := Lib.hid ((Hid.out H2).more_below hb)
        replace H7 := Lib.hid ((Hid.out H7).more_below hb)
        replace HL := Lib.hid ((Hid.out HL).trans (hb.mono (Hid.out HL).size))
        clear hb
        generalize xs.filter (newsP ys) = M at *
        go_wp2_with fail
        refine (rsame_any w11 A10 A11 c10 c11 M M (by omega) (by omega) H7.out H8.out).mono ?_
        rw [show decide (M = M) = true by simp]
        rintro e w12 ⟨rfl, hb⟩
        clear H7 H8
        replace H1 := Lib.hid ((Hid.out H1).more_below hb)
        replace H2 := Lib.hid ((Hid.out H2).more_below hb)
        replace HL := Lib.hid ((Hid.out HL).trans (hb.mono (Hid.out HL).size))
        clear hb
        have HSa := Lib.hid (fun w' h1 h2 => same_any w' A B ca cb xs ys (by omega) (by omega) h1 h2)
        have HSb := Lib.hid (fun w' h1 h2 => rsame_any w' A B ca cb xs ys (by omega) (by omega) h1 h2)
        generalize decide (xs = ys) = d at *
        go_wp2_with fail
        refine (HSa.out w12 H1.out H2.out).mono ?_
        rintro e w13 ⟨rfl, hb⟩
        replace H1 := Lib.hid ((Hid.out H1).more_below hb)
        replace H2 := Lib.hid ((Hid.out H2).more_below hb)
        replace HL := Lib.hid ((Hid.out HL).trans (hb.mono (Hid.out HL).size))
        clear hb
        go_wp2_with fail
        refine (HSb.out w13 H1.out H2.out).mono ?_
        rintro e w14 ⟨rfl, hb⟩
        replace H1 := Lib.hid ((Hid.out H1).more_below hb)
        replace H2 := Lib.hid ((Hid.out H2).more_below hb)
        replace HL := Lib.hid ((Hid.out HL).trans (hb.mono (Hid.out HL).size))
        clear hb
        go_wp2_with fail
        refine (awake_any _).mono ?_
        rintro e w15 ⟨rfl, hb⟩
        replace H1 := Lib.hid ((Hid.out H1).more_below hb)
        replace HL := Lib.hid ((Hid.out HL).trans (hb.mono (Hid.out HL).size))
        clear hb
        go_wp2
        go_ret
        exact ⟨rfl, HL.out⟩
      · go_wp2_with fail
        refine (awake_any _).mono ?_
        rintro e w3 ⟨rfl, hb⟩
        replace H1 := Lib.hid ((Hid.out H1).more_below hb)
        replace HL := Lib.hid ((Hid.out HL).trans (hb.mono (Hid.out HL).size))
        clear hb
        go_wp2
        go_ret
        exact ⟨rfl, HL.out⟩
theorem is_all (W : World) (v0 : Value) (v1 : Value) (v2 : Value) (h0 : V22 W v0) (h1 : V22 W v1) (h2 : V9 W v2) :
    Calls Try.prog 3 #[v0, v1, v2] W fun e w' => e = .returned (.bool true) ∧ Below W.heap.size W w' := by
  obtain ⟨A, ca, xs, rfl, a1, a2, hR, hz⟩ := ents h0
  obtain ⟨B, cb, ys, rfl, b1, b2, hR2, hz2⟩ := ents h1
  obtain ⟨⟨s⟩, rfl, hs⟩ := h2
  exact is_walk W A B ca cb xs ys s (Nat.le_trans a1 a2) (Nat.le_trans b1 b2) hR hR2 hz hz2 hs
end Go.Proofs.Ytdnefcpmechjkaa.rgy
