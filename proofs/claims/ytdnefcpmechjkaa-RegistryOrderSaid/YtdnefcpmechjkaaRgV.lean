/- RegistryOrder: join does not hang on the order, nor on how often; the news of one, joined to the other one, are what both come to. -/
import Derived.Test.YtdnefcpmechjkaaRgT
namespace Go.Proofs.Ytdnefcpmechjkaa.rgy
open Go.ChangeShapes Go.WideShapes Go.ChangeAt Go.RowKit Go.Proofs.Aid Go.Proofs.Ytdnefcpmechjkaa.name Go.Proofs.Ytdnefcpmechjkaa.reg
theorem join_at (w : World) (A B : Option Addr) (ca cb : Nat) (xs ys L : List En) (hm : may xs = true) (hm2 : may ys = true) (he : merge xs ys = L) (hl : xs.length + ys.length ≤ 4000) (hc : xs.length ≤ ca) (hcb : ys.length ≤ cb) (h1 : Reads w w.heap.size 4 A xs.length (xs.flatMap En.cells)) (h2 : Reads w w.heap.size 4 B ys.length (ys.flatMap En.cells)) (hz : ∀ r ∈ xs, r.sz) (hzb : ∀ r ∈ ys, r.sz) :
    Calls Try.prog 21 #[.slice A xs.length ca, .slice B ys.length cb] w (RowP w L 0) := by
  have := join_yes w A B ca cb xs ys hl hc hcb h1 h2 hz hzb hm hm2
  rwa [he] at this
/-- What the lists come to, with all that their joins ask. -/
structure OrdE (xs ys zs ab bc abc : List En) : Prop where
  ma : may xs = true
  mb : may ys = true
  mc : may zs = true
  mab : may ab = true
  mbc : may bc = true
  e1 : merge xs ys = ab
  e2 : merge ys xs = ab
  e3 : merge xs xs = xs
  e4 : merge ys zs = bc
  e5 : merge ab zs = abc
  e6 : merge xs bc = abc
  mn : may (xs.filter (newsP ys)) = true
  e7 : merge ys (xs.filter (newsP ys)) = ab
  e8 : xs.filter (newsP ab) = []
  sab : ∀ r ∈ ab, r.sz
  sbc : ∀ r ∈ bc, r.sz
  lab : ab.length ≤ 60
  lbc : bc.length ≤ 60
  labc : abc.length ≤ 100
  ln : (xs.filter (newsP ys)).length ≤ 30
theorem OrdE.mk' {xs ys zs : List En} (ha : may xs = true) (hb : may ys = true) (hc : may zs = true) (la : xs.length ≤ 30) (lb : ys.length ≤ 30) (lc : zs.length ≤ 30) (sa : ∀ r ∈ xs, r.sz) (sb : ∀ r ∈ ys, r.sz) (sc : ∀ r ∈ zs, r.sz) : OrdE xs ys zs (merge xs ys) (merge ys zs) (merge (merge xs ys) zs) := by
  have ra := (may_iff.1 ha).2.2
  have rb := (may_iff.1 hb).2.2
  have rc := (may_iff.1 hc).2.2
  have l1 := merge_len xs ys
  have l2 := merge_len ys zs
  have l3 := merge_len (merge xs ys) zs
  have l4 := List.length_filter_le (newsP ys) xs
  refine ⟨ha, hb, hc, merge_may ha hb (by omega), merge_may hb hc (by omega), rfl, (merge_swap ra rb).symm, merge_self ra, rfl, rfl, (merge_assoc ra rb rc).symm, ?_, news_join ha hb, news_none ha hb, merge_sz sa sb, merge_sz sb sc, by omega, by omega, by omega, by omega⟩
  rw [may_iff]
  exact ⟨by omega, fun x hx => (may_iff.1 ha).2.1 x ((List.mem_filter.1 hx).1), filter_srt ra⟩
set_option maxRecDepth 100000 in
set_option maxHeartbeats 8000000 in
theorem order_yes (W : World) (A B C : Option Addr) (ca cb cc : Nat) (xs ys zs ab bc abc : List En) (HO : Hid (OrdE xs ys zs ab bc abc)) (la : xs.length ≤ 30) (lb : ys.length ≤ 30) (lc : zs.length ≤ 30) (hca : xs.length ≤ ca) (hcb : ys.length ≤ cb) (hcc : zs.length ≤ cc) (H1 : Hid (Reads W W.heap.size 4 A xs.length (xs.flatMap En.cells))) (H2 : Hid (Reads W W.heap.size 4 B ys.length (ys.flatMap En.cells))) (H3 : Hid (Reads W W.heap.size 4 C zs.length (zs.flatMap En.cells))) (HS : Hid (∀ r ∈ xs, r.sz)) (HT : Hid (∀ r ∈ ys, r.sz)) (HU : Hid (∀ r ∈ zs, r.sz)) :
    Calls Try.prog 6 #[.slice A xs.length ca, .slice B ys.length cb, .slice C zs.length cc] W fun e w' => e = .returned (.bool true) ∧ Below W.heap.size W w' := by
  have HL := Lib.hid (Below.refl W.heap.size W)
  have lab := HO.lab
  have lbc := HO.lbc
  have labc := HO.labc
  have ln := HO.ln
  go_enter Try.func6, Try.ntmps6
  go_wp2_with fail
  refine (rfew_any W A ca xs 30 (by omega) (by unfold maxLen; omega) H1.out HS.out).mono ?_
  rintro e w1 ⟨b1, rfl, hb, -⟩
  replace H1 := Lib.hid ((Hid.out H1).more_below hb)
  replace H2 := Lib.hid ((Hid.out H2).more_below hb)
  replace H3 := Lib.hid ((Hid.out H3).more_below hb)
  replace HL := Lib.hid ((Hid.out HL).trans (hb.mono (Hid.out HL).size))
  clear hb
  cases b1 with
  | false =>
    go_wp2_with fail
    refine (awake_any _).mono ?_
    rintro e w2 ⟨rfl, hb⟩
    replace H1 := Lib.hid ((Hid.out H1).more_below hb)
    replace HL := Lib.hid ((Hid.out HL).trans (hb.mono (Hid.out HL).size))
    clear hb
    go_wp2
    go_ret
    exact ⟨rfl, HL.out⟩
  | true =>
    go_wp2_with fail
    refine (rfew_any w1 B cb ys 30 (by omega) (by unfold maxLen; omega) H2.out HT.out).mono ?_
    rintro e w2 ⟨b2, rfl, hb, -⟩
    replace H1 := Lib.hid ((Hid.out H1).more_below hb)
    replace H2 := Lib.hid ((Hid.out H2).more_below hb)
    replace H3 := Lib.hid ((Hid.out H3).more_below hb)
    replace HL := Lib.hid ((Hid.out HL).trans (hb.mono (Hid.out HL).size))
    clear hb
    cases b2 with
    | false =>
      go_wp2_with fail
      refine (awake_any _).mono ?_
      rintro e w3 ⟨rfl, hb⟩
      replace H1 := Lib.hid ((Hid.out H1).more_below hb)
      replace HL := Lib.hid ((Hid.out HL).trans (hb.mono (Hid.out HL).size))
      clear hb
      go_wp2
      go_ret
      exact ⟨rfl, HL.out⟩
    | true =>
      go_wp2_with fail
      refine (rfew_any w2 C cc zs 30 (by omega) (by unfold maxLen; omega) H3.out HU.out).mono ?_
      rintro e w3 ⟨b3, rfl, hb, -⟩
      replace H1 := Lib.hid ((Hid.out H1).more_below hb)
      replace H2 := Lib.hid ((Hid.out H2).more_below hb)
      replace H3 := Lib.hid ((Hid.out H3).more_below hb)
      replace HL := Lib.hid ((Hid.out HL).trans (hb.mono (Hid.out HL).size))
      clear hb
      cases b3 with
      | false =>
        go_wp2_with fail
        refine (awake_any _).mono ?_
        rintro e w4 ⟨rfl, hb⟩
        replace H1 := Lib.hid ((Hid.out H1).more_below hb)
        replace HL := Lib.hid ((Hid.out HL).trans (hb.mono (Hid.out HL).size))
        clear hb
        go_wp2
        go_ret
        exact ⟨rfl, HL.out⟩
      | true =>
        go_wp2_with fail
        refine (rmayL_any w3 A ca xs (by omega) H1.out HS.out).mono ?_
        rw [HO.ma]
        rintro e w4 ⟨rfl, hb⟩
        replace H1 := Lib.hid ((Hid.out H1).more_below hb)
        replace H2 := Lib.hid ((Hid.out H2).more_below hb)
        replace H3 := Lib.hid ((Hid.out H3).more_below hb)
        replace HL := Lib.hid ((Hid.out HL).trans (hb.mono (Hid.out HL).size))
        clear hb
        go_wp2_with fail
        refine (rmayL_any w4 B cb ys (by omega) H2.out HT.out).mono ?_
        rw [HO.mb]
        rintro e w5 ⟨rfl, hb⟩
        replace H1 := Lib.hid ((Hid.out H1).more_below hb)
        replace H2 := Lib.hid ((Hid.out H2).more_below hb)
        replace H3 := Lib.hid ((Hid.out H3).more_below hb)
        replace HL := Lib.hid ((Hid.out HL).trans (hb.mono (Hid.out HL).size))
        clear hb
        go_wp2_with fail
        refine (rmayL_any w5 C cc zs (by omega) H3.out HU.out).mono ?_
        rw [HO.mc]
        rintro e w6 ⟨rfl, hb⟩
        replace H1 := Lib.hid ((Hid.out H1).more_below hb)
        replace H2 := Lib.hid ((Hid.out H2).more_below hb)
        replace H3 := Lib.hid ((Hid.out H3).more_below hb)
        replace HL := Lib.hid ((Hid.out HL).trans (hb.mono (Hid.out HL).size))
        clear hb
        go_wp2_with fail
        refine (join_at w6 A B ca cb xs ys ab HO.ma HO.mb HO.e1 (by omega) hca hcb H1.out H2.out HS.out HT.out).mono ?_
        rintro e w7 ⟨v7, rfl, hrow, hb⟩
        obtain ⟨A7, c7, rfl, hc7, hr7⟩ := hrow.reads'
        have H7 := Lib.hid hr7
        clear hr7 hrow
        replace H1 := Lib.hid ((Hid.out H1).more_below hb)
        replace H2 := Lib.hid ((Hid.out H2).more_below hb)
        replace H3 := Lib.hid ((Hid.out H3).more_below hb)
        replace HL := Lib.hid ((Hid.out HL).trans (hb.mono (Hid.out HL).size))
        clear hb
        go_wp2_with fail
        refine (join_at w7 B A cb ca ys xs ab HO.mb HO.ma HO.e2 (by omega) hcb hca H2.out H1.out HT.out HS.out).mono ?_
        rintro e w8 ⟨v8, rfl, hrow, hb⟩
        obtain ⟨A8, c8, rfl, hc8, hr8⟩ := hrow.reads'
        have H8 := Lib.hid hr8
        clear hr8 hrow
        replace H1 := Lib.hid ((Hid.out H1).more_below hb)
        replace H2 := Lib.hid ((Hid.out H2).more_below hb)
        replace H3 := Lib.hid ((Hid.out H3).more_below hb)
        replace H7 := Lib.hid ((Hid.out H7).more_below hb)
        replace HL := Lib.hid ((Hid.out HL).trans (hb.mono (Hid.out HL).size))
        clear hb
        go_wp2_with fail
        refine (join_at w8 A A ca ca xs xs xs HO.ma HO.ma HO.e3 (by omega) hca hca H1.out H1.out HS.out HS.out).mono ?_
        rintro e w9 ⟨v9, rfl, hrow, hb⟩
        obtain ⟨A9, c9, rfl, hc9, hr9⟩ := hrow.reads'
        have H9 := Lib.hid hr9
        clear hr9 hrow
        replace H1 := Lib.hid ((Hid.out H1).more_below hb)
        replace H2 := Lib.hid ((Hid.out H2).more_below hb)
        replace H3 := Lib.hid ((Hid.out H3).more_below hb)
        replace H7 := Lib.hid ((Hid.out H7).more_below hb)
        replace H8 := Lib.hid ((Hid.out H8).more_below hb)
        replace HL := Lib.hid ((Hid.out HL).trans (hb.mono (Hid.out HL).size))
        clear hb
        go_wp2_with fail
        refine (join_at w9 B C cb cc ys zs bc HO.mb HO.mc HO.e4 (by omega) hcb hcc H2.out H3.out HT.out HU.out).mono ?_
        rintro e w10 ⟨v10, rfl, hrow, hb⟩
        obtain ⟨A10, c10, rfl, hc10, hr10⟩ := hrow.reads'
        have H10 := Lib.hid hr10
        clear hr10 hrow
        replace H1 := Lib.hid ((Hid.out H1).more_below hb)
        replace H2 := Lib.hid ((Hid.out H2).more_below hb)
        replace H3 := Lib.hid ((Hid.out H3).more_below hb)
        replace H7 := Lib.hid ((Hid.out H7).more_below hb)
        replace H8 := Lib.hid ((Hid.out H8).more_below hb)
        replace H9 := Lib.hid ((Hid.out H9).more_below hb)
        replace HL := Lib.hid ((Hid.out HL).trans (hb.mono (Hid.out HL).size))
        clear hb
        go_wp2_with fail
        refine (join_at w10 A7 C c7 cc ab zs abc HO.mab HO.mc HO.e5 (by omega) hc7 hcc H7.out H3.out HO.sab HU.out).mono ?_
        rintro e w11 ⟨v11, rfl, hrow, hb⟩
        obtain ⟨A11, c11, rfl, hc11, hr11⟩ := hrow.reads'
        have H11 := Lib.hid hr11
        clear hr11 hrow
        replace H1 := Lib.hid ((Hid.out H1).more_below hb)
        replace H2 := Lib.hid ((Hid.out H2).more_below hb)
        replace H7 := Lib.hid ((Hid.out H7).more_below hb)
        replace H8 := Lib.hid ((Hid.out H8).more_below hb)
        replace H9 := Lib.hid ((Hid.out H9).more_below hb)
        replace H10 := Lib.hid ((Hid.out H10).more_below hb)
        replace HL := Lib.hid ((Hid.out HL).trans (hb.mono (Hid.out HL).size))
        clear hb
        go_wp2_with fail
        refine (join_at w11 A A10 ca c10 xs bc abc HO.ma HO.mbc HO.e6 (by omega) hca hc10 H1.out H10.out HS.out HO.sbc).mono ?_
        rintro e w12 ⟨v12, rfl, hrow, hb⟩
        obtain ⟨A12, c12, rfl, hc12, hr12⟩ := hrow.reads'
        have H12 := Lib.hid hr12
        clear hr12 hrow
        replace H1 := Lib.hid ((Hid.out H1).more_below hb)
        replace H2 := Lib.hid ((Hid.out H2).more_below hb)
        replace H7 := Lib.hid ((Hid.out H7).more_below hb)
        replace H8 := Lib.hid ((Hid.out H8).more_below hb)
        replace H9 := Lib.hid ((Hid.out H9).more_below hb)
        replace H11 := Lib.hid ((Hid.out H11).more_below hb)
        replace HL := Lib.hid ((Hid.out HL).trans (hb.mono (Hid.out HL).size))
        clear hb
        go_wp2_with fail
        refine (rsame_any w12 A7 A8 c7 c8 ab ab (by omega) (by omega) H7.out H8.out).mono ?_
        rw [show decide (ab = ab) = true by simp]
        rintro e w13 ⟨rfl, hb⟩
        replace H1 := Lib.hid ((Hid.out H1).more_below hb)
        replace H2 := Lib.hid ((Hid.out H2).more_below hb)
        replace H7 := Lib.hid ((Hid.out H7).more_below hb)
        replace H9 := Lib.hid ((Hid.out H9).more_below hb)
        replace H11 := Lib.hid ((Hid.out H11).more_below hb)
        replace H12 := Lib.hid ((Hid.out H12).more_below hb)
        replace HL := Lib.hid ((Hid.out HL).trans (hb.mono (Hid.out HL).size))
        clear hb
        go_wp2_with fail
        refine (rsame_any w13 A9 A c9 ca xs xs (by omega) (by omega) H9.out H1.out).mono ?_
        rw [show decide (xs = xs) = true by simp]
        rintro e w14 ⟨rfl, hb⟩
        replace H1 := Lib.hid ((Hid.out H1).more_below hb)
        replace H2 := Lib.hid ((Hid.out H2).more_below hb)
        replace H7 := Lib.hid ((Hid.out H7).more_below hb)
        replace H11 := Lib.hid ((Hid.out H11).more_below hb)
        replace H12 := Lib.hid ((Hid.out H12).more_below hb)
        replace HL := Lib.hid ((Hid.out HL).trans (hb.mono (Hid.out HL).size))
        clear hb
        go_wp2_with fail
        refine (rsame_any w14 A11 A12 c11 c12 abc abc (by omega) (by omega) H11.out H12.out).mono ?_
        rw [show decide (abc = abc) = true by simp]
        rintro e w15 ⟨rfl, hb⟩
        replace H1 := Lib.hid ((Hid.out H1).more_below hb)
        replace H2 := Lib.hid ((Hid.out H2).more_below hb)
        replace H7 := Lib.hid ((Hid.out H7).more_below hb)
        replace HL := Lib.hid ((Hid.out HL).trans (hb.mono (Hid.out HL).size))
        clear hb
        go_wp2_with fail
        refine (news_any w15 A B ca cb xs ys (by omega) (by omega) H1.out H2.out HS.out).mono ?_
        rintro e w16 ⟨v16, rfl, hrow, hb⟩
        obtain ⟨A16, c16, rfl, hc16, hr16⟩ := hrow.reads'
        have H16 := Lib.hid hr16
        clear hr16 hrow
        replace H1 := Lib.hid ((Hid.out H1).more_below hb)
        replace H2 := Lib.hid ((Hid.out H2).more_below hb)
        replace H7 := Lib.hid ((Hid.out H7).more_below hb)
        replace HL := Lib.hid ((Hid.out HL).trans (hb.mono (Hid.out HL).size))
        clear hb
        have HSN : Hid (∀ r ∈ xs.filter (newsP ys), r.sz) := fun r hr => HS.out r ((List.mem_filter.1 hr).1)
        have hjn := Lib.hid (fun w' h1 h2 => join_at w' B A16 cb c16 ys (xs.filter (newsP ys)) ab HO.mb HO.mn HO.e7 (by omega) hcb hc16 h1 h2 HT.out HSN.out)
        have hnn := Lib.hid (HO.e8)
        clear HO HSN
        generalize xs.filter (newsP ys) = N at *
        go_wp2_with fail
        refine (hjn.out w16 H2.out H16.out).mono ?_
        rintro e w17 ⟨v17, rfl, hrow, hb⟩
        obtain ⟨A17, c17, rfl, hc17, hr17⟩ := hrow.reads'
        have H17 := Lib.hid hr17
        clear hr17 hrow
        replace H1 := Lib.hid ((Hid.out H1).more_below hb)
        replace H7 := Lib.hid ((Hid.out H7).more_below hb)
        replace HL := Lib.hid ((Hid.out HL).trans (hb.mono (Hid.out HL).size))
        clear hb
        go_wp2_with fail
        refine (rsame_any w17 A17 A7 c17 c7 ab ab (by omega) (by omega) H17.out H7.out).mono ?_
        rw [show decide (ab = ab) = true by simp]
        rintro e w18 ⟨rfl, hb⟩
        replace H1 := Lib.hid ((Hid.out H1).more_below hb)
        replace H7 := Lib.hid ((Hid.out H7).more_below hb)
        replace HL := Lib.hid ((Hid.out HL).trans (hb.mono (Hid.out HL).size))
        clear hb
        go_wp2_with fail
        refine (news_any w18 A A7 ca c7 xs ab (by omega) (by omega) H1.out H7.out HS.out).mono ?_
        rw [hnn.out]
        rintro e w19 ⟨v19, rfl, hrow, hb⟩
        obtain ⟨A19, c19, rfl⟩ := hrow.form
        clear hrow
        replace H1 := Lib.hid ((Hid.out H1).more_below hb)
        replace HL := Lib.hid ((Hid.out HL).trans (hb.mono (Hid.out HL).size))
        clear hb
        go_wp2_with fail
        refine (awake_any _).mono ?_
        rintro e w20 ⟨rfl, hb⟩
        replace H1 := Lib.hid ((Hid.out H1).more_below hb)
        replace HL := Lib.hid ((Hid.out HL).trans (hb.mono (Hid.out HL).size))
        clear hb
        go_wp2
        go_ret
        exact ⟨rfl, HL.out⟩
set_option maxRecDepth 100000 in
set_option maxHeartbeats 8000000 in
theorem order_walk (W : World) (A B C : Option Addr) (ca cb cc : Nat) (xs ys zs : List En) (hl : xs.length ≤ maxLen) (hl2 : ys.length ≤ maxLen) (hl3 : zs.length ≤ maxLen) (hca : xs.length ≤ ca) (hcb : ys.length ≤ cb) (hcc : zs.length ≤ cc) (H1 : Hid (Reads W W.heap.size 4 A xs.length (xs.flatMap En.cells))) (H2 : Hid (Reads W W.heap.size 4 B ys.length (ys.flatMap En.cells))) (H3 : Hid (Reads W W.heap.size 4 C zs.length (zs.flatMap En.cells))) (HS : Hid (∀ r ∈ xs, r.sz)) (HT : Hid (∀ r ∈ ys, r.sz)) (HU : Hid (∀ r ∈ zs, r.sz)) :
    Calls Try.prog 6 #[.slice A xs.length ca, .slice B ys.length cb, .slice C zs.length cc] W fun e w' => e = .returned (.bool true) ∧ Below W.heap.size W w' := by
  by_cases hall : xs.length ≤ 30 ∧ ys.length ≤ 30 ∧ zs.length ≤ 30 ∧ may xs = true ∧ may ys = true ∧ may zs = true
  · obtain ⟨la, lb, lc, ma, mb, mc⟩ := hall
    exact order_yes W A B C ca cb cc xs ys zs _ _ _ (OrdE.mk' ma mb mc la lb lc HS.out HT.out HU.out) la lb lc hca hcb hcc H1 H2 H3 HS HT HU
  · have HN := Lib.hid hall
    clear hall
    have HL := Lib.hid (Below.refl W.heap.size W)
    have HL1 := Lib.hid hl
    have HL2 := Lib.hid hl2
    have HL3 := Lib.hid hl3
    clear hl hl2 hl3
    go_enter Try.func6, Try.ntmps6
    go_wp2_with fail
    refine (rfew_any W A ca xs 30 (by omega) HL1.out H1.out HS.out).mono ?_
    rintro e w1 ⟨b1, rfl, hb, hf1⟩
    replace H1 := Lib.hid ((Hid.out H1).more_below hb)
    replace H2 := Lib.hid ((Hid.out H2).more_below hb)
    replace H3 := Lib.hid ((Hid.out H3).more_below hb)
    replace HL := Lib.hid ((Hid.out HL).trans (hb.mono (Hid.out HL).size))
    clear hb
    cases b1 with
    | false =>
      clear hf1
      go_wp2_with fail
      refine (awake_any _).mono ?_
      rintro e w2 ⟨rfl, hb⟩
      replace H1 := Lib.hid ((Hid.out H1).more_below hb)
      replace HL := Lib.hid ((Hid.out HL).trans (hb.mono (Hid.out HL).size))
      clear hb
      go_wp2
      go_ret
      exact ⟨rfl, HL.out⟩
    | true =>
      have la := (hf1 rfl).1
      clear hf1
      go_wp2_with fail
      refine (rfew_any w1 B cb ys 30 (by omega) HL2.out H2.out HT.out).mono ?_
      rintro e w2 ⟨b2, rfl, hb, hf2⟩
      replace H1 := Lib.hid ((Hid.out H1).more_below hb)
      replace H2 := Lib.hid ((Hid.out H2).more_below hb)
      replace H3 := Lib.hid ((Hid.out H3).more_below hb)
      replace HL := Lib.hid ((Hid.out HL).trans (hb.mono (Hid.out HL).size))
      clear hb
      cases b2 with
      | false =>
        clear hf2
        go_wp2_with fail
        refine (awake_any _).mono ?_
        rintro e w3 ⟨rfl, hb⟩
        replace H1 := Lib.hid ((Hid.out H1).more_below hb)
        replace HL := Lib.hid ((Hid.out HL).trans (hb.mono (Hid.out HL).size))
        clear hb
        go_wp2
        go_ret
        exact ⟨rfl, HL.out⟩
      | true =>
        have lb := (hf2 rfl).1
        clear hf2
        go_wp2_with fail
        refine (rfew_any w2 C cc zs 30 (by omega) HL3.out H3.out HU.out).mono ?_
        rintro e w3 ⟨b3, rfl, hb, hf3⟩
        replace H1 := Lib.hid ((Hid.out H1).more_below hb)
        replace H2 := Lib.hid ((Hid.out H2).more_below hb)
        replace H3 := Lib.hid ((Hid.out H3).more_below hb)
        replace HL := Lib.hid ((Hid.out HL).trans (hb.mono (Hid.out HL).size))
        clear hb
        cases b3 with
        | false =>
          clear hf3
          go_wp2_with fail
          refine (awake_any _).mono ?_
          rintro e w4 ⟨rfl, hb⟩
          replace H1 := Lib.hid ((Hid.out H1).more_below hb)
          replace HL := Lib.hid ((Hid.out HL).trans (hb.mono (Hid.out HL).size))
          clear hb
          go_wp2
          go_ret
          exact ⟨rfl, HL.out⟩
        | true =>
          have lc := (hf3 rfl).1
          clear hf3
          go_wp2_with fail
          refine (rmayL_any w3 A ca xs (by omega) H1.out HS.out).mono ?_
          cases hma : may xs with
          | false =>
            clear hma
            rintro e w4 ⟨rfl, hb⟩
            replace H1 := Lib.hid ((Hid.out H1).more_below hb)
            replace H2 := Lib.hid ((Hid.out H2).more_below hb)
            replace H3 := Lib.hid ((Hid.out H3).more_below hb)
            replace HL := Lib.hid ((Hid.out HL).trans (hb.mono (Hid.out HL).size))
            clear hb
            go_wp2_with fail
            refine (awake_any _).mono ?_
            rintro e w5 ⟨rfl, hb⟩
            replace H1 := Lib.hid ((Hid.out H1).more_below hb)
            replace HL := Lib.hid ((Hid.out HL).trans (hb.mono (Hid.out HL).size))
            clear hb
            go_wp2
            go_ret
            exact ⟨rfl, HL.out⟩
          | true =>
            have HMA := Lib.hid hma
            clear hma
            rintro e w4 ⟨rfl, hb⟩
            replace H1 := Lib.hid ((Hid.out H1).more_below hb)
            replace H2 := Lib.hid ((Hid.out H2).more_below hb)
            replace H3 := Lib.hid ((Hid.out H3).more_below hb)
            replace HL := Lib.hid ((Hid.out HL).trans (hb.mono (Hid.out HL).size))
            clear hb
            go_wp2_with fail
            refine (rmayL_any w4 B cb ys (by omega) H2.out HT.out).mono ?_
            cases hmb : may ys with
            | false =>
              clear hmb
              rintro e w5 ⟨rfl, hb⟩
              replace H1 := Lib.hid ((Hid.out H1).more_below hb)
              replace H2 := Lib.hid ((Hid.out H2).more_below hb)
              replace H3 := Lib.hid ((Hid.out H3).more_below hb)
              replace HL := Lib.hid ((Hid.out HL).trans (hb.mono (Hid.out HL).size))
              clear hb
              go_wp2_with fail
              refine (awake_any _).mono ?_
              rintro e w6 ⟨rfl, hb⟩
              replace H1 := Lib.hid ((Hid.out H1).more_below hb)
              replace HL := Lib.hid ((Hid.out HL).trans (hb.mono (Hid.out HL).size))
              clear hb
              go_wp2
              go_ret
              exact ⟨rfl, HL.out⟩
            | true =>
              have HMB := Lib.hid hmb
              clear hmb
              rintro e w5 ⟨rfl, hb⟩
              replace H1 := Lib.hid ((Hid.out H1).more_below hb)
              replace H2 := Lib.hid ((Hid.out H2).more_below hb)
              replace H3 := Lib.hid ((Hid.out H3).more_below hb)
              replace HL := Lib.hid ((Hid.out HL).trans (hb.mono (Hid.out HL).size))
              clear hb
              go_wp2_with fail
              refine (rmayL_any w5 C cc zs (by omega) H3.out HU.out).mono ?_
              cases hmc : may zs with
              | false =>
                clear hmc
                rintro e w6 ⟨rfl, hb⟩
                replace H1 := Lib.hid ((Hid.out H1).more_below hb)
                replace H2 := Lib.hid ((Hid.out H2).more_below hb)
                replace H3 := Lib.hid ((Hid.out H3).more_below hb)
                replace HL := Lib.hid ((Hid.out HL).trans (hb.mono (Hid.out HL).size))
                clear hb
                go_wp2_with fail
                refine (awake_any _).mono ?_
                rintro e w7 ⟨rfl, hb⟩
                replace H1 := Lib.hid ((Hid.out H1).more_below hb)
                replace HL := Lib.hid ((Hid.out HL).trans (hb.mono (Hid.out HL).size))
                clear hb
                go_wp2
                go_ret
                exact ⟨rfl, HL.out⟩
              | true => exact absurd ⟨la, lb, lc, HMA.out, HMB.out, hmc⟩ HN.out
theorem order_all (W : World) (v0 : Value) (v1 : Value) (v2 : Value) (h0 : V22 W v0) (h1 : V22 W v1) (h2 : V22 W v2) :
    Calls Try.prog 6 #[v0, v1, v2] W fun e w' => e = .returned (.bool true) ∧ Below W.heap.size W w' := by
  obtain ⟨A, ca, xs, rfl, a1, a2, hR, hz⟩ := ents h0
  obtain ⟨B, cb, ys, rfl, b1, b2, hR2, hz2⟩ := ents h1
  obtain ⟨C, cc, zs, rfl, c1, c2, hR3, hz3⟩ := ents h2
  exact order_walk W A B C ca cb cc xs ys zs (Nat.le_trans a1 a2) (Nat.le_trans b1 b2) (Nat.le_trans c1 c2) a1 b1 c1 hR hR2 hR3 hz hz2 hz3
end Go.Proofs.Ytdnefcpmechjkaa.rgy
