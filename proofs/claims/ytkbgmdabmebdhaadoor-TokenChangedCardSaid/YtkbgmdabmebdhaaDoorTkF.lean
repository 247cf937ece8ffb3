/- Token: the law Changed. -/
import Derived.Test.YtkbgmdabmebdhaaDoorTkE
import Derived.Test.YtkbgmdabmebdhaaDoorMaZ
namespace Go.Proofs.YtkbgmdabmebdhaaDoor.tk
open Go.ChangeShapes Go.WideShapes Go.ChangeAt Go.RowKit Go.Proofs.Aid Go.Proofs.YtkbgmdabmebdhaaDoor.rgy Go.Proofs.YtkbgmdabmebdhaaDoor.name
open Go.Proofs.YtkbgmdabmebdhaaDoor.oc (be be_length bz bz_append teB textS numS St RAt RPost pv pb)
open Go.Proofs.YtkbgmdabmebdhaaDoor.mac (macB msum_any MStr IsD is_yes is_no BkF u8_in u8_xor and31 set_ne set_same)
open Go.Proofs.YtkbgmdabmebdhaaDoor.te
set_option linter.unusedVariables false
theorem blk_reads (t k : ByteArray) (w : World) (g : Nat) (hb : Blk w g 58 (#[.string (tkey t fS), .int .i64 1, .string ⟨#[]⟩, .string k])) : Reads w w.heap.size 4 (some ⟨g, 0, none⟩) [enK t k].length ([enK t k].flatMap En.cells) :=
  Reads.of_blk (f := En.cells) hb En.len rfl
theorem check_blk (t u k : ByteArray) (n now : Int) (L : List UInt8) (w : World) (g : Nat) (hb : Blk w g 58 (#[.string (tkey t fS), .int .i64 1, .string ⟨#[]⟩, .string k])) (hL : L.length = 32) (ht : isName t.data.toList = true) (hu : isName u.data.toList = true) (hk : isSec k = true) (st : t.size ≤ 1000) (su : u.size ≤ 1000) (h0 : -9223372036854775808 ≤ n) (h1 : n ≤ 9223372036854775807) (HLt : Hid (nm.Lets w)) :
    Calls Tryd.prog 8 #[.slice (some ⟨g, 0, none⟩) 1 1, .string (bz (saysB t u n ++ L)), .int .i64 now] w (Ck (decide (macB k.data.toList (saysB t u n) = L) && decide (now ≤ n)) t u w) := by
  have hk3 : k.size ≤ 64 := by
    unfold isSec at hk
    simp at hk
    exact hk.2
  have h := check_any w (some ⟨g, 0, none⟩) 1 [enK t k] (bz (saysB t u n ++ L)) now (by show 1 ≤ 100000; omega) (blk_reads t k w g hb) (short_one t k (by omega)) (says_sz t u n L hL st su) HLt
  rw [chk_back t u k n now L hL ht hu hk (by omega) (by omega) h0 h1, cutA_back _ _ hL, rA_back t u n (by omega), rB_back t u n (by omega) (by omega)] at h
  exact h
theorem check_cut (t k s : ByteArray) (now : Int) (w : World) (g : Nat) (hb : Blk w g 58 (#[.string (tkey t fS), .int .i64 1, .string ⟨#[]⟩, .string k])) (hk : k.size ≤ 300) (hs : s.size < 32) (HLt : Hid (nm.Lets w)) :
    Calls Tryd.prog 8 #[.slice (some ⟨g, 0, none⟩) 1 1, .string s, .int .i64 now] w fun e w' => e = .returned (.tuple #[.string ⟨#[]⟩, .string ⟨#[]⟩, .int .i64 7]) ∧ Below w.heap.size w w' := by
  have h := check_any w (some ⟨g, 0, none⟩) 1 [enK t k] s now (by show 1 ≤ 100000; omega) (blk_reads t k w g hb) (short_one t k hk) (by omega) HLt
  rw [chk_short _ _ _ hs] at h
  exact h
theorem known_blk (t k : ByteArray) (w : World) (ht : t.size ≤ 1000) :
    Calls Tryd.prog 9 #[.string t, .string k] w fun e w' => ∃ g, e = .returned (.slice (some ⟨g, 0, none⟩) 1 1) ∧ Blk w' g 58 (#[.string (tkey t fS), .int .i64 1, .string ⟨#[]⟩, .string k]) ∧ Below w.heap.size w w' := by
  refine (known_any t k w ht).mono ?_
  rintro e w' ⟨rfl, rfl⟩
  exact ⟨_, rfl, Blk.new _ _ _, below_lit _ _⟩
/-- While the changed token is asked. -/
structure Cg (w0 : World) (gb N : Nat) (a b c : ByteArray) (l : List UInt8) (w' : World) : Prop where
  hx : Blk w' w0.heap.size 22 #[.string a, .string b, .string c]
  hb : BkF w' gb l
  n : l.length = N
  low : Below w0.heap.size w0 w'
theorem Cg.next {w0 w1 w2 : World} {gb N : Nat} {a b c : ByteArray} {l : List UInt8} (h : Cg w0 gb N a b c l w1) (hb : Below w1.heap.size w1 w2) : Cg w0 gb N a b c l w2 :=
  ⟨h.hx.below hb h.hx.lt, h.hb.below hb h.hb.lt, h.n, h.low.trans (hb.mono h.low.size)⟩
theorem Cg.drew {w0 w1 : World} {gb N : Nat} {a b c : ByteArray} {l : List UInt8} (h : Cg w0 gb N a b c l w1) : Cg w0 gb N a b c l w1.drew := ⟨h.hx.drew, h.hb.drew, h.n, h.low.drew⟩
theorem Cg.all {w0 w1 : World} {gb N cap : Nat} {a b c : ByteArray} {l : List UInt8} (h : Cg w0 gb N a b c l w1) : w1.cell? ⟨w0.heap.size, 0, none⟩ = some (.string a) ∧ w1.cell? ⟨w0.heap.size, 2, none⟩ = some (.string c) ∧ (convert 32 9 (.slice (some ⟨gb, 0, none⟩) N cap)).run Tryd.prog w1 = .ok (.string (bz l)) w1 ∧ Hid (Cg w0 gb N a b c l w1) :=
  ⟨by rw [h.hx.cell]; rfl, by rw [h.hx.cell]; rfl, by have := h.hb.back cap; rwa [h.n] at this, h⟩
theorem Cg.dall {w0 w1 : World} {gb N cap : Nat} {a b c : ByteArray} {l : List UInt8} (h : Hid (Cg w0 gb N a b c l w1)) : w1.drew.cell? ⟨w0.heap.size, 0, none⟩ = some (.string a) ∧ w1.drew.cell? ⟨w0.heap.size, 2, none⟩ = some (.string c) ∧ (convert 32 9 (.slice (some ⟨gb, 0, none⟩) N cap)).run Tryd.prog w1.drew = .ok (.string (bz l)) w1.drew ∧ Hid (Cg w0 gb N a b c l w1.drew) := h.out.drew.all
theorem Cg.nall {w0 w1 w2 : World} {gb N cap : Nat} {a b c : ByteArray} {l : List UInt8} (hb : Below w1.heap.size w1 w2) (h : Hid (Cg w0 gb N a b c l w1)) : w2.cell? ⟨w0.heap.size, 0, none⟩ = some (.string a) ∧ w2.cell? ⟨w0.heap.size, 2, none⟩ = some (.string c) ∧ (convert 32 9 (.slice (some ⟨gb, 0, none⟩) N cap)).run Tryd.prog w2 = .ok (.string (bz l)) w2 ∧ Hid (Cg w0 gb N a b c l w2) := (h.out.next hb).all
theorem Cg.set_ {w0 w1 : World} {gb N : Nat} {a b c : ByteArray} {l : List UInt8} {i : Nat} (h : Cg w0 gb N a b c l w1) (hg : w0.heap.size < gb) (hi : i < l.length) (v : UInt8) : Cg w0 gb N a b c (l.set i v) (w1.setCell ⟨gb, i, none⟩ (.int .u8 (v.toNat : Int))) :=
  ⟨h.hx.far (by show w0.heap.size ≠ gb; omega) _, h.hb.set_ hi v, by rw [List.length_set]; exact h.n, h.low.setCell (p := ⟨gb, i, none⟩) (by show w0.heap.size ≤ gb; omega) _⟩
set_option maxRecDepth 100000 in
set_option maxHeartbeats 4000000 in
theorem changed_all (W : World) (v0 v1 v2 : Value) (h0 : V22 W v0) (h1 : V5 W v1) (h2 : V5 W v2) (HLt : Hid (nm.Lets W)) :
    Calls Tryd.prog 4 #[v0, v1, v2] W fun e w' => e = .returned (.bool true) ∧ Below W.heap.size W w' := by
  obtain ⟨⟨a, b, c⟩, rfl, ha, hb, hc⟩ := h0
  obtain ⟨⟨x0⟩, rfl, hok2⟩ := h1
  obtain ⟨⟨x1⟩, rfl, hok3⟩ := h2
  obtain ⟨hx0, hx1⟩ := u8_in hok2
  obtain ⟨hy0, hy1⟩ := u8_in hok3
  simp only at hx0 hx1 hy0 hy1 ha hb hc
  clear hok2 hok3
  have HIA := Lib.hid (fun w => reg.rname_any a w ha)
  have HIB := Lib.hid (fun w => reg.rname_any b w hb)
  have HB : Hid (Below W.heap.size W (W.alloc (.cells #[.string a, .string b, .string c] 22))) := below_lit _ _
  have HX : Hid (Blk (W.alloc (.cells #[.string a, .string b, .string c] 22)) W.heap.size 22 #[.string a, .string b, .string c]) := Blk.new _ _ _
  have c0 : (W.alloc (.cells #[.string a, .string b, .string c] 22)).cell? ⟨W.heap.size, 0, none⟩ = some (.string a) := by rw [HX.out.cell]; rfl
  have c1 : (W.alloc (.cells #[.string a, .string b, .string c] 22)).cell? ⟨W.heap.size, 1, none⟩ = some (.string b) := by rw [HX.out.cell]; rfl
  have c2 : (W.alloc (.cells #[.string a, .string b, .string c] 22)).cell? ⟨W.heap.size, 2, none⟩ = some (.string c) := by rw [HX.out.cell]; rfl
  unfold maxLen at ha hb hc
  simp only [R22.val, R5.val]
  have HNA := Lib.hid (@name_sz a)
  have HNB := Lib.hid (@name_sz b)
  obtain ⟨b1, hb1⟩ : ∃ b1, isName a.data.toList = b1 := ⟨_, rfl⟩
  obtain ⟨b2, hb2⟩ : ∃ b2, isName b.data.toList = b2 := ⟨_, rfl⟩
  have Hb1 := Lib.hid hb1
  have Hb2 := Lib.hid hb2
  rw [hb1] at HIA HNA
  rw [hb2] at HIB HNB
  clear hb1 hb2
  cases b1 with
  | false =>
    go_enter Tryd.func4, Tryd.ntmps4; go_wp2_with fail; generalize W.alloc (.cells #[.string a, .string b, .string c] 22) = wa at *
    refine (HIA.out wa).mono ?_
    rintro e w1 ⟨rfl, rfl⟩
    go_wp2_with fail
    refine (awake_any _ (Lib.hid (HLt.out.next HB.out))).mono ?_; rintro e wz ⟨rfl, hB⟩; have HZ := Lib.hid (HB.out.trans (hB.mono HB.out.size)); clear hB; go_wp2; go_ret; exact ⟨rfl, HZ.out⟩
  | true =>
    cases b2 with
    | false =>
      go_enter Tryd.func4, Tryd.ntmps4; go_wp2_with fail; generalize W.alloc (.cells #[.string a, .string b, .string c] 22) = wa at *
      refine (HIA.out _).mono ?_
      rintro e w1 ⟨rfl, rfl⟩
      go_wp2_with fail
      refine (HIB.out _).mono ?_
      rintro e w1 ⟨rfl, rfl⟩
      go_wp2_with fail
      refine (awake_any _ (Lib.hid (HLt.out.next HB.out))).mono ?_; rintro e wz ⟨rfl, hB⟩; have HZ := Lib.hid (HB.out.trans (hB.mono HB.out.size)); clear hB; go_wp2; go_ret; exact ⟨rfl, HZ.out⟩
    | true =>
      by_cases hs1 : c.size < 1
      · have hs2 : (c.size : Int) < 1 := by omega
        go_enter Tryd.func4, Tryd.ntmps4; go_wp2_with fail; generalize W.alloc (.cells #[.string a, .string b, .string c] 22) = wa at *
        refine (HIA.out _).mono ?_
        rintro e w1 ⟨rfl, rfl⟩
        go_wp2_with fail
        refine (HIB.out _).mono ?_
        rintro e w1 ⟨rfl, rfl⟩
        go_wp2_with fail
        refine (awake_any _ (Lib.hid (HLt.out.next HB.out))).mono ?_; rintro e wz ⟨rfl, hB⟩; have HZ := Lib.hid (HB.out.trans (hB.mono HB.out.size)); clear hB; go_wp2; go_ret; exact ⟨rfl, HZ.out⟩
      · have hs2 : ¬ (c.size : Int) < 1 := by omega
        by_cases hs3 : 64 < c.size
        · have hs4 : (64 : Int) < (c.size : Int) := by omega
          go_enter Tryd.func4, Tryd.ntmps4; go_wp2_with fail; generalize W.alloc (.cells #[.string a, .string b, .string c] 22) = wa at *
          refine (HIA.out _).mono ?_
          rintro e w1 ⟨rfl, rfl⟩
          go_wp2_with fail
          refine (HIB.out _).mono ?_
          rintro e w1 ⟨rfl, rfl⟩
          go_wp2_with fail
          refine (awake_any _ (Lib.hid (HLt.out.next HB.out))).mono ?_; rintro e wz ⟨rfl, hB⟩; have HZ := Lib.hid (HB.out.trans (hB.mono HB.out.size)); clear hB; go_wp2; go_ret; exact ⟨rfl, HZ.out⟩
        · have hs4 : ¬ (64 : Int) < (c.size : Int) := by omega
          have hsec : isSec c = true := by unfold isSec; simp; omega
          have hL : Hid ((macB c.data.toList (saysB a b 9)).length = 32) := mac.macB_length _ _
          have HA16 := HNA.out rfl
          have HB16 := HNB.out rfl
          have HM := Lib.hid (fun w hl => make_any c a b 9 w (by omega) (by omega) (by omega) hl)
          have HC := Lib.hid (fun L w g hb hL h => check_blk a b c 9 9 L w g hb hL Hb1.out Hb2.out hsec (by omega) (by omega) (by decide) (by decide) h)
          have HC2 := Lib.hid (fun s w g hb hs h => check_cut a c s 9 w g hb (by omega) hs h)
          have HKN := Lib.hid (fun w => known_blk a c w (by omega))
          have HSL := Lib.hid (saysB_len a b 9)
          have ht : Hid (tokB c a b 9 = saysB a b 9 ++ macB c.data.toList (saysB a b 9)) := rfl
          rw [ht.out] at HM
          clear ht hsec Hb1 Hb2 HNA HNB
          generalize macB c.data.toList (saysB a b 9) = M at *
          generalize saysB a b 9 = P at *
          obtain ⟨N, hN⟩ : ∃ N, N = 48 + a.size + b.size := ⟨_, rfl⟩
          have hN1 : 48 ≤ N := by omega
          have hN2 : N ≤ 100 := by omega
          have HPM : Hid ((P ++ M).length = N) := by unfold Hid; rw [List.length_append, HSL.out, hL.out]; omega
          have HPL : Hid (P.length + 32 = N) := by have := HSL.out; unfold Hid; omega
          clear hN HA16 HB16 HSL
          have hss : (bz (P ++ M)).size = N := (oc.bz_size _).trans HPM.out
          obtain ⟨s0, hs0⟩ : ∃ s0, bz (P ++ M) = s0 := ⟨_, rfl⟩
          have HSD : Hid (s0.data.toList = P ++ M) := by rw [← hs0]; rfl
          rw [hs0] at HM hss
          clear hs0
          have hsl := fun w => tkS.slice_to (P := Tryd.prog) Tryd.underlying9 w s0 31 (by omega) (H := 31) rfl
          have hz1 : Hid ((s0.extract 0 31).size < 32) := by unfold Hid; rw [ByteArray.size_extract]; omega
          generalize s0.extract 0 31 = z1 at *
          have hss2 : ¬ (N : Int) < 33 := by omega
          go_enter Tryd.func4, Tryd.ntmps4; go_wp2_with fail; generalize W.alloc (.cells #[.string a, .string b, .string c] 22) = wa at *
          refine (HIA.out _).mono ?_
          rintro e w1 ⟨rfl, rfl⟩
          go_wp2_with fail
          refine (HIB.out _).mono ?_
          rintro e w1 ⟨rfl, rfl⟩
          go_wp2_with fail
          refine (HM.out _ (HLt.out.next HB.out).sh).mono ?_
          rintro e w4 ⟨rfl, hb⟩
          replace HX := Lib.hid (HX.out.below hb HX.out.lt)
          replace HB := Lib.hid (HB.out.trans (hb.mono HB.out.size))
          clear hb c0 c1 c2 HM HIA HIB
          have hcv := run_bytes_of_string (P := Tryd.prog) w4 9 32 5 s0 Tryd.underlying9 Tryd.underlying32 Tryd.underlying5
          rw [hss] at hcv
          generalize grownCap w4 N 0 5 = cap at *
          have hC : Cg W w4.heap.size N a b c (P ++ M) (w4.alloc (Obj.cells (bytesRow s0 cap) 5 ((bytesRow s0 cap).size, (bytesRow s0 cap).size + 1))).drew := by
            refine ⟨HX.out.alloc _, ?_, HPM.out, (HB.out.alloc HB.out.size _).drew⟩
            have h := BkF.conv (w := w4) s0 cap ((bytesRow s0 cap).size, (bytesRow s0 cap).size + 1) (by rw [bytesRow, Array.size_append]; simp)
            rw [HSD.out] at h
            exact h
          have HCg := Lib.hid hC
          clear hC
          obtain ⟨i, hi, hin⟩ : ∃ n : Nat, n < 32 ∧ bits .and .u8 x0 31 = (n : Int) := by
            refine ⟨x0.toNat % 32, by omega, ?_⟩
            have h := and31 ⟨x0.toNat, by omega⟩
            simpa [Int.toNat_of_nonneg hx0] using h
          have HGB : Hid (W.heap.size < w4.heap.size) := HX.out.lt
          obtain ⟨q, hq⟩ : ∃ q : Nat, (N : Int) - 1 - (i : Int) = (q : Int) := ⟨N - 1 - i, by omega⟩
          have hqN : q < N := by omega
          have hqP : Hid (P.length ≤ q) := by have := HPL.out; unfold Hid; omega
          have hqi : (q : Int) < (N : Int) := by omega
          obtain ⟨v, rfl⟩ : ∃ v : UInt8, x1 = (v.toNat : Int) := ⟨UInt8.ofNat x1.toNat, by
            rw [UInt8.toNat_ofNat_of_lt' (by show x1.toNat < 256; omega)]; omega⟩
          clear hy0 hy1
          have hiM : q < (P ++ M).length := by rw [HPM.out]; exact hqN
          have cM := HCg.out.hb.cell hiM
          have fM := HCg.out.hb.frozen hiM
          have hx := mac.u8_xor (P ++ M)[q] v
          have H5 := Lib.hid (HCg.out.set_ HGB.out hiM ((P ++ M)[q] ^^^ v))
          have hqM : q - P.length < M.length := by have := hqP.out; have := HPL.out; have := hL.out; omega
          have hval : (P ++ M)[q] = M[q - P.length] := List.getElem_append_right hqP.out
          have HSET : Hid ((P ++ M).set q ((P ++ M)[q] ^^^ v) = P ++ M.set (q - P.length) (M[q - P.length] ^^^ v)) := by
            unfold Hid
            rw [hval, List.set_append_right _ _ hqP.out]
          have HEQ := Lib.hid (fun h : v = 0 => show M.set (q - P.length) (M[q - P.length] ^^^ v) = M by rw [h]; exact set_same hqM)
          have HNE := Lib.hid (fun h : v ≠ 0 => set_ne hqM h)
          have HL2 : Hid ((M.set (q - P.length) (M[q - P.length] ^^^ v)).length = 32) := by unfold Hid; rw [List.length_set]; exact hL.out
          rw [HSET.out] at H5
          generalize M.set (q - P.length) (M[q - P.length] ^^^ v) = L2 at *
          clear HSET hval hqM HCg
          generalize (P ++ M)[q] ^^^ v = y at *
          generalize (P ++ M)[q] = m at *
          go_wp2_with fail
          clear hcv hin hx cM fM hss
          have H6 : Hid (Cg W w4.heap.size N a b c (P ++ L2) (((w4.alloc (Obj.cells (bytesRow s0 cap) 5 ((bytesRow s0 cap).size, (bytesRow s0 cap).size + 1))).setCell ⟨w4.heap.size, q, none⟩ (.int .u8 (y.toNat : Int))).drew)) := H5
          clear H5
          have H5 := Lib.hid H6.out
          clear H6
          generalize ((w4.alloc (Obj.cells (bytesRow s0 cap) 5 ((bytesRow s0 cap).size, (bytesRow s0 cap).size + 1))).setCell ⟨w4.heap.size, q, none⟩ (.int .u8 (y.toNat : Int))).drew = w5 at *
          generalize w4.heap.size = gb at *
          clear HX HB hiM
          have HD := Lib.hid (fun w g hb h => HC.out L2 w g hb HL2.out h)
          obtain ⟨b5, hb5⟩ : ∃ b5, decide (M = L2) = b5 := ⟨_, rfl⟩
          rw [hb5, show decide ((9 : Int) ≤ 9) = true from rfl, Bool.and_true] at HD
          have HB5 : Hid (b5 = decide (v.toNat = 0)) := by
            unfold Hid
            rw [← hb5]
            by_cases h : v = 0
            · rw [HEQ.out h, h]; simp
            · have h3 : v.toNat ≠ 0 := fun e => h (UInt8.toNat_inj.mp (by simpa using e))
              rw [decide_eq_false h3, decide_eq_false (fun e => HNE.out h e.symm)]
          clear hb5 HEQ HNE HL2 HC
          unfold Ck at HD
          generalize hLL : P ++ L2 = L at *
          have HLL := Lib.hid hLL
          clear hLL
          have test := @Cg.dall W w5 gb N cap a b c L H5
          cases b5 with
          | true =>
            have hvz : (v.toNat : Int) = 0 := by
              have h := HB5.out
              have h2 : v.toNat = 0 := of_decide_eq_true h.symm
              omega
            clear HB5
            generalize (v.toNat : Int) = x1 at *
            simp only [if_true] at HD
            refine wp_region_held_drew (S := (fun w' => w'.cell? ⟨W.heap.size, 0, none⟩ = some (.string a) ∧ w'.cell? ⟨W.heap.size, 2, none⟩ = some (.string c) ∧ (convert 32 9 (.slice (some ⟨gb, 0, none⟩) N cap)).run Tryd.prog w' = .ok (.string (bz L)) w' ∧ Hid (Cg W gb N a b c L w'))) (by kernel_rfl) ?_ (fun hHeldp0 => ?_)
            · exact test
            refine wpAnyH_take (i := 0) (v := ?vp0) ops0 (by kernel_rfl) (by kernel_rfl) (by kernel_rfl) (fun _ _ _ h => h) (Or.inl ⟨by rfl, ?yp0⟩) hHeldp0 ?_
            case yp0 => (intro w hSw; (try dsimp only at hSw); go_simp; try (with_reducible rfl))
            try simp only [Act.put, List.setIfInBounds_toArray, List.set_cons_zero, List.set_cons_succ]
            refine wpAnyH_take (i := 1) (v := ?vp1) (opsS ops0) (by kernel_rfl) (by kernel_rfl) (by kernel_rfl) (fun _ _ _ h => h) (Or.inl ⟨by rfl, ?yp1⟩) hHeldp0 ?_
            case yp1 => (intro w hSw; (try dsimp only at hSw); go_simp; try (with_reducible rfl))
            try simp only [Act.put, List.setIfInBounds_toArray, List.set_cons_zero, List.set_cons_succ]
            refine wpAnyH_take (i := 2) (v := ?vp2) (opsS (opsS ops0)) (by kernel_rfl) (by kernel_rfl) (by kernel_rfl) (fun _ _ _ h => h) (Or.inl ⟨by rfl, ?yp2⟩) hHeldp0 ?_
            case yp2 => (intro w hSw; (try dsimp only at hSw); go_simp; try (with_reducible rfl))
            try simp only [Act.put, List.setIfInBounds_toArray, List.set_cons_zero, List.set_cons_succ]
            refine wpAnyH_take (i := 3) (v := ?vp3) (opsS (opsS (opsS ops0))) (by kernel_rfl) (by kernel_rfl) (by kernel_rfl) (fun _ _ _ h => h) (Or.inl ⟨by rfl, ?yp3⟩) hHeldp0 ?_
            case yp3 => (intro w hSw; (try dsimp only at hSw); go_simp; try (with_reducible rfl))
            try simp only [Act.put, List.setIfInBounds_toArray, List.set_cons_zero, List.set_cons_succ]
            refine wpAnyH_take (i := 5) (v := ?vp5) (opsS (opsS (opsS (opsS (opsS ops0))))) (by kernel_rfl) (by kernel_rfl) (by kernel_rfl) (fun _ _ _ h => h) (Or.inl ⟨by rfl, ?yp5⟩) hHeldp0 ?_
            case yp5 => (intro w hSw; (try dsimp only at hSw); go_simp; try (with_reducible rfl))
            try simp only [Act.put, List.setIfInBounds_toArray, List.set_cons_zero, List.set_cons_succ]
            refine wpAnyH_take (i := 6) (v := ?vp6) (opsS (opsS (opsS (opsS (opsS (opsS ops0)))))) (by kernel_rfl) (by kernel_rfl) (by kernel_rfl) (fun _ _ _ h => h) (Or.inl ⟨by rfl, ?yp6⟩) hHeldp0 ?_
            case yp6 => (intro w hSw; (try dsimp only at hSw); go_simp; try (with_reducible rfl))
            try simp only [Act.put, List.setIfInBounds_toArray, List.set_cons_zero, List.set_cons_succ]
            refine wpAnyH_ready (rs := [4]) (by kernel_rfl) (by simp) ?_
            refine AllReadyH.cons (opsS (opsS (opsS (opsS ops0)))) (fun K hK => ?_) AllReadyH.nil
            go_simp
            refine (HKN.out _).mono ?_; rintro e w' ⟨gk, rfl, hkn, hb⟩
            try dsimp only
            refine hK.out _ _ ?_ (fun hHeldp1 => ?_)
            · (first | assumption | exact Cg.dall (by assumption) | (go_split_ands; exact Cg.dall (by assumption)) | (go_split_ands; exact Cg.nall (by assumption) (by assumption)))
            clear hK K hHeldp0
            try clear hb
            try simp only [Act.put, List.setIfInBounds_toArray, List.set_cons_zero, List.set_cons_succ]
            refine wpAnyH_ready (rs := [7]) (by kernel_rfl) (by simp) ?_
            refine AllReadyH.cons (opsS (opsS (opsS (opsS (opsS (opsS (opsS ops0))))))) (fun K hK => ?_) AllReadyH.nil
            go_simp
            refine (HD.out _ _ hkn (Lib.hid (HLt.out.next hHeldp1.2.2.2.out.low))).mono ?_; rintro e w' ⟨rfl, hb⟩
            try dsimp only
            refine hK.out _ _ ?_ (fun hHeldp2 => ?_)
            · (first | assumption | exact Cg.dall (by assumption) | (go_split_ands; exact Cg.dall (by assumption)) | (go_split_ands; exact Cg.nall (by assumption) (by assumption)))
            clear hK K hHeldp1
            try clear hb
            try simp only [Act.put, List.setIfInBounds_toArray, List.set_cons_zero, List.set_cons_succ]
            refine wpAnyH_take (i := 8) (v := ?vp8) (opsS (opsS (opsS (opsS (opsS (opsS (opsS (opsS ops0)))))))) (by kernel_rfl) (by kernel_rfl) (by kernel_rfl) (fun _ _ _ h => h) (Or.inl ⟨by rfl, ?yp8⟩) hHeldp2 ?_
            case yp8 => (intro w hSw; (try dsimp only at hSw); go_simp; try (with_reducible rfl))
            try simp only [Act.put, List.setIfInBounds_toArray, List.set_cons_zero, List.set_cons_succ]
            refine wpAnyH_take (i := 9) (v := ?vp9) (opsS (opsS (opsS (opsS (opsS (opsS (opsS (opsS (opsS ops0))))))))) (by kernel_rfl) (by kernel_rfl) (by kernel_rfl) (fun _ _ _ h => h) (Or.inl ⟨by rfl, ?yp9⟩) hHeldp2 ?_
            case yp9 => (intro w hSw; (try dsimp only at hSw); go_simp; try (with_reducible rfl))
            try simp only [Act.put, List.setIfInBounds_toArray, List.set_cons_zero, List.set_cons_succ]
            refine wpAnyH_take (i := 10) (v := ?vp10) (opsS (opsS (opsS (opsS (opsS (opsS (opsS (opsS (opsS (opsS ops0)))))))))) (by kernel_rfl) (by kernel_rfl) (by kernel_rfl) (fun _ _ _ h => h) (Or.inl ⟨by rfl, ?yp10⟩) hHeldp2 ?_
            case yp10 => (intro w hSw; (try dsimp only at hSw); go_simp; try (with_reducible rfl))
            try simp only [Act.put, List.setIfInBounds_toArray, List.set_cons_zero, List.set_cons_succ]
            refine wpAnyH_take (i := 11) (v := ?vp11) (opsS (opsS (opsS (opsS (opsS (opsS (opsS (opsS (opsS (opsS (opsS ops0))))))))))) (by kernel_rfl) (by kernel_rfl) (by kernel_rfl) (fun _ _ _ h => h) (Or.inl ⟨by rfl, ?yp11⟩) hHeldp2 ?_
            case yp11 => (intro w hSw; (try dsimp only at hSw); go_simp; try (with_reducible rfl))
            try simp only [Act.put, List.setIfInBounds_toArray, List.set_cons_zero, List.set_cons_succ]
            refine wpAnyH_take (i := 12) (v := ?vp12) (opsS (opsS (opsS (opsS (opsS (opsS (opsS (opsS (opsS (opsS (opsS (opsS ops0)))))))))))) (by kernel_rfl) (by kernel_rfl) (by kernel_rfl) (fun _ _ _ h => h) (Or.inl ⟨by rfl, ?yp12⟩) hHeldp2 ?_
            case yp12 => (intro w hSw; (try dsimp only at hSw); go_simp; try (with_reducible rfl))
            try simp only [Act.put, List.setIfInBounds_toArray, List.set_cons_zero, List.set_cons_succ]
            refine wpAnyH_take (i := 13) (v := ?vp13) (opsS (opsS (opsS (opsS (opsS (opsS (opsS (opsS (opsS (opsS (opsS (opsS (opsS ops0))))))))))))) (by kernel_rfl) (by kernel_rfl) (by kernel_rfl) (fun _ _ _ h => h) (Or.inl ⟨by rfl, ?yp13⟩) hHeldp2 ?_
            case yp13 => (intro w hSw; (try dsimp only at hSw); go_simp; try (with_reducible rfl))
            try simp only [Act.put, List.setIfInBounds_toArray, List.set_cons_zero, List.set_cons_succ]
            refine wpAnyH_take (i := 14) (v := ?vp14) (opsS (opsS (opsS (opsS (opsS (opsS (opsS (opsS (opsS (opsS (opsS (opsS (opsS (opsS ops0)))))))))))))) (by kernel_rfl) (by kernel_rfl) (by kernel_rfl) (fun _ _ _ h => h) (Or.inl ⟨by rfl, ?yp14⟩) hHeldp2 ?_
            case yp14 => (intro w hSw; (try dsimp only at hSw); go_simp; try (with_reducible rfl))
            try simp only [Act.put, List.setIfInBounds_toArray, List.set_cons_zero, List.set_cons_succ]
            refine wpAnyH_done (by kernel_rfl) ?_ _
            have H7 := Lib.hid hHeldp2.2.2.2.out
            clear hHeldp2 hkn test HD
            have test := @Cg.dall W _ gb N cap a b c L H7
            go_wp2_with fail
            refine wp_region_held_drew (S := (fun w' => w'.cell? ⟨W.heap.size, 0, none⟩ = some (.string a) ∧ w'.cell? ⟨W.heap.size, 2, none⟩ = some (.string c) ∧ (convert 32 9 (.slice (some ⟨gb, 0, none⟩) N cap)).run Tryd.prog w' = .ok (.string (bz L)) w' ∧ Hid (Cg W gb N a b c L w'))) (by kernel_rfl) ?_ (fun hHeldr0 => ?_)
            · exact test
            refine wpAnyH_take (i := 0) (v := ?vr0) ops0 (by kernel_rfl) (by kernel_rfl) (by kernel_rfl) (fun _ _ _ h => h) (Or.inl ⟨by rfl, ?yr0⟩) hHeldr0 ?_
            case yr0 => (intro w hSw; (try dsimp only at hSw); go_simp; try (with_reducible rfl))
            try simp only [Act.put, List.setIfInBounds_toArray, List.set_cons_zero, List.set_cons_succ]
            refine wpAnyH_take (i := 1) (v := ?vr1) (opsS ops0) (by kernel_rfl) (by kernel_rfl) (by kernel_rfl) (fun _ _ _ h => h) (Or.inl ⟨by rfl, ?yr1⟩) hHeldr0 ?_
            case yr1 => (intro w hSw; (try dsimp only at hSw); go_simp; try (with_reducible rfl))
            try simp only [Act.put, List.setIfInBounds_toArray, List.set_cons_zero, List.set_cons_succ]
            refine wpAnyH_take (i := 2) (v := ?vr2) (opsS (opsS ops0)) (by kernel_rfl) (by kernel_rfl) (by kernel_rfl) (fun _ _ _ h => h) (Or.inl ⟨by rfl, ?yr2⟩) hHeldr0 ?_
            case yr2 => (intro w hSw; (try dsimp only at hSw); go_simp; try (with_reducible rfl))
            try simp only [Act.put, List.setIfInBounds_toArray, List.set_cons_zero, List.set_cons_succ]
            refine wpAnyH_take (i := 3) (v := ?vr3) (opsS (opsS (opsS ops0))) (by kernel_rfl) (by kernel_rfl) (by kernel_rfl) (fun _ _ _ h => h) (Or.inl ⟨by rfl, ?yr3⟩) hHeldr0 ?_
            case yr3 => (intro w hSw; (try dsimp only at hSw); go_simp; try (with_reducible rfl))
            try simp only [Act.put, List.setIfInBounds_toArray, List.set_cons_zero, List.set_cons_succ]
            refine wpAnyH_take (i := 5) (v := ?vr5) (opsS (opsS (opsS (opsS (opsS ops0))))) (by kernel_rfl) (by kernel_rfl) (by kernel_rfl) (fun _ _ _ h => h) (Or.inl ⟨by rfl, ?yr5⟩) hHeldr0 ?_
            case yr5 => (intro w hSw; (try dsimp only at hSw); go_simp; try (with_reducible rfl))
            try simp only [Act.put, List.setIfInBounds_toArray, List.set_cons_zero, List.set_cons_succ]
            refine wpAnyH_take (i := 6) (v := ?vr6) (opsS (opsS (opsS (opsS (opsS (opsS ops0)))))) (by kernel_rfl) (by kernel_rfl) (by kernel_rfl) (fun _ _ _ h => h) (Or.inl ⟨by rfl, ?yr6⟩) hHeldr0 ?_
            case yr6 => (intro w hSw; (try dsimp only at hSw); go_simp; try (with_reducible rfl))
            try simp only [Act.put, List.setIfInBounds_toArray, List.set_cons_zero, List.set_cons_succ]
            refine wpAnyH_ready (rs := [4]) (by kernel_rfl) (by simp) ?_
            refine AllReadyH.cons (opsS (opsS (opsS (opsS ops0)))) (fun K hK => ?_) AllReadyH.nil
            go_simp
            refine (HKN.out _).mono ?_; rintro e w' ⟨gk, rfl, hkn, hb⟩
            try dsimp only
            refine hK.out _ _ ?_ (fun hHeldr1 => ?_)
            · (first | assumption | exact Cg.dall (by assumption) | (go_split_ands; exact Cg.dall (by assumption)) | (go_split_ands; exact Cg.nall (by assumption) (by assumption)))
            clear hK K hHeldr0
            try clear hb
            try simp only [Act.put, List.setIfInBounds_toArray, List.set_cons_zero, List.set_cons_succ]
            refine wpAnyH_ready (rs := [7]) (by kernel_rfl) (by simp) ?_
            refine AllReadyH.cons (opsS (opsS (opsS (opsS (opsS (opsS (opsS ops0))))))) (fun K hK => ?_) AllReadyH.nil
            go_simp
            refine (HC2.out _ _ _ hkn hz1.out (Lib.hid (HLt.out.next hHeldr1.2.2.2.out.low))).mono ?_; rintro e w' ⟨rfl, hb⟩
            try dsimp only
            refine hK.out _ _ ?_ (fun hHeldr2 => ?_)
            · (first | assumption | exact Cg.dall (by assumption) | (go_split_ands; exact Cg.dall (by assumption)) | (go_split_ands; exact Cg.nall (by assumption) (by assumption)))
            clear hK K hHeldr1
            try clear hb
            try simp only [Act.put, List.setIfInBounds_toArray, List.set_cons_zero, List.set_cons_succ]
            refine wpAnyH_take (i := 8) (v := ?vr8) (opsS (opsS (opsS (opsS (opsS (opsS (opsS (opsS ops0)))))))) (by kernel_rfl) (by kernel_rfl) (by kernel_rfl) (fun _ _ _ h => h) (Or.inl ⟨by rfl, ?yr8⟩) hHeldr2 ?_
            case yr8 => (intro w hSw; (try dsimp only at hSw); go_simp; try (with_reducible rfl))
            try simp only [Act.put, List.setIfInBounds_toArray, List.set_cons_zero, List.set_cons_succ]
            refine wpAnyH_take (i := 9) (v := ?vr9) (opsS (opsS (opsS (opsS (opsS (opsS (opsS (opsS (opsS ops0))))))))) (by kernel_rfl) (by kernel_rfl) (by kernel_rfl) (fun _ _ _ h => h) (Or.inl ⟨by rfl, ?yr9⟩) hHeldr2 ?_
            case yr9 => (intro w hSw; (try dsimp only at hSw); go_simp; try (with_reducible rfl))
            try simp only [Act.put, List.setIfInBounds_toArray, List.set_cons_zero, List.set_cons_succ]
            refine wpAnyH_take (i := 10) (v := ?vr10) (opsS (opsS (opsS (opsS (opsS (opsS (opsS (opsS (opsS (opsS ops0)))))))))) (by kernel_rfl) (by kernel_rfl) (by kernel_rfl) (fun _ _ _ h => h) (Or.inl ⟨by rfl, ?yr10⟩) hHeldr2 ?_
            case yr10 => (intro w hSw; (try dsimp only at hSw); go_simp; try (with_reducible rfl))
            try simp only [Act.put, List.setIfInBounds_toArray, List.set_cons_zero, List.set_cons_succ]
            refine wpAnyH_take (i := 11) (v := ?vr11) (opsS (opsS (opsS (opsS (opsS (opsS (opsS (opsS (opsS (opsS (opsS ops0))))))))))) (by kernel_rfl) (by kernel_rfl) (by kernel_rfl) (fun _ _ _ h => h) (Or.inl ⟨by rfl, ?yr11⟩) hHeldr2 ?_
            case yr11 => (intro w hSw; (try dsimp only at hSw); go_simp; try (with_reducible rfl))
            try simp only [Act.put, List.setIfInBounds_toArray, List.set_cons_zero, List.set_cons_succ]
            refine wpAnyH_take (i := 12) (v := ?vr12) (opsS (opsS (opsS (opsS (opsS (opsS (opsS (opsS (opsS (opsS (opsS (opsS ops0)))))))))))) (by kernel_rfl) (by kernel_rfl) (by kernel_rfl) (fun _ _ _ h => h) (Or.inl ⟨by rfl, ?yr12⟩) hHeldr2 ?_
            case yr12 => (intro w hSw; (try dsimp only at hSw); go_simp; try (with_reducible rfl))
            try simp only [Act.put, List.setIfInBounds_toArray, List.set_cons_zero, List.set_cons_succ]
            refine wpAnyH_take (i := 13) (v := ?vr13) (opsS (opsS (opsS (opsS (opsS (opsS (opsS (opsS (opsS (opsS (opsS (opsS (opsS ops0))))))))))))) (by kernel_rfl) (by kernel_rfl) (by kernel_rfl) (fun _ _ _ h => h) (Or.inl ⟨by rfl, ?yr13⟩) hHeldr2 ?_
            case yr13 => (intro w hSw; (try dsimp only at hSw); go_simp; try (with_reducible rfl))
            try simp only [Act.put, List.setIfInBounds_toArray, List.set_cons_zero, List.set_cons_succ]
            refine wpAnyH_take (i := 14) (v := ?vr14) (opsS (opsS (opsS (opsS (opsS (opsS (opsS (opsS (opsS (opsS (opsS (opsS (opsS (opsS ops0)))))))))))))) (by kernel_rfl) (by kernel_rfl) (by kernel_rfl) (fun _ _ _ h => h) (Or.inl ⟨by rfl, ?yr14⟩) hHeldr2 ?_
            case yr14 => (intro w hSw; (try dsimp only at hSw); go_simp; try (with_reducible rfl))
            try simp only [Act.put, List.setIfInBounds_toArray, List.set_cons_zero, List.set_cons_succ]
            refine wpAnyH_done (by kernel_rfl) ?_ _
            have HB := Lib.hid hHeldr2.2.2.2.out.low
            clear hHeldr2 hkn test
            go_wp2_with fail
            refine (awake_any _ (Lib.hid (HLt.out.next HB.out))).mono ?_; rintro e wz ⟨rfl, hB⟩; have HZ := Lib.hid (HB.out.trans (hB.mono HB.out.size)); clear hB; go_wp2; go_ret; exact ⟨rfl, HZ.out⟩
          | false =>
            have hvz : (v.toNat : Int) ≠ 0 := by
              have h := HB5.out
              have h2 : ¬ v.toNat = 0 := of_decide_eq_false h.symm
              omega
            clear HB5
            generalize (v.toNat : Int) = x1 at *
            simp only [Bool.false_eq_true, if_false] at HD
            refine wp_region_held_drew (S := (fun w' => w'.cell? ⟨W.heap.size, 0, none⟩ = some (.string a) ∧ w'.cell? ⟨W.heap.size, 2, none⟩ = some (.string c) ∧ (convert 32 9 (.slice (some ⟨gb, 0, none⟩) N cap)).run Tryd.prog w' = .ok (.string (bz L)) w' ∧ Hid (Cg W gb N a b c L w'))) (by kernel_rfl) ?_ (fun hHeldq0 => ?_)
            · exact test
            refine wpAnyH_take (i := 0) (v := ?vq0) ops0 (by kernel_rfl) (by kernel_rfl) (by kernel_rfl) (fun _ _ _ h => h) (Or.inl ⟨by rfl, ?yq0⟩) hHeldq0 ?_
            case yq0 => (intro w hSw; (try dsimp only at hSw); go_simp; try (with_reducible rfl))
            try simp only [Act.put, List.setIfInBounds_toArray, List.set_cons_zero, List.set_cons_succ]
            refine wpAnyH_take (i := 1) (v := ?vq1) (opsS ops0) (by kernel_rfl) (by kernel_rfl) (by kernel_rfl) (fun _ _ _ h => h) (Or.inl ⟨by rfl, ?yq1⟩) hHeldq0 ?_
            case yq1 => (intro w hSw; (try dsimp only at hSw); go_simp; try (with_reducible rfl))
            try simp only [Act.put, List.setIfInBounds_toArray, List.set_cons_zero, List.set_cons_succ]
            refine wpAnyH_take (i := 2) (v := ?vq2) (opsS (opsS ops0)) (by kernel_rfl) (by kernel_rfl) (by kernel_rfl) (fun _ _ _ h => h) (Or.inl ⟨by rfl, ?yq2⟩) hHeldq0 ?_
            case yq2 => (intro w hSw; (try dsimp only at hSw); go_simp; try (with_reducible rfl))
            try simp only [Act.put, List.setIfInBounds_toArray, List.set_cons_zero, List.set_cons_succ]
            refine wpAnyH_take (i := 3) (v := ?vq3) (opsS (opsS (opsS ops0))) (by kernel_rfl) (by kernel_rfl) (by kernel_rfl) (fun _ _ _ h => h) (Or.inl ⟨by rfl, ?yq3⟩) hHeldq0 ?_
            case yq3 => (intro w hSw; (try dsimp only at hSw); go_simp; try (with_reducible rfl))
            try simp only [Act.put, List.setIfInBounds_toArray, List.set_cons_zero, List.set_cons_succ]
            refine wpAnyH_take (i := 5) (v := ?vq5) (opsS (opsS (opsS (opsS (opsS ops0))))) (by kernel_rfl) (by kernel_rfl) (by kernel_rfl) (fun _ _ _ h => h) (Or.inl ⟨by rfl, ?yq5⟩) hHeldq0 ?_
            case yq5 => (intro w hSw; (try dsimp only at hSw); go_simp; try (with_reducible rfl))
            try simp only [Act.put, List.setIfInBounds_toArray, List.set_cons_zero, List.set_cons_succ]
            refine wpAnyH_take (i := 6) (v := ?vq6) (opsS (opsS (opsS (opsS (opsS (opsS ops0)))))) (by kernel_rfl) (by kernel_rfl) (by kernel_rfl) (fun _ _ _ h => h) (Or.inl ⟨by rfl, ?yq6⟩) hHeldq0 ?_
            case yq6 => (intro w hSw; (try dsimp only at hSw); go_simp; try (with_reducible rfl))
            try simp only [Act.put, List.setIfInBounds_toArray, List.set_cons_zero, List.set_cons_succ]
            refine wpAnyH_ready (rs := [4]) (by kernel_rfl) (by simp) ?_
            refine AllReadyH.cons (opsS (opsS (opsS (opsS ops0)))) (fun K hK => ?_) AllReadyH.nil
            go_simp
            refine (HKN.out _).mono ?_; rintro e w' ⟨gk, rfl, hkn, hb⟩
            try dsimp only
            refine hK.out _ _ ?_ (fun hHeldq1 => ?_)
            · (first | assumption | exact Cg.dall (by assumption) | (go_split_ands; exact Cg.dall (by assumption)) | (go_split_ands; exact Cg.nall (by assumption) (by assumption)))
            clear hK K hHeldq0
            try clear hb
            try simp only [Act.put, List.setIfInBounds_toArray, List.set_cons_zero, List.set_cons_succ]
            refine wpAnyH_ready (rs := [7]) (by kernel_rfl) (by simp) ?_
            refine AllReadyH.cons (opsS (opsS (opsS (opsS (opsS (opsS (opsS ops0))))))) (fun K hK => ?_) AllReadyH.nil
            go_simp
            refine (HD.out _ _ hkn (Lib.hid (HLt.out.next hHeldq1.2.2.2.out.low))).mono ?_; rintro e w' ⟨rfl, hb⟩
            try dsimp only
            refine hK.out _ _ ?_ (fun hHeldq2 => ?_)
            · (first | assumption | exact Cg.dall (by assumption) | (go_split_ands; exact Cg.dall (by assumption)) | (go_split_ands; exact Cg.nall (by assumption) (by assumption)))
            clear hK K hHeldq1
            try clear hb
            try simp only [Act.put, List.setIfInBounds_toArray, List.set_cons_zero, List.set_cons_succ]
            refine wpAnyH_take (i := 8) (v := ?vq8) (opsS (opsS (opsS (opsS (opsS (opsS (opsS (opsS ops0)))))))) (by kernel_rfl) (by kernel_rfl) (by kernel_rfl) (fun _ _ _ h => h) (Or.inl ⟨by rfl, ?yq8⟩) hHeldq2 ?_
            case yq8 => (intro w hSw; (try dsimp only at hSw); go_simp; try (with_reducible rfl))
            try simp only [Act.put, List.setIfInBounds_toArray, List.set_cons_zero, List.set_cons_succ]
            refine wpAnyH_take (i := 9) (v := ?vq9) (opsS (opsS (opsS (opsS (opsS (opsS (opsS (opsS (opsS ops0))))))))) (by kernel_rfl) (by kernel_rfl) (by kernel_rfl) (fun _ _ _ h => h) (Or.inl ⟨by rfl, ?yq9⟩) hHeldq2 ?_
            case yq9 => (intro w hSw; (try dsimp only at hSw); go_simp; try (with_reducible rfl))
            try simp only [Act.put, List.setIfInBounds_toArray, List.set_cons_zero, List.set_cons_succ]
            refine wpAnyH_take (i := 10) (v := ?vq10) (opsS (opsS (opsS (opsS (opsS (opsS (opsS (opsS (opsS (opsS ops0)))))))))) (by kernel_rfl) (by kernel_rfl) (by kernel_rfl) (fun _ _ _ h => h) (Or.inl ⟨by rfl, ?yq10⟩) hHeldq2 ?_
            case yq10 => (intro w hSw; (try dsimp only at hSw); go_simp; try (with_reducible rfl))
            try simp only [Act.put, List.setIfInBounds_toArray, List.set_cons_zero, List.set_cons_succ]
            refine wpAnyH_take (i := 11) (v := ?vq11) (opsS (opsS (opsS (opsS (opsS (opsS (opsS (opsS (opsS (opsS (opsS ops0))))))))))) (by kernel_rfl) (by kernel_rfl) (by kernel_rfl) (fun _ _ _ h => h) (Or.inl ⟨by rfl, ?yq11⟩) hHeldq2 ?_
            case yq11 => (intro w hSw; (try dsimp only at hSw); go_simp; try (with_reducible rfl))
            try simp only [Act.put, List.setIfInBounds_toArray, List.set_cons_zero, List.set_cons_succ]
            refine wpAnyH_take (i := 12) (v := ?vq12) (opsS (opsS (opsS (opsS (opsS (opsS (opsS (opsS (opsS (opsS (opsS (opsS ops0)))))))))))) (by kernel_rfl) (by kernel_rfl) (by kernel_rfl) (fun _ _ _ h => h) (Or.inl ⟨by rfl, ?yq12⟩) hHeldq2 ?_
            case yq12 => (intro w hSw; (try dsimp only at hSw); go_simp; try (with_reducible rfl))
            try simp only [Act.put, List.setIfInBounds_toArray, List.set_cons_zero, List.set_cons_succ]
            refine wpAnyH_take (i := 13) (v := ?vq13) (opsS (opsS (opsS (opsS (opsS (opsS (opsS (opsS (opsS (opsS (opsS (opsS (opsS ops0))))))))))))) (by kernel_rfl) (by kernel_rfl) (by kernel_rfl) (fun _ _ _ h => h) (Or.inl ⟨by rfl, ?yq13⟩) hHeldq2 ?_
            case yq13 => (intro w hSw; (try dsimp only at hSw); go_simp; try (with_reducible rfl))
            try simp only [Act.put, List.setIfInBounds_toArray, List.set_cons_zero, List.set_cons_succ]
            refine wpAnyH_take (i := 14) (v := ?vq14) (opsS (opsS (opsS (opsS (opsS (opsS (opsS (opsS (opsS (opsS (opsS (opsS (opsS (opsS ops0)))))))))))))) (by kernel_rfl) (by kernel_rfl) (by kernel_rfl) (fun _ _ _ h => h) (Or.inl ⟨by rfl, ?yq14⟩) hHeldq2 ?_
            case yq14 => (intro w hSw; (try dsimp only at hSw); go_simp; try (with_reducible rfl))
            try simp only [Act.put, List.setIfInBounds_toArray, List.set_cons_zero, List.set_cons_succ]
            refine wpAnyH_done (by kernel_rfl) ?_ _
            have H7 := Lib.hid hHeldq2.2.2.2.out
            clear hHeldq2 hkn test HD
            have test := @Cg.dall W _ gb N cap a b c L H7
            go_wp2_with fail
            refine wp_region_held_drew (S := (fun w' => w'.cell? ⟨W.heap.size, 0, none⟩ = some (.string a) ∧ w'.cell? ⟨W.heap.size, 2, none⟩ = some (.string c) ∧ (convert 32 9 (.slice (some ⟨gb, 0, none⟩) N cap)).run Tryd.prog w' = .ok (.string (bz L)) w' ∧ Hid (Cg W gb N a b c L w'))) (by kernel_rfl) ?_ (fun hHelds0 => ?_)
            · exact test
            refine wpAnyH_take (i := 0) (v := ?vs0) ops0 (by kernel_rfl) (by kernel_rfl) (by kernel_rfl) (fun _ _ _ h => h) (Or.inl ⟨by rfl, ?ys0⟩) hHelds0 ?_
            case ys0 => (intro w hSw; (try dsimp only at hSw); go_simp; try (with_reducible rfl))
            try simp only [Act.put, List.setIfInBounds_toArray, List.set_cons_zero, List.set_cons_succ]
            refine wpAnyH_take (i := 1) (v := ?vs1) (opsS ops0) (by kernel_rfl) (by kernel_rfl) (by kernel_rfl) (fun _ _ _ h => h) (Or.inl ⟨by rfl, ?ys1⟩) hHelds0 ?_
            case ys1 => (intro w hSw; (try dsimp only at hSw); go_simp; try (with_reducible rfl))
            try simp only [Act.put, List.setIfInBounds_toArray, List.set_cons_zero, List.set_cons_succ]
            refine wpAnyH_take (i := 2) (v := ?vs2) (opsS (opsS ops0)) (by kernel_rfl) (by kernel_rfl) (by kernel_rfl) (fun _ _ _ h => h) (Or.inl ⟨by rfl, ?ys2⟩) hHelds0 ?_
            case ys2 => (intro w hSw; (try dsimp only at hSw); go_simp; try (with_reducible rfl))
            try simp only [Act.put, List.setIfInBounds_toArray, List.set_cons_zero, List.set_cons_succ]
            refine wpAnyH_take (i := 3) (v := ?vs3) (opsS (opsS (opsS ops0))) (by kernel_rfl) (by kernel_rfl) (by kernel_rfl) (fun _ _ _ h => h) (Or.inl ⟨by rfl, ?ys3⟩) hHelds0 ?_
            case ys3 => (intro w hSw; (try dsimp only at hSw); go_simp; try (with_reducible rfl))
            try simp only [Act.put, List.setIfInBounds_toArray, List.set_cons_zero, List.set_cons_succ]
            refine wpAnyH_take (i := 5) (v := ?vs5) (opsS (opsS (opsS (opsS (opsS ops0))))) (by kernel_rfl) (by kernel_rfl) (by kernel_rfl) (fun _ _ _ h => h) (Or.inl ⟨by rfl, ?ys5⟩) hHelds0 ?_
            case ys5 => (intro w hSw; (try dsimp only at hSw); go_simp; try (with_reducible rfl))
            try simp only [Act.put, List.setIfInBounds_toArray, List.set_cons_zero, List.set_cons_succ]
            refine wpAnyH_take (i := 6) (v := ?vs6) (opsS (opsS (opsS (opsS (opsS (opsS ops0)))))) (by kernel_rfl) (by kernel_rfl) (by kernel_rfl) (fun _ _ _ h => h) (Or.inl ⟨by rfl, ?ys6⟩) hHelds0 ?_
            case ys6 => (intro w hSw; (try dsimp only at hSw); go_simp; try (with_reducible rfl))
            try simp only [Act.put, List.setIfInBounds_toArray, List.set_cons_zero, List.set_cons_succ]
            refine wpAnyH_ready (rs := [4]) (by kernel_rfl) (by simp) ?_
            refine AllReadyH.cons (opsS (opsS (opsS (opsS ops0)))) (fun K hK => ?_) AllReadyH.nil
            go_simp
            refine (HKN.out _).mono ?_; rintro e w' ⟨gk, rfl, hkn, hb⟩
            try dsimp only
            refine hK.out _ _ ?_ (fun hHelds1 => ?_)
            · (first | assumption | exact Cg.dall (by assumption) | (go_split_ands; exact Cg.dall (by assumption)) | (go_split_ands; exact Cg.nall (by assumption) (by assumption)))
            clear hK K hHelds0
            try clear hb
            try simp only [Act.put, List.setIfInBounds_toArray, List.set_cons_zero, List.set_cons_succ]
            refine wpAnyH_ready (rs := [7]) (by kernel_rfl) (by simp) ?_
            refine AllReadyH.cons (opsS (opsS (opsS (opsS (opsS (opsS (opsS ops0))))))) (fun K hK => ?_) AllReadyH.nil
            go_simp
            refine (HC2.out _ _ _ hkn hz1.out (Lib.hid (HLt.out.next hHelds1.2.2.2.out.low))).mono ?_; rintro e w' ⟨rfl, hb⟩
            try dsimp only
            refine hK.out _ _ ?_ (fun hHelds2 => ?_)
            · (first | assumption | exact Cg.dall (by assumption) | (go_split_ands; exact Cg.dall (by assumption)) | (go_split_ands; exact Cg.nall (by assumption) (by assumption)))
            clear hK K hHelds1
            try clear hb
            try simp only [Act.put, List.setIfInBounds_toArray, List.set_cons_zero, List.set_cons_succ]
            refine wpAnyH_take (i := 8) (v := ?vs8) (opsS (opsS (opsS (opsS (opsS (opsS (opsS (opsS ops0)))))))) (by kernel_rfl) (by kernel_rfl) (by kernel_rfl) (fun _ _ _ h => h) (Or.inl ⟨by rfl, ?ys8⟩) hHelds2 ?_
            case ys8 => (intro w hSw; (try dsimp only at hSw); go_simp; try (with_reducible rfl))
            try simp only [Act.put, List.setIfInBounds_toArray, List.set_cons_zero, List.set_cons_succ]
            refine wpAnyH_take (i := 9) (v := ?vs9) (opsS (opsS (opsS (opsS (opsS (opsS (opsS (opsS (opsS ops0))))))))) (by kernel_rfl) (by kernel_rfl) (by kernel_rfl) (fun _ _ _ h => h) (Or.inl ⟨by rfl, ?ys9⟩) hHelds2 ?_
            case ys9 => (intro w hSw; (try dsimp only at hSw); go_simp; try (with_reducible rfl))
            try simp only [Act.put, List.setIfInBounds_toArray, List.set_cons_zero, List.set_cons_succ]
            refine wpAnyH_take (i := 10) (v := ?vs10) (opsS (opsS (opsS (opsS (opsS (opsS (opsS (opsS (opsS (opsS ops0)))))))))) (by kernel_rfl) (by kernel_rfl) (by kernel_rfl) (fun _ _ _ h => h) (Or.inl ⟨by rfl, ?ys10⟩) hHelds2 ?_
            case ys10 => (intro w hSw; (try dsimp only at hSw); go_simp; try (with_reducible rfl))
            try simp only [Act.put, List.setIfInBounds_toArray, List.set_cons_zero, List.set_cons_succ]
            refine wpAnyH_take (i := 11) (v := ?vs11) (opsS (opsS (opsS (opsS (opsS (opsS (opsS (opsS (opsS (opsS (opsS ops0))))))))))) (by kernel_rfl) (by kernel_rfl) (by kernel_rfl) (fun _ _ _ h => h) (Or.inl ⟨by rfl, ?ys11⟩) hHelds2 ?_
            case ys11 => (intro w hSw; (try dsimp only at hSw); go_simp; try (with_reducible rfl))
            try simp only [Act.put, List.setIfInBounds_toArray, List.set_cons_zero, List.set_cons_succ]
            refine wpAnyH_take (i := 12) (v := ?vs12) (opsS (opsS (opsS (opsS (opsS (opsS (opsS (opsS (opsS (opsS (opsS (opsS ops0)))))))))))) (by kernel_rfl) (by kernel_rfl) (by kernel_rfl) (fun _ _ _ h => h) (Or.inl ⟨by rfl, ?ys12⟩) hHelds2 ?_
            case ys12 => (intro w hSw; (try dsimp only at hSw); go_simp; try (with_reducible rfl))
            try simp only [Act.put, List.setIfInBounds_toArray, List.set_cons_zero, List.set_cons_succ]
            refine wpAnyH_take (i := 13) (v := ?vs13) (opsS (opsS (opsS (opsS (opsS (opsS (opsS (opsS (opsS (opsS (opsS (opsS (opsS ops0))))))))))))) (by kernel_rfl) (by kernel_rfl) (by kernel_rfl) (fun _ _ _ h => h) (Or.inl ⟨by rfl, ?ys13⟩) hHelds2 ?_
            case ys13 => (intro w hSw; (try dsimp only at hSw); go_simp; try (with_reducible rfl))
            try simp only [Act.put, List.setIfInBounds_toArray, List.set_cons_zero, List.set_cons_succ]
            refine wpAnyH_take (i := 14) (v := ?vs14) (opsS (opsS (opsS (opsS (opsS (opsS (opsS (opsS (opsS (opsS (opsS (opsS (opsS (opsS ops0)))))))))))))) (by kernel_rfl) (by kernel_rfl) (by kernel_rfl) (fun _ _ _ h => h) (Or.inl ⟨by rfl, ?ys14⟩) hHelds2 ?_
            case ys14 => (intro w hSw; (try dsimp only at hSw); go_simp; try (with_reducible rfl))
            try simp only [Act.put, List.setIfInBounds_toArray, List.set_cons_zero, List.set_cons_succ]
            refine wpAnyH_done (by kernel_rfl) ?_ _
            have HB := Lib.hid hHelds2.2.2.2.out.low
            clear hHelds2 hkn test
            go_wp2_with fail
            refine (awake_any _ (Lib.hid (HLt.out.next HB.out))).mono ?_
            rintro e wz ⟨rfl, hB⟩
            have HZ := Lib.hid (HB.out.trans (hB.mono HB.out.size))
            clear hB
            go_wp2
            go_ret
            refine ⟨?_, HZ.out⟩
            show Ending.returned (.bool (!x1 == 0)) = _
            rw [beq_eq_false_iff_ne.2 hvz]
            rfl
end Go.Proofs.YtkbgmdabmebdhaaDoor.tk
