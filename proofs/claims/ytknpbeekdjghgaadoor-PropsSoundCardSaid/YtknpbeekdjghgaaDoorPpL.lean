/- PropsSound: a bucket's properties may be, whatever is in the registers; an entry of another tenant or bucket changes nothing. -/
import Derived.Test.YtknpbeekdjghgaaDoorPpI
import Derived.Test.YtknpbeekdjghgaaDoorRgI
import Derived.Test.YtknpbeekdjghgaaDoorRgL
import Derived.Test.YtknpbeekdjghgaaDoorRgM
namespace Go.Proofs.YtknpbeekdjghgaaDoor.pp
set_option linter.unusedSimpArgs false
open Go.ChangeShapes Go.WideShapes Go.ChangeAt Go.RowKit Go.Proofs.Aid
open Go.Proofs.YtknpbeekdjghgaaDoor.rgy (En)
open Go.Proofs.YtknpbeekdjghgaaDoor.nm (Lets num numV numR)
theorem get_put {l : List En} {y : En} {k : ByteArray} (h : rgy.may l = true) (hk : ¬ y.key = k) : rgy.get (rgy.putE l y) k = rgy.get l k := by
  rw [rgy.putE_merge y (rgy.may_iff.1 h).2.2]
  unfold rgy.get
  rw [rgy.merge_look k (rgy.may_iff.1 h).2.2 (List.pairwise_singleton _ _), rgy.look_cons, if_neg hk, rgy.look_nil, rgy.jo_none]
theorem of_put {l : List En} {y : En} {t b : ByteArray} (h : rgy.may l = true) (h1 : ∀ f, ¬ y.key = pkey t b f) : ofV (rgy.putE l y) t b = ofV l t b := by
  have e : fieldV (rgy.putE l y) t b = fieldV l t b := by
    funext f u
    unfold fieldV
    rw [get_put h (h1 f)]
  unfold ofV
  rw [e]
theorem short_put {l : List En} {y : En} (h : rgy.may l = true) (hl : short l) (hy : y.reg.value.size ≤ 300) : short (rgy.putE l y) := by
  rw [rgy.putE_merge y (rgy.may_iff.1 h).2.2]
  have hj : ∀ a b : reg.Rg, (a.join b = a ∨ a.join b = b) := fun a b => by unfold reg.Rg.join; split <;> simp
  intro z hz
  rcases rgy.merge_mem _ _ z hz with ⟨x, hx, -, hr⟩ | hr
  · rcases hr with hr | ⟨q, hq, -, hr⟩
    · rw [hr]; exact hl x hx
    · rcases hj x.reg q.reg with e | e
      · rw [hr, e]; exact hl x hx
      · rw [hr, e, List.mem_singleton.1 hq]; exact hy
  · rw [List.mem_singleton.1 hr]; exact hy
theorem fld_may {l : List En} {t b f : ByteArray} {u : Int} (h : mayF f u = true) : mayF f (fieldV l t b f u) = true := by
  unfold fieldV
  split
  · rename_i h1
    rw [Bool.and_eq_true] at h1
    exact h1.2
  · exact h
theorem may_n (f : ByteArray) (hf : f = fN ∨ f = fR ∨ f = fW) (n : Int) : mayF f n = true ↔ 1 ≤ n ∧ n ≤ 16 := by
  unfold mayF
  rw [if_pos hf]
  simp
theorem may_p (f : ByteArray) (hf : f = fPR ∨ f = fPW) (n : Int) : mayF f n = true ↔ 0 ≤ n ∧ n ≤ 16 := by
  rcases hf with rfl | rfl
  · show (decide (0 ≤ n) && decide (n ≤ 16)) = true ↔ _
    simp
  · show (decide (0 ≤ n) && decide (n ≤ 16)) = true ↔ _
    simp
theorem of_ok (l : List En) (t b : ByteArray) : ∃ n r q pr pw s m d, ofV l t b = .agg (prCells n r q pr pw s m d) ∧ checkP n r q pr pw = 0 := by
  refine ⟨_, _, _, _, _, _, _, _, rfl, ?_⟩
  have h1 := (may_n fN (.inl rfl) _).1 (fld_may (l := l) (t := t) (b := b) (f := fN) (u := 3) (by decide))
  have h2 := (may_n fR (.inr (.inl rfl)) _).1 (fld_may (l := l) (t := t) (b := b) (f := fR) (u := 2) (by decide))
  have h3 := (may_n fW (.inr (.inr rfl)) _).1 (fld_may (l := l) (t := t) (b := b) (f := fW) (u := 2) (by decide))
  have h4 := (may_p fPR (.inl rfl) _).1 (fld_may (l := l) (t := t) (b := b) (f := fPR) (u := 0) (by decide))
  have h5 := (may_p fPW (.inr rfl) _).1 (fld_may (l := l) (t := t) (b := b) (f := fPW) (u := 0) (by decide))
  generalize fieldV l t b fN 3 = n at *
  generalize fieldV l t b fR 2 = r at *
  generalize fieldV l t b fW 2 = q at *
  generalize fieldV l t b fPR 0 = pr at *
  generalize fieldV l t b fPW 0 = pw at *
  have hok : okP n (min n r) (min n q) (min n pr) (min n pw) = true := by
    unfold okP
    rw [(may_n fN (.inl rfl) n).2 h1, (may_n fR (.inr (.inl rfl)) (min n r)).2 (by omega), (may_n fW (.inr (.inr rfl)) (min n q)).2 (by omega), (may_p fPR (.inl rfl) (min n pr)).2 (by omega), (may_p fPW (.inr rfl) (min n pw)).2 (by omega)]
    simp only [Bool.true_and, decide_eq_true_eq]
    omega
  unfold checkP
  rw [hok]; rfl
/-- What all keys of a bucket begin with. -/
theorem own_list (t b f : ByteArray) : (pkey t b f).data.toList = (pkey t b ⟨#[]⟩).data.toList ++ f.data.toList := by
  rw [pkey_list, pkey_list]; simp
theorem not_own {k t b : ByteArray} (h : k.size < (pkey t b ⟨#[]⟩).size ∨ k.extract 0 (pkey t b ⟨#[]⟩).size ≠ pkey t b ⟨#[]⟩) : ∀ f, ¬ k = pkey t b f := by
  intro f e
  have hl := own_list t b f
  rcases h with h | h
  · rw [e, pkey_size, pkey_size] at h
    have : (⟨#[]⟩ : ByteArray).size = 0 := rfl
    omega
  · apply h
    apply ByteArray.ext; apply Array.toList_inj.1
    rw [Lib.extract_data, e, hl]
    have : (pkey t b ⟨#[]⟩).size = (pkey t b ⟨#[]⟩).data.toList.length := by rw [Array.length_toList]; rfl
    rw [this]
    simp
set_option maxRecDepth 100000 in
set_option maxHeartbeats 16000000 in
theorem sound_walk (W : World) (A : Option Addr) (ca : Nat) (xs : List En) (s0 s1 s2 kk : ByteArray) (n : Int) (b v : ByteArray) (HLt : Hid (Lets W)) (hl : xs.length ≤ maxLen) (hca : xs.length ≤ ca) (h1 : Reads W W.heap.size 4 A xs.length (xs.flatMap En.cells)) (hz : ∀ r ∈ xs, r.sz) (hy : (⟨kk, ⟨n, b, v⟩⟩ : En).sz) (hs0 : s0.size ≤ maxLen) (hs1 : s1.size ≤ maxLen) :
    Calls Tryd.prog 6 #[.slice A xs.length ca, .agg #[.string s0, .string s1, .string s2], .agg #[.string kk, .int .i64 n, .string b, .string v]] W fun e w' => e = .returned (.bool true) ∧ Below W.heap.size W w' := by
  have HS := Lib.hid hz
  have HY := Lib.hid hy
  have HL1 := Lib.hid hl
  have HL := Lib.hid (below_lit2 W (.cells #[.string s0, .string s1, .string s2] 41) (.cells #[.string kk, .int .i64 n, .string b, .string v] 34))
  have HB := Lib.hid ((Blk.new W 41 #[.string s0, .string s1, .string s2]).alloc (.cells #[.string kk, .int .i64 n, .string b, .string v] 34))
  have hx0 := Blk.new (W.alloc (.cells #[.string s0, .string s1, .string s2] 41)) 34 #[.string kk, .int .i64 n, .string b, .string v]
  rw [World.size_alloc] at hx0
  have HX := Lib.hid hx0
  have H1 := Lib.hid (h1.more_below HL.out)
  have hkz : kk.size ≤ 9223372036854775807 := by have := hy.1; unfold maxLen at this; omega
  unfold maxLen at hs0 hs1
  clear h1 hz hl hy hx0
  go_enter Tryd.func6, Tryd.ntmps6
  go_wp2_with fail
  generalize (W.alloc (.cells #[.string s0, .string s1, .string s2] 41)).alloc (.cells #[.string kk, .int .i64 n, .string b, .string v] 34) = w0 at *
  refine (rgy.rfew_any w0 A ca xs 30 (by omega) HL1.out H1.out HS.out).mono ?_
  rintro e w1 ⟨b1, rfl, hb, hf1⟩
  replace HB := Lib.hid (Blk.below (Hid.out HB) hb (Hid.out HB).lt)
  replace HX := Lib.hid (Blk.below (Hid.out HX) hb (Hid.out HX).lt)
  replace H1 := Lib.hid ((Hid.out H1).more_below hb)
  replace HL := Lib.hid ((Hid.out HL).trans (hb.mono (Hid.out HL).size))
  clear hb
  cases b1 with
  | false =>
    clear hf1
    go_wp2_with fail
    refine (awake_any _ (Lib.hid (HLt.out.next HL.out))).mono ?_; rintro e w9 ⟨rfl, hb⟩; replace HL := Lib.hid (HL.out.trans (hb.mono HL.out.size)); clear hb; go_wp2; go_ret; exact ⟨rfl, HL.out⟩
  | true =>
  obtain ⟨hx30, hfe⟩ := hf1 rfl
  have hsh := Lib.hid (short_of hfe)
  clear hf1 hfe
  cases hm : rgy.may xs with
  | false =>
    have HM := Lib.hid hm
    clear hm
    go_wp2_with fail
    refine (rgy.rmayL_any w1 A ca xs (by omega) H1.out HS.out).mono ?_
    rw [HM.out]
    rintro e w2 ⟨rfl, hb⟩
    replace HB := Lib.hid (Blk.below (Hid.out HB) hb (Hid.out HB).lt)
    replace HX := Lib.hid (Blk.below (Hid.out HX) hb (Hid.out HX).lt)
    replace H1 := Lib.hid ((Hid.out H1).more_below hb)
    replace HL := Lib.hid ((Hid.out HL).trans (hb.mono (Hid.out HL).size))
    clear hb
    go_wp2_with fail
    refine (awake_any _ (Lib.hid (HLt.out.next HL.out))).mono ?_; rintro e w9 ⟨rfl, hb⟩; replace HL := Lib.hid (HL.out.trans (hb.mono HL.out.size)); clear hb; go_wp2; go_ret; exact ⟨rfl, HL.out⟩
  | true =>
  have HM := Lib.hid hm
  clear hm
  go_wp2_with fail
  refine (rgy.rmayL_any w1 A ca xs (by omega) H1.out HS.out).mono ?_
  rw [HM.out]
  rintro e w2 ⟨rfl, hb⟩
  replace HB := Lib.hid (Blk.below (Hid.out HB) hb (Hid.out HB).lt)
  replace HX := Lib.hid (Blk.below (Hid.out HX) hb (Hid.out HX).lt)
  replace H1 := Lib.hid ((Hid.out H1).more_below hb)
  replace HL := Lib.hid ((Hid.out HL).trans (hb.mono (Hid.out HL).size))
  clear hb
  have x0 : w2.cell? ⟨W.heap.size + 1, 0, none⟩ = some (.string kk) := by rw [HX.out.cell]; rfl
  have x1 : w2.cell? ⟨W.heap.size + 1, 1, none⟩ = some (.int .i64 n) := by rw [HX.out.cell]; rfl
  have x2 : w2.cell? ⟨W.heap.size + 1, 2, none⟩ = some (.string b) := by rw [HX.out.cell]; rfl
  have x3 : w2.cell? ⟨W.heap.size + 1, 3, none⟩ = some (.string v) := by rw [HX.out.cell]; rfl
  have HR : Hid (Reads (w2.alloc (.cells #[.string kk, .int .i64 n, .string b, .string v] 34)) (w2.alloc (.cells #[.string kk, .int .i64 n, .string b, .string v] 34)).heap.size 4 (some ⟨w2.heap.size, 0, none⟩) [(⟨kk, ⟨n, b, v⟩⟩ : En)].length ([(⟨kk, ⟨n, b, v⟩⟩ : En)].flatMap En.cells)) := Lib.hid (lit1 w2 34 [(⟨kk, ⟨n, b, v⟩⟩ : En)] En.len)
  have hb := below_lit w2 (.cells #[.string kk, .int .i64 n, .string b, .string v] 34)
  replace HB := Lib.hid (Blk.below (Hid.out HB) hb (Hid.out HB).lt)
  replace HX := Lib.hid (Blk.below (Hid.out HX) hb (Hid.out HX).lt)
  replace H1 := Lib.hid ((Hid.out H1).more_below hb)
  replace HL := Lib.hid ((Hid.out HL).trans (hb.mono (Hid.out HL).size))
  clear hb
  go_wp2_with fail
  clear x0 x1 x2 x3
  generalize w2.alloc (.cells #[.string kk, .int .i64 n, .string b, .string v] 34) = w3 at *
  refine (rgy.rfew_any w3 (some ⟨w2.heap.size, 0, none⟩) 1 [(⟨kk, ⟨n, b, v⟩⟩ : En)] 1 (by omega) (by show 1 ≤ maxLen; decide) HR.out (fun r hr => by rw [List.mem_singleton] at hr; subst hr; exact HY.out)).mono ?_
  rintro e w4 ⟨b3, rfl, hb, hf3⟩
  replace HB := Lib.hid (Blk.below (Hid.out HB) hb (Hid.out HB).lt)
  replace HX := Lib.hid (Blk.below (Hid.out HX) hb (Hid.out HX).lt)
  replace H1 := Lib.hid ((Hid.out H1).more_below hb)
  replace HL := Lib.hid ((Hid.out HL).trans (hb.mono (Hid.out HL).size))
  clear hb
  clear HR
  cases b3 with
  | false =>
    clear hf3
    go_wp2_with fail
    refine (awake_any _ (Lib.hid (HLt.out.next HL.out))).mono ?_; rintro e w9 ⟨rfl, hb⟩; replace HL := Lib.hid (HL.out.trans (hb.mono HL.out.size)); clear hb; go_wp2; go_ret; exact ⟨rfl, HL.out⟩
  | true =>
  have hvy : Hid (v.size ≤ 300) := by
    have h := ((hf3 rfl).2 ⟨kk, ⟨n, b, v⟩⟩ (by simp)).2
    unfold reg.Rg.few at h
    rw [Bool.and_eq_true, decide_eq_true_eq, decide_eq_true_eq] at h
    exact h.2
  clear hf3
  have d0 : w4.cell? ⟨W.heap.size, 0, none⟩ = some (.string s0) := by rw [HB.out.cell]; rfl
  have d1 : w4.cell? ⟨W.heap.size, 1, none⟩ = some (.string s1) := by rw [HB.out.cell]; rfl
  by_cases z0 : s0.size ≤ 100
  case neg =>
    go_wp2_with fail
    refine (awake_any _ (Lib.hid (HLt.out.next HL.out))).mono ?_; rintro e w9 ⟨rfl, hb⟩; replace HL := Lib.hid (HL.out.trans (hb.mono HL.out.size)); clear hb; go_wp2; go_ret; exact ⟨rfl, HL.out⟩
  by_cases z1 : s1.size ≤ 100
  case neg =>
    go_wp2_with fail
    refine (awake_any _ (Lib.hid (HLt.out.next HL.out))).mono ?_; rintro e w9 ⟨rfl, hb⟩; replace HL := Lib.hid (HL.out.trans (hb.mono HL.out.size)); clear hb; go_wp2; go_ret; exact ⟨rfl, HL.out⟩
  have HOF := Lib.hid (fun w' A' c' ys hys h hsh' hl' => of_any w' A' c' ys s0 s1 hys h hsh' (by omega) (by omega) hl')
  have HKO := Lib.hid (fun w' => rpkey_any s0 s1 ⟨#[]⟩ w' (by omega) (by omega) (by decide))
  have HNO := Lib.hid (@not_own kk s0 s1)
  have HPUT := Lib.hid (fun h => of_put (l := xs) (y := ⟨kk, ⟨n, b, v⟩⟩) (t := s0) (b := s1) HM.out h)
  have HSP := Lib.hid (short_put (y := ⟨kk, ⟨n, b, v⟩⟩) HM.out hsh.out hvy.out)
  have hksz := pkey_size s0 s1 ⟨#[]⟩
  obtain ⟨a0, a1, a2, a3, a4, a5, a6, a7, hp, hck⟩ := of_ok xs s0 s1
  have HPV := Lib.hid hp
  have HCK := Lib.hid hck
  have heq := eqlP_same a0 a1 a2 a3 a4 a5 a6 a7
  clear hp hck
  generalize pkey s0 s1 ⟨#[]⟩ = own at *
  have hoz : own.size ≤ 1000 := by
    have : (⟨#[]⟩ : ByteArray).size = 0 := rfl
    omega
  clear hksz
  go_wp2_with fail
  refine (HOF.out w4 A ca xs (by omega) H1.out hsh.out (Lib.hid (HLt.out.next HL.out))).mono ?_
  rw [HPV.out]
  rintro e w5 ⟨rfl, hb⟩
  replace HB := Lib.hid (Blk.below (Hid.out HB) hb (Hid.out HB).lt)
  replace HX := Lib.hid (Blk.below (Hid.out HX) hb (Hid.out HX).lt)
  replace H1 := Lib.hid ((Hid.out H1).more_below hb)
  replace HL := Lib.hid ((Hid.out HL).trans (hb.mono (Hid.out HL).size))
  clear hb
  clear d0 d1
  have HP := Lib.hid (Blk.new w5 26 (prCells a0 a1 a2 a3 a4 a5 a6 a7))
  have hb := below_lit w5 (.cells (prCells a0 a1 a2 a3 a4 a5 a6 a7) 26)
  replace HB := Lib.hid (Blk.below (Hid.out HB) hb (Hid.out HB).lt)
  replace HX := Lib.hid (Blk.below (Hid.out HX) hb (Hid.out HX).lt)
  replace H1 := Lib.hid ((Hid.out H1).more_below hb)
  replace HL := Lib.hid ((Hid.out HL).trans (hb.mono (Hid.out HL).size))
  clear hb
  go_wp2_with fail
  generalize w5.alloc (.cells (prCells a0 a1 a2 a3 a4 a5 a6 a7) 26) = w6 at *
  generalize w5.heap.size = gp at *
  refine (check_any a0 a1 a2 a3 a4 a5 a6 a7 w6).mono ?_
  rw [HCK.out]
  rintro e w7 ⟨rfl, hb⟩
  replace HB := Lib.hid (Blk.below (Hid.out HB) hb (Hid.out HB).lt)
  replace HX := Lib.hid (Blk.below (Hid.out HX) hb (Hid.out HX).lt)
  replace HP := Lib.hid (Blk.below (Hid.out HP) hb (Hid.out HP).lt)
  replace H1 := Lib.hid ((Hid.out H1).more_below hb)
  replace HL := Lib.hid ((Hid.out HL).trans (hb.mono (Hid.out HL).size))
  clear hb
  have d0 : w7.cell? ⟨W.heap.size, 0, none⟩ = some (.string s0) := by rw [HB.out.cell]; rfl
  have d1 : w7.cell? ⟨W.heap.size, 1, none⟩ = some (.string s1) := by rw [HB.out.cell]; rfl
  have x0 : w7.cell? ⟨W.heap.size + 1, 0, none⟩ = some (.string kk) := by rw [HX.out.cell]; rfl
  have x1 : w7.cell? ⟨W.heap.size + 1, 1, none⟩ = some (.int .i64 n) := by rw [HX.out.cell]; rfl
  have x2 : w7.cell? ⟨W.heap.size + 1, 2, none⟩ = some (.string b) := by rw [HX.out.cell]; rfl
  have x3 : w7.cell? ⟨W.heap.size + 1, 3, none⟩ = some (.string v) := by rw [HX.out.cell]; rfl
  go_wp2_with fail
  refine (HKO.out w7).mono ?_
  rintro e w8 ⟨rfl, rfl⟩
  by_cases hq : kk.size < own.size ∨ kk.extract 0 own.size ≠ own
  case neg =>
    have hq1 : own.size ≤ kk.size := by
      rcases Nat.lt_or_ge kk.size own.size with h | h
      · exact absurd (Or.inl h) hq
      · exact h
    have hq2 : kk.extract 0 own.size = own := by
      by_cases h : kk.extract 0 own.size = own
      · exact h
      · exact absurd (Or.inr h) hq
    clear hq
    go_wp2_with fail
    refine (awake_any _ (Lib.hid (HLt.out.next HL.out))).mono ?_; rintro e w9 ⟨rfl, hb⟩; replace HL := Lib.hid (HL.out.trans (hb.mono HL.out.size)); clear hb; go_wp2; go_ret; exact ⟨rfl, HL.out⟩
  case pos =>
  have HPP := Lib.hid (HPUT.out (HNO.out hq))
  clear HPUT HNO
  have key : ∀ (G : Prop), ((kk.size < own.size → G) ∧ (own.size ≤ kk.size → ((kk.extract 0 own.size).toList == own.toList) = false → G)) → G := by
    rintro G ⟨g1, g2⟩
    by_cases h : kk.size < own.size
    · exact g1 h
    · exact g2 (by omega) (bytes_ne (by rcases hq with h' | h'; exact absurd h' h; exact h'))
  clear hq
  refine key _ ⟨fun hq1 => ?_, fun hq1 hq2 => ?_⟩
  · have hg1 : (decide (own.size ≤ kk.size)) = false := by simp; omega
    go_wp2_with fail
    refine (rgy.rputC_any _ A ca xs ⟨kk, ⟨n, b, v⟩⟩ (by omega) hca H1.out HS.out HY.out).mono ?_
    rw [HM.out, Bool.true_and]
    clear d0 d1 x0 x1 x2 x3
    cases hi : rgy.isEntry ⟨kk, ⟨n, b, v⟩⟩ with
    | false =>
      rw [if_neg (by decide), if_neg (by decide)]
      rintro e w9 ⟨v9, rfl, hrow, hb⟩
      clear hrow hi
      replace HB := Lib.hid (Blk.below (Hid.out HB) hb (Hid.out HB).lt)
      replace HX := Lib.hid (Blk.below (Hid.out HX) hb (Hid.out HX).lt)
      replace HP := Lib.hid (Blk.below (Hid.out HP) hb (Hid.out HP).lt)
      replace H1 := Lib.hid ((Hid.out H1).more_below hb)
      replace HL := Lib.hid ((Hid.out HL).trans (hb.mono (Hid.out HL).size))
      clear hb
      have hbW := HB.out.lt
      have hbP := HP.out.lt
      have test : (fun w' => w'.cell? (⟨W.heap.size, 0, none⟩) = some (.string s0) ∧ w'.cell? (⟨W.heap.size, 1, none⟩) = some (.string s1) ∧ w'.cell? (⟨gp, 0, none⟩) = some (.int .i64 a0) ∧ w'.cell? (⟨gp, 1, none⟩) = some (.int .i64 a1) ∧ w'.cell? (⟨gp, 2, none⟩) = some (.int .i64 a2) ∧ w'.cell? (⟨gp, 3, none⟩) = some (.int .i64 a3) ∧ w'.cell? (⟨gp, 4, none⟩) = some (.int .i64 a4) ∧ w'.cell? (⟨gp, 5, none⟩) = some (.bool a5) ∧ w'.cell? (⟨gp, 6, none⟩) = some (.bool a6) ∧ w'.cell? (⟨gp, 7, none⟩) = some (.bool a7) ∧ Hid (Kn (w9.heap.size) (w9) [(⟨W.heap.size, 0, none⟩, .string s0), (⟨W.heap.size, 1, none⟩, .string s1), (⟨gp, 0, none⟩, .int .i64 a0), (⟨gp, 1, none⟩, .int .i64 a1), (⟨gp, 2, none⟩, .int .i64 a2), (⟨gp, 3, none⟩, .int .i64 a3), (⟨gp, 4, none⟩, .int .i64 a4), (⟨gp, 5, none⟩, .bool a5), (⟨gp, 6, none⟩, .bool a6), (⟨gp, 7, none⟩, .bool a7)] w')) w9.drew := Kn.drew_10 (Kn.new_10 (w0 := w9) (M := w9.heap.size) (p0 := ⟨W.heap.size, 0, none⟩) (p1 := ⟨W.heap.size, 1, none⟩) (p2 := ⟨gp, 0, none⟩) (p3 := ⟨gp, 1, none⟩) (p4 := ⟨gp, 2, none⟩) (p5 := ⟨gp, 3, none⟩) (p6 := ⟨gp, 4, none⟩) (p7 := ⟨gp, 5, none⟩) (p8 := ⟨gp, 6, none⟩) (p9 := ⟨gp, 7, none⟩) (v0 := .string s0) (v1 := .string s1) (v2 := .int .i64 a0) (v3 := .int .i64 a1) (v4 := .int .i64 a2) (v5 := .int .i64 a3) (v6 := .int .i64 a4) (v7 := .bool a5) (v8 := .bool a6) (v9 := .bool a7) (Nat.le_refl _) (by rw [HB.out.cell]; rfl) hbW (by rw [HB.out.cell]; rfl) hbW (by rw [HP.out.cell]; rfl) hbP (by rw [HP.out.cell]; rfl) hbP (by rw [HP.out.cell]; rfl) hbP (by rw [HP.out.cell]; rfl) hbP (by rw [HP.out.cell]; rfl) hbP (by rw [HP.out.cell]; rfl) hbP (by rw [HP.out.cell]; rfl) hbP (by rw [HP.out.cell]; rfl) hbP)
      go_wp2_with fail
      refine wp_region_held_drew (S := (fun w' => w'.cell? (⟨W.heap.size, 0, none⟩) = some (.string s0) ∧ w'.cell? (⟨W.heap.size, 1, none⟩) = some (.string s1) ∧ w'.cell? (⟨gp, 0, none⟩) = some (.int .i64 a0) ∧ w'.cell? (⟨gp, 1, none⟩) = some (.int .i64 a1) ∧ w'.cell? (⟨gp, 2, none⟩) = some (.int .i64 a2) ∧ w'.cell? (⟨gp, 3, none⟩) = some (.int .i64 a3) ∧ w'.cell? (⟨gp, 4, none⟩) = some (.int .i64 a4) ∧ w'.cell? (⟨gp, 5, none⟩) = some (.bool a5) ∧ w'.cell? (⟨gp, 6, none⟩) = some (.bool a6) ∧ w'.cell? (⟨gp, 7, none⟩) = some (.bool a7) ∧ Hid (Kn (w9.heap.size) (w9) [(⟨W.heap.size, 0, none⟩, .string s0), (⟨W.heap.size, 1, none⟩, .string s1), (⟨gp, 0, none⟩, .int .i64 a0), (⟨gp, 1, none⟩, .int .i64 a1), (⟨gp, 2, none⟩, .int .i64 a2), (⟨gp, 3, none⟩, .int .i64 a3), (⟨gp, 4, none⟩, .int .i64 a4), (⟨gp, 5, none⟩, .bool a5), (⟨gp, 6, none⟩, .bool a6), (⟨gp, 7, none⟩, .bool a7)] w'))) (by kernel_rfl) ?_ (fun hHelda0 => ?_)
      · exact test
      refine wpAnyH_take (i := 0) (v := ?va0) ops0 (by kernel_rfl) (by kernel_rfl) (by kernel_rfl) (fun _ _ _ h => h) (Or.inl ⟨by rfl, ?ya0⟩) hHelda0 ?_
      case ya0 => (intro w hSw; (try dsimp only at hSw); go_simp; try (with_reducible rfl))
      try simp only [Act.put, List.setIfInBounds_toArray, List.set_cons_zero, List.set_cons_succ]
      refine wpAnyH_take (i := 1) (v := ?va1) (opsS ops0) (by kernel_rfl) (by kernel_rfl) (by kernel_rfl) (fun _ _ _ h => h) (Or.inl ⟨by rfl, ?ya1⟩) hHelda0 ?_
      case ya1 => (intro w hSw; (try dsimp only at hSw); go_simp; try (with_reducible rfl))
      try simp only [Act.put, List.setIfInBounds_toArray, List.set_cons_zero, List.set_cons_succ]
      refine wpAnyH_take (i := 2) (v := ?va2) (opsS (opsS ops0)) (by kernel_rfl) (by kernel_rfl) (by kernel_rfl) (fun _ _ _ h => h) (Or.inl ⟨by rfl, ?ya2⟩) hHelda0 ?_
      case ya2 => (intro w hSw; (try dsimp only at hSw); go_simp; try (with_reducible rfl))
      try simp only [Act.put, List.setIfInBounds_toArray, List.set_cons_zero, List.set_cons_succ]
      refine wpAnyH_take (i := 3) (v := undef) (opsS (opsS (opsS ops0))) (by kernel_rfl) (by kernel_rfl) (by kernel_rfl) (fun _ _ _ h => h) (Or.inr ⟨by rfl, rfl⟩) hHelda0 ?_
      try simp only [Act.put, List.setIfInBounds_toArray, List.set_cons_zero, List.set_cons_succ]
      refine wpAnyH_take (i := 4) (v := undef) (opsS (opsS (opsS (opsS ops0)))) (by kernel_rfl) (by kernel_rfl) (by kernel_rfl) (fun _ _ _ h => h) (Or.inr ⟨by rfl, rfl⟩) hHelda0 ?_
      try simp only [Act.put, List.setIfInBounds_toArray, List.set_cons_zero, List.set_cons_succ]
      refine wpAnyH_take (i := 5) (v := undef) (opsS (opsS (opsS (opsS (opsS ops0))))) (by kernel_rfl) (by kernel_rfl) (by kernel_rfl) (fun _ _ _ h => h) (Or.inr ⟨by rfl, rfl⟩) hHelda0 ?_
      try simp only [Act.put, List.setIfInBounds_toArray, List.set_cons_zero, List.set_cons_succ]
      refine wpAnyH_take (i := 6) (v := undef) (opsS (opsS (opsS (opsS (opsS (opsS ops0)))))) (by kernel_rfl) (by kernel_rfl) (by kernel_rfl) (fun _ _ _ h => h) (Or.inr ⟨by rfl, rfl⟩) hHelda0 ?_
      try simp only [Act.put, List.setIfInBounds_toArray, List.set_cons_zero, List.set_cons_succ]
      refine wpAnyH_take (i := 7) (v := undef) (opsS (opsS (opsS (opsS (opsS (opsS (opsS ops0))))))) (by kernel_rfl) (by kernel_rfl) (by kernel_rfl) (fun _ _ _ h => h) (Or.inr ⟨by rfl, rfl⟩) hHelda0 ?_
      try simp only [Act.put, List.setIfInBounds_toArray, List.set_cons_zero, List.set_cons_succ]
      refine wpAnyH_take (i := 8) (v := undef) (opsS (opsS (opsS (opsS (opsS (opsS (opsS (opsS ops0)))))))) (by kernel_rfl) (by kernel_rfl) (by kernel_rfl) (fun _ _ _ h => h) (Or.inr ⟨by rfl, rfl⟩) hHelda0 ?_
      try simp only [Act.put, List.setIfInBounds_toArray, List.set_cons_zero, List.set_cons_succ]
      refine wpAnyH_take (i := 9) (v := undef) (opsS (opsS (opsS (opsS (opsS (opsS (opsS (opsS (opsS ops0))))))))) (by kernel_rfl) (by kernel_rfl) (by kernel_rfl) (fun _ _ _ h => h) (Or.inr ⟨by rfl, rfl⟩) hHelda0 ?_
      try simp only [Act.put, List.setIfInBounds_toArray, List.set_cons_zero, List.set_cons_succ]
      refine wpAnyH_take (i := 10) (v := undef) (opsS (opsS (opsS (opsS (opsS (opsS (opsS (opsS (opsS (opsS ops0)))))))))) (by kernel_rfl) (by kernel_rfl) (by kernel_rfl) (fun _ _ _ h => h) (Or.inr ⟨by rfl, rfl⟩) hHelda0 ?_
      try simp only [Act.put, List.setIfInBounds_toArray, List.set_cons_zero, List.set_cons_succ]
      refine wpAnyH_take (i := 11) (v := ?va11) (opsS (opsS (opsS (opsS (opsS (opsS (opsS (opsS (opsS (opsS (opsS ops0))))))))))) (by kernel_rfl) (by kernel_rfl) (by kernel_rfl) (fun _ _ _ h => h) (Or.inl ⟨by rfl, ?ya11⟩) hHelda0 ?_
      case ya11 => (intro w hSw; (try dsimp only at hSw); go_simp; try (with_reducible rfl))
      try simp only [Act.put, List.setIfInBounds_toArray, List.set_cons_zero, List.set_cons_succ]
      refine wpAnyH_take (i := 12) (v := ?va12) (opsS (opsS (opsS (opsS (opsS (opsS (opsS (opsS (opsS (opsS (opsS (opsS ops0)))))))))))) (by kernel_rfl) (by kernel_rfl) (by kernel_rfl) (fun _ _ _ h => h) (Or.inl ⟨by rfl, ?ya12⟩) hHelda0 ?_
      case ya12 => (intro w hSw; (try dsimp only at hSw); go_simp; try (with_reducible rfl))
      try simp only [Act.put, List.setIfInBounds_toArray, List.set_cons_zero, List.set_cons_succ]
      refine wpAnyH_ready (rs := [13]) (by kernel_rfl) (by simp) ?_
      refine AllReadyH.cons (opsS (opsS (opsS (opsS (opsS (opsS (opsS (opsS (opsS (opsS (opsS (opsS (opsS ops0))))))))))))) (fun K hK => ?_) AllReadyH.nil
      go_simp
      refine (awake_any _ (Lib.hid (HLt.out.next (HL.out.trans (hHelda0.2.2.2.2.2.2.2.2.2.2.low.mono HL.out.size))))).mono ?_; rintro e w' ⟨rfl, hb⟩
      try dsimp only
      refine hK.out _ _ ?_ (fun hHelda1 => ?_)
      · (first | assumption | exact Kn.drew_10 (by assumption) | (go_split_ands; exact Kn.drew_10 (by assumption)) | (go_split_ands; exact Kn.step_10 (by assumption) (by assumption)) | (go_split_ands; exact Kn.alloc_10 (by assumption) _) | (go_split_ands; exact Kn.far_10 (by assumption) (by assumption)))
      clear hK K hHelda0
      try clear hb
      try simp only [Act.put, List.setIfInBounds_toArray, List.set_cons_zero, List.set_cons_succ]
      refine wpAnyH_take (i := 14) (v := ?va14) (opsS (opsS (opsS (opsS (opsS (opsS (opsS (opsS (opsS (opsS (opsS (opsS (opsS (opsS ops0)))))))))))))) (by kernel_rfl) (by kernel_rfl) (by kernel_rfl) (fun _ _ _ h => h) (Or.inl ⟨by rfl, ?ya14⟩) hHelda1 ?_
      case ya14 => (intro w hSw; (try dsimp only at hSw); go_simp; try (with_reducible rfl))
      try simp only [Act.put, List.setIfInBounds_toArray, List.set_cons_zero, List.set_cons_succ]
      refine wpAnyH_take (i := 15) (v := ?va15) (opsS (opsS (opsS (opsS (opsS (opsS (opsS (opsS (opsS (opsS (opsS (opsS (opsS (opsS (opsS ops0))))))))))))))) (by kernel_rfl) (by kernel_rfl) (by kernel_rfl) (fun _ _ _ h => h) (Or.inl ⟨by rfl, ?ya15⟩) hHelda1 ?_
      case ya15 => (intro w hSw; (try dsimp only at hSw); go_simp; try (with_reducible rfl))
      try simp only [Act.put, List.setIfInBounds_toArray, List.set_cons_zero, List.set_cons_succ]
      refine wpAnyH_done (by kernel_rfl) ?_ _
      have hlf := Lib.hid (HL.out.trans (hHelda1.2.2.2.2.2.2.2.2.2.2.low.mono HL.out.size))
      clear hHelda1 test
      go_wp2
      go_ret
      exact ⟨rfl, hlf.out⟩
    | true =>
      rw [if_pos rfl, if_pos rfl]
      have hlen := rgy.putE_len xs ⟨kk, ⟨n, b, v⟩⟩
      generalize rgy.putE xs ⟨kk, ⟨n, b, v⟩⟩ = ps at *
      rintro e w9 ⟨v9, rfl, hrow, hb⟩
      obtain ⟨A6, c6, rfl, hr6⟩ := hrow.reads
      have H6 := Lib.hid hr6
      clear hrow hi hr6
      replace HB := Lib.hid (Blk.below (Hid.out HB) hb (Hid.out HB).lt)
      replace HX := Lib.hid (Blk.below (Hid.out HX) hb (Hid.out HX).lt)
      replace HP := Lib.hid (Blk.below (Hid.out HP) hb (Hid.out HP).lt)
      replace H1 := Lib.hid ((Hid.out H1).more_below hb)
      replace HL := Lib.hid ((Hid.out HL).trans (hb.mono (Hid.out HL).size))
      clear hb
      have hbW := HB.out.lt
      have hbP := HP.out.lt
      have test : (fun w' => w'.cell? (⟨W.heap.size, 0, none⟩) = some (.string s0) ∧ w'.cell? (⟨W.heap.size, 1, none⟩) = some (.string s1) ∧ w'.cell? (⟨gp, 0, none⟩) = some (.int .i64 a0) ∧ w'.cell? (⟨gp, 1, none⟩) = some (.int .i64 a1) ∧ w'.cell? (⟨gp, 2, none⟩) = some (.int .i64 a2) ∧ w'.cell? (⟨gp, 3, none⟩) = some (.int .i64 a3) ∧ w'.cell? (⟨gp, 4, none⟩) = some (.int .i64 a4) ∧ w'.cell? (⟨gp, 5, none⟩) = some (.bool a5) ∧ w'.cell? (⟨gp, 6, none⟩) = some (.bool a6) ∧ w'.cell? (⟨gp, 7, none⟩) = some (.bool a7) ∧ Hid (Kn (w9.heap.size) (w9) [(⟨W.heap.size, 0, none⟩, .string s0), (⟨W.heap.size, 1, none⟩, .string s1), (⟨gp, 0, none⟩, .int .i64 a0), (⟨gp, 1, none⟩, .int .i64 a1), (⟨gp, 2, none⟩, .int .i64 a2), (⟨gp, 3, none⟩, .int .i64 a3), (⟨gp, 4, none⟩, .int .i64 a4), (⟨gp, 5, none⟩, .bool a5), (⟨gp, 6, none⟩, .bool a6), (⟨gp, 7, none⟩, .bool a7)] w')) w9.drew := Kn.drew_10 (Kn.new_10 (w0 := w9) (M := w9.heap.size) (p0 := ⟨W.heap.size, 0, none⟩) (p1 := ⟨W.heap.size, 1, none⟩) (p2 := ⟨gp, 0, none⟩) (p3 := ⟨gp, 1, none⟩) (p4 := ⟨gp, 2, none⟩) (p5 := ⟨gp, 3, none⟩) (p6 := ⟨gp, 4, none⟩) (p7 := ⟨gp, 5, none⟩) (p8 := ⟨gp, 6, none⟩) (p9 := ⟨gp, 7, none⟩) (v0 := .string s0) (v1 := .string s1) (v2 := .int .i64 a0) (v3 := .int .i64 a1) (v4 := .int .i64 a2) (v5 := .int .i64 a3) (v6 := .int .i64 a4) (v7 := .bool a5) (v8 := .bool a6) (v9 := .bool a7) (Nat.le_refl _) (by rw [HB.out.cell]; rfl) hbW (by rw [HB.out.cell]; rfl) hbW (by rw [HP.out.cell]; rfl) hbP (by rw [HP.out.cell]; rfl) hbP (by rw [HP.out.cell]; rfl) hbP (by rw [HP.out.cell]; rfl) hbP (by rw [HP.out.cell]; rfl) hbP (by rw [HP.out.cell]; rfl) hbP (by rw [HP.out.cell]; rfl) hbP (by rw [HP.out.cell]; rfl) hbP)
      go_wp2_with fail
      refine wp_region_held_drew (S := (fun w' => w'.cell? (⟨W.heap.size, 0, none⟩) = some (.string s0) ∧ w'.cell? (⟨W.heap.size, 1, none⟩) = some (.string s1) ∧ w'.cell? (⟨gp, 0, none⟩) = some (.int .i64 a0) ∧ w'.cell? (⟨gp, 1, none⟩) = some (.int .i64 a1) ∧ w'.cell? (⟨gp, 2, none⟩) = some (.int .i64 a2) ∧ w'.cell? (⟨gp, 3, none⟩) = some (.int .i64 a3) ∧ w'.cell? (⟨gp, 4, none⟩) = some (.int .i64 a4) ∧ w'.cell? (⟨gp, 5, none⟩) = some (.bool a5) ∧ w'.cell? (⟨gp, 6, none⟩) = some (.bool a6) ∧ w'.cell? (⟨gp, 7, none⟩) = some (.bool a7) ∧ Hid (Kn (w9.heap.size) (w9) [(⟨W.heap.size, 0, none⟩, .string s0), (⟨W.heap.size, 1, none⟩, .string s1), (⟨gp, 0, none⟩, .int .i64 a0), (⟨gp, 1, none⟩, .int .i64 a1), (⟨gp, 2, none⟩, .int .i64 a2), (⟨gp, 3, none⟩, .int .i64 a3), (⟨gp, 4, none⟩, .int .i64 a4), (⟨gp, 5, none⟩, .bool a5), (⟨gp, 6, none⟩, .bool a6), (⟨gp, 7, none⟩, .bool a7)] w'))) (by kernel_rfl) ?_ (fun hHeldb0 => ?_)
      · exact test
      refine wpAnyH_take (i := 0) (v := ?vb0) ops0 (by kernel_rfl) (by kernel_rfl) (by kernel_rfl) (fun _ _ _ h => h) (Or.inl ⟨by rfl, ?yb0⟩) hHeldb0 ?_
      case yb0 => (intro w hSw; (try dsimp only at hSw); go_simp; try (with_reducible rfl))
      try simp only [Act.put, List.setIfInBounds_toArray, List.set_cons_zero, List.set_cons_succ]
      refine wpAnyH_take (i := 1) (v := ?vb1) (opsS ops0) (by kernel_rfl) (by kernel_rfl) (by kernel_rfl) (fun _ _ _ h => h) (Or.inl ⟨by rfl, ?yb1⟩) hHeldb0 ?_
      case yb1 => (intro w hSw; (try dsimp only at hSw); go_simp; try (with_reducible rfl))
      try simp only [Act.put, List.setIfInBounds_toArray, List.set_cons_zero, List.set_cons_succ]
      refine wpAnyH_take (i := 2) (v := ?vb2) (opsS (opsS ops0)) (by kernel_rfl) (by kernel_rfl) (by kernel_rfl) (fun _ _ _ h => h) (Or.inl ⟨by rfl, ?yb2⟩) hHeldb0 ?_
      case yb2 => (intro w hSw; (try dsimp only at hSw); go_simp; try (with_reducible rfl))
      try simp only [Act.put, List.setIfInBounds_toArray, List.set_cons_zero, List.set_cons_succ]
      refine wpAnyH_take (i := 3) (v := ?vb3) (opsS (opsS (opsS ops0))) (by kernel_rfl) (by kernel_rfl) (by kernel_rfl) (fun _ _ _ h => h) (Or.inl ⟨by rfl, ?yb3⟩) hHeldb0 ?_
      case yb3 => (intro w hSw; (try dsimp only at hSw); go_simp; try (with_reducible rfl))
      try simp only [Act.put, List.setIfInBounds_toArray, List.set_cons_zero, List.set_cons_succ]
      refine wpAnyH_take (i := 4) (v := ?vb4) (opsS (opsS (opsS (opsS ops0)))) (by kernel_rfl) (by kernel_rfl) (by kernel_rfl) (fun _ _ _ h => h) (Or.inl ⟨by rfl, ?yb4⟩) hHeldb0 ?_
      case yb4 => (intro w hSw; (try dsimp only at hSw); go_simp; try (with_reducible rfl))
      try simp only [Act.put, List.setIfInBounds_toArray, List.set_cons_zero, List.set_cons_succ]
      refine wpAnyH_take (i := 5) (v := ?vb5) (opsS (opsS (opsS (opsS (opsS ops0))))) (by kernel_rfl) (by kernel_rfl) (by kernel_rfl) (fun _ _ _ h => h) (Or.inl ⟨by rfl, ?yb5⟩) hHeldb0 ?_
      case yb5 => (intro w hSw; (try dsimp only at hSw); go_simp; try (with_reducible rfl))
      try simp only [Act.put, List.setIfInBounds_toArray, List.set_cons_zero, List.set_cons_succ]
      refine wpAnyH_take (i := 6) (v := ?vb6) (opsS (opsS (opsS (opsS (opsS (opsS ops0)))))) (by kernel_rfl) (by kernel_rfl) (by kernel_rfl) (fun _ _ _ h => h) (Or.inl ⟨by rfl, ?yb6⟩) hHeldb0 ?_
      case yb6 => (intro w hSw; (try dsimp only at hSw); go_simp; try (with_reducible rfl))
      try simp only [Act.put, List.setIfInBounds_toArray, List.set_cons_zero, List.set_cons_succ]
      refine wpAnyH_take (i := 7) (v := ?vb7) (opsS (opsS (opsS (opsS (opsS (opsS (opsS ops0))))))) (by kernel_rfl) (by kernel_rfl) (by kernel_rfl) (fun _ _ _ h => h) (Or.inl ⟨by rfl, ?yb7⟩) hHeldb0 ?_
      case yb7 => (intro w hSw; (try dsimp only at hSw); go_simp; try (with_reducible rfl))
      try simp only [Act.put, List.setIfInBounds_toArray, List.set_cons_zero, List.set_cons_succ]
      refine wpAnyH_take (i := 9) (v := ?vb9) (opsS (opsS (opsS (opsS (opsS (opsS (opsS (opsS (opsS ops0))))))))) (by kernel_rfl) (by kernel_rfl) (by kernel_rfl) (fun _ _ _ h => h) (Or.inl ⟨by rfl, ?yb9⟩) hHeldb0 ?_
      case yb9 => (intro w hSw; (try dsimp only at hSw); go_simp; try (with_reducible rfl))
      try simp only [Act.put, List.setIfInBounds_toArray, List.set_cons_zero, List.set_cons_succ]
      refine wpAnyH_ready (rs := [8]) (by kernel_rfl) (by simp) ?_
      refine AllReadyH.cons (opsS (opsS (opsS (opsS (opsS (opsS (opsS (opsS ops0)))))))) (fun K hK => ?_) AllReadyH.nil
      go_simp
      refine (HOF.out _ A6 c6 ps (by omega) (H6.out.more_below hHeldb0.2.2.2.2.2.2.2.2.2.2.low) HSP.out (Lib.hid (HLt.out.next (HL.out.trans (hHeldb0.2.2.2.2.2.2.2.2.2.2.low.mono HL.out.size))))).mono ?_; rw [HPP.out, HPV.out]; rintro e w' ⟨rfl, hb⟩
      try dsimp only
      refine hK.out _ _ ?_ (fun hHeldb1 => ?_)
      · (first | assumption | exact Kn.drew_10 (by assumption) | (go_split_ands; exact Kn.drew_10 (by assumption)) | (go_split_ands; exact Kn.step_10 (by assumption) (by assumption)) | (go_split_ands; exact Kn.alloc_10 (by assumption) _) | (go_split_ands; exact Kn.far_10 (by assumption) (by assumption)))
      clear hK K hHeldb0
      try clear hb
      try simp only [Act.put, List.setIfInBounds_toArray, List.set_cons_zero, List.set_cons_succ]
      refine wpAnyH_take (i := 10) (v := ?vb10) (opsS (opsS (opsS (opsS (opsS (opsS (opsS (opsS (opsS (opsS ops0)))))))))) (by kernel_rfl) (by kernel_rfl) (by kernel_rfl) (fun _ _ _ h => h) (Or.inl ⟨by rfl, ?yb10⟩) hHeldb1 ?_
      case yb10 => (intro w hSw; (try dsimp only at hSw); go_simp; try (with_reducible rfl))
      try simp only [Act.put, List.setIfInBounds_toArray, List.set_cons_zero, List.set_cons_succ]
      refine wpAnyH_take (i := 11) (v := ?vb11) (opsS (opsS (opsS (opsS (opsS (opsS (opsS (opsS (opsS (opsS (opsS ops0))))))))))) (by kernel_rfl) (by kernel_rfl) (by kernel_rfl) (fun _ _ _ h => h) (Or.inl ⟨by rfl, ?yb11⟩) hHeldb1 ?_
      case yb11 => (intro w hSw; (try dsimp only at hSw); go_simp; try (with_reducible rfl))
      try simp only [Act.put, List.setIfInBounds_toArray, List.set_cons_zero, List.set_cons_succ]
      refine wpAnyH_take (i := 12) (v := ?vb12) (opsS (opsS (opsS (opsS (opsS (opsS (opsS (opsS (opsS (opsS (opsS (opsS ops0)))))))))))) (by kernel_rfl) (by kernel_rfl) (by kernel_rfl) (fun _ _ _ h => h) (Or.inl ⟨by rfl, ?yb12⟩) hHeldb1 ?_
      case yb12 => (intro w hSw; (try dsimp only at hSw); go_simp; try (with_reducible rfl))
      try simp only [Act.put, List.setIfInBounds_toArray, List.set_cons_zero, List.set_cons_succ]
      refine wpAnyH_ready (rs := [13]) (by kernel_rfl) (by simp) ?_
      refine AllReadyH.cons (opsS (opsS (opsS (opsS (opsS (opsS (opsS (opsS (opsS (opsS (opsS (opsS (opsS ops0))))))))))))) (fun K hK => ?_) AllReadyH.nil
      go_simp
      refine (awake_any _ (Lib.hid (HLt.out.next (HL.out.trans (hHeldb1.2.2.2.2.2.2.2.2.2.2.low.mono HL.out.size))))).mono ?_; rintro e w' ⟨rfl, hb⟩
      try dsimp only
      refine hK.out _ _ ?_ (fun hHeldb2 => ?_)
      · (first | assumption | exact Kn.drew_10 (by assumption) | (go_split_ands; exact Kn.drew_10 (by assumption)) | (go_split_ands; exact Kn.step_10 (by assumption) (by assumption)) | (go_split_ands; exact Kn.alloc_10 (by assumption) _) | (go_split_ands; exact Kn.far_10 (by assumption) (by assumption)))
      clear hK K hHeldb1
      try clear hb
      try simp only [Act.put, List.setIfInBounds_toArray, List.set_cons_zero, List.set_cons_succ]
      refine wpAnyH_take (i := 14) (v := ?vb14) (opsS (opsS (opsS (opsS (opsS (opsS (opsS (opsS (opsS (opsS (opsS (opsS (opsS (opsS ops0)))))))))))))) (by kernel_rfl) (by kernel_rfl) (by kernel_rfl) (fun _ _ _ h => h) (Or.inl ⟨by rfl, ?yb14⟩) hHeldb2 ?_
      case yb14 => (intro w hSw; (try dsimp only at hSw); go_simp; try (with_reducible rfl))
      try simp only [Act.put, List.setIfInBounds_toArray, List.set_cons_zero, List.set_cons_succ]
      refine wpAnyH_take (i := 15) (v := ?vb15) (opsS (opsS (opsS (opsS (opsS (opsS (opsS (opsS (opsS (opsS (opsS (opsS (opsS (opsS (opsS ops0))))))))))))))) (by kernel_rfl) (by kernel_rfl) (by kernel_rfl) (fun _ _ _ h => h) (Or.inl ⟨by rfl, ?yb15⟩) hHeldb2 ?_
      case yb15 => (intro w hSw; (try dsimp only at hSw); go_simp; try (with_reducible rfl))
      try simp only [Act.put, List.setIfInBounds_toArray, List.set_cons_zero, List.set_cons_succ]
      refine wpAnyH_done (by kernel_rfl) ?_ _
      have hlf := Lib.hid (HL.out.trans (hHeldb2.2.2.2.2.2.2.2.2.2.2.low.mono HL.out.size))
      clear hHeldb2 test
      go_wp2
      go_ret
      exact ⟨rfl, hlf.out⟩
  · have hq3 := hq2
    go_wp2_with fail
    refine (rgy.rputC_any _ A ca xs ⟨kk, ⟨n, b, v⟩⟩ (by omega) hca H1.out HS.out HY.out).mono ?_
    rw [HM.out, Bool.true_and]
    clear d0 d1 x0 x1 x2 x3
    cases hi : rgy.isEntry ⟨kk, ⟨n, b, v⟩⟩ with
    | false =>
      rw [if_neg (by decide), if_neg (by decide)]
      rintro e w9 ⟨v9, rfl, hrow, hb⟩
      clear hrow hi
      replace HB := Lib.hid (Blk.below (Hid.out HB) hb (Hid.out HB).lt)
      replace HX := Lib.hid (Blk.below (Hid.out HX) hb (Hid.out HX).lt)
      replace HP := Lib.hid (Blk.below (Hid.out HP) hb (Hid.out HP).lt)
      replace H1 := Lib.hid ((Hid.out H1).more_below hb)
      replace HL := Lib.hid ((Hid.out HL).trans (hb.mono (Hid.out HL).size))
      clear hb
      have hbW := HB.out.lt
      have hbP := HP.out.lt
      have test : (fun w' => w'.cell? (⟨W.heap.size, 0, none⟩) = some (.string s0) ∧ w'.cell? (⟨W.heap.size, 1, none⟩) = some (.string s1) ∧ w'.cell? (⟨gp, 0, none⟩) = some (.int .i64 a0) ∧ w'.cell? (⟨gp, 1, none⟩) = some (.int .i64 a1) ∧ w'.cell? (⟨gp, 2, none⟩) = some (.int .i64 a2) ∧ w'.cell? (⟨gp, 3, none⟩) = some (.int .i64 a3) ∧ w'.cell? (⟨gp, 4, none⟩) = some (.int .i64 a4) ∧ w'.cell? (⟨gp, 5, none⟩) = some (.bool a5) ∧ w'.cell? (⟨gp, 6, none⟩) = some (.bool a6) ∧ w'.cell? (⟨gp, 7, none⟩) = some (.bool a7) ∧ Hid (Kn (w9.heap.size) (w9) [(⟨W.heap.size, 0, none⟩, .string s0), (⟨W.heap.size, 1, none⟩, .string s1), (⟨gp, 0, none⟩, .int .i64 a0), (⟨gp, 1, none⟩, .int .i64 a1), (⟨gp, 2, none⟩, .int .i64 a2), (⟨gp, 3, none⟩, .int .i64 a3), (⟨gp, 4, none⟩, .int .i64 a4), (⟨gp, 5, none⟩, .bool a5), (⟨gp, 6, none⟩, .bool a6), (⟨gp, 7, none⟩, .bool a7)] w')) w9.drew := Kn.drew_10 (Kn.new_10 (w0 := w9) (M := w9.heap.size) (p0 := ⟨W.heap.size, 0, none⟩) (p1 := ⟨W.heap.size, 1, none⟩) (p2 := ⟨gp, 0, none⟩) (p3 := ⟨gp, 1, none⟩) (p4 := ⟨gp, 2, none⟩) (p5 := ⟨gp, 3, none⟩) (p6 := ⟨gp, 4, none⟩) (p7 := ⟨gp, 5, none⟩) (p8 := ⟨gp, 6, none⟩) (p9 := ⟨gp, 7, none⟩) (v0 := .string s0) (v1 := .string s1) (v2 := .int .i64 a0) (v3 := .int .i64 a1) (v4 := .int .i64 a2) (v5 := .int .i64 a3) (v6 := .int .i64 a4) (v7 := .bool a5) (v8 := .bool a6) (v9 := .bool a7) (Nat.le_refl _) (by rw [HB.out.cell]; rfl) hbW (by rw [HB.out.cell]; rfl) hbW (by rw [HP.out.cell]; rfl) hbP (by rw [HP.out.cell]; rfl) hbP (by rw [HP.out.cell]; rfl) hbP (by rw [HP.out.cell]; rfl) hbP (by rw [HP.out.cell]; rfl) hbP (by rw [HP.out.cell]; rfl) hbP (by rw [HP.out.cell]; rfl) hbP (by rw [HP.out.cell]; rfl) hbP)
      go_wp2_with fail
      refine wp_region_held_drew (S := (fun w' => w'.cell? (⟨W.heap.size, 0, none⟩) = some (.string s0) ∧ w'.cell? (⟨W.heap.size, 1, none⟩) = some (.string s1) ∧ w'.cell? (⟨gp, 0, none⟩) = some (.int .i64 a0) ∧ w'.cell? (⟨gp, 1, none⟩) = some (.int .i64 a1) ∧ w'.cell? (⟨gp, 2, none⟩) = some (.int .i64 a2) ∧ w'.cell? (⟨gp, 3, none⟩) = some (.int .i64 a3) ∧ w'.cell? (⟨gp, 4, none⟩) = some (.int .i64 a4) ∧ w'.cell? (⟨gp, 5, none⟩) = some (.bool a5) ∧ w'.cell? (⟨gp, 6, none⟩) = some (.bool a6) ∧ w'.cell? (⟨gp, 7, none⟩) = some (.bool a7) ∧ Hid (Kn (w9.heap.size) (w9) [(⟨W.heap.size, 0, none⟩, .string s0), (⟨W.heap.size, 1, none⟩, .string s1), (⟨gp, 0, none⟩, .int .i64 a0), (⟨gp, 1, none⟩, .int .i64 a1), (⟨gp, 2, none⟩, .int .i64 a2), (⟨gp, 3, none⟩, .int .i64 a3), (⟨gp, 4, none⟩, .int .i64 a4), (⟨gp, 5, none⟩, .bool a5), (⟨gp, 6, none⟩, .bool a6), (⟨gp, 7, none⟩, .bool a7)] w'))) (by kernel_rfl) ?_ (fun hHeldc0 => ?_)
      · exact test
      refine wpAnyH_take (i := 0) (v := ?vc0) ops0 (by kernel_rfl) (by kernel_rfl) (by kernel_rfl) (fun _ _ _ h => h) (Or.inl ⟨by rfl, ?yc0⟩) hHeldc0 ?_
      case yc0 => (intro w hSw; (try dsimp only at hSw); go_simp; try (with_reducible rfl))
      try simp only [Act.put, List.setIfInBounds_toArray, List.set_cons_zero, List.set_cons_succ]
      refine wpAnyH_take (i := 1) (v := ?vc1) (opsS ops0) (by kernel_rfl) (by kernel_rfl) (by kernel_rfl) (fun _ _ _ h => h) (Or.inl ⟨by rfl, ?yc1⟩) hHeldc0 ?_
      case yc1 => (intro w hSw; (try dsimp only at hSw); go_simp; try (with_reducible rfl))
      try simp only [Act.put, List.setIfInBounds_toArray, List.set_cons_zero, List.set_cons_succ]
      refine wpAnyH_take (i := 2) (v := ?vc2) (opsS (opsS ops0)) (by kernel_rfl) (by kernel_rfl) (by kernel_rfl) (fun _ _ _ h => h) (Or.inl ⟨by rfl, ?yc2⟩) hHeldc0 ?_
      case yc2 => (intro w hSw; (try dsimp only at hSw); go_simp; try (with_reducible rfl))
      try simp only [Act.put, List.setIfInBounds_toArray, List.set_cons_zero, List.set_cons_succ]
      refine wpAnyH_take (i := 3) (v := undef) (opsS (opsS (opsS ops0))) (by kernel_rfl) (by kernel_rfl) (by kernel_rfl) (fun _ _ _ h => h) (Or.inr ⟨by rfl, rfl⟩) hHeldc0 ?_
      try simp only [Act.put, List.setIfInBounds_toArray, List.set_cons_zero, List.set_cons_succ]
      refine wpAnyH_take (i := 4) (v := undef) (opsS (opsS (opsS (opsS ops0)))) (by kernel_rfl) (by kernel_rfl) (by kernel_rfl) (fun _ _ _ h => h) (Or.inr ⟨by rfl, rfl⟩) hHeldc0 ?_
      try simp only [Act.put, List.setIfInBounds_toArray, List.set_cons_zero, List.set_cons_succ]
      refine wpAnyH_take (i := 5) (v := undef) (opsS (opsS (opsS (opsS (opsS ops0))))) (by kernel_rfl) (by kernel_rfl) (by kernel_rfl) (fun _ _ _ h => h) (Or.inr ⟨by rfl, rfl⟩) hHeldc0 ?_
      try simp only [Act.put, List.setIfInBounds_toArray, List.set_cons_zero, List.set_cons_succ]
      refine wpAnyH_take (i := 6) (v := undef) (opsS (opsS (opsS (opsS (opsS (opsS ops0)))))) (by kernel_rfl) (by kernel_rfl) (by kernel_rfl) (fun _ _ _ h => h) (Or.inr ⟨by rfl, rfl⟩) hHeldc0 ?_
      try simp only [Act.put, List.setIfInBounds_toArray, List.set_cons_zero, List.set_cons_succ]
      refine wpAnyH_take (i := 7) (v := undef) (opsS (opsS (opsS (opsS (opsS (opsS (opsS ops0))))))) (by kernel_rfl) (by kernel_rfl) (by kernel_rfl) (fun _ _ _ h => h) (Or.inr ⟨by rfl, rfl⟩) hHeldc0 ?_
      try simp only [Act.put, List.setIfInBounds_toArray, List.set_cons_zero, List.set_cons_succ]
      refine wpAnyH_take (i := 8) (v := undef) (opsS (opsS (opsS (opsS (opsS (opsS (opsS (opsS ops0)))))))) (by kernel_rfl) (by kernel_rfl) (by kernel_rfl) (fun _ _ _ h => h) (Or.inr ⟨by rfl, rfl⟩) hHeldc0 ?_
      try simp only [Act.put, List.setIfInBounds_toArray, List.set_cons_zero, List.set_cons_succ]
      refine wpAnyH_take (i := 9) (v := undef) (opsS (opsS (opsS (opsS (opsS (opsS (opsS (opsS (opsS ops0))))))))) (by kernel_rfl) (by kernel_rfl) (by kernel_rfl) (fun _ _ _ h => h) (Or.inr ⟨by rfl, rfl⟩) hHeldc0 ?_
      try simp only [Act.put, List.setIfInBounds_toArray, List.set_cons_zero, List.set_cons_succ]
      refine wpAnyH_take (i := 10) (v := undef) (opsS (opsS (opsS (opsS (opsS (opsS (opsS (opsS (opsS (opsS ops0)))))))))) (by kernel_rfl) (by kernel_rfl) (by kernel_rfl) (fun _ _ _ h => h) (Or.inr ⟨by rfl, rfl⟩) hHeldc0 ?_
      try simp only [Act.put, List.setIfInBounds_toArray, List.set_cons_zero, List.set_cons_succ]
      refine wpAnyH_take (i := 11) (v := ?vc11) (opsS (opsS (opsS (opsS (opsS (opsS (opsS (opsS (opsS (opsS (opsS ops0))))))))))) (by kernel_rfl) (by kernel_rfl) (by kernel_rfl) (fun _ _ _ h => h) (Or.inl ⟨by rfl, ?yc11⟩) hHeldc0 ?_
      case yc11 => (intro w hSw; (try dsimp only at hSw); go_simp; try (with_reducible rfl))
      try simp only [Act.put, List.setIfInBounds_toArray, List.set_cons_zero, List.set_cons_succ]
      refine wpAnyH_take (i := 12) (v := ?vc12) (opsS (opsS (opsS (opsS (opsS (opsS (opsS (opsS (opsS (opsS (opsS (opsS ops0)))))))))))) (by kernel_rfl) (by kernel_rfl) (by kernel_rfl) (fun _ _ _ h => h) (Or.inl ⟨by rfl, ?yc12⟩) hHeldc0 ?_
      case yc12 => (intro w hSw; (try dsimp only at hSw); go_simp; try (with_reducible rfl))
      try simp only [Act.put, List.setIfInBounds_toArray, List.set_cons_zero, List.set_cons_succ]
      refine wpAnyH_ready (rs := [13]) (by kernel_rfl) (by simp) ?_
      refine AllReadyH.cons (opsS (opsS (opsS (opsS (opsS (opsS (opsS (opsS (opsS (opsS (opsS (opsS (opsS ops0))))))))))))) (fun K hK => ?_) AllReadyH.nil
      go_simp
      refine (awake_any _ (Lib.hid (HLt.out.next (HL.out.trans (hHeldc0.2.2.2.2.2.2.2.2.2.2.low.mono HL.out.size))))).mono ?_; rintro e w' ⟨rfl, hb⟩
      try dsimp only
      refine hK.out _ _ ?_ (fun hHeldc1 => ?_)
      · (first | assumption | exact Kn.drew_10 (by assumption) | (go_split_ands; exact Kn.drew_10 (by assumption)) | (go_split_ands; exact Kn.step_10 (by assumption) (by assumption)) | (go_split_ands; exact Kn.alloc_10 (by assumption) _) | (go_split_ands; exact Kn.far_10 (by assumption) (by assumption)))
      clear hK K hHeldc0
      try clear hb
      try simp only [Act.put, List.setIfInBounds_toArray, List.set_cons_zero, List.set_cons_succ]
      refine wpAnyH_take (i := 14) (v := ?vc14) (opsS (opsS (opsS (opsS (opsS (opsS (opsS (opsS (opsS (opsS (opsS (opsS (opsS (opsS ops0)))))))))))))) (by kernel_rfl) (by kernel_rfl) (by kernel_rfl) (fun _ _ _ h => h) (Or.inl ⟨by rfl, ?yc14⟩) hHeldc1 ?_
      case yc14 => (intro w hSw; (try dsimp only at hSw); go_simp; try (with_reducible rfl))
      try simp only [Act.put, List.setIfInBounds_toArray, List.set_cons_zero, List.set_cons_succ]
      refine wpAnyH_take (i := 15) (v := ?vc15) (opsS (opsS (opsS (opsS (opsS (opsS (opsS (opsS (opsS (opsS (opsS (opsS (opsS (opsS (opsS ops0))))))))))))))) (by kernel_rfl) (by kernel_rfl) (by kernel_rfl) (fun _ _ _ h => h) (Or.inl ⟨by rfl, ?yc15⟩) hHeldc1 ?_
      case yc15 => (intro w hSw; (try dsimp only at hSw); go_simp; try (with_reducible rfl))
      try simp only [Act.put, List.setIfInBounds_toArray, List.set_cons_zero, List.set_cons_succ]
      refine wpAnyH_done (by kernel_rfl) ?_ _
      have hlf := Lib.hid (HL.out.trans (hHeldc1.2.2.2.2.2.2.2.2.2.2.low.mono HL.out.size))
      clear hHeldc1 test
      go_wp2
      go_ret
      exact ⟨rfl, hlf.out⟩
    | true =>
      rw [if_pos rfl, if_pos rfl]
      have hlen := rgy.putE_len xs ⟨kk, ⟨n, b, v⟩⟩
      generalize rgy.putE xs ⟨kk, ⟨n, b, v⟩⟩ = ps at *
      rintro e w9 ⟨v9, rfl, hrow, hb⟩
      obtain ⟨A6, c6, rfl, hr6⟩ := hrow.reads
      have H6 := Lib.hid hr6
      clear hrow hi hr6
      replace HB := Lib.hid (Blk.below (Hid.out HB) hb (Hid.out HB).lt)
      replace HX := Lib.hid (Blk.below (Hid.out HX) hb (Hid.out HX).lt)
      replace HP := Lib.hid (Blk.below (Hid.out HP) hb (Hid.out HP).lt)
      replace H1 := Lib.hid ((Hid.out H1).more_below hb)
      replace HL := Lib.hid ((Hid.out HL).trans (hb.mono (Hid.out HL).size))
      clear hb
      have hbW := HB.out.lt
      have hbP := HP.out.lt
      have test : (fun w' => w'.cell? (⟨W.heap.size, 0, none⟩) = some (.string s0) ∧ w'.cell? (⟨W.heap.size, 1, none⟩) = some (.string s1) ∧ w'.cell? (⟨gp, 0, none⟩) = some (.int .i64 a0) ∧ w'.cell? (⟨gp, 1, none⟩) = some (.int .i64 a1) ∧ w'.cell? (⟨gp, 2, none⟩) = some (.int .i64 a2) ∧ w'.cell? (⟨gp, 3, none⟩) = some (.int .i64 a3) ∧ w'.cell? (⟨gp, 4, none⟩) = some (.int .i64 a4) ∧ w'.cell? (⟨gp, 5, none⟩) = some (.bool a5) ∧ w'.cell? (⟨gp, 6, none⟩) = some (.bool a6) ∧ w'.cell? (⟨gp, 7, none⟩) = some (.bool a7) ∧ Hid (Kn (w9.heap.size) (w9) [(⟨W.heap.size, 0, none⟩, .string s0), (⟨W.heap.size, 1, none⟩, .string s1), (⟨gp, 0, none⟩, .int .i64 a0), (⟨gp, 1, none⟩, .int .i64 a1), (⟨gp, 2, none⟩, .int .i64 a2), (⟨gp, 3, none⟩, .int .i64 a3), (⟨gp, 4, none⟩, .int .i64 a4), (⟨gp, 5, none⟩, .bool a5), (⟨gp, 6, none⟩, .bool a6), (⟨gp, 7, none⟩, .bool a7)] w')) w9.drew := Kn.drew_10 (Kn.new_10 (w0 := w9) (M := w9.heap.size) (p0 := ⟨W.heap.size, 0, none⟩) (p1 := ⟨W.heap.size, 1, none⟩) (p2 := ⟨gp, 0, none⟩) (p3 := ⟨gp, 1, none⟩) (p4 := ⟨gp, 2, none⟩) (p5 := ⟨gp, 3, none⟩) (p6 := ⟨gp, 4, none⟩) (p7 := ⟨gp, 5, none⟩) (p8 := ⟨gp, 6, none⟩) (p9 := ⟨gp, 7, none⟩) (v0 := .string s0) (v1 := .string s1) (v2 := .int .i64 a0) (v3 := .int .i64 a1) (v4 := .int .i64 a2) (v5 := .int .i64 a3) (v6 := .int .i64 a4) (v7 := .bool a5) (v8 := .bool a6) (v9 := .bool a7) (Nat.le_refl _) (by rw [HB.out.cell]; rfl) hbW (by rw [HB.out.cell]; rfl) hbW (by rw [HP.out.cell]; rfl) hbP (by rw [HP.out.cell]; rfl) hbP (by rw [HP.out.cell]; rfl) hbP (by rw [HP.out.cell]; rfl) hbP (by rw [HP.out.cell]; rfl) hbP (by rw [HP.out.cell]; rfl) hbP (by rw [HP.out.cell]; rfl) hbP (by rw [HP.out.cell]; rfl) hbP)
      go_wp2_with fail
      refine wp_region_held_drew (S := (fun w' => w'.cell? (⟨W.heap.size, 0, none⟩) = some (.string s0) ∧ w'.cell? (⟨W.heap.size, 1, none⟩) = some (.string s1) ∧ w'.cell? (⟨gp, 0, none⟩) = some (.int .i64 a0) ∧ w'.cell? (⟨gp, 1, none⟩) = some (.int .i64 a1) ∧ w'.cell? (⟨gp, 2, none⟩) = some (.int .i64 a2) ∧ w'.cell? (⟨gp, 3, none⟩) = some (.int .i64 a3) ∧ w'.cell? (⟨gp, 4, none⟩) = some (.int .i64 a4) ∧ w'.cell? (⟨gp, 5, none⟩) = some (.bool a5) ∧ w'.cell? (⟨gp, 6, none⟩) = some (.bool a6) ∧ w'.cell? (⟨gp, 7, none⟩) = some (.bool a7) ∧ Hid (Kn (w9.heap.size) (w9) [(⟨W.heap.size, 0, none⟩, .string s0), (⟨W.heap.size, 1, none⟩, .string s1), (⟨gp, 0, none⟩, .int .i64 a0), (⟨gp, 1, none⟩, .int .i64 a1), (⟨gp, 2, none⟩, .int .i64 a2), (⟨gp, 3, none⟩, .int .i64 a3), (⟨gp, 4, none⟩, .int .i64 a4), (⟨gp, 5, none⟩, .bool a5), (⟨gp, 6, none⟩, .bool a6), (⟨gp, 7, none⟩, .bool a7)] w'))) (by kernel_rfl) ?_ (fun hHeldd0 => ?_)
      · exact test
      refine wpAnyH_take (i := 0) (v := ?vd0) ops0 (by kernel_rfl) (by kernel_rfl) (by kernel_rfl) (fun _ _ _ h => h) (Or.inl ⟨by rfl, ?yd0⟩) hHeldd0 ?_
      case yd0 => (intro w hSw; (try dsimp only at hSw); go_simp; try (with_reducible rfl))
      try simp only [Act.put, List.setIfInBounds_toArray, List.set_cons_zero, List.set_cons_succ]
      refine wpAnyH_take (i := 1) (v := ?vd1) (opsS ops0) (by kernel_rfl) (by kernel_rfl) (by kernel_rfl) (fun _ _ _ h => h) (Or.inl ⟨by rfl, ?yd1⟩) hHeldd0 ?_
      case yd1 => (intro w hSw; (try dsimp only at hSw); go_simp; try (with_reducible rfl))
      try simp only [Act.put, List.setIfInBounds_toArray, List.set_cons_zero, List.set_cons_succ]
      refine wpAnyH_take (i := 2) (v := ?vd2) (opsS (opsS ops0)) (by kernel_rfl) (by kernel_rfl) (by kernel_rfl) (fun _ _ _ h => h) (Or.inl ⟨by rfl, ?yd2⟩) hHeldd0 ?_
      case yd2 => (intro w hSw; (try dsimp only at hSw); go_simp; try (with_reducible rfl))
      try simp only [Act.put, List.setIfInBounds_toArray, List.set_cons_zero, List.set_cons_succ]
      refine wpAnyH_take (i := 3) (v := ?vd3) (opsS (opsS (opsS ops0))) (by kernel_rfl) (by kernel_rfl) (by kernel_rfl) (fun _ _ _ h => h) (Or.inl ⟨by rfl, ?yd3⟩) hHeldd0 ?_
      case yd3 => (intro w hSw; (try dsimp only at hSw); go_simp; try (with_reducible rfl))
      try simp only [Act.put, List.setIfInBounds_toArray, List.set_cons_zero, List.set_cons_succ]
      refine wpAnyH_take (i := 4) (v := ?vd4) (opsS (opsS (opsS (opsS ops0)))) (by kernel_rfl) (by kernel_rfl) (by kernel_rfl) (fun _ _ _ h => h) (Or.inl ⟨by rfl, ?yd4⟩) hHeldd0 ?_
      case yd4 => (intro w hSw; (try dsimp only at hSw); go_simp; try (with_reducible rfl))
      try simp only [Act.put, List.setIfInBounds_toArray, List.set_cons_zero, List.set_cons_succ]
      refine wpAnyH_take (i := 5) (v := ?vd5) (opsS (opsS (opsS (opsS (opsS ops0))))) (by kernel_rfl) (by kernel_rfl) (by kernel_rfl) (fun _ _ _ h => h) (Or.inl ⟨by rfl, ?yd5⟩) hHeldd0 ?_
      case yd5 => (intro w hSw; (try dsimp only at hSw); go_simp; try (with_reducible rfl))
      try simp only [Act.put, List.setIfInBounds_toArray, List.set_cons_zero, List.set_cons_succ]
      refine wpAnyH_take (i := 6) (v := ?vd6) (opsS (opsS (opsS (opsS (opsS (opsS ops0)))))) (by kernel_rfl) (by kernel_rfl) (by kernel_rfl) (fun _ _ _ h => h) (Or.inl ⟨by rfl, ?yd6⟩) hHeldd0 ?_
      case yd6 => (intro w hSw; (try dsimp only at hSw); go_simp; try (with_reducible rfl))
      try simp only [Act.put, List.setIfInBounds_toArray, List.set_cons_zero, List.set_cons_succ]
      refine wpAnyH_take (i := 7) (v := ?vd7) (opsS (opsS (opsS (opsS (opsS (opsS (opsS ops0))))))) (by kernel_rfl) (by kernel_rfl) (by kernel_rfl) (fun _ _ _ h => h) (Or.inl ⟨by rfl, ?yd7⟩) hHeldd0 ?_
      case yd7 => (intro w hSw; (try dsimp only at hSw); go_simp; try (with_reducible rfl))
      try simp only [Act.put, List.setIfInBounds_toArray, List.set_cons_zero, List.set_cons_succ]
      refine wpAnyH_take (i := 9) (v := ?vd9) (opsS (opsS (opsS (opsS (opsS (opsS (opsS (opsS (opsS ops0))))))))) (by kernel_rfl) (by kernel_rfl) (by kernel_rfl) (fun _ _ _ h => h) (Or.inl ⟨by rfl, ?yd9⟩) hHeldd0 ?_
      case yd9 => (intro w hSw; (try dsimp only at hSw); go_simp; try (with_reducible rfl))
      try simp only [Act.put, List.setIfInBounds_toArray, List.set_cons_zero, List.set_cons_succ]
      refine wpAnyH_ready (rs := [8]) (by kernel_rfl) (by simp) ?_
      refine AllReadyH.cons (opsS (opsS (opsS (opsS (opsS (opsS (opsS (opsS ops0)))))))) (fun K hK => ?_) AllReadyH.nil
      go_simp
      refine (HOF.out _ A6 c6 ps (by omega) (H6.out.more_below hHeldd0.2.2.2.2.2.2.2.2.2.2.low) HSP.out (Lib.hid (HLt.out.next (HL.out.trans (hHeldd0.2.2.2.2.2.2.2.2.2.2.low.mono HL.out.size))))).mono ?_; rw [HPP.out, HPV.out]; rintro e w' ⟨rfl, hb⟩
      try dsimp only
      refine hK.out _ _ ?_ (fun hHeldd1 => ?_)
      · (first | assumption | exact Kn.drew_10 (by assumption) | (go_split_ands; exact Kn.drew_10 (by assumption)) | (go_split_ands; exact Kn.step_10 (by assumption) (by assumption)) | (go_split_ands; exact Kn.alloc_10 (by assumption) _) | (go_split_ands; exact Kn.far_10 (by assumption) (by assumption)))
      clear hK K hHeldd0
      try clear hb
      try simp only [Act.put, List.setIfInBounds_toArray, List.set_cons_zero, List.set_cons_succ]
      refine wpAnyH_take (i := 10) (v := ?vd10) (opsS (opsS (opsS (opsS (opsS (opsS (opsS (opsS (opsS (opsS ops0)))))))))) (by kernel_rfl) (by kernel_rfl) (by kernel_rfl) (fun _ _ _ h => h) (Or.inl ⟨by rfl, ?yd10⟩) hHeldd1 ?_
      case yd10 => (intro w hSw; (try dsimp only at hSw); go_simp; try (with_reducible rfl))
      try simp only [Act.put, List.setIfInBounds_toArray, List.set_cons_zero, List.set_cons_succ]
      refine wpAnyH_take (i := 11) (v := ?vd11) (opsS (opsS (opsS (opsS (opsS (opsS (opsS (opsS (opsS (opsS (opsS ops0))))))))))) (by kernel_rfl) (by kernel_rfl) (by kernel_rfl) (fun _ _ _ h => h) (Or.inl ⟨by rfl, ?yd11⟩) hHeldd1 ?_
      case yd11 => (intro w hSw; (try dsimp only at hSw); go_simp; try (with_reducible rfl))
      try simp only [Act.put, List.setIfInBounds_toArray, List.set_cons_zero, List.set_cons_succ]
      refine wpAnyH_take (i := 12) (v := ?vd12) (opsS (opsS (opsS (opsS (opsS (opsS (opsS (opsS (opsS (opsS (opsS (opsS ops0)))))))))))) (by kernel_rfl) (by kernel_rfl) (by kernel_rfl) (fun _ _ _ h => h) (Or.inl ⟨by rfl, ?yd12⟩) hHeldd1 ?_
      case yd12 => (intro w hSw; (try dsimp only at hSw); go_simp; try (with_reducible rfl))
      try simp only [Act.put, List.setIfInBounds_toArray, List.set_cons_zero, List.set_cons_succ]
      refine wpAnyH_ready (rs := [13]) (by kernel_rfl) (by simp) ?_
      refine AllReadyH.cons (opsS (opsS (opsS (opsS (opsS (opsS (opsS (opsS (opsS (opsS (opsS (opsS (opsS ops0))))))))))))) (fun K hK => ?_) AllReadyH.nil
      go_simp
      refine (awake_any _ (Lib.hid (HLt.out.next (HL.out.trans (hHeldd1.2.2.2.2.2.2.2.2.2.2.low.mono HL.out.size))))).mono ?_; rintro e w' ⟨rfl, hb⟩
      try dsimp only
      refine hK.out _ _ ?_ (fun hHeldd2 => ?_)
      · (first | assumption | exact Kn.drew_10 (by assumption) | (go_split_ands; exact Kn.drew_10 (by assumption)) | (go_split_ands; exact Kn.step_10 (by assumption) (by assumption)) | (go_split_ands; exact Kn.alloc_10 (by assumption) _) | (go_split_ands; exact Kn.far_10 (by assumption) (by assumption)))
      clear hK K hHeldd1
      try clear hb
      try simp only [Act.put, List.setIfInBounds_toArray, List.set_cons_zero, List.set_cons_succ]
      refine wpAnyH_take (i := 14) (v := ?vd14) (opsS (opsS (opsS (opsS (opsS (opsS (opsS (opsS (opsS (opsS (opsS (opsS (opsS (opsS ops0)))))))))))))) (by kernel_rfl) (by kernel_rfl) (by kernel_rfl) (fun _ _ _ h => h) (Or.inl ⟨by rfl, ?yd14⟩) hHeldd2 ?_
      case yd14 => (intro w hSw; (try dsimp only at hSw); go_simp; try (with_reducible rfl))
      try simp only [Act.put, List.setIfInBounds_toArray, List.set_cons_zero, List.set_cons_succ]
      refine wpAnyH_take (i := 15) (v := ?vd15) (opsS (opsS (opsS (opsS (opsS (opsS (opsS (opsS (opsS (opsS (opsS (opsS (opsS (opsS (opsS ops0))))))))))))))) (by kernel_rfl) (by kernel_rfl) (by kernel_rfl) (fun _ _ _ h => h) (Or.inl ⟨by rfl, ?yd15⟩) hHeldd2 ?_
      case yd15 => (intro w hSw; (try dsimp only at hSw); go_simp; try (with_reducible rfl))
      try simp only [Act.put, List.setIfInBounds_toArray, List.set_cons_zero, List.set_cons_succ]
      refine wpAnyH_done (by kernel_rfl) ?_ _
      have hlf := Lib.hid (HL.out.trans (hHeldd2.2.2.2.2.2.2.2.2.2.2.low.mono HL.out.size))
      clear hHeldd2 test
      go_wp2
      go_ret
      exact ⟨rfl, hlf.out⟩
theorem sound_all (W : World) (v0 : Value) (v1 : Value) (v2 : Value) (h0 : V22 W v0) (h1 : V41 W v1) (h2 : V34 W v2) (HLt : Hid (Lets W)) :
    Calls Tryd.prog 6 #[v0, v1, v2] W fun e w' => e = .returned (.bool true) ∧ Below W.heap.size W w' := by
  obtain ⟨A, ca, xs, rfl, a1, a2, hR, hz⟩ := rgy.ents h0
  obtain ⟨q, rfl, hq⟩ := h1
  obtain ⟨r, rfl, hr⟩ := h2
  exact sound_walk W A ca xs q.x0 q.x1 q.x2 r.key_ r.regN r.regBy r.regValue HLt (Nat.le_trans a1 a2) a1 hR hz ⟨hr.1, hr.2.2.1, hr.2.2.2⟩ hq.1 hq.2.1
end Go.Proofs.YtknpbeekdjghgaaDoor.pp
