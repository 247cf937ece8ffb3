/- AccessOwn: nobody may do what was given neither to it, nor to all. -/
import Derived.Test.YtcapahehfokihaaDoorAcP
import Derived.Test.YtcapahehfokihaaDoorRgQ
import Derived.Test.YtcapahehfokihaaDoorRgI
import Derived.Test.YtcapahehfokihaaDoorRgL
import Derived.Test.YtcapahehfokihaaDoorRgM
namespace Go.Proofs.YtcapahehfokihaaDoor.acc
set_option linter.unusedSimpArgs false
open Go.ChangeShapes Go.WideShapes Go.ChangeAt Go.RowKit Go.Proofs.Aid
open Go.Proofs.YtcapahehfokihaaDoor.rgy (En)
theorem get_put {l : List En} {y : En} {k : ByteArray} (h : rgy.may l = true) (hk : ¬ y.key = k) : rgy.get (rgy.putE l y) k = rgy.get l k := by
  rw [rgy.putE_merge y (rgy.may_iff.1 h).2.2]
  unfold rgy.get
  rw [rgy.merge_look k (rgy.may_iff.1 h).2.2 (List.pairwise_singleton _ _), rgy.look_cons, if_neg hk, rgy.look_nil, rgy.jo_none]
theorem of_put {l : List En} {y : En} {t b u : ByteArray} (h : rgy.may l = true) (h1 : ¬ y.key = key t b u) (h2 : ¬ y.key = key t b ⟨#[97, 108, 108]⟩) : ofA (rgy.putE l y) t b u = ofA l t b u := by
  unfold ofA rgt
  rw [get_put h h1, get_put h h2]
theorem of_nil (t b u : ByteArray) : ofA [] t b u = 0 := by
  show orI (rigN reg.Rg.zero.value) (rigN reg.Rg.zero.value) = 0
  kernel_rfl
theorem orI_bd {a b : Int} (ha : 0 ≤ a ∧ a ≤ 7) (hb : 0 ≤ b ∧ b ≤ 7) : 0 ≤ orI a b ∧ orI a b ≤ 7 := by
  have h1 : a = 0 ∨ a = 1 ∨ a = 2 ∨ a = 3 ∨ a = 4 ∨ a = 5 ∨ a = 6 ∨ a = 7 := by omega
  have h2 : b = 0 ∨ b = 1 ∨ b = 2 ∨ b = 3 ∨ b = 4 ∨ b = 5 ∨ b = 6 ∨ b = 7 := by omega
  clear ha hb
  rcases h1 with rfl | rfl | rfl | rfl | rfl | rfl | rfl | rfl <;> rcases h2 with rfl | rfl | rfl | rfl | rfl | rfl | rfl | rfl <;> decide +kernel
theorem ofA_bd (l : List En) (t b u : ByteArray) : 0 ≤ ofA l t b u ∧ ofA l t b u ≤ 7 := orI_bd (rigN_bd _) (rigN_bd _)
set_option maxRecDepth 100000 in
set_option maxHeartbeats 8000000 in
theorem own_walk (W : World) (A : Option Addr) (ca : Nat) (xs : List En) (s0 s1 s2 kk : ByteArray) (n : Int) (b v : ByteArray) (HLt : Hid (Lets W)) (hl : xs.length ≤ maxLen) (hca : xs.length ≤ ca) (h1 : Reads W W.heap.size 4 A xs.length (xs.flatMap En.cells)) (hz : ∀ r ∈ xs, r.sz) (hy : (⟨kk, ⟨n, b, v⟩⟩ : En).sz) (hs0 : s0.size ≤ maxLen) (hs1 : s1.size ≤ maxLen) (hs2 : s2.size ≤ maxLen) :
    Calls Tryd.prog 6 #[.slice A xs.length ca, .agg #[.string s0, .string s1, .string s2], .agg #[.string kk, .int .i64 n, .string b, .string v]] W fun e w' => e = .returned (.bool true) ∧ Below W.heap.size W w' := by
  have HS := Lib.hid hz
  have HY := Lib.hid hy
  have HL1 := Lib.hid hl
  have HL := Lib.hid (below_lit2 W (.cells #[.string s0, .string s1, .string s2] 23) (.cells #[.string kk, .int .i64 n, .string b, .string v] 33))
  have HB := Lib.hid ((Blk.new W 23 #[.string s0, .string s1, .string s2]).alloc (.cells #[.string kk, .int .i64 n, .string b, .string v] 33))
  have hx0 := Blk.new (W.alloc (.cells #[.string s0, .string s1, .string s2] 23)) 33 #[.string kk, .int .i64 n, .string b, .string v]
  rw [World.size_alloc] at hx0
  have HX := Lib.hid hx0
  have H1 := Lib.hid (h1.more_below HL.out)
  unfold maxLen at hs0 hs1 hs2
  clear h1 hz hl hy hx0
  go_enter Tryd.func6, Tryd.ntmps6
  go_wp2_with fail
  generalize (W.alloc (.cells #[.string s0, .string s1, .string s2] 23)).alloc (.cells #[.string kk, .int .i64 n, .string b, .string v] 33) = w0 at *
  refine (rgy.rfew_any w0 A ca xs 30 (by omega) HL1.out H1.out HS.out).mono ?_
  rintro e w1 ⟨b1, rfl, hb, hf1⟩
  replace HB := Lib.hid (Blk.below (Hid.out HB) hb (Hid.out HB).lt)
  replace HX := Lib.hid (Blk.below (Hid.out HX) hb (Hid.out HX).lt)
  replace H1 := Lib.hid ((Hid.out H1).more_below hb)
  replace HL := Lib.hid ((Hid.out HL).trans (hb.mono (Hid.out HL).size))
  clear hb
  cases b1 with
  | false =>
    clear hf1
    go_wp2_with fail
    refine (awake_any _ (Lib.hid (HLt.out.below HL.out HLt.out.lt))).mono ?_; rintro e w9 ⟨rfl, hb⟩; replace HL := Lib.hid (HL.out.trans (hb.mono HL.out.size)); clear hb; go_wp2; go_ret; exact ⟨rfl, HL.out⟩
  | true =>
    have hx30 := (hf1 rfl).1
    clear hf1
    cases hm : rgy.may xs with
    | false =>
      have HM := Lib.hid hm
      clear hm
      go_wp2_with fail
      refine (rgy.rmayL_any w1 A ca xs (by omega) H1.out HS.out).mono ?_
      rw [HM.out]
      rintro e w2 ⟨rfl, hb⟩
      replace HB := Lib.hid (Blk.below (Hid.out HB) hb (Hid.out HB).lt)
      replace HX := Lib.hid (Blk.below (Hid.out HX) hb (Hid.out HX).lt)
      replace H1 := Lib.hid ((Hid.out H1).more_below hb)
      replace HL := Lib.hid ((Hid.out HL).trans (hb.mono (Hid.out HL).size))
      clear hb
      go_wp2_with fail
      refine (awake_any _ (Lib.hid (HLt.out.below HL.out HLt.out.lt))).mono ?_; rintro e w9 ⟨rfl, hb⟩; replace HL := Lib.hid (HL.out.trans (hb.mono HL.out.size)); clear hb; go_wp2; go_ret; exact ⟨rfl, HL.out⟩
    | true =>
      have HM := Lib.hid hm
      clear hm
      go_wp2_with fail
      refine (rgy.rmayL_any w1 A ca xs (by omega) H1.out HS.out).mono ?_
      rw [HM.out]
      rintro e w2 ⟨rfl, hb⟩
      replace HB := Lib.hid (Blk.below (Hid.out HB) hb (Hid.out HB).lt)
      replace HX := Lib.hid (Blk.below (Hid.out HX) hb (Hid.out HX).lt)
      replace H1 := Lib.hid ((Hid.out H1).more_below hb)
      replace HL := Lib.hid ((Hid.out HL).trans (hb.mono (Hid.out HL).size))
      clear hb
      have x0 : w2.cell? ⟨W.heap.size + 1, 0, none⟩ = some (.string kk) := by rw [HX.out.cell]; rfl
      have x1 : w2.cell? ⟨W.heap.size + 1, 1, none⟩ = some (.int .i64 n) := by rw [HX.out.cell]; rfl
      have x2 : w2.cell? ⟨W.heap.size + 1, 2, none⟩ = some (.string b) := by rw [HX.out.cell]; rfl
      have x3 : w2.cell? ⟨W.heap.size + 1, 3, none⟩ = some (.string v) := by rw [HX.out.cell]; rfl
      have HR : Hid (Reads (w2.alloc (.cells #[.string kk, .int .i64 n, .string b, .string v] 33)) (w2.alloc (.cells #[.string kk, .int .i64 n, .string b, .string v] 33)).heap.size 4 (some ⟨w2.heap.size, 0, none⟩) [(⟨kk, ⟨n, b, v⟩⟩ : En)].length ([(⟨kk, ⟨n, b, v⟩⟩ : En)].flatMap En.cells)) := Lib.hid (lit1 w2 33 [(⟨kk, ⟨n, b, v⟩⟩ : En)] En.len)
      have hb := below_lit w2 (.cells #[.string kk, .int .i64 n, .string b, .string v] 33)
      replace HB := Lib.hid (Blk.below (Hid.out HB) hb (Hid.out HB).lt)
      replace HX := Lib.hid (Blk.below (Hid.out HX) hb (Hid.out HX).lt)
      replace H1 := Lib.hid ((Hid.out H1).more_below hb)
      replace HL := Lib.hid ((Hid.out HL).trans (hb.mono (Hid.out HL).size))
      clear hb
      go_wp2_with fail
      clear x0 x1 x2 x3
      generalize w2.alloc (.cells #[.string kk, .int .i64 n, .string b, .string v] 33) = w3 at *
      refine (rgy.rfew_any w3 (some ⟨w2.heap.size, 0, none⟩) 1 [(⟨kk, ⟨n, b, v⟩⟩ : En)] 1 (by omega) (by show 1 ≤ maxLen; decide) HR.out (fun r hr => by rw [List.mem_singleton] at hr; subst hr; exact HY.out)).mono ?_
      rintro e w4 ⟨b3, rfl, hb, hf3⟩
      replace HB := Lib.hid (Blk.below (Hid.out HB) hb (Hid.out HB).lt)
      replace HX := Lib.hid (Blk.below (Hid.out HX) hb (Hid.out HX).lt)
      replace H1 := Lib.hid ((Hid.out H1).more_below hb)
      replace HL := Lib.hid ((Hid.out HL).trans (hb.mono (Hid.out HL).size))
      clear hb
      clear HR hf3
      cases b3 with
      | false =>
        go_wp2_with fail
        refine (awake_any _ (Lib.hid (HLt.out.below HL.out HLt.out.lt))).mono ?_; rintro e w9 ⟨rfl, hb⟩; replace HL := Lib.hid (HL.out.trans (hb.mono HL.out.size)); clear hb; go_wp2; go_ret; exact ⟨rfl, HL.out⟩
      | true =>
        have d0 : w4.cell? ⟨W.heap.size, 0, none⟩ = some (.string s0) := by rw [HB.out.cell]; rfl
        have d1 : w4.cell? ⟨W.heap.size, 1, none⟩ = some (.string s1) := by rw [HB.out.cell]; rfl
        have d2 : w4.cell? ⟨W.heap.size, 2, none⟩ = some (.string s2) := by rw [HB.out.cell]; rfl
        by_cases h0 : s0.size ≤ 100 ∧ s1.size ≤ 100 ∧ s2.size ≤ 100
        · obtain ⟨z0, z1, z2⟩ := h0
          have hbW : (⟨W.heap.size, 1, none⟩ : Addr).block < w4.heap.size := HB.out.lt
          have hbX : (⟨W.heap.size + 1, 0, none⟩ : Addr).block < w4.heap.size := HX.out.lt
          have test := Kn.drew_4 (Kn.new_4 (w0 := w4) (M := w4.heap.size) (p0 := ⟨W.heap.size, 0, none⟩) (p1 := ⟨W.heap.size, 1, none⟩) (p2 := ⟨W.heap.size, 2, none⟩) (p3 := ⟨W.heap.size + 1, 0, none⟩) (v0 := .string s0) (v1 := .string s1) (v2 := .string s2) (v3 := .string kk) (Nat.le_refl _) d0 hbW d1 hbW d2 hbW (by rw [HX.out.cell]; rfl) hbX)
          have HK1 := Lib.hid (fun w' => rkey_any s0 s1 s2 w' (by omega) (by omega) (by omega))
          have HK2 := Lib.hid (fun w' => rkey_any s0 s1 ⟨#[97, 108, 108]⟩ w' (by omega) (by omega) (by decide))
          have HOF := Lib.hid (fun w' A' c' ys hys h hl' => of_any w' A' c' ys s0 s1 s2 hys h (by omega) (by omega) (by omega) hl')
          have HBD := Lib.hid (ofA_bd xs s0 s1 s2)
          have HNIL := Lib.hid (of_nil s0 s1 s2)
          have HPUT := Lib.hid (fun h1 h2 => of_put (l := xs) (y := ⟨kk, ⟨n, b, v⟩⟩) (t := s0) (b := s1) (u := s2) HM.out h1 h2)
          generalize key s0 s1 s2 = k1 at *
          generalize key s0 s1 ⟨#[97, 108, 108]⟩ = k2 at *
          by_cases q1 : kk = k1
          · subst q1
            go_wp2_with fail
            refine wp_region_held_drew (S := (fun w' => w'.cell? (⟨W.heap.size, 0, none⟩) = some (.string s0) ∧ w'.cell? (⟨W.heap.size, 1, none⟩) = some (.string s1) ∧ w'.cell? (⟨W.heap.size, 2, none⟩) = some (.string s2) ∧ w'.cell? (⟨W.heap.size + 1, 0, none⟩) = some (.string kk) ∧ Hid (Kn (w4.heap.size) (w4) [(⟨W.heap.size, 0, none⟩, .string s0), (⟨W.heap.size, 1, none⟩, .string s1), (⟨W.heap.size, 2, none⟩, .string s2), (⟨W.heap.size + 1, 0, none⟩, .string kk)] w'))) (by kernel_rfl) ?_ (fun hHeldp0 => ?_)
            · exact test
            refine wpAnyH_take (i := 0) (v := ?vp0) ops0 (by kernel_rfl) (by kernel_rfl) (by kernel_rfl) (fun _ _ _ h => h) (Or.inl ⟨by rfl, ?yp0⟩) hHeldp0 ?_
            case yp0 => (intro w hSw; (try dsimp only at hSw); go_simp; try (with_reducible rfl))
            try simp only [Act.put, List.setIfInBounds_toArray, List.set_cons_zero, List.set_cons_succ]
            refine wpAnyH_take (i := 1) (v := ?vp1) (opsS ops0) (by kernel_rfl) (by kernel_rfl) (by kernel_rfl) (fun _ _ _ h => h) (Or.inl ⟨by rfl, ?yp1⟩) hHeldp0 ?_
            case yp1 => (intro w hSw; (try dsimp only at hSw); go_simp; try (with_reducible rfl))
            try simp only [Act.put, List.setIfInBounds_toArray, List.set_cons_zero, List.set_cons_succ]
            refine wpAnyH_take (i := 2) (v := ?vp2) (opsS (opsS ops0)) (by kernel_rfl) (by kernel_rfl) (by kernel_rfl) (fun _ _ _ h => h) (Or.inl ⟨by rfl, ?yp2⟩) hHeldp0 ?_
            case yp2 => (intro w hSw; (try dsimp only at hSw); go_simp; try (with_reducible rfl))
            try simp only [Act.put, List.setIfInBounds_toArray, List.set_cons_zero, List.set_cons_succ]
            refine wpAnyH_take (i := 3) (v := ?vp3) (opsS (opsS (opsS ops0))) (by kernel_rfl) (by kernel_rfl) (by kernel_rfl) (fun _ _ _ h => h) (Or.inl ⟨by rfl, ?yp3⟩) hHeldp0 ?_
            case yp3 => (intro w hSw; (try dsimp only at hSw); go_simp; try (with_reducible rfl))
            try simp only [Act.put, List.setIfInBounds_toArray, List.set_cons_zero, List.set_cons_succ]
            refine wpAnyH_take (i := 4) (v := ?vp4) (opsS (opsS (opsS (opsS ops0)))) (by kernel_rfl) (by kernel_rfl) (by kernel_rfl) (fun _ _ _ h => h) (Or.inl ⟨by rfl, ?yp4⟩) hHeldp0 ?_
            case yp4 => (intro w hSw; (try dsimp only at hSw); go_simp; try (with_reducible rfl))
            try simp only [Act.put, List.setIfInBounds_toArray, List.set_cons_zero, List.set_cons_succ]
            refine wpAnyH_take (i := 5) (v := ?vp5) (opsS (opsS (opsS (opsS (opsS ops0))))) (by kernel_rfl) (by kernel_rfl) (by kernel_rfl) (fun _ _ _ h => h) (Or.inl ⟨by rfl, ?yp5⟩) hHeldp0 ?_
            case yp5 => (intro w hSw; (try dsimp only at hSw); go_simp; try (with_reducible rfl))
            try simp only [Act.put, List.setIfInBounds_toArray, List.set_cons_zero, List.set_cons_succ]
            refine wpAnyH_take (i := 6) (v := ?vp6) (opsS (opsS (opsS (opsS (opsS (opsS ops0)))))) (by kernel_rfl) (by kernel_rfl) (by kernel_rfl) (fun _ _ _ h => h) (Or.inl ⟨by rfl, ?yp6⟩) hHeldp0 ?_
            case yp6 => (intro w hSw; (try dsimp only at hSw); go_simp; try (with_reducible rfl))
            try simp only [Act.put, List.setIfInBounds_toArray, List.set_cons_zero, List.set_cons_succ]
            refine wpAnyH_take (i := 7) (v := ?vp7) (opsS (opsS (opsS (opsS (opsS (opsS (opsS ops0))))))) (by kernel_rfl) (by kernel_rfl) (by kernel_rfl) (fun _ _ _ h => h) (Or.inl ⟨by rfl, ?yp7⟩) hHeldp0 ?_
            case yp7 => (intro w hSw; (try dsimp only at hSw); go_simp; try (with_reducible rfl))
            try simp only [Act.put, List.setIfInBounds_toArray, List.set_cons_zero, List.set_cons_succ]
            refine wpAnyH_ready (rs := [8]) (by kernel_rfl) (by simp) ?_
            refine AllReadyH.cons (opsS (opsS (opsS (opsS (opsS (opsS (opsS (opsS ops0)))))))) (fun K hK => ?_) AllReadyH.nil
            go_simp
            refine (HK1.out _).mono ?_; rintro e w' ⟨rfl, rfl⟩
            try dsimp only
            refine hK.out _ _ ?_ (fun hHeldp1 => ?_)
            · (first | assumption | exact Kn.drew_4 (by assumption) | (go_split_ands; exact Kn.drew_4 (by assumption)) | (go_split_ands; exact Kn.step_4 (by assumption) (by assumption)) | (go_split_ands; exact Kn.alloc_4 (by assumption) _) | (go_split_ands; exact Kn.far_4 (by assumption) (by assumption)))
            clear hK K hHeldp0
            try clear hb
            try simp only [Act.put, List.setIfInBounds_toArray, List.set_cons_zero, List.set_cons_succ]
            refine wpAnyH_take (i := 9) (v := ?vp9) (opsS (opsS (opsS (opsS (opsS (opsS (opsS (opsS (opsS ops0))))))))) (by kernel_rfl) (by kernel_rfl) (by kernel_rfl) (fun _ _ _ h => h) (Or.inl ⟨by rfl, ?yp9⟩) hHeldp1 ?_
            case yp9 => (intro w hSw; (try dsimp only at hSw); go_simp; try (with_reducible rfl))
            try simp only [Act.put, List.setIfInBounds_toArray, List.set_cons_zero, List.set_cons_succ]
            refine wpAnyH_take (i := 10) (v := ?vp10) (opsS (opsS (opsS (opsS (opsS (opsS (opsS (opsS (opsS (opsS ops0)))))))))) (by kernel_rfl) (by kernel_rfl) (by kernel_rfl) (fun _ _ _ h => h) (Or.inl ⟨by rfl, ?yp10⟩) hHeldp1 ?_
            case yp10 => (intro w hSw; (try dsimp only at hSw); go_simp; try (with_reducible rfl))
            try simp only [Act.put, List.setIfInBounds_toArray, List.set_cons_zero, List.set_cons_succ]
            refine wpAnyH_take (i := 11) (v := undef) (opsS (opsS (opsS (opsS (opsS (opsS (opsS (opsS (opsS (opsS (opsS ops0))))))))))) (by kernel_rfl) (by kernel_rfl) (by kernel_rfl) (fun _ _ _ h => h) (Or.inr ⟨by rfl, rfl⟩) hHeldp1 ?_
            try simp only [Act.put, List.setIfInBounds_toArray, List.set_cons_zero, List.set_cons_succ]
            refine wpAnyH_take (i := 12) (v := undef) (opsS (opsS (opsS (opsS (opsS (opsS (opsS (opsS (opsS (opsS (opsS (opsS ops0)))))))))))) (by kernel_rfl) (by kernel_rfl) (by kernel_rfl) (fun _ _ _ h => h) (Or.inr ⟨by rfl, rfl⟩) hHeldp1 ?_
            try simp only [Act.put, List.setIfInBounds_toArray, List.set_cons_zero, List.set_cons_succ]
            refine wpAnyH_take (i := 13) (v := undef) (opsS (opsS (opsS (opsS (opsS (opsS (opsS (opsS (opsS (opsS (opsS (opsS (opsS ops0))))))))))))) (by kernel_rfl) (by kernel_rfl) (by kernel_rfl) (fun _ _ _ h => h) (Or.inr ⟨by rfl, rfl⟩) hHeldp1 ?_
            try simp only [Act.put, List.setIfInBounds_toArray, List.set_cons_zero, List.set_cons_succ]
            refine wpAnyH_take (i := 14) (v := undef) (opsS (opsS (opsS (opsS (opsS (opsS (opsS (opsS (opsS (opsS (opsS (opsS (opsS (opsS ops0)))))))))))))) (by kernel_rfl) (by kernel_rfl) (by kernel_rfl) (fun _ _ _ h => h) (Or.inr ⟨by rfl, rfl⟩) hHeldp1 ?_
            try simp only [Act.put, List.setIfInBounds_toArray, List.set_cons_zero, List.set_cons_succ]
            refine wpAnyH_take (i := 15) (v := undef) (opsS (opsS (opsS (opsS (opsS (opsS (opsS (opsS (opsS (opsS (opsS (opsS (opsS (opsS (opsS ops0))))))))))))))) (by kernel_rfl) (by kernel_rfl) (by kernel_rfl) (fun _ _ _ h => h) (Or.inr ⟨by rfl, rfl⟩) hHeldp1 ?_
            try simp only [Act.put, List.setIfInBounds_toArray, List.set_cons_zero, List.set_cons_succ]
            refine wpAnyH_take (i := 16) (v := undef) (opsS (opsS (opsS (opsS (opsS (opsS (opsS (opsS (opsS (opsS (opsS (opsS (opsS (opsS (opsS (opsS ops0)))))))))))))))) (by kernel_rfl) (by kernel_rfl) (by kernel_rfl) (fun _ _ _ h => h) (Or.inr ⟨by rfl, rfl⟩) hHeldp1 ?_
            try simp only [Act.put, List.setIfInBounds_toArray, List.set_cons_zero, List.set_cons_succ]
            refine wpAnyH_take (i := 17) (v := undef) (opsS (opsS (opsS (opsS (opsS (opsS (opsS (opsS (opsS (opsS (opsS (opsS (opsS (opsS (opsS (opsS (opsS ops0))))))))))))))))) (by kernel_rfl) (by kernel_rfl) (by kernel_rfl) (fun _ _ _ h => h) (Or.inr ⟨by rfl, rfl⟩) hHeldp1 ?_
            try simp only [Act.put, List.setIfInBounds_toArray, List.set_cons_zero, List.set_cons_succ]
            refine wpAnyH_take (i := 18) (v := undef) (opsS (opsS (opsS (opsS (opsS (opsS (opsS (opsS (opsS (opsS (opsS (opsS (opsS (opsS (opsS (opsS (opsS (opsS ops0)))))))))))))))))) (by kernel_rfl) (by kernel_rfl) (by kernel_rfl) (fun _ _ _ h => h) (Or.inr ⟨by rfl, rfl⟩) hHeldp1 ?_
            try simp only [Act.put, List.setIfInBounds_toArray, List.set_cons_zero, List.set_cons_succ]
            refine wpAnyH_take (i := 19) (v := ?vp19) (opsS (opsS (opsS (opsS (opsS (opsS (opsS (opsS (opsS (opsS (opsS (opsS (opsS (opsS (opsS (opsS (opsS (opsS (opsS ops0))))))))))))))))))) (by kernel_rfl) (by kernel_rfl) (by kernel_rfl) (fun _ _ _ h => h) (Or.inl ⟨by rfl, ?yp19⟩) hHeldp1 ?_
            case yp19 => (intro w hSw; (try dsimp only at hSw); go_simp; try (with_reducible rfl))
            try simp only [Act.put, List.setIfInBounds_toArray, List.set_cons_zero, List.set_cons_succ]
            refine wpAnyH_done (by kernel_rfl) ?_ _
            have hb := hHeldp1.2.2.2.2.low
            replace HB := Lib.hid (Blk.below (Hid.out HB) hb (Hid.out HB).lt)
            replace HX := Lib.hid (Blk.below (Hid.out HX) hb (Hid.out HX).lt)
            replace H1 := Lib.hid ((Hid.out H1).more_below hb)
            replace HL := Lib.hid ((Hid.out HL).trans (hb.mono (Hid.out HL).size))
            clear hb
            clear hHeldp1 test
            go_wp2_with fail
            refine (awake_any _ (Lib.hid (HLt.out.below HL.out HLt.out.lt))).mono ?_; rintro e w9 ⟨rfl, hb⟩; replace HL := Lib.hid (HL.out.trans (hb.mono HL.out.size)); clear hb; go_wp2; go_ret; exact ⟨rfl, HL.out⟩
          · have he1 := bytes_ne q1
            by_cases q2 : kk = k2
            · subst q2
              go_wp2_with fail
              refine wp_region_held_drew (S := (fun w' => w'.cell? (⟨W.heap.size, 0, none⟩) = some (.string s0) ∧ w'.cell? (⟨W.heap.size, 1, none⟩) = some (.string s1) ∧ w'.cell? (⟨W.heap.size, 2, none⟩) = some (.string s2) ∧ w'.cell? (⟨W.heap.size + 1, 0, none⟩) = some (.string kk) ∧ Hid (Kn (w4.heap.size) (w4) [(⟨W.heap.size, 0, none⟩, .string s0), (⟨W.heap.size, 1, none⟩, .string s1), (⟨W.heap.size, 2, none⟩, .string s2), (⟨W.heap.size + 1, 0, none⟩, .string kk)] w'))) (by kernel_rfl) ?_ (fun hHeldq0 => ?_)
              · exact test
              refine wpAnyH_take (i := 0) (v := ?vq0) ops0 (by kernel_rfl) (by kernel_rfl) (by kernel_rfl) (fun _ _ _ h => h) (Or.inl ⟨by rfl, ?yq0⟩) hHeldq0 ?_
              case yq0 => (intro w hSw; (try dsimp only at hSw); go_simp; try (with_reducible rfl))
              try simp only [Act.put, List.setIfInBounds_toArray, List.set_cons_zero, List.set_cons_succ]
              refine wpAnyH_take (i := 1) (v := ?vq1) (opsS ops0) (by kernel_rfl) (by kernel_rfl) (by kernel_rfl) (fun _ _ _ h => h) (Or.inl ⟨by rfl, ?yq1⟩) hHeldq0 ?_
              case yq1 => (intro w hSw; (try dsimp only at hSw); go_simp; try (with_reducible rfl))
              try simp only [Act.put, List.setIfInBounds_toArray, List.set_cons_zero, List.set_cons_succ]
              refine wpAnyH_take (i := 2) (v := ?vq2) (opsS (opsS ops0)) (by kernel_rfl) (by kernel_rfl) (by kernel_rfl) (fun _ _ _ h => h) (Or.inl ⟨by rfl, ?yq2⟩) hHeldq0 ?_
              case yq2 => (intro w hSw; (try dsimp only at hSw); go_simp; try (with_reducible rfl))
              try simp only [Act.put, List.setIfInBounds_toArray, List.set_cons_zero, List.set_cons_succ]
              refine wpAnyH_take (i := 3) (v := ?vq3) (opsS (opsS (opsS ops0))) (by kernel_rfl) (by kernel_rfl) (by kernel_rfl) (fun _ _ _ h => h) (Or.inl ⟨by rfl, ?yq3⟩) hHeldq0 ?_
              case yq3 => (intro w hSw; (try dsimp only at hSw); go_simp; try (with_reducible rfl))
              try simp only [Act.put, List.setIfInBounds_toArray, List.set_cons_zero, List.set_cons_succ]
              refine wpAnyH_take (i := 4) (v := ?vq4) (opsS (opsS (opsS (opsS ops0)))) (by kernel_rfl) (by kernel_rfl) (by kernel_rfl) (fun _ _ _ h => h) (Or.inl ⟨by rfl, ?yq4⟩) hHeldq0 ?_
              case yq4 => (intro w hSw; (try dsimp only at hSw); go_simp; try (with_reducible rfl))
              try simp only [Act.put, List.setIfInBounds_toArray, List.set_cons_zero, List.set_cons_succ]
              refine wpAnyH_take (i := 5) (v := ?vq5) (opsS (opsS (opsS (opsS (opsS ops0))))) (by kernel_rfl) (by kernel_rfl) (by kernel_rfl) (fun _ _ _ h => h) (Or.inl ⟨by rfl, ?yq5⟩) hHeldq0 ?_
              case yq5 => (intro w hSw; (try dsimp only at hSw); go_simp; try (with_reducible rfl))
              try simp only [Act.put, List.setIfInBounds_toArray, List.set_cons_zero, List.set_cons_succ]
              refine wpAnyH_take (i := 6) (v := ?vq6) (opsS (opsS (opsS (opsS (opsS (opsS ops0)))))) (by kernel_rfl) (by kernel_rfl) (by kernel_rfl) (fun _ _ _ h => h) (Or.inl ⟨by rfl, ?yq6⟩) hHeldq0 ?_
              case yq6 => (intro w hSw; (try dsimp only at hSw); go_simp; try (with_reducible rfl))
              try simp only [Act.put, List.setIfInBounds_toArray, List.set_cons_zero, List.set_cons_succ]
              refine wpAnyH_take (i := 7) (v := ?vq7) (opsS (opsS (opsS (opsS (opsS (opsS (opsS ops0))))))) (by kernel_rfl) (by kernel_rfl) (by kernel_rfl) (fun _ _ _ h => h) (Or.inl ⟨by rfl, ?yq7⟩) hHeldq0 ?_
              case yq7 => (intro w hSw; (try dsimp only at hSw); go_simp; try (with_reducible rfl))
              try simp only [Act.put, List.setIfInBounds_toArray, List.set_cons_zero, List.set_cons_succ]
              refine wpAnyH_ready (rs := [8]) (by kernel_rfl) (by simp) ?_
              refine AllReadyH.cons (opsS (opsS (opsS (opsS (opsS (opsS (opsS (opsS ops0)))))))) (fun K hK => ?_) AllReadyH.nil
              go_simp
              refine (HK1.out _).mono ?_; rintro e w' ⟨rfl, rfl⟩
              try dsimp only
              refine hK.out _ _ ?_ (fun hHeldq1 => ?_)
              · (first | assumption | exact Kn.drew_4 (by assumption) | (go_split_ands; exact Kn.drew_4 (by assumption)) | (go_split_ands; exact Kn.step_4 (by assumption) (by assumption)) | (go_split_ands; exact Kn.alloc_4 (by assumption) _) | (go_split_ands; exact Kn.far_4 (by assumption) (by assumption)))
              clear hK K hHeldq0
              try clear hb
              try simp only [Act.put, List.setIfInBounds_toArray, List.set_cons_zero, List.set_cons_succ]
              refine wpAnyH_take (i := 9) (v := ?vq9) (opsS (opsS (opsS (opsS (opsS (opsS (opsS (opsS (opsS ops0))))))))) (by kernel_rfl) (by kernel_rfl) (by kernel_rfl) (fun _ _ _ h => h) (Or.inl ⟨by rfl, ?yq9⟩) hHeldq1 ?_
              case yq9 => (intro w hSw; (try dsimp only at hSw); go_simp; try (with_reducible rfl))
              try simp only [Act.put, List.setIfInBounds_toArray, List.set_cons_zero, List.set_cons_succ]
              refine wpAnyH_take (i := 10) (v := ?vq10) (opsS (opsS (opsS (opsS (opsS (opsS (opsS (opsS (opsS (opsS ops0)))))))))) (by kernel_rfl) (by kernel_rfl) (by kernel_rfl) (fun _ _ _ h => h) (Or.inl ⟨by rfl, ?yq10⟩) hHeldq1 ?_
              case yq10 => (intro w hSw; (try dsimp only at hSw); go_simp; try (with_reducible rfl))
              try simp only [Act.put, List.setIfInBounds_toArray, List.set_cons_zero, List.set_cons_succ]
              refine wpAnyH_take (i := 11) (v := ?vq11) (opsS (opsS (opsS (opsS (opsS (opsS (opsS (opsS (opsS (opsS (opsS ops0))))))))))) (by kernel_rfl) (by kernel_rfl) (by kernel_rfl) (fun _ _ _ h => h) (Or.inl ⟨by rfl, ?yq11⟩) hHeldq1 ?_
              case yq11 => (intro w hSw; (try dsimp only at hSw); go_simp; try (with_reducible rfl))
              try simp only [Act.put, List.setIfInBounds_toArray, List.set_cons_zero, List.set_cons_succ]
              refine wpAnyH_take (i := 12) (v := ?vq12) (opsS (opsS (opsS (opsS (opsS (opsS (opsS (opsS (opsS (opsS (opsS (opsS ops0)))))))))))) (by kernel_rfl) (by kernel_rfl) (by kernel_rfl) (fun _ _ _ h => h) (Or.inl ⟨by rfl, ?yq12⟩) hHeldq1 ?_
              case yq12 => (intro w hSw; (try dsimp only at hSw); go_simp; try (with_reducible rfl))
              try simp only [Act.put, List.setIfInBounds_toArray, List.set_cons_zero, List.set_cons_succ]
              refine wpAnyH_take (i := 13) (v := ?vq13) (opsS (opsS (opsS (opsS (opsS (opsS (opsS (opsS (opsS (opsS (opsS (opsS (opsS ops0))))))))))))) (by kernel_rfl) (by kernel_rfl) (by kernel_rfl) (fun _ _ _ h => h) (Or.inl ⟨by rfl, ?yq13⟩) hHeldq1 ?_
              case yq13 => (intro w hSw; (try dsimp only at hSw); go_simp; try (with_reducible rfl))
              try simp only [Act.put, List.setIfInBounds_toArray, List.set_cons_zero, List.set_cons_succ]
              refine wpAnyH_take (i := 14) (v := ?vq14) (opsS (opsS (opsS (opsS (opsS (opsS (opsS (opsS (opsS (opsS (opsS (opsS (opsS (opsS ops0)))))))))))))) (by kernel_rfl) (by kernel_rfl) (by kernel_rfl) (fun _ _ _ h => h) (Or.inl ⟨by rfl, ?yq14⟩) hHeldq1 ?_
              case yq14 => (intro w hSw; (try dsimp only at hSw); go_simp; try (with_reducible rfl))
              try simp only [Act.put, List.setIfInBounds_toArray, List.set_cons_zero, List.set_cons_succ]
              refine wpAnyH_take (i := 15) (v := ?vq15) (opsS (opsS (opsS (opsS (opsS (opsS (opsS (opsS (opsS (opsS (opsS (opsS (opsS (opsS (opsS ops0))))))))))))))) (by kernel_rfl) (by kernel_rfl) (by kernel_rfl) (fun _ _ _ h => h) (Or.inl ⟨by rfl, ?yq15⟩) hHeldq1 ?_
              case yq15 => (intro w hSw; (try dsimp only at hSw); go_simp; try (with_reducible rfl))
              try simp only [Act.put, List.setIfInBounds_toArray, List.set_cons_zero, List.set_cons_succ]
              refine wpAnyH_take (i := 16) (v := ?vq16) (opsS (opsS (opsS (opsS (opsS (opsS (opsS (opsS (opsS (opsS (opsS (opsS (opsS (opsS (opsS (opsS ops0)))))))))))))))) (by kernel_rfl) (by kernel_rfl) (by kernel_rfl) (fun _ _ _ h => h) (Or.inl ⟨by rfl, ?yq16⟩) hHeldq1 ?_
              case yq16 => (intro w hSw; (try dsimp only at hSw); go_simp; try (with_reducible rfl))
              try simp only [Act.put, List.setIfInBounds_toArray, List.set_cons_zero, List.set_cons_succ]
              refine wpAnyH_ready (rs := [17]) (by kernel_rfl) (by simp) ?_
              refine AllReadyH.cons (opsS (opsS (opsS (opsS (opsS (opsS (opsS (opsS (opsS (opsS (opsS (opsS (opsS (opsS (opsS (opsS (opsS ops0))))))))))))))))) (fun K hK => ?_) AllReadyH.nil
              go_simp
              refine (HK2.out _).mono ?_; rintro e w' ⟨rfl, rfl⟩
              try dsimp only
              refine hK.out _ _ ?_ (fun hHeldq2 => ?_)
              · (first | assumption | exact Kn.drew_4 (by assumption) | (go_split_ands; exact Kn.drew_4 (by assumption)) | (go_split_ands; exact Kn.step_4 (by assumption) (by assumption)) | (go_split_ands; exact Kn.alloc_4 (by assumption) _) | (go_split_ands; exact Kn.far_4 (by assumption) (by assumption)))
              clear hK K hHeldq1
              try clear hb
              try simp only [Act.put, List.setIfInBounds_toArray, List.set_cons_zero, List.set_cons_succ]
              refine wpAnyH_take (i := 18) (v := ?vq18) (opsS (opsS (opsS (opsS (opsS (opsS (opsS (opsS (opsS (opsS (opsS (opsS (opsS (opsS (opsS (opsS (opsS (opsS ops0)))))))))))))))))) (by kernel_rfl) (by kernel_rfl) (by kernel_rfl) (fun _ _ _ h => h) (Or.inl ⟨by rfl, ?yq18⟩) hHeldq2 ?_
              case yq18 => (intro w hSw; (try dsimp only at hSw); go_simp; try (with_reducible rfl))
              try simp only [Act.put, List.setIfInBounds_toArray, List.set_cons_zero, List.set_cons_succ]
              refine wpAnyH_take (i := 19) (v := ?vq19) (opsS (opsS (opsS (opsS (opsS (opsS (opsS (opsS (opsS (opsS (opsS (opsS (opsS (opsS (opsS (opsS (opsS (opsS (opsS ops0))))))))))))))))))) (by kernel_rfl) (by kernel_rfl) (by kernel_rfl) (fun _ _ _ h => h) (Or.inl ⟨by rfl, ?yq19⟩) hHeldq2 ?_
              case yq19 => (intro w hSw; (try dsimp only at hSw); go_simp; try (with_reducible rfl))
              try simp only [Act.put, List.setIfInBounds_toArray, List.set_cons_zero, List.set_cons_succ]
              refine wpAnyH_done (by kernel_rfl) ?_ _
              have hb := hHeldq2.2.2.2.2.low
              replace HB := Lib.hid (Blk.below (Hid.out HB) hb (Hid.out HB).lt)
              replace HX := Lib.hid (Blk.below (Hid.out HX) hb (Hid.out HX).lt)
              replace H1 := Lib.hid ((Hid.out H1).more_below hb)
              replace HL := Lib.hid ((Hid.out HL).trans (hb.mono (Hid.out HL).size))
              clear hb
              clear hHeldq2 test
              go_wp2_with fail
              refine (awake_any _ (Lib.hid (HLt.out.below HL.out HLt.out.lt))).mono ?_; rintro e w9 ⟨rfl, hb⟩; replace HL := Lib.hid (HL.out.trans (hb.mono HL.out.size)); clear hb; go_wp2; go_ret; exact ⟨rfl, HL.out⟩
            · have he2 := bytes_ne q2
              have HP := Lib.hid (HPUT.out q1 q2)
              clear HPUT
              go_wp2_with fail
              refine wp_region_held_drew (S := (fun w' => w'.cell? (⟨W.heap.size, 0, none⟩) = some (.string s0) ∧ w'.cell? (⟨W.heap.size, 1, none⟩) = some (.string s1) ∧ w'.cell? (⟨W.heap.size, 2, none⟩) = some (.string s2) ∧ w'.cell? (⟨W.heap.size + 1, 0, none⟩) = some (.string kk) ∧ Hid (Kn (w4.heap.size) (w4) [(⟨W.heap.size, 0, none⟩, .string s0), (⟨W.heap.size, 1, none⟩, .string s1), (⟨W.heap.size, 2, none⟩, .string s2), (⟨W.heap.size + 1, 0, none⟩, .string kk)] w'))) (by kernel_rfl) ?_ (fun hHeldr0 => ?_)
              · exact test
              refine wpAnyH_take (i := 0) (v := ?vr0) ops0 (by kernel_rfl) (by kernel_rfl) (by kernel_rfl) (fun _ _ _ h => h) (Or.inl ⟨by rfl, ?yr0⟩) hHeldr0 ?_
              case yr0 => (intro w hSw; (try dsimp only at hSw); go_simp; try (with_reducible rfl))
              try simp only [Act.put, List.setIfInBounds_toArray, List.set_cons_zero, List.set_cons_succ]
              refine wpAnyH_take (i := 1) (v := ?vr1) (opsS ops0) (by kernel_rfl) (by kernel_rfl) (by kernel_rfl) (fun _ _ _ h => h) (Or.inl ⟨by rfl, ?yr1⟩) hHeldr0 ?_
              case yr1 => (intro w hSw; (try dsimp only at hSw); go_simp; try (with_reducible rfl))
              try simp only [Act.put, List.setIfInBounds_toArray, List.set_cons_zero, List.set_cons_succ]
              refine wpAnyH_take (i := 2) (v := ?vr2) (opsS (opsS ops0)) (by kernel_rfl) (by kernel_rfl) (by kernel_rfl) (fun _ _ _ h => h) (Or.inl ⟨by rfl, ?yr2⟩) hHeldr0 ?_
              case yr2 => (intro w hSw; (try dsimp only at hSw); go_simp; try (with_reducible rfl))
              try simp only [Act.put, List.setIfInBounds_toArray, List.set_cons_zero, List.set_cons_succ]
              refine wpAnyH_take (i := 3) (v := ?vr3) (opsS (opsS (opsS ops0))) (by kernel_rfl) (by kernel_rfl) (by kernel_rfl) (fun _ _ _ h => h) (Or.inl ⟨by rfl, ?yr3⟩) hHeldr0 ?_
              case yr3 => (intro w hSw; (try dsimp only at hSw); go_simp; try (with_reducible rfl))
              try simp only [Act.put, List.setIfInBounds_toArray, List.set_cons_zero, List.set_cons_succ]
              refine wpAnyH_take (i := 4) (v := ?vr4) (opsS (opsS (opsS (opsS ops0)))) (by kernel_rfl) (by kernel_rfl) (by kernel_rfl) (fun _ _ _ h => h) (Or.inl ⟨by rfl, ?yr4⟩) hHeldr0 ?_
              case yr4 => (intro w hSw; (try dsimp only at hSw); go_simp; try (with_reducible rfl))
              try simp only [Act.put, List.setIfInBounds_toArray, List.set_cons_zero, List.set_cons_succ]
              refine wpAnyH_take (i := 5) (v := ?vr5) (opsS (opsS (opsS (opsS (opsS ops0))))) (by kernel_rfl) (by kernel_rfl) (by kernel_rfl) (fun _ _ _ h => h) (Or.inl ⟨by rfl, ?yr5⟩) hHeldr0 ?_
              case yr5 => (intro w hSw; (try dsimp only at hSw); go_simp; try (with_reducible rfl))
              try simp only [Act.put, List.setIfInBounds_toArray, List.set_cons_zero, List.set_cons_succ]
              refine wpAnyH_take (i := 6) (v := ?vr6) (opsS (opsS (opsS (opsS (opsS (opsS ops0)))))) (by kernel_rfl) (by kernel_rfl) (by kernel_rfl) (fun _ _ _ h => h) (Or.inl ⟨by rfl, ?yr6⟩) hHeldr0 ?_
              case yr6 => (intro w hSw; (try dsimp only at hSw); go_simp; try (with_reducible rfl))
              try simp only [Act.put, List.setIfInBounds_toArray, List.set_cons_zero, List.set_cons_succ]
              refine wpAnyH_take (i := 7) (v := ?vr7) (opsS (opsS (opsS (opsS (opsS (opsS (opsS ops0))))))) (by kernel_rfl) (by kernel_rfl) (by kernel_rfl) (fun _ _ _ h => h) (Or.inl ⟨by rfl, ?yr7⟩) hHeldr0 ?_
              case yr7 => (intro w hSw; (try dsimp only at hSw); go_simp; try (with_reducible rfl))
              try simp only [Act.put, List.setIfInBounds_toArray, List.set_cons_zero, List.set_cons_succ]
              refine wpAnyH_ready (rs := [8]) (by kernel_rfl) (by simp) ?_
              refine AllReadyH.cons (opsS (opsS (opsS (opsS (opsS (opsS (opsS (opsS ops0)))))))) (fun K hK => ?_) AllReadyH.nil
              go_simp
              refine (HK1.out _).mono ?_; rintro e w' ⟨rfl, rfl⟩
              try dsimp only
              refine hK.out _ _ ?_ (fun hHeldr1 => ?_)
              · (first | assumption | exact Kn.drew_4 (by assumption) | (go_split_ands; exact Kn.drew_4 (by assumption)) | (go_split_ands; exact Kn.step_4 (by assumption) (by assumption)) | (go_split_ands; exact Kn.alloc_4 (by assumption) _) | (go_split_ands; exact Kn.far_4 (by assumption) (by assumption)))
              clear hK K hHeldr0
              try clear hb
              try simp only [Act.put, List.setIfInBounds_toArray, List.set_cons_zero, List.set_cons_succ]
              refine wpAnyH_take (i := 9) (v := ?vr9) (opsS (opsS (opsS (opsS (opsS (opsS (opsS (opsS (opsS ops0))))))))) (by kernel_rfl) (by kernel_rfl) (by kernel_rfl) (fun _ _ _ h => h) (Or.inl ⟨by rfl, ?yr9⟩) hHeldr1 ?_
              case yr9 => (intro w hSw; (try dsimp only at hSw); go_simp; try (with_reducible rfl))
              try simp only [Act.put, List.setIfInBounds_toArray, List.set_cons_zero, List.set_cons_succ]
              refine wpAnyH_take (i := 10) (v := ?vr10) (opsS (opsS (opsS (opsS (opsS (opsS (opsS (opsS (opsS (opsS ops0)))))))))) (by kernel_rfl) (by kernel_rfl) (by kernel_rfl) (fun _ _ _ h => h) (Or.inl ⟨by rfl, ?yr10⟩) hHeldr1 ?_
              case yr10 => (intro w hSw; (try dsimp only at hSw); go_simp; try (with_reducible rfl))
              try simp only [Act.put, List.setIfInBounds_toArray, List.set_cons_zero, List.set_cons_succ]
              refine wpAnyH_take (i := 11) (v := ?vr11) (opsS (opsS (opsS (opsS (opsS (opsS (opsS (opsS (opsS (opsS (opsS ops0))))))))))) (by kernel_rfl) (by kernel_rfl) (by kernel_rfl) (fun _ _ _ h => h) (Or.inl ⟨by rfl, ?yr11⟩) hHeldr1 ?_
              case yr11 => (intro w hSw; (try dsimp only at hSw); go_simp; try (with_reducible rfl))
              try simp only [Act.put, List.setIfInBounds_toArray, List.set_cons_zero, List.set_cons_succ]
              refine wpAnyH_take (i := 12) (v := ?vr12) (opsS (opsS (opsS (opsS (opsS (opsS (opsS (opsS (opsS (opsS (opsS (opsS ops0)))))))))))) (by kernel_rfl) (by kernel_rfl) (by kernel_rfl) (fun _ _ _ h => h) (Or.inl ⟨by rfl, ?yr12⟩) hHeldr1 ?_
              case yr12 => (intro w hSw; (try dsimp only at hSw); go_simp; try (with_reducible rfl))
              try simp only [Act.put, List.setIfInBounds_toArray, List.set_cons_zero, List.set_cons_succ]
              refine wpAnyH_take (i := 13) (v := ?vr13) (opsS (opsS (opsS (opsS (opsS (opsS (opsS (opsS (opsS (opsS (opsS (opsS (opsS ops0))))))))))))) (by kernel_rfl) (by kernel_rfl) (by kernel_rfl) (fun _ _ _ h => h) (Or.inl ⟨by rfl, ?yr13⟩) hHeldr1 ?_
              case yr13 => (intro w hSw; (try dsimp only at hSw); go_simp; try (with_reducible rfl))
              try simp only [Act.put, List.setIfInBounds_toArray, List.set_cons_zero, List.set_cons_succ]
              refine wpAnyH_take (i := 14) (v := ?vr14) (opsS (opsS (opsS (opsS (opsS (opsS (opsS (opsS (opsS (opsS (opsS (opsS (opsS (opsS ops0)))))))))))))) (by kernel_rfl) (by kernel_rfl) (by kernel_rfl) (fun _ _ _ h => h) (Or.inl ⟨by rfl, ?yr14⟩) hHeldr1 ?_
              case yr14 => (intro w hSw; (try dsimp only at hSw); go_simp; try (with_reducible rfl))
              try simp only [Act.put, List.setIfInBounds_toArray, List.set_cons_zero, List.set_cons_succ]
              refine wpAnyH_take (i := 15) (v := ?vr15) (opsS (opsS (opsS (opsS (opsS (opsS (opsS (opsS (opsS (opsS (opsS (opsS (opsS (opsS (opsS ops0))))))))))))))) (by kernel_rfl) (by kernel_rfl) (by kernel_rfl) (fun _ _ _ h => h) (Or.inl ⟨by rfl, ?yr15⟩) hHeldr1 ?_
              case yr15 => (intro w hSw; (try dsimp only at hSw); go_simp; try (with_reducible rfl))
              try simp only [Act.put, List.setIfInBounds_toArray, List.set_cons_zero, List.set_cons_succ]
              refine wpAnyH_take (i := 16) (v := ?vr16) (opsS (opsS (opsS (opsS (opsS (opsS (opsS (opsS (opsS (opsS (opsS (opsS (opsS (opsS (opsS (opsS ops0)))))))))))))))) (by kernel_rfl) (by kernel_rfl) (by kernel_rfl) (fun _ _ _ h => h) (Or.inl ⟨by rfl, ?yr16⟩) hHeldr1 ?_
              case yr16 => (intro w hSw; (try dsimp only at hSw); go_simp; try (with_reducible rfl))
              try simp only [Act.put, List.setIfInBounds_toArray, List.set_cons_zero, List.set_cons_succ]
              refine wpAnyH_ready (rs := [17]) (by kernel_rfl) (by simp) ?_
              refine AllReadyH.cons (opsS (opsS (opsS (opsS (opsS (opsS (opsS (opsS (opsS (opsS (opsS (opsS (opsS (opsS (opsS (opsS (opsS ops0))))))))))))))))) (fun K hK => ?_) AllReadyH.nil
              go_simp
              refine (HK2.out _).mono ?_; rintro e w' ⟨rfl, rfl⟩
              try dsimp only
              refine hK.out _ _ ?_ (fun hHeldr2 => ?_)
              · (first | assumption | exact Kn.drew_4 (by assumption) | (go_split_ands; exact Kn.drew_4 (by assumption)) | (go_split_ands; exact Kn.step_4 (by assumption) (by assumption)) | (go_split_ands; exact Kn.alloc_4 (by assumption) _) | (go_split_ands; exact Kn.far_4 (by assumption) (by assumption)))
              clear hK K hHeldr1
              try clear hb
              try simp only [Act.put, List.setIfInBounds_toArray, List.set_cons_zero, List.set_cons_succ]
              refine wpAnyH_take (i := 18) (v := ?vr18) (opsS (opsS (opsS (opsS (opsS (opsS (opsS (opsS (opsS (opsS (opsS (opsS (opsS (opsS (opsS (opsS (opsS (opsS ops0)))))))))))))))))) (by kernel_rfl) (by kernel_rfl) (by kernel_rfl) (fun _ _ _ h => h) (Or.inl ⟨by rfl, ?yr18⟩) hHeldr2 ?_
              case yr18 => (intro w hSw; (try dsimp only at hSw); go_simp; try (with_reducible rfl))
              try simp only [Act.put, List.setIfInBounds_toArray, List.set_cons_zero, List.set_cons_succ]
              refine wpAnyH_take (i := 19) (v := ?vr19) (opsS (opsS (opsS (opsS (opsS (opsS (opsS (opsS (opsS (opsS (opsS (opsS (opsS (opsS (opsS (opsS (opsS (opsS (opsS ops0))))))))))))))))))) (by kernel_rfl) (by kernel_rfl) (by kernel_rfl) (fun _ _ _ h => h) (Or.inl ⟨by rfl, ?yr19⟩) hHeldr2 ?_
              case yr19 => (intro w hSw; (try dsimp only at hSw); go_simp; try (with_reducible rfl))
              try simp only [Act.put, List.setIfInBounds_toArray, List.set_cons_zero, List.set_cons_succ]
              refine wpAnyH_done (by kernel_rfl) ?_ _
              have hb := hHeldr2.2.2.2.2.low
              replace HB := Lib.hid (Blk.below (Hid.out HB) hb (Hid.out HB).lt)
              replace HX := Lib.hid (Blk.below (Hid.out HX) hb (Hid.out HX).lt)
              replace H1 := Lib.hid ((Hid.out H1).more_below hb)
              replace HL := Lib.hid ((Hid.out HL).trans (hb.mono (Hid.out HL).size))
              clear hb
              clear hHeldr2 test d0 d1 d2 q1 q2 he1 he2 HK1 HK2
              generalize w4.drew = w5 at *
              have x0 : w5.cell? ⟨W.heap.size + 1, 0, none⟩ = some (.string kk) := by rw [HX.out.cell]; rfl
              have x1 : w5.cell? ⟨W.heap.size + 1, 1, none⟩ = some (.int .i64 n) := by rw [HX.out.cell]; rfl
              have x2 : w5.cell? ⟨W.heap.size + 1, 2, none⟩ = some (.string b) := by rw [HX.out.cell]; rfl
              have x3 : w5.cell? ⟨W.heap.size + 1, 3, none⟩ = some (.string v) := by rw [HX.out.cell]; rfl
              go_wp2_with fail
              refine (rgy.rputC_any w5 A ca xs ⟨kk, ⟨n, b, v⟩⟩ (by omega) hca H1.out HS.out HY.out).mono ?_
              rw [HM.out, Bool.true_and]
              generalize hofx : ofA xs s0 s1 s2 = nx at *
              have HNX := Lib.hid hofx
              clear hofx
              have hbd := HBD.out
              have hc1 : ¬ nx < 0 := by omega
              have hc2 : ¬ 7 < nx := by omega
              clear x0 x1 x2 x3
              cases hi : rgy.isEntry ⟨kk, ⟨n, b, v⟩⟩ with
              | false =>
                rw [if_neg (by decide), if_neg (by decide)]
                rintro e w6 ⟨v6, rfl, hrow, hb⟩
                clear hrow hi
                replace HB := Lib.hid (Blk.below (Hid.out HB) hb (Hid.out HB).lt)
                replace HX := Lib.hid (Blk.below (Hid.out HX) hb (Hid.out HX).lt)
                replace H1 := Lib.hid ((Hid.out H1).more_below hb)
                replace HL := Lib.hid ((Hid.out HL).trans (hb.mono (Hid.out HL).size))
                clear hb
                have d0 : w6.cell? ⟨W.heap.size, 0, none⟩ = some (.string s0) := by rw [HB.out.cell]; rfl
                have d1 : w6.cell? ⟨W.heap.size, 1, none⟩ = some (.string s1) := by rw [HB.out.cell]; rfl
                have d2 : w6.cell? ⟨W.heap.size, 2, none⟩ = some (.string s2) := by rw [HB.out.cell]; rfl
                go_wp2_with fail
                refine (HOF.out _ A ca xs (by omega) H1.out (Lib.hid (HLt.out.below HL.out HLt.out.lt))).mono ?_
                rw [HNX.out]
                rintro e w7 ⟨rfl, hb⟩
                replace HB := Lib.hid (Blk.below (Hid.out HB) hb (Hid.out HB).lt)
                replace HX := Lib.hid (Blk.below (Hid.out HX) hb (Hid.out HX).lt)
                replace H1 := Lib.hid ((Hid.out H1).more_below hb)
                replace HL := Lib.hid ((Hid.out HL).trans (hb.mono (Hid.out HL).size))
                clear hb
                clear d0 d1 d2
                have d0 : w7.cell? ⟨W.heap.size, 0, none⟩ = some (.string s0) := by rw [HB.out.cell]; rfl
                have d1 : w7.cell? ⟨W.heap.size, 1, none⟩ = some (.string s1) := by rw [HB.out.cell]; rfl
                have d2 : w7.cell? ⟨W.heap.size, 2, none⟩ = some (.string s2) := by rw [HB.out.cell]; rfl
                go_wp2_with fail
                refine (HOF.out _ none 0 [] (by decide) Reads.none_ (Lib.hid (HLt.out.below HL.out HLt.out.lt))).mono ?_
                rw [HNIL.out]
                rintro e w8 ⟨rfl, hb⟩
                replace HB := Lib.hid (Blk.below (Hid.out HB) hb (Hid.out HB).lt)
                replace HX := Lib.hid (Blk.below (Hid.out HX) hb (Hid.out HX).lt)
                replace H1 := Lib.hid ((Hid.out H1).more_below hb)
                replace HL := Lib.hid ((Hid.out HL).trans (hb.mono (Hid.out HL).size))
                clear hb
                clear d0 d1 d2
                go_wp2_with fail
                refine (awake_any _ (Lib.hid (HLt.out.below HL.out HLt.out.lt))).mono ?_; rintro e w9 ⟨rfl, hb⟩; replace HL := Lib.hid (HL.out.trans (hb.mono HL.out.size)); clear hb; go_wp2; go_ret; exact ⟨rfl, HL.out⟩
              | true =>
                rw [if_pos rfl, if_pos rfl]
                have hlen := rgy.putE_len xs ⟨kk, ⟨n, b, v⟩⟩
                generalize rgy.putE xs ⟨kk, ⟨n, b, v⟩⟩ = ps at *
                rintro e w6 ⟨v6, rfl, hrow, hb⟩
                obtain ⟨A6, c6, rfl, hr6⟩ := hrow.reads
                have H6 := Lib.hid hr6
                clear hrow hi hr6
                replace HB := Lib.hid (Blk.below (Hid.out HB) hb (Hid.out HB).lt)
                replace HX := Lib.hid (Blk.below (Hid.out HX) hb (Hid.out HX).lt)
                replace H1 := Lib.hid ((Hid.out H1).more_below hb)
                replace HL := Lib.hid ((Hid.out HL).trans (hb.mono (Hid.out HL).size))
                clear hb
                have d0 : w6.cell? ⟨W.heap.size, 0, none⟩ = some (.string s0) := by rw [HB.out.cell]; rfl
                have d1 : w6.cell? ⟨W.heap.size, 1, none⟩ = some (.string s1) := by rw [HB.out.cell]; rfl
                have d2 : w6.cell? ⟨W.heap.size, 2, none⟩ = some (.string s2) := by rw [HB.out.cell]; rfl
                go_wp2_with fail
                refine (HOF.out _ A ca xs (by omega) H1.out (Lib.hid (HLt.out.below HL.out HLt.out.lt))).mono ?_
                rw [HNX.out]
                rintro e w7 ⟨rfl, hb⟩
                replace HB := Lib.hid (Blk.below (Hid.out HB) hb (Hid.out HB).lt)
                replace HX := Lib.hid (Blk.below (Hid.out HX) hb (Hid.out HX).lt)
                replace H1 := Lib.hid ((Hid.out H1).more_below hb)
                replace H6 := Lib.hid ((Hid.out H6).more_below hb)
                replace HL := Lib.hid ((Hid.out HL).trans (hb.mono (Hid.out HL).size))
                clear hb
                clear d0 d1 d2
                have d0 : w7.cell? ⟨W.heap.size, 0, none⟩ = some (.string s0) := by rw [HB.out.cell]; rfl
                have d1 : w7.cell? ⟨W.heap.size, 1, none⟩ = some (.string s1) := by rw [HB.out.cell]; rfl
                have d2 : w7.cell? ⟨W.heap.size, 2, none⟩ = some (.string s2) := by rw [HB.out.cell]; rfl
                go_wp2_with fail
                refine (HOF.out _ none 0 [] (by decide) Reads.none_ (Lib.hid (HLt.out.below HL.out HLt.out.lt))).mono ?_
                rw [HNIL.out]
                rintro e w8 ⟨rfl, hb⟩
                replace HB := Lib.hid (Blk.below (Hid.out HB) hb (Hid.out HB).lt)
                replace HX := Lib.hid (Blk.below (Hid.out HX) hb (Hid.out HX).lt)
                replace H1 := Lib.hid ((Hid.out H1).more_below hb)
                replace H6 := Lib.hid ((Hid.out H6).more_below hb)
                replace HL := Lib.hid ((Hid.out HL).trans (hb.mono (Hid.out HL).size))
                clear hb
                clear d0 d1 d2
                have d0 : w8.cell? ⟨W.heap.size, 0, none⟩ = some (.string s0) := by rw [HB.out.cell]; rfl
                have d1 : w8.cell? ⟨W.heap.size, 1, none⟩ = some (.string s1) := by rw [HB.out.cell]; rfl
                have d2 : w8.cell? ⟨W.heap.size, 2, none⟩ = some (.string s2) := by rw [HB.out.cell]; rfl
                go_wp2_with fail
                refine (HOF.out _ A6 c6 ps (by omega) H6.out (Lib.hid (HLt.out.below HL.out HLt.out.lt))).mono ?_
                rw [HP.out]
                rintro e w10 ⟨rfl, hb⟩
                replace HB := Lib.hid (Blk.below (Hid.out HB) hb (Hid.out HB).lt)
                replace HX := Lib.hid (Blk.below (Hid.out HX) hb (Hid.out HX).lt)
                replace H1 := Lib.hid ((Hid.out H1).more_below hb)
                replace HL := Lib.hid ((Hid.out HL).trans (hb.mono (Hid.out HL).size))
                clear hb
                go_wp2_with fail
                refine (awake_any _ (Lib.hid (HLt.out.below HL.out HLt.out.lt))).mono ?_; rintro e w9 ⟨rfl, hb⟩; replace HL := Lib.hid (HL.out.trans (hb.mono HL.out.size)); clear hb; go_wp2; go_ret; exact ⟨rfl, HL.out⟩
        · by_cases z0 : s0.size ≤ 100
          · by_cases z1 : s1.size ≤ 100
            · have z2 : ¬ s2.size ≤ 100 := fun h => h0 ⟨z0, z1, h⟩
              clear h0
              go_wp2_with fail
              refine (awake_any _ (Lib.hid (HLt.out.below HL.out HLt.out.lt))).mono ?_; rintro e w9 ⟨rfl, hb⟩; replace HL := Lib.hid (HL.out.trans (hb.mono HL.out.size)); clear hb; go_wp2; go_ret; exact ⟨rfl, HL.out⟩
            · clear h0
              go_wp2_with fail
              refine (awake_any _ (Lib.hid (HLt.out.below HL.out HLt.out.lt))).mono ?_; rintro e w9 ⟨rfl, hb⟩; replace HL := Lib.hid (HL.out.trans (hb.mono HL.out.size)); clear hb; go_wp2; go_ret; exact ⟨rfl, HL.out⟩
          · clear h0
            go_wp2_with fail
            refine (awake_any _ (Lib.hid (HLt.out.below HL.out HLt.out.lt))).mono ?_; rintro e w9 ⟨rfl, hb⟩; replace HL := Lib.hid (HL.out.trans (hb.mono HL.out.size)); clear hb; go_wp2; go_ret; exact ⟨rfl, HL.out⟩
theorem own_all (W : World) (v0 : Value) (v1 : Value) (v2 : Value) (h0 : V22 W v0) (h1 : V23 W v1) (h2 : V33 W v2) (HLt : Hid (Lets W)) :
    Calls Tryd.prog 6 #[v0, v1, v2] W fun e w' => e = .returned (.bool true) ∧ Below W.heap.size W w' := by
  obtain ⟨A, ca, xs, rfl, a1, a2, hR, hz⟩ := rgy.ents h0
  obtain ⟨q, rfl, hq⟩ := h1
  obtain ⟨r, rfl, hr⟩ := h2
  exact own_walk W A ca xs q.x0 q.x1 q.x2 r.key_ r.regN r.regBy r.regValue HLt (Nat.le_trans a1 a2) a1 hR hz ⟨hr.1, hr.2.2.1, hr.2.2.2⟩ hq.1 hq.2.1 hq.2.2
end Go.Proofs.YtcapahehfokihaaDoor.acc
