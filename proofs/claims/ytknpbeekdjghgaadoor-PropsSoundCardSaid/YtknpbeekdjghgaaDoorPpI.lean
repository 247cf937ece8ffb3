/- PropsMay: whether any properties may be, and whether they are strict. PropsOf: the properties of any bucket, in any entries. -/
import Derived.Test.YtknpbeekdjghgaaDoorPpH
import Derived.Test.YtknpbeekdjghgaaDoorRgQ
namespace Go.Proofs.YtknpbeekdjghgaaDoor.pp
set_option linter.unusedSimpArgs false
open Go.ChangeShapes Go.WideShapes Go.ChangeAt Go.RowKit Go.Proofs.Aid
open Go.Proofs.YtknpbeekdjghgaaDoor.rgy (En)
open Go.Proofs.YtknpbeekdjghgaaDoor.nm (Lets num numV numR)
set_option maxRecDepth 100000 in
set_option maxHeartbeats 8000000 in
theorem may_walk (W : World) (n r q pr pw : Int) (s m b : Bool) (HLt : Hid (Lets W)) :
    Calls Tryd.prog 5 #[.agg (prCells n r q pr pw s m b)] W fun e w' => e = .returned (.bool true) ∧ Below W.heap.size W w' := by
  have HL := Lib.hid (below_lit W (.cells (prCells n r q pr pw s m b) 26))
  have HB := Lib.hid (Blk.new W 26 (prCells n r q pr pw s m b))
  have HC1 := Lib.hid (fun w => check_any n r q pr pw s m b w)
  have HC2 := Lib.hid (fun w => rcheck_any n r q pr pw s m b w)
  have HS1 := Lib.hid (fun w => strict_any n r q pr pw s m b w)
  have HS2 := Lib.hid (fun w => rstrict_any n r q pr pw s m b w)
  generalize checkP n r q pr pw = c at *
  generalize strictP n r q pr pw = st at *
  go_enter Tryd.func5, Tryd.ntmps5
  go_wp2_with fail
  generalize W.alloc (.cells (prCells n r q pr pw s m b) 26) = w2 at *
  have hlt := HB.out.lt
  have test : (fun w' => w'.cell? (⟨W.heap.size, 0, none⟩) = some (.int .i64 n) ∧ w'.cell? (⟨W.heap.size, 1, none⟩) = some (.int .i64 r) ∧ w'.cell? (⟨W.heap.size, 2, none⟩) = some (.int .i64 q) ∧ w'.cell? (⟨W.heap.size, 3, none⟩) = some (.int .i64 pr) ∧ w'.cell? (⟨W.heap.size, 4, none⟩) = some (.int .i64 pw) ∧ w'.cell? (⟨W.heap.size, 5, none⟩) = some (.bool s) ∧ w'.cell? (⟨W.heap.size, 6, none⟩) = some (.bool m) ∧ w'.cell? (⟨W.heap.size, 7, none⟩) = some (.bool b) ∧ Hid (Kn (w2.heap.size) (w2) [(⟨W.heap.size, 0, none⟩, .int .i64 n), (⟨W.heap.size, 1, none⟩, .int .i64 r), (⟨W.heap.size, 2, none⟩, .int .i64 q), (⟨W.heap.size, 3, none⟩, .int .i64 pr), (⟨W.heap.size, 4, none⟩, .int .i64 pw), (⟨W.heap.size, 5, none⟩, .bool s), (⟨W.heap.size, 6, none⟩, .bool m), (⟨W.heap.size, 7, none⟩, .bool b)] w')) w2.drew := Kn.drew_8 (Kn.new_8 (w0 := w2) (M := w2.heap.size) (p0 := ⟨W.heap.size, 0, none⟩) (p1 := ⟨W.heap.size, 1, none⟩) (p2 := ⟨W.heap.size, 2, none⟩) (p3 := ⟨W.heap.size, 3, none⟩) (p4 := ⟨W.heap.size, 4, none⟩) (p5 := ⟨W.heap.size, 5, none⟩) (p6 := ⟨W.heap.size, 6, none⟩) (p7 := ⟨W.heap.size, 7, none⟩) (v0 := .int .i64 n) (v1 := .int .i64 r) (v2 := .int .i64 q) (v3 := .int .i64 pr) (v4 := .int .i64 pw) (v5 := .bool s) (v6 := .bool m) (v7 := .bool b) (Nat.le_refl _)
    (by rw [HB.out.cell]; rfl) hlt (by rw [HB.out.cell]; rfl) hlt (by rw [HB.out.cell]; rfl) hlt (by rw [HB.out.cell]; rfl) hlt (by rw [HB.out.cell]; rfl) hlt (by rw [HB.out.cell]; rfl) hlt (by rw [HB.out.cell]; rfl) hlt (by rw [HB.out.cell]; rfl) hlt)
  refine wp_region_held_drew (S := (fun w' => w'.cell? (⟨W.heap.size, 0, none⟩) = some (.int .i64 n) ∧ w'.cell? (⟨W.heap.size, 1, none⟩) = some (.int .i64 r) ∧ w'.cell? (⟨W.heap.size, 2, none⟩) = some (.int .i64 q) ∧ w'.cell? (⟨W.heap.size, 3, none⟩) = some (.int .i64 pr) ∧ w'.cell? (⟨W.heap.size, 4, none⟩) = some (.int .i64 pw) ∧ w'.cell? (⟨W.heap.size, 5, none⟩) = some (.bool s) ∧ w'.cell? (⟨W.heap.size, 6, none⟩) = some (.bool m) ∧ w'.cell? (⟨W.heap.size, 7, none⟩) = some (.bool b) ∧ Hid (Kn (w2.heap.size) (w2) [(⟨W.heap.size, 0, none⟩, .int .i64 n), (⟨W.heap.size, 1, none⟩, .int .i64 r), (⟨W.heap.size, 2, none⟩, .int .i64 q), (⟨W.heap.size, 3, none⟩, .int .i64 pr), (⟨W.heap.size, 4, none⟩, .int .i64 pw), (⟨W.heap.size, 5, none⟩, .bool s), (⟨W.heap.size, 6, none⟩, .bool m), (⟨W.heap.size, 7, none⟩, .bool b)] w'))) (by kernel_rfl) ?_ (fun hHeldp0 => ?_)
  · exact test
  refine wpAnyH_take (i := 0) (v := ?vp0) ops0 (by kernel_rfl) (by kernel_rfl) (by kernel_rfl) (fun _ _ _ h => h) (Or.inl ⟨by rfl, ?yp0⟩) hHeldp0 ?_
  case yp0 => (intro w hSw; (try dsimp only at hSw); go_simp; try (with_reducible rfl))
  try simp only [Act.put, List.setIfInBounds_toArray, List.set_cons_zero, List.set_cons_succ]
  refine wpAnyH_take (i := 2) (v := ?vp2) (opsS (opsS ops0)) (by kernel_rfl) (by kernel_rfl) (by kernel_rfl) (fun _ _ _ h => h) (Or.inl ⟨by rfl, ?yp2⟩) hHeldp0 ?_
  case yp2 => (intro w hSw; (try dsimp only at hSw); go_simp; try (with_reducible rfl))
  try simp only [Act.put, List.setIfInBounds_toArray, List.set_cons_zero, List.set_cons_succ]
  refine wpAnyH_ready (rs := [1]) (by kernel_rfl) (by simp) ?_
  refine AllReadyH.cons (opsS ops0) (fun K hK => ?_) AllReadyH.nil
  go_simp
  refine (HC1.out _).mono ?_; rintro e w' ⟨rfl, hb⟩
  try dsimp only
  refine hK.out _ _ ?_ (fun hHeldp1 => ?_)
  · (first | assumption | exact Kn.drew_8 (by assumption) | (go_split_ands; exact Kn.drew_8 (by assumption)) | (go_split_ands; exact Kn.step_8 (by assumption) (by assumption)) | (go_split_ands; exact Kn.alloc_8 (by assumption) _) | (go_split_ands; exact Kn.far_8 (by assumption) (by assumption)))
  clear hK K hHeldp0
  try clear hb
  try simp only [Act.put, List.setIfInBounds_toArray, List.set_cons_zero, List.set_cons_succ]
  refine wpAnyH_ready (rs := [3]) (by kernel_rfl) (by simp) ?_
  refine AllReadyH.cons (opsS (opsS (opsS ops0))) (fun K hK => ?_) AllReadyH.nil
  go_simp
  refine (HC2.out _).mono ?_; rintro e w' ⟨rfl, hb⟩
  try dsimp only
  refine hK.out _ _ ?_ (fun hHeldp2 => ?_)
  · (first | assumption | exact Kn.drew_8 (by assumption) | (go_split_ands; exact Kn.drew_8 (by assumption)) | (go_split_ands; exact Kn.step_8 (by assumption) (by assumption)) | (go_split_ands; exact Kn.alloc_8 (by assumption) _) | (go_split_ands; exact Kn.far_8 (by assumption) (by assumption)))
  clear hK K hHeldp1
  try clear hb
  try simp only [Act.put, List.setIfInBounds_toArray, List.set_cons_zero, List.set_cons_succ]
  refine wpAnyH_take (i := 4) (v := ?vp4) (opsS (opsS (opsS (opsS ops0)))) (by kernel_rfl) (by kernel_rfl) (by kernel_rfl) (fun _ _ _ h => h) (Or.inl ⟨by rfl, ?yp4⟩) hHeldp2 ?_
  case yp4 => (intro w hSw; (try dsimp only at hSw); go_simp; try (with_reducible rfl))
  try simp only [Act.put, List.setIfInBounds_toArray, List.set_cons_zero, List.set_cons_succ]
  refine wpAnyH_take (i := 5) (v := ?vp5) (opsS (opsS (opsS (opsS (opsS ops0))))) (by kernel_rfl) (by kernel_rfl) (by kernel_rfl) (fun _ _ _ h => h) (Or.inl ⟨by rfl, ?yp5⟩) hHeldp2 ?_
  case yp5 => (intro w hSw; (try dsimp only at hSw); go_simp; try (with_reducible rfl))
  try simp only [Act.put, List.setIfInBounds_toArray, List.set_cons_zero, List.set_cons_succ]
  refine wpAnyH_take (i := 6) (v := ?vp6) (opsS (opsS (opsS (opsS (opsS (opsS ops0)))))) (by kernel_rfl) (by kernel_rfl) (by kernel_rfl) (fun _ _ _ h => h) (Or.inl ⟨by rfl, ?yp6⟩) hHeldp2 ?_
  case yp6 => (intro w hSw; (try dsimp only at hSw); go_simp; try (with_reducible rfl))
  try simp only [Act.put, List.setIfInBounds_toArray, List.set_cons_zero, List.set_cons_succ]
  refine wpAnyH_take (i := 8) (v := ?vp8) (opsS (opsS (opsS (opsS (opsS (opsS (opsS (opsS ops0)))))))) (by kernel_rfl) (by kernel_rfl) (by kernel_rfl) (fun _ _ _ h => h) (Or.inl ⟨by rfl, ?yp8⟩) hHeldp2 ?_
  case yp8 => (intro w hSw; (try dsimp only at hSw); go_simp; try (with_reducible rfl))
  try simp only [Act.put, List.setIfInBounds_toArray, List.set_cons_zero, List.set_cons_succ]
  refine wpAnyH_ready (rs := [7]) (by kernel_rfl) (by simp) ?_
  refine AllReadyH.cons (opsS (opsS (opsS (opsS (opsS (opsS (opsS ops0))))))) (fun K hK => ?_) AllReadyH.nil
  go_simp
  refine (HS1.out _).mono ?_; rintro e w' ⟨rfl, hb⟩
  try dsimp only
  refine hK.out _ _ ?_ (fun hHeldp3 => ?_)
  · (first | assumption | exact Kn.drew_8 (by assumption) | (go_split_ands; exact Kn.drew_8 (by assumption)) | (go_split_ands; exact Kn.step_8 (by assumption) (by assumption)) | (go_split_ands; exact Kn.alloc_8 (by assumption) _) | (go_split_ands; exact Kn.far_8 (by assumption) (by assumption)))
  clear hK K hHeldp2
  try clear hb
  try simp only [Act.put, List.setIfInBounds_toArray, List.set_cons_zero, List.set_cons_succ]
  refine wpAnyH_ready (rs := [9]) (by kernel_rfl) (by simp) ?_
  refine AllReadyH.cons (opsS (opsS (opsS (opsS (opsS (opsS (opsS (opsS (opsS ops0))))))))) (fun K hK => ?_) AllReadyH.nil
  go_simp
  refine (HS2.out _).mono ?_; rintro e w' ⟨rfl, hb⟩
  try dsimp only
  refine hK.out _ _ ?_ (fun hHeldp4 => ?_)
  · (first | assumption | exact Kn.drew_8 (by assumption) | (go_split_ands; exact Kn.drew_8 (by assumption)) | (go_split_ands; exact Kn.step_8 (by assumption) (by assumption)) | (go_split_ands; exact Kn.alloc_8 (by assumption) _) | (go_split_ands; exact Kn.far_8 (by assumption) (by assumption)))
  clear hK K hHeldp3
  try clear hb
  try simp only [Act.put, List.setIfInBounds_toArray, List.set_cons_zero, List.set_cons_succ]
  refine wpAnyH_take (i := 10) (v := ?vp10) (opsS (opsS (opsS (opsS (opsS (opsS (opsS (opsS (opsS (opsS ops0)))))))))) (by kernel_rfl) (by kernel_rfl) (by kernel_rfl) (fun _ _ _ h => h) (Or.inl ⟨by rfl, ?yp10⟩) hHeldp4 ?_
  case yp10 => (intro w hSw; (try dsimp only at hSw); go_simp; try (with_reducible rfl))
  try simp only [Act.put, List.setIfInBounds_toArray, List.set_cons_zero, List.set_cons_succ]
  refine wpAnyH_take (i := 11) (v := ?vp11) (opsS (opsS (opsS (opsS (opsS (opsS (opsS (opsS (opsS (opsS (opsS ops0))))))))))) (by kernel_rfl) (by kernel_rfl) (by kernel_rfl) (fun _ _ _ h => h) (Or.inl ⟨by rfl, ?yp11⟩) hHeldp4 ?_
  case yp11 => (intro w hSw; (try dsimp only at hSw); go_simp; try (with_reducible rfl))
  try simp only [Act.put, List.setIfInBounds_toArray, List.set_cons_zero, List.set_cons_succ]
  refine wpAnyH_take (i := 12) (v := ?vp12) (opsS (opsS (opsS (opsS (opsS (opsS (opsS (opsS (opsS (opsS (opsS (opsS ops0)))))))))))) (by kernel_rfl) (by kernel_rfl) (by kernel_rfl) (fun _ _ _ h => h) (Or.inl ⟨by rfl, ?yp12⟩) hHeldp4 ?_
  case yp12 => (intro w hSw; (try dsimp only at hSw); go_simp; try (with_reducible rfl))
  try simp only [Act.put, List.setIfInBounds_toArray, List.set_cons_zero, List.set_cons_succ]
  refine wpAnyH_ready (rs := [13]) (by kernel_rfl) (by simp) ?_
  refine AllReadyH.cons (opsS (opsS (opsS (opsS (opsS (opsS (opsS (opsS (opsS (opsS (opsS (opsS (opsS ops0))))))))))))) (fun K hK => ?_) AllReadyH.nil
  go_simp
  refine (awake_any _ (Lib.hid (HLt.out.next (HL.out.trans (hHeldp4.2.2.2.2.2.2.2.2.low.mono HL.out.size))))).mono ?_; rintro e w' ⟨rfl, hb⟩
  try dsimp only
  refine hK.out _ _ ?_ (fun hHeldp5 => ?_)
  · (first | assumption | exact Kn.drew_8 (by assumption) | (go_split_ands; exact Kn.drew_8 (by assumption)) | (go_split_ands; exact Kn.step_8 (by assumption) (by assumption)) | (go_split_ands; exact Kn.alloc_8 (by assumption) _) | (go_split_ands; exact Kn.far_8 (by assumption) (by assumption)))
  clear hK K hHeldp4
  try clear hb
  try simp only [Act.put, List.setIfInBounds_toArray, List.set_cons_zero, List.set_cons_succ]
  refine wpAnyH_take (i := 14) (v := ?vp14) (opsS (opsS (opsS (opsS (opsS (opsS (opsS (opsS (opsS (opsS (opsS (opsS (opsS (opsS ops0)))))))))))))) (by kernel_rfl) (by kernel_rfl) (by kernel_rfl) (fun _ _ _ h => h) (Or.inl ⟨by rfl, ?yp14⟩) hHeldp5 ?_
  case yp14 => (intro w hSw; (try dsimp only at hSw); go_simp; try (with_reducible rfl))
  try simp only [Act.put, List.setIfInBounds_toArray, List.set_cons_zero, List.set_cons_succ]
  refine wpAnyH_take (i := 15) (v := ?vp15) (opsS (opsS (opsS (opsS (opsS (opsS (opsS (opsS (opsS (opsS (opsS (opsS (opsS (opsS (opsS ops0))))))))))))))) (by kernel_rfl) (by kernel_rfl) (by kernel_rfl) (fun _ _ _ h => h) (Or.inl ⟨by rfl, ?yp15⟩) hHeldp5 ?_
  case yp15 => (intro w hSw; (try dsimp only at hSw); go_simp; try (with_reducible rfl))
  try simp only [Act.put, List.setIfInBounds_toArray, List.set_cons_zero, List.set_cons_succ]
  refine wpAnyH_done (by kernel_rfl) ?_ _
  have hlf := Lib.hid (HL.out.trans (hHeldp5.2.2.2.2.2.2.2.2.low.mono HL.out.size))
  clear hHeldp5 test
  go_wp2
  go_ret
  exact ⟨rfl, hlf.out⟩
theorem may_all (W : World) (v0 : Value) (h0 : V26 W v0) (HLt : Hid (Lets W)) :
    Calls Tryd.prog 5 #[v0] W fun e w' => e = .returned (.bool true) ∧ Below W.heap.size W w' := by
  obtain ⟨r, rfl, -⟩ := h0
  exact may_walk W r.n r.r r.w r.pR r.pW r.several r.missing r.basic HLt
theorem short_of {xs : List En} (h : ∀ x ∈ xs, x.key.size ≤ 200 ∧ x.reg.few = true) : short xs := fun x hx => by
  have := (h x hx).2
  unfold reg.Rg.few at this
  rw [Bool.and_eq_true, decide_eq_true_eq, decide_eq_true_eq] at this
  exact this.2
set_option maxRecDepth 100000 in
set_option maxHeartbeats 8000000 in
theorem of_walk (W : World) (A : Option Addr) (ca : Nat) (xs : List En) (t b : ByteArray) (HLt : Hid (Lets W)) (hl : xs.length ≤ maxLen) (h1 : Reads W W.heap.size 4 A xs.length (xs.flatMap En.cells)) (hz : ∀ r ∈ xs, r.sz) (ht : t.size ≤ maxLen) (hb : b.size ≤ maxLen) :
    Calls Tryd.prog 3 #[.slice A xs.length ca, .string t, .string b] W fun e w' => e = .returned (.bool true) ∧ Below W.heap.size W w' := by
  have HS := Lib.hid hz
  have HL1 := Lib.hid hl
  have HL := Lib.hid (Below.refl W.heap.size W)
  have H1 := Lib.hid h1
  unfold maxLen at ht hb
  clear h1 hz hl
  go_enter Tryd.func3, Tryd.ntmps3
  go_wp2_with fail
  refine (rgy.rfew_any W A ca xs 30 (by omega) HL1.out H1.out HS.out).mono ?_
  rintro e w1 ⟨b1, rfl, hb, hf1⟩
  replace H1 := Lib.hid ((Hid.out H1).more_below hb)
  replace HL := Lib.hid ((Hid.out HL).trans (hb.mono (Hid.out HL).size))
  clear hb
  cases b1 with
  | false =>
    clear hf1
    go_wp2_with fail
    refine (awake_any _ (Lib.hid (HLt.out.next HL.out))).mono ?_; rintro e w9 ⟨rfl, hb⟩; replace HL := Lib.hid (HL.out.trans (hb.mono HL.out.size)); clear hb; go_wp2; go_ret; exact ⟨rfl, HL.out⟩
  | true =>
    obtain ⟨hx30, hfe⟩ := hf1 rfl
    have hsh := Lib.hid (short_of hfe)
    clear hf1 hfe
    by_cases z0 : t.size ≤ 100
    case neg =>
      go_wp2_with fail
      refine (awake_any _ (Lib.hid (HLt.out.next HL.out))).mono ?_; rintro e w9 ⟨rfl, hb⟩; replace HL := Lib.hid (HL.out.trans (hb.mono HL.out.size)); clear hb; go_wp2; go_ret; exact ⟨rfl, HL.out⟩
    by_cases z1 : b.size ≤ 100
    case neg =>
      go_wp2_with fail
      refine (awake_any _ (Lib.hid (HLt.out.next HL.out))).mono ?_; rintro e w9 ⟨rfl, hb⟩; replace HL := Lib.hid (HL.out.trans (hb.mono HL.out.size)); clear hb; go_wp2; go_ret; exact ⟨rfl, HL.out⟩
    have HO1 := Lib.hid (fun w h hL => of_any w A ca xs t b (by omega) h hsh.out (by omega) (by omega) hL)
    have HO2 := Lib.hid (fun w h => rof_any w A ca xs t b (by omega) h hsh.out (by omega) (by omega))
    have HK1 := Lib.hid (fun w => pkey_any t b fN w (by omega) (by omega) (by decide))
    have HK2 := Lib.hid (fun w => rpkey_any t b fN w (by omega) (by omega) (by decide))
    obtain ⟨n, r, q, pr, pw, s, m, d, hp⟩ : ∃ n r q pr pw s m d, ofV xs t b = .agg (prCells n r q pr pw s m d) := ⟨_, _, _, _, _, _, _, _, rfl⟩
    rw [hp] at HO1 HO2
    have heq := eqlP_same n r q pr pw s m d
    clear hp hsh
    generalize pkey t b fN = k at *
    go_wp2_with fail
    refine (HO1.out w1 H1.out (Lib.hid (HLt.out.next HL.out))).mono ?_
    rintro e w2 ⟨rfl, hb⟩
    replace H1 := Lib.hid ((Hid.out H1).more_below hb)
    replace HL := Lib.hid ((Hid.out HL).trans (hb.mono (Hid.out HL).size))
    clear hb
    go_wp2_with fail
    refine (HO2.out w2 H1.out).mono ?_
    rintro e w3 ⟨rfl, hb⟩
    replace H1 := Lib.hid ((Hid.out H1).more_below hb)
    replace HL := Lib.hid ((Hid.out HL).trans (hb.mono (Hid.out HL).size))
    clear hb
    go_wp2_with fail
    refine (HK1.out w3).mono ?_
    rintro e w4 ⟨rfl, hb⟩
    replace H1 := Lib.hid ((Hid.out H1).more_below hb)
    replace HL := Lib.hid ((Hid.out HL).trans (hb.mono (Hid.out HL).size))
    clear hb
    go_wp2_with fail
    refine (HK2.out w4).mono ?_
    rintro e w5 ⟨rfl, rfl⟩
    go_wp2_with fail
    refine (awake_any _ (Lib.hid (HLt.out.next HL.out))).mono ?_; rintro e w9 ⟨rfl, hb⟩; replace HL := Lib.hid (HL.out.trans (hb.mono HL.out.size)); clear hb; go_wp2; go_ret; exact ⟨rfl, HL.out⟩
theorem of_all (W : World) (v0 : Value) (v1 : Value) (v2 : Value) (h0 : V22 W v0) (h1 : V9 W v1) (h2 : V9 W v2) (HLt : Hid (Lets W)) :
    Calls Tryd.prog 3 #[v0, v1, v2] W fun e w' => e = .returned (.bool true) ∧ Below W.heap.size W w' := by
  obtain ⟨A, ca, xs, rfl, a1, a2, hR, hz⟩ := rgy.ents h0
  obtain ⟨q, rfl, hq⟩ := h1
  obtain ⟨r, rfl, hr⟩ := h2
  exact of_walk W A ca xs q.v r.v HLt (Nat.le_trans a1 a2) hR hz hq hr
end Go.Proofs.YtknpbeekdjghgaaDoor.pp
